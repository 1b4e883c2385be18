/-
  What twice.lastDigit, backwards and Key answer, as contracts.
-/
import Derived.Test.YtmgjnjbiljpneaaIMem
import Derived.Deep.LoopGhost
set_option linter.unusedSimpArgs false
set_option linter.unusedVariables false
set_option maxRecDepth 100000
namespace Go.Proofs.Ytmgjnjbiljpneaa.Tw
open Go.RowKit
open Cm (Ln lnv LnBox below_alloc below_trans)

set_option maxHeartbeats 1000000 in
theorem last_any (n : Int) (w : World) (h0 : -9223372036854775808 ≤ n) (h1 : n ≤ 9223372036854775807) :
    Calls Try.prog 23 #[.int .i64 n] w fun e w' => e = .returned (.int .u8 (dig n)) ∧ w' = w := by
  have hm1 := Int.tmod_lt_of_pos n (b := 10) (by omega)
  have hm2 := Int.lt_tmod_of_pos n (b := 10) (by omega)
  unfold dig
  by_cases hz : n.tmod 10 < 0
  · rw [if_pos hz]
    go_enter Try.func23, Try.ntmps23
    go_wp2
    go_ret
    exact ⟨rfl, rfl⟩
  · rw [if_neg hz]
    go_enter Try.func23, Try.ntmps23
    go_wp2
    go_ret
    exact ⟨rfl, rfl⟩
theorem digs_snoc (k : Nat) (n : Int) (a : List UInt8) : a ++ digs (k + 1) n = (a ++ [UInt8.ofNat (48 + dig n).toNat]) ++ digs k (n.tdiv 10) := by simp [digs]
theorem sign_nat (n : Int) : ((UInt8.ofNat (48 + dig n).toNat).toNat : Int) = 48 + dig n := by
  have := dig_in n
  rw [UInt8.toNat_ofNat']
  omega
theorem quo_in (m : Int) (h0 : -9223372036854775808 ≤ m) (h1 : m ≤ 9223372036854775807) : -9223372036854775808 ≤ m.tdiv 10 ∧ m.tdiv 10 ≤ 9223372036854775807 := by
  rcases Int.le_total 0 m with h | h
  · have := Int.tdiv_eq_ediv_of_nonneg (a := m) (b := 10) h
    omega
  · have := Int.tdiv_eq_ediv_of_nonneg (a := -m) (b := 10) (by omega)
    rw [Int.neg_tdiv] at this
    omega
set_option maxHeartbeats 2000000 in
theorem back_any (n : Int) (w : World) (h0 : -9223372036854775808 ≤ n) (h1 : n ≤ 9223372036854775807) :
    Calls Try.prog 19 #[.int .i64 n] w fun e w' => ∃ v, e = .returned v ∧ Own w.heap.size w' v (digs 8 n) ∧ Below w.heap.size w w' := by
  go_enter Try.func19, Try.ntmps19
  go_wp2
  go_loopg [0, 3, 4] 8 (fun gg d v i wr => ∃ (k : Nat) (m : Int) (l : List UInt8), k ≤ 8 ∧ gg = 8 - k ∧ d = .int .i64 m ∧ i = .int .i64 k ∧ -9223372036854775808 ≤ m ∧ m ≤ 9223372036854775807 ∧ l.length = k ∧ Hid (Own w.heap.size wr v l) ∧ Hid (Below w.heap.size w wr) ∧ Hid (l ++ digs (8 - k) m = digs 8 n))
  case atStart => exact ⟨0, n, [], by omega, rfl, rfl, rfl, h0, h1, rfl, Own.nil _ _, Below.refl _ _, rfl⟩
  case round =>
    obtain ⟨k, m, l, hk, hg, rfl, rfl, hm0, hm1, hll, HO, HB, HD⟩ := hrel
    by_cases hlt : k < 8
    · have HL := Lib.hid fun W => last_any m W hm0 hm1
      have hqb : -9223372036854775808 ≤ m.tdiv 10 ∧ m.tdiv 10 ≤ 9223372036854775807 := quo_in m hm0 hm1
      obtain ⟨d0, d1⟩ := dig_in m
      have HS := Lib.hid (sign_nat m)
      have HN := Lib.hid (digs_snoc (8 - (k + 1)) m l)
      generalize UInt8.ofNat (48 + dig m).toNat = c at *
      generalize dig m = g at *
      have hws := HB.out.size
      have HOa := Lib.hid fun o => own_far HO.out (below_alloc wr o)
      go_wp2_with (first
        | (go_at_call 23; refine (HL.out _).mono ?_; rintro e w1 ⟨rfl, rfl⟩)
        | (at_builtin; refine app_one rfl _ _ rfl w.heap.size _ l rfl (HOa.out _) _ 1 (48 + g) c rfl HS.out.symm (by first | simp | rfl) (by omega) (by simp; omega) ?_; intro v' w2 ho2 hb2)
        | go_in)
      go_roundg (8 - (k + 1))
      case rel => exact ⟨k + 1, m.tdiv 10, l ++ [c], by omega, rfl, rfl, by go_num, hqb.1, hqb.2, by simp [hll], ho2, HB.out.trans (((below_alloc _ _).mono hws).trans hb2), by
        have := HD.out
        rw [show 8 - k = 8 - (k + 1) + 1 by omega, HN.out] at this
        exact this⟩
      case measure => omega
    · obtain rfl : k = 8 := by omega
      have HD' : Hid (l = digs 8 n) := by show l = digs 8 n; rw [← HD.out]; simp [digs]
      go_wp2
      go_ret
      exact ⟨_, rfl, by rw [← HD'.out]; exact HO.out, HB.out⟩
theorem modsT_len : ∀ (l : List Tx), (∀ t ∈ l, t.length ≤ 20000) → (modsT l).length ≤ l.length * 20001
  | [], _ => by simp [modsT]
  | m :: ms, h => by
    have h1 := modsT_len ms (fun t ht => h t (List.mem_cons_of_mem _ ht))
    have h2 := h m (List.mem_cons_self ..)
    simp only [modsT, List.length_cons, List.length_append]
    omega
theorem modsT_app : ∀ (a b : List Tx), modsT (a ++ b) = modsT a ++ modsT b
  | [], b => rfl
  | m :: ms, b => by simp [modsT, modsT_app ms b]
theorem modsT_snoc (l : List Tx) (k : Nat) (t : Tx) (h : l[k]? = some t) : modsT (l.take (k + 1)) = modsT (l.take k) ++ 58 :: t := by
  rw [List.take_add_one, h, modsT_app]
  simp [modsT]
/-- What of the key stands there behind so many modifiers. -/
def keyK (x : Ln) (k : Nat) : List UInt8 := digs 8 x.date ++ x.proc ++ modsT (x.mods.take k)
theorem keyK_step (x : Ln) (k : Nat) (t : Tx) (h : x.mods[k]? = some t) : keyK x (k + 1) = keyK x k ++ [58] ++ t := by
  unfold keyK
  rw [modsT_snoc _ _ _ h]
  simp
theorem keyK_0 (x : Ln) : keyK x 0 = digs 8 x.date ++ x.proc := by simp [keyK, modsT]
theorem keyK_all (x : Ln) (k : Nat) (h : x.mods.length ≤ k) : keyK x k = keyV x := by
  unfold keyK keyV
  rw [List.take_of_length_le h, List.append_assoc]
/-- Not too long: the code, the modifiers. -/
def KyOk (x : Ln) : Prop := -9223372036854775808 ≤ x.date ∧ x.date ≤ 9223372036854775807 ∧ x.proc.length ≤ 40000 ∧ x.mods.length ≤ 20000 ∧ ∀ t ∈ x.mods, t.length ≤ 20000
theorem keyK_len (x : Ln) (h : KyOk x) (k : Nat) : 0 < (keyK x k).length ∧ (keyK x k).length ≤ 500000000 := by
  obtain ⟨_, _, h1, h2, h3⟩ := h
  have h4 := modsT_len (x.mods.take k) (fun t ht => h3 t (List.mem_of_mem_take ht))
  have h5 : (x.mods.take k).length ≤ 20000 := by rw [List.length_take]; omega
  have h6 : (x.mods.take k).length * 20001 ≤ 20000 * 20001 := Nat.mul_le_mul_right _ h5
  unfold keyK
  rw [List.length_append, List.length_append, digs_len]
  omega
set_option maxHeartbeats 4000000 in
theorem key_any (x : Ln) (m : Value) (w : World) (hm : TxAt All w m x.mods) (hx : KyOk x) :
    Calls Try.prog 11 #[lnv x m] w fun e w' => e = .returned (.string (mk (keyV x))) ∧ Below w.heap.size w w' := by
  have HLn := Lib.hid (keyK_len x hx)
  have HSt := Lib.hid (keyK_step x)
  have HAll := Lib.hid (keyK_all x)
  obtain ⟨x0, x1, x2, x3, x4⟩ := hx
  have HZ := Lib.hid x4
  have HBk := Lib.hid fun W => back_any x.date W x0 x1
  have HM := Lib.hid fun W (h : Below w.heap.size w W) => TxAt.move hm (Below.moves h)
  obtain ⟨a, c, rfl, f1, f2⟩ := Cm.TxAt.form hm
  have HX := Lib.hid (Cm.LnBox.new w x (.slice a x.mods.length c) 24)
  have HW := Lib.hid (below_alloc w (.cells #[.string (mk x.proc), .slice a x.mods.length c, .int .i64 x.date, .int .i64 x.units, .int .i64 x.billed, .int .i64 x.prior] 24))
  have HWs : Hid (w.heap.size < (w.alloc (.cells #[.string (mk x.proc), .slice a x.mods.length c, .int .i64 x.date, .int .i64 x.units, .int .i64 x.billed, .int .i64 x.prior] 24)).heap.size) := by show _ < _; simp
  have HK0 := Lib.hid (keyK_0 x)
  clear hm x0 x1 x4
  go_enter Try.func11, Try.ntmps11
  go_wp2_with fail
  generalize w.alloc (.cells #[.string (mk x.proc), .slice a x.mods.length c, .int .i64 x.date, .int .i64 x.units, .int .i64 x.billed, .int .i64 x.prior] 24) = W at *
  obtain ⟨c0, c1, c2, c3, c4, c5⟩ := HX.out
  go_wp2_with (first
    | (go_at_call 19; refine (HBk.out _).mono ?_; rintro e w1 ⟨v1, rfl, ho1, hb1⟩; obtain ⟨p0, p1, p2, p3, p4, p5⟩ := Cm.LnBox.grw HX.out hb1)
    | (at_builtin; refine app_str rfl _ _ rfl W.heap.size _ (digs 8 x.date) x.proc rfl ho1 rfl (by rw [digs_len]; omega) (by omega) hb1.size ?_; intro v2 w2 ho2 hb2; obtain ⟨q0, q1, q2, q3, q4, q5⟩ := Cm.LnBox.grw HX.out (hb1.trans hb2); clear p0 p1 p2 p3 p4 p5)
    | go_in)
  go_loopg [3, 16] x.mods.length (fun gg v i wr => ∃ k : Nat, k ≤ x.mods.length ∧ gg = x.mods.length - k ∧ i = .int .i64 k ∧ Hid (Own W.heap.size wr v (keyK x k)) ∧ Hid (Below W.heap.size W wr))
  case atStart => exact ⟨0, Nat.zero_le _, rfl, rfl, by show Own _ _ _ _; rw [HK0.out]; exact ho2, hb1.trans hb2⟩
  case round =>
    obtain ⟨k, hk, hg, rfl, HO, HB⟩ := hrel
    clear c0 c1 c2 c3 c4 c5 q0 q1 q2 q3 q4 q5 ho1 hb1 ho2 hb2
    obtain ⟨l0, l1⟩ := HLn.out k
    by_cases hlt : k < x.mods.length
    · obtain ⟨b, o, rfl, hx, hc⟩ := Cm.tx_get (HM.out wr (below_trans HW.out HB.out)) k hlt
      have ht := HZ.out _ (List.mem_of_getElem? hx)
      have HN := Lib.hid (HSt.out k _ hx)
      generalize x.mods[k] = t at *
      have hws := HB.out.size
      have HOa := Lib.hid fun o => own_far HO.out (below_alloc wr o)
      have HBa := Lib.hid fun o => HB.out.trans ((below_alloc wr o).mono hws)
      clear hx
      go_wp2_with (first
        | (at_builtin; refine app_one rfl _ _ rfl W.heap.size _ (keyK x k) rfl (HOa.out _) _ 1 58 58 rfl rfl (by first | simp | rfl) (by omega) (by simp; omega) ?_; intro v2 w2 ho2 hb2)
        | (at_builtin; refine app_str rfl _ _ rfl W.heap.size _ (keyK x k ++ [58]) t rfl ho2 rfl (by simp; omega) (by omega) ((HBa.out _).trans hb2).size ?_; intro v3 w3 ho3 hb3)
        | go_in)
      go_roundg (x.mods.length - (k + 1))
      case rel => exact ⟨k + 1, by omega, rfl, by go_num, by show Own _ _ _ _; rw [HN.out]; exact ho3, ((HBa.out _).trans hb2).trans hb3⟩
      case measure => omega
    · have HV := Lib.hid (HAll.out k (by omega))
      have hcv := conv_own HO.out l0
      rw [HV.out] at hcv
      have hlt' : ¬ (k : Int) < (x.mods.length : Int) := by omega
      go_wp2
      go_ret
      exact ⟨rfl, below_trans HW.out HB.out⟩
end Go.Proofs.Ytmgjnjbiljpneaa.Tw
