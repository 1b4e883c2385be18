/-
  Texts put together (merge.py): MRMake.
-/
import Derived.Test.YtpfpjbeofogbgaaMm22
import Derived.Test.YtpfpjbeofogbgaaMm26
import Derived.Test.YtpfpjbeofogbgaaMm19
set_option linter.unusedSimpArgs false
set_option linter.unusedVariables false
section
set_option maxRecDepth 100000
namespace Go.Proofs.Ytpfpjbeofogbgaa.Re
open Go.RowKit
open Sv (Ca Sr Cp SvsAt CasAt CpsAt CpCells cpv cpe cp0 four six CpOk checkE Bd Sm I64 put4_heap put4_below put4_keep put4_far put4_size)
open Bk (En EnsAt EnCells Cont EnOk OtsAt keepB heap_far below_alloc below_trans alloc_new heap_set add_lit)
open Cm (Ln Cl LnsAt clv ClOk)
open Sh (Ot)
set_option maxHeartbeats 16000000 in
theorem rmake_any (n : Int) (told : List Cp) (l : List En) (held : Int) (vt v : Value) (w : World) (ht : CpsAt All w vt told) (hl : EnsAt All w v l) (hzt : ∀ x ∈ told, CpOk x) (hz : ∀ y ∈ l, EnOk y) (hs : ∀ y ∈ l, Sm y.cl y.outs) (hn3 : ∀ y ∈ l, y.outs.length ≤ 300) (hlt : told.length ≤ 1000) (hll : l.length ≤ 1000) (hh : I64 held) :
  Calls Try.prog 12 #[.int .i64 n, vt, v, .int .i64 held] w fun e w' => MkV n told l held w e w' := by
 obtain ⟨ta, tc, rfl, t1, t2⟩ := ht.form
 obtain ⟨a, cap, rfl, f1, f2⟩ := hl.form
 have hb0 := below_alloc w (.cells (#[.int .i64 0, .int .i64 0, .int .i64 0, .slice none 0 0] : Array Value) 27)
 have HB := Lib.hid hb0
 have HY := Lib.hid (alloc_new w (#[.int .i64 0, .int .i64 0, .int .i64 0, .slice none 0 0] : Array Value) 27)
 have HS0 : Hid ((w.alloc (.cells (#[.int .i64 0, .int .i64 0, .int .i64 0, .slice none 0 0] : Array Value) 27)).heap.size = w.heap.size + 1) := by show _ = _; simp
 have HTO : Hid (Calls Try.prog 27 #[.slice ta told.length tc] (w.alloc (.cells (#[.int .i64 0, .int .i64 0, .int .i64 0, .slice none 0 0] : Array Value) 27)) fun e w' => e = .returned (.int .i64 (toldE [] told)) ∧ Below (w.alloc (.cells (#[.int .i64 0, .int .i64 0, .int .i64 0, .slice none 0 0] : Array Value) 27)).heap.size (w.alloc (.cells (#[.int .i64 0, .int .i64 0, .int .i64 0, .slice none 0 0] : Array Value) 27)) w') := rtold_any told _ _ (ht.grw hb0) hzt
 have HL := Lib.hid hl
 have HTL := Lib.hid ht
 have HZ := Lib.hid hz
 have HSm := Lib.hid hs
 have HN3 := Lib.hid hn3
 have HNO : Hid (∀ E w', makeE n told l held = E → E ≠ 0 → Below w.heap.size w w' → MkV n told l held w (.returned (.tuple #[rmv rm0 (.slice none 0 0), .slice none 0 0, .int .i64 0, .int .i64 E])) w') := fun E w' h hE hb => mk_no h hE hb
 have HYS : Hid (∀ w' m v, makeE n told l held = 0 → Below w.heap.size w w' → CpsAt (fun b => w.heap.size ≤ b) w' m (mkO told l) → CpsAt (fun b => w.heap.size ≤ b) w' v (mkN l) → MkV n told l held w (.returned (.tuple #[rmv ⟨n, paidV (sum (mkO told l)) held, heldV (sum (mkO told l)) held, mkO told l⟩ m, v, .int .i64 (restV (sum (mkO told l)) held), .int .i64 0])) w') := fun w' m v h hb h1 h2 => mk_yes h hb h1 h2
 obtain ⟨hh1, hh2⟩ := hh
 clear ht hl hzt hz hs hn3 hb0
 by_cases hc : (0 ≤ n ∧ n ≤ 999999999) ∧ 0 ≤ held ∧ held ≤ 1152921504606846976
 case neg =>
  have hE := make_1 (told := told) (l := l) hc
  have HQ := Lib.hid fun w' => HNO.out 1 w' hE (by decide)
  clear hE HNO HYS HTO HL HTL HZ HSm HN3
  go_enter Try.func12, Try.ntmps12
  go_upto_region 1 with fail
  generalize (w.alloc (.cells (#[.int .i64 0, .int .i64 0, .int .i64 0, .slice none 0 0] : Array Value) 27)) = W at *
  generalize hp : w.heap.size = p at *
  obtain ⟨y0, y1, y2, y3⟩ := four HY.out
  obtain ⟨z0, z1, z2, z3⟩ := frz4 HY.out
  by_cases q1 : n < 0
  ·go_wp2
   have HYF := Lib.hid (put4_heap HY.out (.int .i64 0) (.int .i64 0) (.int .i64 0) (.slice none 0 0))
   have HBF : Hid (Below p w ((((W.setCell ⟨p, 0, none⟩ (.int .i64 0)).setCell ⟨p, 1, none⟩ (.int .i64 0)).setCell ⟨p, 2, none⟩ (.int .i64 0)).setCell ⟨p, 3, none⟩ (.slice none 0 0))) := put4_below HB.out p (Nat.le_refl p) (.int .i64 0) (.int .i64 0) (.int .i64 0) (.slice none 0 0)
   generalize ((((W.setCell ⟨p, 0, none⟩ (.int .i64 0)).setCell ⟨p, 1, none⟩ (.int .i64 0)).setCell ⟨p, 2, none⟩ (.int .i64 0)).setCell ⟨p, 3, none⟩ (.slice none 0 0)) = WF at *
   obtain ⟨n0, n1, n2, n3⟩ := four HYF.out
   refine bodyPost_ret (v := .tuple #[.agg (#[.int .i64 0, .int .i64 0, .int .i64 0, .slice none 0 0] : Array Value), .slice none 0 0, .int .i64 0, .int .i64 1]) (by simp [results, Try.results12, go_sem, n0, n1, n2, n3]) rfl ?_
   exact HQ.out _ HBF.out
  by_cases q2 : 999999999 < n
  ·go_wp2
   have HYF := Lib.hid (put4_heap HY.out (.int .i64 0) (.int .i64 0) (.int .i64 0) (.slice none 0 0))
   have HBF : Hid (Below p w ((((W.setCell ⟨p, 0, none⟩ (.int .i64 0)).setCell ⟨p, 1, none⟩ (.int .i64 0)).setCell ⟨p, 2, none⟩ (.int .i64 0)).setCell ⟨p, 3, none⟩ (.slice none 0 0))) := put4_below HB.out p (Nat.le_refl p) (.int .i64 0) (.int .i64 0) (.int .i64 0) (.slice none 0 0)
   generalize ((((W.setCell ⟨p, 0, none⟩ (.int .i64 0)).setCell ⟨p, 1, none⟩ (.int .i64 0)).setCell ⟨p, 2, none⟩ (.int .i64 0)).setCell ⟨p, 3, none⟩ (.slice none 0 0)) = WF at *
   obtain ⟨n0, n1, n2, n3⟩ := four HYF.out
   refine bodyPost_ret (v := .tuple #[.agg (#[.int .i64 0, .int .i64 0, .int .i64 0, .slice none 0 0] : Array Value), .slice none 0 0, .int .i64 0, .int .i64 1]) (by simp [results, Try.results12, go_sem, n0, n1, n2, n3]) rfl ?_
   exact HQ.out _ HBF.out
  by_cases q3 : held < 0
  ·go_wp2
   have HYF := Lib.hid (put4_heap HY.out (.int .i64 0) (.int .i64 0) (.int .i64 0) (.slice none 0 0))
   have HBF : Hid (Below p w ((((W.setCell ⟨p, 0, none⟩ (.int .i64 0)).setCell ⟨p, 1, none⟩ (.int .i64 0)).setCell ⟨p, 2, none⟩ (.int .i64 0)).setCell ⟨p, 3, none⟩ (.slice none 0 0))) := put4_below HB.out p (Nat.le_refl p) (.int .i64 0) (.int .i64 0) (.int .i64 0) (.slice none 0 0)
   generalize ((((W.setCell ⟨p, 0, none⟩ (.int .i64 0)).setCell ⟨p, 1, none⟩ (.int .i64 0)).setCell ⟨p, 2, none⟩ (.int .i64 0)).setCell ⟨p, 3, none⟩ (.slice none 0 0)) = WF at *
   obtain ⟨n0, n1, n2, n3⟩ := four HYF.out
   refine bodyPost_ret (v := .tuple #[.agg (#[.int .i64 0, .int .i64 0, .int .i64 0, .slice none 0 0] : Array Value), .slice none 0 0, .int .i64 0, .int .i64 1]) (by simp [results, Try.results12, go_sem, n0, n1, n2, n3]) rfl ?_
   exact HQ.out _ HBF.out
  have q4 : 1152921504606846976 < held := by omega
  go_wp2
  have HYF := Lib.hid (put4_heap HY.out (.int .i64 0) (.int .i64 0) (.int .i64 0) (.slice none 0 0))
  have HBF : Hid (Below p w ((((W.setCell ⟨p, 0, none⟩ (.int .i64 0)).setCell ⟨p, 1, none⟩ (.int .i64 0)).setCell ⟨p, 2, none⟩ (.int .i64 0)).setCell ⟨p, 3, none⟩ (.slice none 0 0))) := put4_below HB.out p (Nat.le_refl p) (.int .i64 0) (.int .i64 0) (.int .i64 0) (.slice none 0 0)
  generalize ((((W.setCell ⟨p, 0, none⟩ (.int .i64 0)).setCell ⟨p, 1, none⟩ (.int .i64 0)).setCell ⟨p, 2, none⟩ (.int .i64 0)).setCell ⟨p, 3, none⟩ (.slice none 0 0)) = WF at *
  obtain ⟨n0, n1, n2, n3⟩ := four HYF.out
  refine bodyPost_ret (v := .tuple #[.agg (#[.int .i64 0, .int .i64 0, .int .i64 0, .slice none 0 0] : Array Value), .slice none 0 0, .int .i64 0, .int .i64 1]) (by simp [results, Try.results12, go_sem, n0, n1, n2, n3]) rfl ?_
  exact HQ.out _ HBF.out
 obtain ⟨⟨hn1, hn2⟩, hd1, hd2⟩ := id hc
 have q1 : ¬ n < 0 := by omega
 have q2 : ¬ 999999999 < n := by omega
 have q3 : ¬ held < 0 := by omega
 have q4 : ¬ 1152921504606846976 < held := by omega
 by_cases hT : toldE [] told = 0
 case neg =>
  have hE := make_2 (l := l) hc hT
  have HQ := Lib.hid fun w' => HNO.out _ w' hE hT
  have hTb : (toldE [] told != 0) = true := by simpa using hT
  generalize toldE [] told = ET at *
  clear hE HNO HYS HL HTL HZ HSm HN3
  go_enter Try.func12, Try.ntmps12
  go_upto_region 1 with fail
  generalize (w.alloc (.cells (#[.int .i64 0, .int .i64 0, .int .i64 0, .slice none 0 0] : Array Value) 27)) = W at *
  generalize hp : w.heap.size = p at *
  have HYK : Hid (∀ w3, Below W.heap.size W w3 → w3.heap[p]? = some (.cells (#[.int .i64 0, .int .i64 0, .int .i64 0, .slice none 0 0] : Array Value) 27 (0, 0)) ∧ Below p w w3) := fun w3 hb => ⟨keepB HY.out hb, HB.out.trans (hb.mono (by have := HS0.out; omega))⟩
  obtain ⟨y0, y1, y2, y3⟩ := four HY.out
  obtain ⟨z0, z1, z2, z3⟩ := frz4 HY.out
  go_wp2_with (first | (go_at_call 27; refine HTO.out.mono ?_; rintro e w3 ⟨rfl, hb3⟩; have HY3 := Lib.hid (HYK.out w3 hb3).1; have HB3 := Lib.hid (HYK.out w3 hb3).2; clear hb3; obtain ⟨y0, y1, y2, y3⟩ := four HY3.out; obtain ⟨z0, z1, z2, z3⟩ := frz4 HY3.out))
  have HYF := Lib.hid (put4_heap HY3.out (.int .i64 0) (.int .i64 0) (.int .i64 0) (.slice none 0 0))
  have HBF : Hid (Below p w ((((w3.setCell ⟨p, 0, none⟩ (.int .i64 0)).setCell ⟨p, 1, none⟩ (.int .i64 0)).setCell ⟨p, 2, none⟩ (.int .i64 0)).setCell ⟨p, 3, none⟩ (.slice none 0 0))) := put4_below HB3.out p (Nat.le_refl p) (.int .i64 0) (.int .i64 0) (.int .i64 0) (.slice none 0 0)
  generalize ((((w3.setCell ⟨p, 0, none⟩ (.int .i64 0)).setCell ⟨p, 1, none⟩ (.int .i64 0)).setCell ⟨p, 2, none⟩ (.int .i64 0)).setCell ⟨p, 3, none⟩ (.slice none 0 0)) = WF at *
  obtain ⟨n0, n1, n2, n3⟩ := four HYF.out
  refine bodyPost_ret (v := .tuple #[.agg (#[.int .i64 0, .int .i64 0, .int .i64 0, .slice none 0 0] : Array Value), .slice none 0 0, .int .i64 0, .int .i64 ET]) (by simp [results, Try.results12, go_sem, n0, n1, n2, n3]) rfl ?_
  exact HQ.out _ HBF.out
 have hM3 := make_3 (l := l) hc hT
 have HTD := Lib.hid (told_of hT)
 obtain ⟨E, hE⟩ : ∃ E, mkE told l = E := ⟨_, rfl⟩
 rw [hE] at hM3
 have HQN := Lib.hid fun w' (h0 : E ≠ 0) => HNO.out E w' hM3 h0
 have HQ : Hid (∀ w' m v, E = 0 → Below w.heap.size w w' → CpsAt (fun b => w.heap.size ≤ b) w' m (mkO told l) → CpsAt (fun b => w.heap.size ≤ b) w' v (mkN l) → _) := fun w' m v h0 hb h1 h2 => HYS.out w' m v (hM3.trans h0) hb h1 h2
 have HNUM : Hid (E = 0 → (IntKind.i64.wrap (sum (mkO told l) - heldV (sum (mkO told l)) held) = paidV (sum (mkO told l)) held ∧ IntKind.i64.wrap (held - heldV (sum (mkO told l)) held) = restV (sum (mkO told l)) held) ∧ (mkO told l).length ≤ 2000 ∧ ∀ x ∈ mkO told l, Bd x.paid) := fun h0 => by
  have h1 := mkO_sum hT (hE.trans h0) hll
  have h2 := held_bd h1.1 h1.2 hd1 hd2
  exact ⟨h2.2, by have := mkO_len l told; omega, fun x hx => (mkO_bd hT (hE.trans h0) x hx).2⟩
 have HE0 : Hid (mkE told (l.drop 0) = E) := hE
 have HO0 : Hid (E = 0 → ([] : List Cx).map (·.c) ++ mkO told (l.drop 0) = mkO told l) := fun _ => rfl
 have HN0 : Hid (E = 0 → ([] : List Cx).map (·.c) ++ mkN (l.drop 0) = mkN l) := fun _ => rfl
 have HW0 : Hid (∀ x ∈ told, CpOk x ∧ checkE x = 0) := fun x hx => ⟨cpOk_of (HTD.out.2 x hx).2, (HTD.out.2 x hx).2⟩
 generalize mkO told l = OO at *
 generalize mkN l = NN at *
 have HSU : Hid (E = 0 → ∀ W m, CpsAt All W m OO → Calls Try.prog 20 #[rmv ⟨n, 0, 0, OO⟩ m] W fun e w' => e = .returned (.int .i64 (sum OO)) ∧ Below W.heap.size W w') := fun h0 W m h => rsum_any ⟨n, 0, 0, OO⟩ m W h (HNUM.out h0).2.1 (HNUM.out h0).2.2
 generalize sum OO = S at *
 have hTb : (toldE [] told != 0) = false := by simpa using hT
 rw [hT] at HTO
 clear hE hM3 HNO HYS HTD hT hc hTb
 go_enter Try.func12, Try.ntmps12
 go_upto_region 1 with fail
 generalize (w.alloc (.cells (#[.int .i64 0, .int .i64 0, .int .i64 0, .slice none 0 0] : Array Value) 27)) = W at *
 generalize hp : w.heap.size = p at *
 have HYK : Hid (∀ w3, Below W.heap.size W w3 → Lp p w3.heap.size n 27 w (w3.alloc (.cells (#[.int .i64 n, .int .i64 0, .int .i64 0, .slice none 0 0] : Array Value) 27)) (.slice none 0 0) (.slice none 0 0) (.slice ta told.length tc) [] [] told) := fun w3 hb => by
  have h0 := HS0.out
  have h1 := hb.size
  have hba := below_alloc w3 (.cells (#[.int .i64 n, .int .i64 0, .int .i64 0, .slice none 0 0] : Array Value) 27)
  have h2 : Below p w w3 := HB.out.trans (hb.mono (by omega))
  have h3 : Below p w (w3.alloc (.cells (#[.int .i64 n, .int .i64 0, .int .i64 0, .slice none 0 0] : Array Value) 27)) := h2.trans (hba.mono (by omega))
  refine ⟨(hba.block p (by omega)).trans (keepB HY.out hb), alloc_new w3 _ _, Two.nil _ _, Sv.CpsAt.move HTL.out ⟨by rw [hp]; exact Nat.le_trans (by omega) hba.size, fun b hlt _ => ⟨⟨by rw [hp] at hlt; omega, by simp [Value.ownBlock], by simp [Value.ownBlock]⟩, h3.block b (by rw [hp] at hlt; exact hlt)⟩⟩, h3, by omega⟩
 obtain ⟨y0, y1, y2, y3⟩ := four HY.out
 obtain ⟨z0, z1, z2, z3⟩ := frz4 HY.out
 clear HTL
 go_wp2_with (first | (go_at_call 27; refine HTO.out.mono ?_; rintro e w3 ⟨rfl, hb3⟩; have HP3 := Lib.hid (HYK.out w3 hb3); clear hb3))
 generalize w3.alloc (.cells (#[.int .i64 n, .int .i64 0, .int .i64 0, .slice none 0 0] : Array Value) 27) = w4 at *
 generalize hpr : w3.heap.size = pr at *
 clear HYK HTO y0 y1 y2 y3 z0 z1 z2 z3 HB HY HS0
 go_loopg [14, 15, 16] (l.length) (fun gg t14 t15 t16 wr => ∃ (k : Nat) (a1 a2 a3 : Option Addr) (n1 c1 n2 c2 c3 : Nat) (L1 L2 : List Cx) (Wk : List Cp), k ≤ l.length ∧ gg = l.length - k ∧ t14 = .slice a2 n2 c2 ∧ t15 = .slice a3 Wk.length c3 ∧ t16 = .int .i64 k ∧ L1.length ≤ 2 * k ∧ L2.length ≤ k ∧ Wk.length ≤ 1000 ∧ Hid (Lp p pr n 27 w wr (.slice a1 n1 c1) (.slice a2 n2 c2) (.slice a3 Wk.length c3) L1 L2 Wk) ∧ Hid (∀ x ∈ Wk, CpOk x ∧ checkE x = 0) ∧ Hid (mkE Wk (l.drop k) = E) ∧ Hid (E = 0 → L1.map (·.c) ++ mkO Wk (l.drop k) = OO) ∧ Hid (E = 0 → L2.map (·.c) ++ mkN (l.drop k) = NN))
 case atStart => exact ⟨0, none, none, ta, 0, 0, 0, 0, tc, [], [], told, Nat.zero_le _, rfl, rfl, rfl, rfl, Nat.zero_le _, Nat.zero_le _, by omega, HP3.out, HW0.out, HE0.out, HO0.out, HN0.out⟩
 case round =>
  clear HP3 HW0 HE0 HO0 HN0
  obtain ⟨k, a1, a2, a3, n1, c1, n2, c2, c3, L1, L2, Wk, hk, hg, rfl, rfl, rfl, hL1, hL2, hWk, HP, HW, HE, HO, HN⟩ := hrel
  by_cases hlt : k < l.length
  case neg =>
   have hltz : ¬ (k : Int) < (l.length : Int) := by omega
   obtain ⟨hE2, hF⟩ := chg_end (by omega) HE.out HO.out HN.out
   by_cases hlen0 : Wk.length = 0
   case neg =>
    rw [if_neg hlen0] at hE2
    subst hE2
    have HFI := Lib.hid fun w' => HQN.out w' (by decide)
    have hz0 : (0 : Int) < (Wk.length : Int) := by omega
    have HY := Lib.hid HP.out.y
    have HB := Lib.hid HP.out.low
    clear hF HP HE HO HN HW
    obtain ⟨y0, y1, y2, y3⟩ := four HY.out
    obtain ⟨z0, z1, z2, z3⟩ := frz4 HY.out
    go_wp2
    have HYF := Lib.hid (put4_heap HY.out (.int .i64 0) (.int .i64 0) (.int .i64 0) (.slice none 0 0))
    have HBF : Hid (Below p w ((((wr.setCell ⟨p, 0, none⟩ (.int .i64 0)).setCell ⟨p, 1, none⟩ (.int .i64 0)).setCell ⟨p, 2, none⟩ (.int .i64 0)).setCell ⟨p, 3, none⟩ (.slice none 0 0))) := put4_below HB.out p (Nat.le_refl p) (.int .i64 0) (.int .i64 0) (.int .i64 0) (.slice none 0 0)
    generalize ((((wr.setCell ⟨p, 0, none⟩ (.int .i64 0)).setCell ⟨p, 1, none⟩ (.int .i64 0)).setCell ⟨p, 2, none⟩ (.int .i64 0)).setCell ⟨p, 3, none⟩ (.slice none 0 0)) = WF at *
    obtain ⟨n0, n1, n2, n3⟩ := four HYF.out
    refine bodyPost_ret (v := .tuple #[.agg (#[.int .i64 0, .int .i64 0, .int .i64 0, .slice none 0 0] : Array Value), .slice none 0 0, .int .i64 0, .int .i64 13]) (by simp [results, Try.results12, go_sem, n0, n1, n2, n3]) rfl ?_
    exact HFI.out _ HBF.out
   rw [if_pos hlen0] at hE2
   have hz0 : ¬ (0 : Int) < (Wk.length : Int) := by omega
   obtain ⟨⟨hv3, hv4⟩, -, -⟩ := HNUM.out hE2
   have HSU5 := Lib.hid (HSU.out hE2 wr (.slice a1 n1 c1) (by rw [← (hF hE2).1]; exact CpsAt.all HP.out.two.at1))
   clear HE HO HN HW HNUM HSU HQN
   have hw0 : IntKind.i64.wrap 0 = 0 := by decide
   by_cases hsh : S < held
   case pos =>
    have e : heldV S held = S := if_pos hsh
    have e2 : paidV S held = 0 := by unfold paidV; rw [e]; omega
    rw [e, e2] at HQ
    rw [e] at hv4
    clear e e2 hv3
    generalize restV S held = RV at *
    have HF7 : Hid (∀ w6, Below wr.heap.size wr w6 → w6.heap[pr]? = some (.cells (#[.int .i64 n, .int .i64 0, .int .i64 0, (.slice a1 n1 c1)] : Array Value) 27 (0, 0)) ∧ (((w6.setCell ⟨pr, 2, none⟩ (.int .i64 held)).setCell ⟨pr, 2, none⟩ (.int .i64 S)).setCell ⟨pr, 1, none⟩ (.int .i64 0)).heap[pr]? = some (.cells (#[.int .i64 n, .int .i64 0, .int .i64 S, (.slice a1 n1 c1)] : Array Value) 27 (0, 0)) ∧ (((w6.setCell ⟨pr, 2, none⟩ (.int .i64 held)).setCell ⟨pr, 2, none⟩ (.int .i64 S)).setCell ⟨pr, 1, none⟩ (.int .i64 0)).heap[p]? = some (.cells (#[.int .i64 0, .int .i64 0, .int .i64 0, .slice none 0 0] : Array Value) 27 (0, 0)) ∧ Below p w (((w6.setCell ⟨pr, 2, none⟩ (.int .i64 held)).setCell ⟨pr, 2, none⟩ (.int .i64 S)).setCell ⟨pr, 1, none⟩ (.int .i64 0)) ∧ CpsAt (fun b => pr + 1 ≤ b) (((w6.setCell ⟨pr, 2, none⟩ (.int .i64 held)).setCell ⟨pr, 2, none⟩ (.int .i64 S)).setCell ⟨pr, 1, none⟩ (.int .i64 0)) (.slice a1 n1 c1) OO ∧ CpsAt (fun b => pr + 1 ≤ b) (((w6.setCell ⟨pr, 2, none⟩ (.int .i64 held)).setCell ⟨pr, 2, none⟩ (.int .i64 S)).setCell ⟨pr, 1, none⟩ (.int .i64 0)) (.slice a2 n2 c2) NN) := fun w6 hb6 => by
     have hsz := HP.out.sz
     have h6 : w6.heap[pr]? = some (.cells (#[.int .i64 n, .int .i64 0, .int .i64 0, (.slice a1 n1 c1)] : Array Value) 27 (0, 0)) := keepB HP.out.x hb6
     have hq : Below pr wr w6 := hb6.mono (Nat.le_of_lt hsz)
     obtain ⟨e1, e2, e3, e4⟩ := HP.out.fin (W' := (((w6.setCell ⟨pr, 2, none⟩ (.int .i64 held)).setCell ⟨pr, 2, none⟩ (.int .i64 S)).setCell ⟨pr, 1, none⟩ (.int .i64 0))) (((hq.setCell (p := ⟨pr, 2, none⟩) (Nat.le_refl _) _).setCell (p := ⟨pr, 2, none⟩) (Nat.le_refl _) _).setCell (p := ⟨pr, 1, none⟩) (Nat.le_refl _) _) (fun b hgt hlt => ((Below.heap_setCell _ _ _ _ (show b ≠ pr by omega)).trans ((Below.heap_setCell _ _ _ _ (show b ≠ pr by omega)).trans ((Below.heap_setCell _ _ _ _ (show b ≠ pr by omega)).trans (hb6.block b hlt)))))
     rw [(hF hE2).1] at e3
     rw [(hF hE2).2] at e4
     refine ⟨h6, ?_, e1, e2, e3, e4⟩
     have e5 := (heap_set (heap_set (heap_set h6 2 (.int .i64 held)) 2 (.int .i64 S)) 1 (.int .i64 0))
     rw [e5]; rfl
    obtain ⟨x0, x1, x2, x3⟩ := four HP.out.x
    go_upto_region 22 with (first | (go_at_call 20; refine HSU5.out.mono ?_; rintro e w6 ⟨rfl, hb6⟩; have HG := Lib.hid (HF7.out w6 hb6); clear hb6; clear x0 x1 x2 x3; obtain ⟨x0, x1, x2, x3⟩ := four HG.out.1; obtain ⟨u0, u1, u2, u3⟩ := frz4 HG.out.1))
    go_upto_region 25 with fail
    generalize (((w6.setCell ⟨pr, 2, none⟩ (.int .i64 held)).setCell ⟨pr, 2, none⟩ (.int .i64 S)).setCell ⟨pr, 1, none⟩ (.int .i64 0)) = W7 at *
    obtain ⟨-, hx7, hy7, hb7, hc17, hc27⟩ := HG.out
    have HX7 := Lib.hid hx7
    have HY7 := Lib.hid hy7
    have HB7 := Lib.hid hb7
    have HC17 := Lib.hid hc17
    have HC27 := Lib.hid hc27
    have HPP : Hid (p < pr) := HP.out.lt
    have HDR : Hid (Below W7.heap.size W7 W7.drew) := Below.drew (Below.refl W7.heap.size W7)
    have HPL : Hid (pr < W7.heap.size) := (Array.getElem?_eq_some_iff.1 hx7).1
    have HXK : Hid (∀ Wx, W7.grownBy Wx (some p) → Wx.heap[pr]? = some (.cells (#[.int .i64 n, .int .i64 0, .int .i64 S, (.slice a1 n1 c1)] : Array Value) 27 (0, 0))) := fun Wx hg => (hg.block pr HPL.out (fun e => by have := HPP.out; injection e with e; omega)).trans HX7.out
    clear x0 x1 x2 x3 u0 u1 u2 u3 hx7 hy7 hb7 hc17 hc27 HG HF7 HP
    refine Ri.wp_region_lastingB (by kernel_rfl) (by kernel_rfl) (by kernel_rfl) (fun Wx => W7.grownBy Wx (some p) ∧ ∃ c0 c1 c2 c3 : Value, Wx.heap[p]? = some (.cells #[c0, c1, c2, c3] 27 (0, 0))) (fun kz vs wz => (fun kx vx wx => match kx with | 0 => vx = .agg (#[.int .i64 n, .int .i64 0, .int .i64 S, (.slice a1 n1 c1)] : Array Value) | 1 => vx = .slice a2 n2 c2 | 2 => vx = .int .i64 held | 3 => vx = .pointer (some ⟨pr, 2, none⟩) | 4 => vx = .int .i64 S | 5 => vx = .int .i64 RV | 6 => wx.heap[p]? = some (.cells (#[.int .i64 n, .int .i64 0, .int .i64 S, (.slice a1 n1 c1)] : Array Value) 27 (0, 0)) | 7 => vx = .slice a2 n2 c2 | 8 => vx = .int .i64 RV | 9 => vx = .int .i64 0 | _ => True : Nat → Value → World → Prop) kz (vs kz) wz) (fun kz => [kz]) (by kernel_rfl) (fun jz vs iz vz wz hiz hz => Ri.loc_own (F := (fun kx vx wx => match kx with | 0 => vx = .agg (#[.int .i64 n, .int .i64 0, .int .i64 S, (.slice a1 n1 c1)] : Array Value) | 1 => vx = .slice a2 n2 c2 | 2 => vx = .int .i64 held | 3 => vx = .pointer (some ⟨pr, 2, none⟩) | 4 => vx = .int .i64 S | 5 => vx = .int .i64 RV | 6 => wx.heap[p]? = some (.cells (#[.int .i64 n, .int .i64 0, .int .i64 S, (.slice a1 n1 c1)] : Array Value) 27 (0, 0)) | 7 => vx = .slice a2 n2 c2 | 8 => vx = .int .i64 RV | 9 => vx = .int .i64 0 | _ => True : Nat → Value → World → Prop)) jz vs iz vz wz hiz hz) ⟨grown_of HDR.out _, _, _, _, _, HY7.out⟩ ⟨⟨rfl, ?_⟩, ⟨rfl, ?_⟩, ⟨rfl, ?_⟩, ⟨rfl, ?_⟩, ⟨rfl, ?_⟩, ⟨rfl, ?_⟩, ⟨rfl, ?_⟩, ⟨rfl, ?_⟩, ⟨rfl, ?_⟩, ⟨rfl, ?_⟩, trivial⟩ ?_
    ·intro vs Wx A hA hB hpre K hK
     have e13 := (hA 13).trans (show _ = Value.pointer (some ⟨pr, 0, none⟩) by kernel_rfl)
     obtain ⟨x0, x1, x2, x3⟩ := four (HXK.out Wx hB.1)
     clear hA hpre
     go_simp
     first | exact hK _ _ hB (by trivial) (fun _ _ h => h) | (rw [if_neg (by omega)]; go_simp; exact hK _ _ hB rfl (fun _ _ h => h))
    ·intro vs Wx A hA hB hpre K hK
     have e14 := (hA 14).trans (show _ = Value.slice a2 n2 c2 by kernel_rfl)
     clear hA hpre
     go_simp
     first | exact hK _ _ hB (by trivial) (fun _ _ h => h) | (rw [if_neg (by omega)]; go_simp; exact hK _ _ hB rfl (fun _ _ h => h))
    ·intro vs Wx A hA hB hpre K hK
     have e3 := (hA 3).trans (show _ = Value.int .i64 held by kernel_rfl)
     clear hA hpre
     go_simp
     first | exact hK _ _ hB (by trivial) (fun _ _ h => h) | (rw [if_neg (by omega)]; go_simp; exact hK _ _ hB rfl (fun _ _ h => h))
    ·intro vs Wx A hA hB hpre K hK
     have e13 := (hA 13).trans (show _ = Value.pointer (some ⟨pr, 0, none⟩) by kernel_rfl)
     clear hA hpre
     go_simp
     first | exact hK _ _ hB (by trivial) (fun _ _ h => h) | (rw [if_neg (by omega)]; go_simp; exact hK _ _ hB rfl (fun _ _ h => h))
    ·intro vs Wx A hA hB hpre K hK
     have e102 := ((hA 102).trans (show _ = vs 3 by kernel_rfl)).trans (by repeat first | exact hpre.1 rfl | replace hpre := hpre.2)
     obtain ⟨x0, x1, x2, x3⟩ := four (HXK.out Wx hB.1)
     clear hA hpre
     go_simp
     first | exact hK _ _ hB (by trivial) (fun _ _ h => h) | (rw [if_neg (by omega)]; go_simp; exact hK _ _ hB rfl (fun _ _ h => h))
    ·intro vs Wx A hA hB hpre K hK
     have e101 := ((hA 101).trans (show _ = vs 2 by kernel_rfl)).trans (by repeat first | exact hpre.1 rfl | replace hpre := hpre.2)
     have e103 := ((hA 103).trans (show _ = vs 4 by kernel_rfl)).trans (by repeat first | exact hpre.1 rfl | replace hpre := hpre.2)
     clear hA hpre
     go_simp
     first | exact hK _ _ hB (by trivial) (fun _ _ h => h) | (rw [if_neg (by omega)]; go_simp; exact hK _ _ hB rfl (fun _ _ h => h))
    ·intro vs Wx A hA hB hpre K hK
     have e8 := (hA 8).trans (show _ = Value.pointer (some ⟨p, 0, none⟩) by kernel_rfl)
     have e99 := ((hA 99).trans (show _ = vs 0 by kernel_rfl)).trans (by repeat first | exact hpre.1 rfl | replace hpre := hpre.2)
     have hcc := hB.2.choose_spec.choose_spec.choose_spec.choose_spec
     obtain ⟨y0, y1, y2, y3⟩ := four hcc
     obtain ⟨z0, z1, z2, z3⟩ := frz4 hcc
     clear hcc
     clear hA hpre
     go_simp
     refine hK undef ((((Wx.setCell ⟨p, 0, none⟩ (.int .i64 n)).setCell ⟨p, 1, none⟩ (.int .i64 0)).setCell ⟨p, 2, none⟩ (.int .i64 S)).setCell ⟨p, 3, none⟩ (.slice a1 n1 c1)) ⟨grown_put4 hB.1 (.int .i64 n) (.int .i64 0) (.int .i64 S) (.slice a1 n1 c1), _, _, _, _, put4_heap hB.2.choose_spec.choose_spec.choose_spec.choose_spec (.int .i64 n) (.int .i64 0) (.int .i64 S) (.slice a1 n1 c1)⟩ (put4_heap hB.2.choose_spec.choose_spec.choose_spec.choose_spec (.int .i64 n) (.int .i64 0) (.int .i64 S) (.slice a1 n1 c1)) (fun jz hj hz => ?_)
     match jz, hj, hz with
     | 0, _, hz => exact hz
     | 1, _, hz => exact hz
     | 2, _, hz => exact hz
     | 3, _, hz => exact hz
     | 4, _, hz => exact hz
     | 5, _, hz => exact hz
     | 6, hj, _ => exact absurd rfl hj
     | 7, _, hz => exact hz
     | 8, _, hz => exact hz
     | 9, _, hz => exact hz
     | n + 10, _, hz => exact hz
    ·intro vs Wx A hA hB hpre K hK
     have e100 := ((hA 100).trans (show _ = vs 1 by kernel_rfl)).trans (by repeat first | exact hpre.1 rfl | replace hpre := hpre.2)
     clear hA hpre
     go_simp
     first | exact hK _ _ hB (by trivial) (fun _ _ h => h) | (rw [if_neg (by omega)]; go_simp; exact hK _ _ hB rfl (fun _ _ h => h))
    ·intro vs Wx A hA hB hpre K hK
     have e104 := ((hA 104).trans (show _ = vs 5 by kernel_rfl)).trans (by repeat first | exact hpre.1 rfl | replace hpre := hpre.2)
     clear hA hpre
     go_simp
     first | exact hK _ _ hB (by trivial) (fun _ _ h => h) | (rw [if_neg (by omega)]; go_simp; exact hK _ _ hB rfl (fun _ _ h => h))
    ·intro vs Wx A hA hB hpre K hK
     clear hA hpre
     go_simp
     first | exact hK _ _ hB (by trivial) (fun _ _ h => h) | (rw [if_neg (by omega)]; go_simp; exact hK _ _ hB rfl (fun _ _ h => h))
    intro vs Wx hB hF
    have h6 : Wx.heap[p]? = some (.cells (#[.int .i64 n, .int .i64 0, .int .i64 S, (.slice a1 n1 c1)] : Array Value) 27 (0, 0)) := hF 6 (by decide)
    have h7 : vs 7 = (.slice a2 n2 c2) := hF 7 (by decide)
    have h8 : vs 8 = .int .i64 RV := hF 8 (by decide)
    have h9 : vs 9 = .int .i64 0 := hF 9 (by decide)
    have hg := hB.1
    have hpp := HPP.out
    have HBF : Hid (Below p w Wx) := HB7.out.trans ⟨hg.os, hg.tape, hg.output, hg.size, fun b hlt => hg.block b (by have h1 := HPL.out; omega) (fun e => by injection e with e; omega)⟩
    have hm : Moves (fun b => pr + 1 ≤ b) (fun b => p ≤ b) W7 Wx := ⟨hg.size, fun b hlt k => ⟨by omega, hg.block b hlt (fun e => by injection e with e; omega)⟩⟩
    have HC1 : Hid (CpsAt (fun b => p ≤ b) Wx (.slice a1 n1 c1) OO) := Sv.CpsAt.move HC17.out hm
    have HC2 : Hid (CpsAt (fun b => p ≤ b) Wx (.slice a2 n2 c2) NN) := Sv.CpsAt.move HC27.out hm
    obtain ⟨g0, g1, g2, g3⟩ := four h6
    clear hF hB hg h6 hm
    simp only [Ri.puts]
    rw [h7, h8, h9]
    clear h7 h8 h9
    go_simp
    go_wp2
    refine bodyPost_ret (v := .tuple #[.agg (#[.int .i64 n, .int .i64 0, .int .i64 S, (.slice a1 n1 c1)] : Array Value), (.slice a2 n2 c2), .int .i64 RV, .int .i64 0]) (by simp [results, Try.results12, go_sem, g0, g1, g2, g3]) rfl ?_
    exact HQ.out Wx _ _ hE2 HBF.out HC1.out HC2.out
   have e : heldV S held = held := if_neg hsh
   have e2 : restV S held = 0 := by unfold restV; rw [e]; omega
   rw [e, e2] at HQ
   rw [e] at hv3
   clear e e2 hv4
   generalize paidV S held = PV at *
   have HF7 : Hid (∀ w6, Below wr.heap.size wr w6 → w6.heap[pr]? = some (.cells (#[.int .i64 n, .int .i64 0, .int .i64 0, (.slice a1 n1 c1)] : Array Value) 27 (0, 0)) ∧ ((w6.setCell ⟨pr, 2, none⟩ (.int .i64 held)).setCell ⟨pr, 1, none⟩ (.int .i64 PV)).heap[pr]? = some (.cells (#[.int .i64 n, .int .i64 PV, .int .i64 held, (.slice a1 n1 c1)] : Array Value) 27 (0, 0)) ∧ ((w6.setCell ⟨pr, 2, none⟩ (.int .i64 held)).setCell ⟨pr, 1, none⟩ (.int .i64 PV)).heap[p]? = some (.cells (#[.int .i64 0, .int .i64 0, .int .i64 0, .slice none 0 0] : Array Value) 27 (0, 0)) ∧ Below p w ((w6.setCell ⟨pr, 2, none⟩ (.int .i64 held)).setCell ⟨pr, 1, none⟩ (.int .i64 PV)) ∧ CpsAt (fun b => pr + 1 ≤ b) ((w6.setCell ⟨pr, 2, none⟩ (.int .i64 held)).setCell ⟨pr, 1, none⟩ (.int .i64 PV)) (.slice a1 n1 c1) OO ∧ CpsAt (fun b => pr + 1 ≤ b) ((w6.setCell ⟨pr, 2, none⟩ (.int .i64 held)).setCell ⟨pr, 1, none⟩ (.int .i64 PV)) (.slice a2 n2 c2) NN) := fun w6 hb6 => by
    have hsz := HP.out.sz
    have h6 : w6.heap[pr]? = some (.cells (#[.int .i64 n, .int .i64 0, .int .i64 0, (.slice a1 n1 c1)] : Array Value) 27 (0, 0)) := keepB HP.out.x hb6
    have hq : Below pr wr w6 := hb6.mono (Nat.le_of_lt hsz)
    obtain ⟨e1, e2, e3, e4⟩ := HP.out.fin (W' := ((w6.setCell ⟨pr, 2, none⟩ (.int .i64 held)).setCell ⟨pr, 1, none⟩ (.int .i64 PV))) ((hq.setCell (p := ⟨pr, 2, none⟩) (Nat.le_refl _) _).setCell (p := ⟨pr, 1, none⟩) (Nat.le_refl _) _) (fun b hgt hlt => ((Below.heap_setCell _ _ _ _ (show b ≠ pr by omega)).trans ((Below.heap_setCell _ _ _ _ (show b ≠ pr by omega)).trans (hb6.block b hlt))))
    rw [(hF hE2).1] at e3
    rw [(hF hE2).2] at e4
    refine ⟨h6, ?_, e1, e2, e3, e4⟩
    have e5 := (heap_set (heap_set h6 2 (.int .i64 held)) 1 (.int .i64 PV))
    rw [e5]; rfl
   obtain ⟨x0, x1, x2, x3⟩ := four HP.out.x
   go_upto_region 22 with (first | (go_at_call 20; refine HSU5.out.mono ?_; rintro e w6 ⟨rfl, hb6⟩; have HG := Lib.hid (HF7.out w6 hb6); clear hb6; clear x0 x1 x2 x3; obtain ⟨x0, x1, x2, x3⟩ := four HG.out.1; obtain ⟨u0, u1, u2, u3⟩ := frz4 HG.out.1))
   go_upto_region 25 with fail
   generalize ((w6.setCell ⟨pr, 2, none⟩ (.int .i64 held)).setCell ⟨pr, 1, none⟩ (.int .i64 PV)) = W7 at *
   obtain ⟨-, hx7, hy7, hb7, hc17, hc27⟩ := HG.out
   have HX7 := Lib.hid hx7
   have HY7 := Lib.hid hy7
   have HB7 := Lib.hid hb7
   have HC17 := Lib.hid hc17
   have HC27 := Lib.hid hc27
   have HPP : Hid (p < pr) := HP.out.lt
   have HDR : Hid (Below W7.heap.size W7 W7.drew) := Below.drew (Below.refl W7.heap.size W7)
   have HPL : Hid (pr < W7.heap.size) := (Array.getElem?_eq_some_iff.1 hx7).1
   have HXK : Hid (∀ Wx, W7.grownBy Wx (some p) → Wx.heap[pr]? = some (.cells (#[.int .i64 n, .int .i64 PV, .int .i64 held, (.slice a1 n1 c1)] : Array Value) 27 (0, 0))) := fun Wx hg => (hg.block pr HPL.out (fun e => by have := HPP.out; injection e with e; omega)).trans HX7.out
   clear x0 x1 x2 x3 u0 u1 u2 u3 hx7 hy7 hb7 hc17 hc27 HG HF7 HP
   refine Ri.wp_region_lastingB (by kernel_rfl) (by kernel_rfl) (by kernel_rfl) (fun Wx => W7.grownBy Wx (some p) ∧ ∃ c0 c1 c2 c3 : Value, Wx.heap[p]? = some (.cells #[c0, c1, c2, c3] 27 (0, 0))) (fun kz vs wz => (fun kx vx wx => match kx with | 0 => vx = .agg (#[.int .i64 n, .int .i64 PV, .int .i64 held, (.slice a1 n1 c1)] : Array Value) | 1 => vx = .slice a2 n2 c2 | 2 => vx = .int .i64 held | 3 => vx = .pointer (some ⟨pr, 2, none⟩) | 4 => vx = .int .i64 held | 5 => vx = .int .i64 0 | 6 => wx.heap[p]? = some (.cells (#[.int .i64 n, .int .i64 PV, .int .i64 held, (.slice a1 n1 c1)] : Array Value) 27 (0, 0)) | 7 => vx = .slice a2 n2 c2 | 8 => vx = .int .i64 0 | 9 => vx = .int .i64 0 | _ => True : Nat → Value → World → Prop) kz (vs kz) wz) (fun kz => [kz]) (by kernel_rfl) (fun jz vs iz vz wz hiz hz => Ri.loc_own (F := (fun kx vx wx => match kx with | 0 => vx = .agg (#[.int .i64 n, .int .i64 PV, .int .i64 held, (.slice a1 n1 c1)] : Array Value) | 1 => vx = .slice a2 n2 c2 | 2 => vx = .int .i64 held | 3 => vx = .pointer (some ⟨pr, 2, none⟩) | 4 => vx = .int .i64 held | 5 => vx = .int .i64 0 | 6 => wx.heap[p]? = some (.cells (#[.int .i64 n, .int .i64 PV, .int .i64 held, (.slice a1 n1 c1)] : Array Value) 27 (0, 0)) | 7 => vx = .slice a2 n2 c2 | 8 => vx = .int .i64 0 | 9 => vx = .int .i64 0 | _ => True : Nat → Value → World → Prop)) jz vs iz vz wz hiz hz) ⟨grown_of HDR.out _, _, _, _, _, HY7.out⟩ ⟨⟨rfl, ?_⟩, ⟨rfl, ?_⟩, ⟨rfl, ?_⟩, ⟨rfl, ?_⟩, ⟨rfl, ?_⟩, ⟨rfl, ?_⟩, ⟨rfl, ?_⟩, ⟨rfl, ?_⟩, ⟨rfl, ?_⟩, ⟨rfl, ?_⟩, trivial⟩ ?_
   ·intro vs Wx A hA hB hpre K hK
    have e13 := (hA 13).trans (show _ = Value.pointer (some ⟨pr, 0, none⟩) by kernel_rfl)
    obtain ⟨x0, x1, x2, x3⟩ := four (HXK.out Wx hB.1)
    clear hA hpre
    go_simp
    first | exact hK _ _ hB (by trivial) (fun _ _ h => h) | (rw [if_neg (by omega)]; go_simp; exact hK _ _ hB rfl (fun _ _ h => h))
   ·intro vs Wx A hA hB hpre K hK
    have e14 := (hA 14).trans (show _ = Value.slice a2 n2 c2 by kernel_rfl)
    clear hA hpre
    go_simp
    first | exact hK _ _ hB (by trivial) (fun _ _ h => h) | (rw [if_neg (by omega)]; go_simp; exact hK _ _ hB rfl (fun _ _ h => h))
   ·intro vs Wx A hA hB hpre K hK
    have e3 := (hA 3).trans (show _ = Value.int .i64 held by kernel_rfl)
    clear hA hpre
    go_simp
    first | exact hK _ _ hB (by trivial) (fun _ _ h => h) | (rw [if_neg (by omega)]; go_simp; exact hK _ _ hB rfl (fun _ _ h => h))
   ·intro vs Wx A hA hB hpre K hK
    have e13 := (hA 13).trans (show _ = Value.pointer (some ⟨pr, 0, none⟩) by kernel_rfl)
    clear hA hpre
    go_simp
    first | exact hK _ _ hB (by trivial) (fun _ _ h => h) | (rw [if_neg (by omega)]; go_simp; exact hK _ _ hB rfl (fun _ _ h => h))
   ·intro vs Wx A hA hB hpre K hK
    have e102 := ((hA 102).trans (show _ = vs 3 by kernel_rfl)).trans (by repeat first | exact hpre.1 rfl | replace hpre := hpre.2)
    obtain ⟨x0, x1, x2, x3⟩ := four (HXK.out Wx hB.1)
    clear hA hpre
    go_simp
    first | exact hK _ _ hB (by trivial) (fun _ _ h => h) | (rw [if_neg (by omega)]; go_simp; exact hK _ _ hB rfl (fun _ _ h => h))
   ·intro vs Wx A hA hB hpre K hK
    have e101 := ((hA 101).trans (show _ = vs 2 by kernel_rfl)).trans (by repeat first | exact hpre.1 rfl | replace hpre := hpre.2)
    have e103 := ((hA 103).trans (show _ = vs 4 by kernel_rfl)).trans (by repeat first | exact hpre.1 rfl | replace hpre := hpre.2)
    clear hA hpre
    go_simp
    first | exact hK _ _ hB (by trivial) (fun _ _ h => h) | (rw [if_neg (by omega)]; go_simp; exact hK _ _ hB rfl (fun _ _ h => h))
   ·intro vs Wx A hA hB hpre K hK
    have e8 := (hA 8).trans (show _ = Value.pointer (some ⟨p, 0, none⟩) by kernel_rfl)
    have e99 := ((hA 99).trans (show _ = vs 0 by kernel_rfl)).trans (by repeat first | exact hpre.1 rfl | replace hpre := hpre.2)
    have hcc := hB.2.choose_spec.choose_spec.choose_spec.choose_spec
    obtain ⟨y0, y1, y2, y3⟩ := four hcc
    obtain ⟨z0, z1, z2, z3⟩ := frz4 hcc
    clear hcc
    clear hA hpre
    go_simp
    refine hK undef ((((Wx.setCell ⟨p, 0, none⟩ (.int .i64 n)).setCell ⟨p, 1, none⟩ (.int .i64 PV)).setCell ⟨p, 2, none⟩ (.int .i64 held)).setCell ⟨p, 3, none⟩ (.slice a1 n1 c1)) ⟨grown_put4 hB.1 (.int .i64 n) (.int .i64 PV) (.int .i64 held) (.slice a1 n1 c1), _, _, _, _, put4_heap hB.2.choose_spec.choose_spec.choose_spec.choose_spec (.int .i64 n) (.int .i64 PV) (.int .i64 held) (.slice a1 n1 c1)⟩ (put4_heap hB.2.choose_spec.choose_spec.choose_spec.choose_spec (.int .i64 n) (.int .i64 PV) (.int .i64 held) (.slice a1 n1 c1)) (fun jz hj hz => ?_)
    match jz, hj, hz with
    | 0, _, hz => exact hz
    | 1, _, hz => exact hz
    | 2, _, hz => exact hz
    | 3, _, hz => exact hz
    | 4, _, hz => exact hz
    | 5, _, hz => exact hz
    | 6, hj, _ => exact absurd rfl hj
    | 7, _, hz => exact hz
    | 8, _, hz => exact hz
    | 9, _, hz => exact hz
    | n + 10, _, hz => exact hz
   ·intro vs Wx A hA hB hpre K hK
    have e100 := ((hA 100).trans (show _ = vs 1 by kernel_rfl)).trans (by repeat first | exact hpre.1 rfl | replace hpre := hpre.2)
    clear hA hpre
    go_simp
    first | exact hK _ _ hB (by trivial) (fun _ _ h => h) | (rw [if_neg (by omega)]; go_simp; exact hK _ _ hB rfl (fun _ _ h => h))
   ·intro vs Wx A hA hB hpre K hK
    have e104 := ((hA 104).trans (show _ = vs 5 by kernel_rfl)).trans (by repeat first | exact hpre.1 rfl | replace hpre := hpre.2)
    clear hA hpre
    go_simp
    first | exact hK _ _ hB (by trivial) (fun _ _ h => h) | (rw [if_neg (by omega)]; go_simp; exact hK _ _ hB rfl (fun _ _ h => h))
   ·intro vs Wx A hA hB hpre K hK
    clear hA hpre
    go_simp
    first | exact hK _ _ hB (by trivial) (fun _ _ h => h) | (rw [if_neg (by omega)]; go_simp; exact hK _ _ hB rfl (fun _ _ h => h))
   intro vs Wx hB hF
   have h6 : Wx.heap[p]? = some (.cells (#[.int .i64 n, .int .i64 PV, .int .i64 held, (.slice a1 n1 c1)] : Array Value) 27 (0, 0)) := hF 6 (by decide)
   have h7 : vs 7 = (.slice a2 n2 c2) := hF 7 (by decide)
   have h8 : vs 8 = .int .i64 0 := hF 8 (by decide)
   have h9 : vs 9 = .int .i64 0 := hF 9 (by decide)
   have hg := hB.1
   have hpp := HPP.out
   have HBF : Hid (Below p w Wx) := HB7.out.trans ⟨hg.os, hg.tape, hg.output, hg.size, fun b hlt => hg.block b (by have h1 := HPL.out; omega) (fun e => by injection e with e; omega)⟩
   have hm : Moves (fun b => pr + 1 ≤ b) (fun b => p ≤ b) W7 Wx := ⟨hg.size, fun b hlt k => ⟨by omega, hg.block b hlt (fun e => by injection e with e; omega)⟩⟩
   have HC1 : Hid (CpsAt (fun b => p ≤ b) Wx (.slice a1 n1 c1) OO) := Sv.CpsAt.move HC17.out hm
   have HC2 : Hid (CpsAt (fun b => p ≤ b) Wx (.slice a2 n2 c2) NN) := Sv.CpsAt.move HC27.out hm
   obtain ⟨g0, g1, g2, g3⟩ := four h6
   clear hF hB hg h6 hm
   simp only [Ri.puts]
   rw [h7, h8, h9]
   clear h7 h8 h9
   go_simp
   go_wp2
   refine bodyPost_ret (v := .tuple #[.agg (#[.int .i64 n, .int .i64 PV, .int .i64 held, (.slice a1 n1 c1)] : Array Value), (.slice a2 n2 c2), .int .i64 0, .int .i64 0]) (by simp [results, Try.results12, go_sem, g0, g1, g2, g3]) rfl ?_
   exact HQ.out Wx _ _ hE2 HBF.out HC1.out HC2.out
  have hltz : (k : Int) < (l.length : Int) := by omega
  obtain ⟨b, o, ml, mo, rfl, hbl, hx, hcell, hcont⟩ := EnsAt.get HL.out k hlt
  have HST := Lib.hid (chg_step hx HE.out HO.out HN.out)
  have HZy := Lib.hid (HZ.out _ (List.mem_of_getElem? hx))
  have HSy := Lib.hid (HSm.out _ (List.mem_of_getElem? hx))
  have HNy := Lib.hid (HN3.out _ (List.mem_of_getElem? hx))
  have hi1 : k < l.length := hlt
  generalize l[k] = y at *
  obtain ⟨al, nl, cl, rfl⟩ : ∃ a n c, ml = .slice a n c := by
   obtain ⟨q1, q2, q3, -, -⟩ := Cm.LnsAt.form hcont.1
   exact ⟨q1, _, q2, q3⟩
  obtain ⟨ao, no, co, rfl⟩ : ∃ a n c, mo = .slice a n c := by
   obtain ⟨q1, q2, q3, -, -⟩ := Bk.OtsAt.form hcont.2
   exact ⟨q1, _, q2, q3⟩
  have HEC : Hid (∀ W', Below p w W' → EnCells W' b (o + k * 10) y (.slice al nl cl) (.slice ao no co) ∧ Cont All W' ⟨y, .slice al nl cl, .slice ao no co⟩) := fun W' hb => ⟨hcell.of (hb.block b (by first | exact hbl | (rw [← hp]; exact hbl))), hcont.grw (by rw [hp]; exact hb)⟩
  have HONE : Hid (Calls Try.prog 28 #[(.slice a3 Wk.length c3), (Bk.env y (.slice al nl cl) (.slice ao no co))] wr fun e w' => OneV Wk y wr e w') := rone_any Wk y _ _ _ wr (CpsAt.all HP.out.was) (HEC.out wr HP.out.low).2 HW.out HZy.out HSy.out HNy.out
  have HWO : Hid (∀ w' u1 u2, Lp p pr n 27 w w' u1 u2 (.slice a3 Wk.length c3) L1 L2 Wk → True) := fun _ _ _ _ => trivial
  have HEL1 := Lib.hid (entO_len Wk y)
  have HEL2 : Hid ((entN y).length ≤ 1) := by show _ ≤ _; unfold entN; split <;> simp
  have HLO : Hid ((entO Wk y).length ≤ 100000) := by have := HEL1.out; show _ ≤ _; omega
  have HLN : Hid ((entN y).length ≤ 100000) := by have := HEL2.out; show _ ≤ _; omega
  clear hx hcell hcont hbl HE HO HN HZ HSm HN3 HWO HL
  unfold OneV at HONE
  by_cases hey : entE y = 0
  case neg =>
   have hE1 := HST.out.1 hey
   have hEb : (entE y != 0) = true := by simpa using hey
   generalize entE y = EE at *
   subst hE1
   have HFI := Lib.hid fun w' => HQN.out w' hey
   have HYK : Hid (∀ w1, Below wr.heap.size wr w1 → w1.heap[p]? = some (.cells (#[.int .i64 0, .int .i64 0, .int .i64 0, .slice none 0 0] : Array Value) 27 (0, 0)) ∧ Below p w w1) := fun w1 hb => ⟨(HP.out.grw hb).y, (HP.out.grw hb).low⟩
   obtain ⟨c0, c1', c2', c3', c4, c5, c6, c7, c8, c9⟩ := (HEC.out wr HP.out.low).1
   clear HST HP HW HEC HNUM HSU HQ HQN
   go_wp2_with (first | (go_at_call 28; refine HONE.out.mono ?_; rintro e w1 ⟨⟨u1, u2, rfl, -, hne⟩, hb1⟩; obtain ⟨rfl, rfl⟩ := hne hey; have HY := Lib.hid (HYK.out w1 hb1).1; have HB := Lib.hid (HYK.out w1 hb1).2; clear hb1 hne; clear c0 c1' c2' c3' c4 c5 c6 c7 c8 c9; obtain ⟨y0, y1, y2, y3⟩ := four HY.out; obtain ⟨z0, z1, z2, z3⟩ := frz4 HY.out))
   have HYF := Lib.hid (put4_heap HY.out (.int .i64 0) (.int .i64 0) (.int .i64 0) (.slice none 0 0))
   have HBF : Hid (Below p w ((((w1.setCell ⟨p, 0, none⟩ (.int .i64 0)).setCell ⟨p, 1, none⟩ (.int .i64 0)).setCell ⟨p, 2, none⟩ (.int .i64 0)).setCell ⟨p, 3, none⟩ (.slice none 0 0))) := put4_below HB.out p (Nat.le_refl p) (.int .i64 0) (.int .i64 0) (.int .i64 0) (.slice none 0 0)
   generalize ((((w1.setCell ⟨p, 0, none⟩ (.int .i64 0)).setCell ⟨p, 1, none⟩ (.int .i64 0)).setCell ⟨p, 2, none⟩ (.int .i64 0)).setCell ⟨p, 3, none⟩ (.slice none 0 0)) = WF at *
   obtain ⟨n0, n1, n2, n3⟩ := four HYF.out
   refine bodyPost_ret (v := .tuple #[.agg (#[.int .i64 0, .int .i64 0, .int .i64 0, .slice none 0 0] : Array Value), .slice none 0 0, .int .i64 0, .int .i64 E]) (by simp [results, Try.results12, go_sem, n0, n1, n2, n3]) rfl ?_
   exact HFI.out _ HBF.out
  obtain ⟨hs1, hs2, hs3⟩ := HST.out.2 hey
  have HS1 := Lib.hid hs1
  have HS2 := Lib.hid hs2
  have HS3 := Lib.hid hs3
  have hEb : (entE y != 0) = false := by simpa using hey
  have HONE2 : Hid (Calls Try.prog 28 #[(.slice a3 Wk.length c3), (Bk.env y (.slice al nl cl) (.slice ao no co))] wr fun e w' => (∃ (s1 : Option Addr) (m1 d1 : Nat) (s2 : Option Addr) (m2 d2 : Nat), e = .returned (.tuple #[.slice s1 m1 d1, .slice s2 m2 d2, .int .i64 0]) ∧ CpsAt (fun b => wr.heap.size ≤ b) w' (.slice s1 m1 d1) (entO Wk y) ∧ CpsAt (fun b => wr.heap.size ≤ b) w' (.slice s2 m2 d2) (entN y)) ∧ Below wr.heap.size wr w') := HONE.out.mono fun e w' he => by
   obtain ⟨⟨u1, u2, rfl, hyes, -⟩, hb⟩ := he
   obtain ⟨h1, h2⟩ := hyes hey
   obtain ⟨s1, d1, rfl, -, -⟩ := h1.form
   obtain ⟨s2, d2, rfl, -, -⟩ := h2.form
   exact ⟨⟨s1, _, d1, s2, _, d2, by rw [hey], h1, h2⟩, hb⟩
  obtain ⟨wo, rfl⟩ : ∃ z, z = wr := ⟨_, rfl⟩
  have HP1K : Hid (∀ w1, Below wo.heap.size wo w1 → Lp p pr n 27 w w1 (.slice a1 n1 c1) (.slice a2 n2 c2) (.slice a3 Wk.length c3) L1 L2 Wk ∧ w1.heap[pr]? = some (.cells #[.int .i64 n, .int .i64 0, .int .i64 0, (.slice a1 n1 c1)] 27 (0, 0)) ∧ pr + 1 ≤ w1.heap.size) := fun w1 hb => by
   have h := HP.out.grw hb
   exact ⟨h, h.x, h.sz⟩
  have HA1 : Hid (∀ w1 w9 v' Lx (u2 : Value), Below wo.heap.size wo w1 → (∀ y ∈ Lx, SvsAt (fun b => wo.heap.size ≤ b) w1 y.m y.c.svs) → Lx.map (·.c) = entO Wk y → OwnC (pr + 1) w9 v' (L1 ++ Lx) → w1.grownBy w9 (Value.slice a1 n1 c1).ownBlock → (v'.ownBlock = (Value.slice a1 n1 c1).ownBlock ∨ v'.ownBlock = some w1.heap.size) → CpsAt (fun b => wo.heap.size ≤ b) w1 u2 (entN y) →
    w9.heap[pr]? = some (.cells #[.int .i64 n, .int .i64 0, .int .i64 0, (.slice a1 n1 c1)] 27 (0, 0)) ∧ Lp p pr n 27 w (w9.setCell ⟨pr, 3, none⟩ v') v' (.slice a2 n2 c2) (.slice a3 Wk.length c3) (L1 ++ Lx) L2 Wk ∧ CpsAt (fun b => wo.heap.size ≤ b ∧ b < w1.heap.size) (w9.setCell ⟨pr, 3, none⟩ v') u2 (entN y) ∧ (∀ b, wo.heap.size ≤ b ∧ b < w1.heap.size → Ofs (pr + 1) v' (.slice a2 n2 c2) b) ∧ pr + 1 ≤ (w9.setCell ⟨pr, 3, none⟩ v').heap.size ∧ Lx.length ≤ 2 ∧ (E = 0 → (L1 ++ Lx).map (·.c) ++ mkO (without Wk y.cl.id) (l.drop (k + 1)) = OO)) := fun w1 w9 v' Lx u2 hb hs hm ho hg hv hu => by
   obtain ⟨e1, e2⟩ := (HP.out.grw hb).app1 (fun x hx => (hs x hx).move (moves_weak w1 fun b _ k => ofs_new HP.out b k)) ho hg hv
   refine ⟨e1, e2, HP.out.keepR hg hu, fun b hb' => HP.out.offs hv b hb', e2.sz, ?_, fun h0 => ?_⟩
   ·have := HEL1.out; rw [← hm, List.length_map] at this; exact this
   ·rw [List.map_append, hm]; exact HS2.out h0
  have HA2 : Hid (∀ (w1 w9 w10 : World) (v' v2' : Value) (Lx Ly : List Cx), Lp p pr n 27 w w9 v' (.slice a2 n2 c2) (.slice a3 Wk.length c3) (L1 ++ Lx) L2 Wk → (∀ b, wo.heap.size ≤ b ∧ b < w1.heap.size → Ofs (pr + 1) v' (.slice a2 n2 c2) b) → (∀ y ∈ Ly, SvsAt (fun b => wo.heap.size ≤ b ∧ b < w1.heap.size) w9 y.m y.c.svs) → Ly.map (·.c) = entN y → OwnC (pr + 1) w10 v2' (L2 ++ Ly) → w9.grownBy w10 (Value.slice a2 n2 c2).ownBlock → (v2'.ownBlock = (Value.slice a2 n2 c2).ownBlock ∨ v2'.ownBlock = some w9.heap.size) →
    Lp p pr n 27 w w10 v' v2' (.slice a3 Wk.length c3) (L1 ++ Lx) (L2 ++ Ly) Wk ∧ Ly.length ≤ 1 ∧ (E = 0 → (L2 ++ Ly).map (·.c) ++ mkN (l.drop (k + 1)) = NN) ∧ EnCells w10 b (o + k * 10) y (.slice al nl cl) (.slice ao no co) ∧ Calls Try.prog 29 #[(.slice a3 Wk.length c3), .string (mk y.cl.id)] w10 fun e w' => ∃ (s3 : Option Addr) (d3 : Nat), e = .returned (.slice s3 (without Wk y.cl.id).length d3) ∧ Lp p pr n 27 w w' v' v2' (.slice s3 (without Wk y.cl.id).length d3) (L1 ++ Lx) (L2 ++ Ly) (without Wk y.cl.id)) := fun w1 w9 w10 v' v2' Lx Ly h hO hs hm ho hg hv => by
   have e2 := h.app2 (B := 0) (fun x hx => (hs x hx).move (moves_weak w9 fun b _ k => hO b k)) ho hg hv
   refine ⟨e2, ?_, fun h0 => ?_, (HEC.out w10 e2.low).1, (rwithout_any (Kw pr v' v2') Wk y.cl.id (.slice a3 Wk.length c3) w10 e2.was (kw_new e2) hWk).mono fun e w' he => ?_⟩
   ·have := HEL2.out; rw [← hm, List.length_map] at this; exact this
   ·rw [List.map_append, hm]; exact HS3.out h0
   ·obtain ⟨⟨u, rfl, hu⟩, hb⟩ := he
    obtain ⟨s3, d3, rfl, -, -⟩ := hu.form
    exact ⟨s3, d3, rfl, (e2.grw hb).told hu⟩
  have HW2 : Hid (∀ x ∈ without Wk y.cl.id, CpOk x ∧ checkE x = 0) := fun x hx => HW.out x (without_mem hx)
  have hWl := without_le Wk y.cl.id
  have hlw : (without Wk y.cl.id).length ≤ 1000 := by omega
  obtain ⟨c0, c1', c2', c3', c4, c5, c6, c7, c8, c9⟩ := (HEC.out wo HP.out.low).1
  clear hs1 hs2 hs3 HST HW HONE HP HEC HEL1 HEL2 HNUM HSU HQ HQN HNy HZy HSy hey hEb hWl
  go_wp2_with (first
   | (go_at_call 28; refine HONE2.out.mono ?_; rintro e w1 ⟨⟨s1, m1, d1, s2, m2, d2, rfl, ho1, ho2⟩, hb1⟩; obtain ⟨hp1, hx1, hs1⟩ := HP1K.out w1 hb1; have HP1 := Lib.hid hp1; have HX1 := Lib.hid hx1; have HS1' := Lib.hid hs1; have HO1 := Lib.hid ho1; have HO2 := Lib.hid ho2; have HB1 := Lib.hid hb1; clear hp1 hx1 hs1 ho1 ho2 hb1; clear c0 c1' c2' c3' c4 c5 c6 c7 c8 c9; obtain ⟨x0, x1, x2, x3⟩ := four HX1.out; obtain ⟨u0, u1, u2, u3⟩ := frz4 HX1.out)
   | (at_builtin; refine wpList_plain (by rfl) (fun K hK => ?_); refine wp_appR _ _ rfl (pr + 1) (.slice a2 n2 c2) L2 rfl HP9.out.two.o2 _ _ _ _ (entN y) rfl HU2.out (by omega) HLN.out HS9.out (fun v' w10 Ly hLy hsy ho hg hat => ?_); obtain ⟨r1, r2, r3, r4, r5⟩ := HA2.out w1 _ w10 _ v' Lx Ly HP9.out HOF.out hsy hLy ho hg hat; obtain ⟨b2, d4, hv', -, -⟩ := OwnC.form ho; have HP10 := Lib.hid r1; have HLy := Lib.hid r2; have HN10 := Lib.hid r3; have HW10 := Lib.hid r5; clear ho hg hat hsy hLy r1 r2 r3 r5; obtain ⟨c0, -, -, -, -, -, -, -, -, -⟩ := r4; generalize (L2 ++ Ly).length = nq2 at hv'; subst hv'; refine hK _ _ ?_; clear hK)
   | (at_builtin; refine wpList_plain (by rfl) (fun K hK => ?_); refine wp_appR _ _ rfl (pr + 1) (.slice a1 n1 c1) L1 rfl HP1.out.two.o1 _ _ _ _ (entO Wk y) rfl HO1.out (by omega) HLO.out HS1'.out (fun v' w9 Lx hLx hsx ho hg hat => ?_); obtain ⟨r1, r2, r3, r4, r5, r6, r7⟩ := HA1.out w1 w9 v' Lx _ HB1.out hsx hLx ho hg hat HO2.out; obtain ⟨b1, d5, hv', -, -⟩ := OwnC.form ho; have HP9 := Lib.hid r2; have HU2 := Lib.hid r3; have HOF := Lib.hid r4; have HS9 := Lib.hid r5; have HLx := Lib.hid r6; have HO9 := Lib.hid r7; have HX9 := Lib.hid r1; clear ho hg hat hsx hLx r1 r2 r3 r4 r5 r6 r7; clear x0 x1 x2 x3 u0 u1 u2 u3; obtain ⟨x0, x1, x2, x3⟩ := four HX9.out; obtain ⟨u0, u1, u2, u3⟩ := frz4 HX9.out; generalize (L1 ++ Lx).length = nq1 at hv'; subst hv'; refine hK _ _ ?_; clear hK)
   | (go_at_call 29; refine HW10.out.mono ?_; rintro e w11 ⟨s3, d3, rfl, hp11⟩; have HP11 := Lib.hid hp11; clear hp11))
  go_roundg (l.length - (k + 1))
  case measure => omega
  case rel => exact ⟨k + 1, _, _, s3, _, _, _, _, d3, L1 ++ Lx, L2 ++ Ly, without Wk y.cl.id, by omega, rfl, rfl, rfl, by go_num, by have := HLx.out; rw [List.length_append]; omega, by have := HLy.out; rw [List.length_append]; omega, hlw, HP11.out, HW2.out, HS1.out, HO9.out, HN10.out⟩
end Go.Proofs.Ytpfpjbeofogbgaa.Re
end
