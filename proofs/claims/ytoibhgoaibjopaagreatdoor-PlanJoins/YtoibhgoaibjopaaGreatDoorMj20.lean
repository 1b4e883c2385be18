/-
  Texts put together (merge.py): NRefInt, NFmt, NMon, PWr.
-/
import Derived.Deep.LoopGhost
import Derived.Lib.ItoaMem
import Derived.Below
import Derived.Deep.QuietTactic
import Derived.BigQuiet
import Derived.RegionTactic
import Derived.ChangeAlike
import Derived.Test.YtoibhgoaibjopaaGreatDoorMj15
import Derived.Test.YtoibhgoaibjopaaGreatDoorMj19
/-
  What the reference's Int answers, as a contract: for every int64. It lays a new byte each round: the world grows.
-/
section
namespace Go.Proofs.YtoibhgoaibjopaaGreatDoor.Nu
open Go.RowKit Go.Sort Go.Lib

theorem str_app (a b : List UInt8) : ((⟨a.toArray⟩ : ByteArray) ++ (⟨b.toArray⟩ : ByteArray)) = ⟨(a ++ b).toArray⟩ := by
  apply ByteArray.ext; simp
theorem str_cons (c : UInt8) (t : List UInt8) : ((⟨#[c]⟩ : ByteArray) ++ (⟨t.toArray⟩ : ByteArray)) = ⟨(c :: t).toArray⟩ := str_app [c] t
theorem str_list (t : List UInt8) : (⟨t.toArray⟩ : ByteArray).toList = t := by rw [Lib.toList_data]
theorem conv1 (W : World) (x : Int) (c : UInt8) (h : x = (c.toNat : Int)) : (convert 88 9 (.slice (some ⟨W.heap.size, 0, none⟩) 1 1)).run Tryz.prog (W.alloc (.cells #[.int .u8 x] 5)) = .ok (.string ⟨#[c]⟩) (W.alloc (.cells #[.int .u8 x] 5)) := by
  subst h
  exact run_convert_bytes_back (P := Tryz.prog) (W.alloc (.cells #[.int .u8 (c.toNat : Int)] 5)) 88 9 5 ⟨W.heap.size, 0, none⟩ 1 [c] Tryz.underlying88 Tryz.underlying5 Tryz.underlying9 (fun j hj => by
    have : j = 0 := by simpa using hj
    subst this
    rw [Lib.add_plain, World.cell?_alloc_new]
    rfl)
theorem grw_alloc (w : World) (o : Obj) : Grw w (w.alloc o) := (Below.refl _ _).alloc (Nat.le_refl _) _

def pre (k : Int) (t : List UInt8) : List UInt8 := if k = 0 ∧ t ≠ [] then t else decDigits k.natAbs ++ t
def ms (k : Int) (t : List UInt8) : Nat := k.natAbs + if t = [] then 1 else 0
theorem pre_len (k : Int) (t : List UInt8) (n : Int) (h : pre k t = decDigits n.natAbs) (h0 : -9223372036854775808 ≤ n) (h1 : n ≤ 9223372036854775807) : t.length ≤ 19 := by
  have hl := dec_len n.natAbs 19 (by omega) (by omega)
  rw [← h] at hl
  unfold pre at hl
  split at hl
  · exact hl
  · rw [List.length_append] at hl; omega
theorem pre_step (k k' : Int) (t : List UInt8) (c : UInt8) (hc : c = UInt8.ofNat (48 + k.natAbs % 10)) (hk : k'.natAbs = k.natAbs / 10) (h : k ≠ 0 ∨ t = []) : pre k' (c :: t) = pre k t ∧ ms k' (c :: t) < ms k t := by
  have e : pre k t = decDigits k.natAbs ++ t := by
    unfold pre
    rw [if_neg]
    rintro ⟨a, b⟩
    rcases h with h | h
    · exact h a
    · exact b h
  constructor
  · rw [e]
    by_cases hs : k.natAbs < 10
    · have : k' = 0 := by omega
      unfold pre
      rw [if_pos ⟨this, by simp⟩, dec_small _ hs, hc, Nat.mod_eq_of_lt hs]
      rfl
    · unfold pre
      rw [if_neg (by rintro ⟨a, _⟩; omega), dec_big _ hs, hk, ← hc, List.append_assoc]
      rfl
  · unfold ms
    rw [if_neg (by simp : ¬ (c :: t = []))]
    rcases h with h | h
    · split <;> omega
    · subst h; simp only [if_true]; omega
theorem ofn (u : Nat) : ((UInt8.ofNat (48 + u % 10)).toNat : Int) = 48 + (u : Int) % 10 := by rw [dg_toNat _ (by omega)]; omega

set_option maxHeartbeats 1000000 in
theorem rint_any (n : Int) (h0 : -9223372036854775808 ≤ n) (h1 : n ≤ 9223372036854775807) (w : World) :
    Calls Tryz.prog 60 #[.int .i64 n] w fun e w' => e = .returned (.string ⟨(Lib.itoa n).toArray⟩) ∧ Grw w w' := by
  go_enter Tryz.func60, Tryz.ntmps60
  go_wp2
  go_loopg [3, 4] (ms n []) (fun g s3 s4 wx => ∃ (k : Int) (t : List UInt8), s3 = .string ⟨t.toArray⟩ ∧ s4 = .int .i64 k ∧ -9223372036854775808 ≤ k ∧ k ≤ 9223372036854775807 ∧ g = ms k t ∧ Hid (pre k t = decDigits n.natAbs) ∧ Grw w wx)
  case atStart => exact ⟨n, [], rfl, rfl, h0, h1, rfl, by show pre n [] = _; simp [pre], grw_refl _⟩
  case round =>
    obtain ⟨k, t, rfl, rfl, hk0, hk1, rfl, HP, hw⟩ := hrel
    have ht := pre_len k t n HP.out h0 h1
    have hl := str_list t
    rcases Int.lt_trichotomy k 0 with hk | hk | hk
    · obtain ⟨c, hc⟩ : ∃ c, c = UInt8.ofNat (48 + k.natAbs % 10) := ⟨_, rfl⟩
      have hm := Int.tmod_nonneg (a := -k) 10 (by omega)
      have hm2 := Int.tmod_lt_of_pos (-k) (b := 10) (by omega)
      rw [Int.neg_tmod] at hm hm2
      have hq := Int.tdiv_eq_ediv_of_nonneg (a := -k) (b := 10) (by omega)
      rw [Int.neg_tdiv] at hq
      have hmq := Int.tmod_eq_emod_of_nonneg (a := -k) (b := 10) (by omega)
      rw [Int.neg_tmod] at hmq
      have hcn := ofn k.natAbs
      rw [← hc] at hcn
      obtain ⟨s1, s2⟩ := pre_step k (k.tdiv 10) t c hc (by omega) (Or.inl (by omega))
      have S1 := Lib.hid s1
      have S2 := Lib.hid s2
      have hqb : -9223372036854775808 ≤ k.tdiv 10 ∧ k.tdiv 10 ≤ 9223372036854775807 := by omega
      have hkb : (k != 0) = true := by simp; omega
      by_cases hz : k.tmod 10 < 0
      · have hcv := conv1 wr (48 + -(k.tmod 10)) c (by omega)
        clear hc hcn hq hmq s1 s2
        go_wp2
        go_roundg (ms (k.tdiv 10) (c :: t))
        case rel => exact ⟨k.tdiv 10, c :: t, by rw [← str_cons c t], rfl, hqb.1, hqb.2, rfl, by show pre _ _ = _; rw [S1.out]; exact HP.out, grw_trans hw (grw_alloc _ _)⟩
        all_goals exact S2.out
      · have hcv := conv1 wr (48 + k.tmod 10) c (by omega)
        clear hc hcn hq hmq s1 s2
        go_wp2
        go_roundg (ms (k.tdiv 10) (c :: t))
        case rel => exact ⟨k.tdiv 10, c :: t, by rw [← str_cons c t], rfl, hqb.1, hqb.2, rfl, by show pre _ _ = _; rw [S1.out]; exact HP.out, grw_trans hw (grw_alloc _ _)⟩
        all_goals exact S2.out
    · subst hk
      by_cases hte : t = []
      · subst hte
        have hcv := conv1 wr 48 48 (by rfl)
        obtain ⟨s1, s2⟩ := pre_step 0 0 [] 48 (by rfl) (by rfl) (Or.inr rfl)
        have S1 := Lib.hid s1
        have S2 := Lib.hid s2
        clear s1 s2
        go_wp2
        go_roundg (ms 0 [48])
        case rel => exact ⟨0, [48], by first | rfl | (simp; done) | decide, rfl, by omega, by omega, rfl, by show pre _ _ = _; rw [S1.out]; exact HP.out, grw_trans hw (grw_alloc _ _)⟩
        all_goals exact S2.out
      · have hpt : pre 0 t = t := by unfold pre; rw [if_pos ⟨rfl, hte⟩]
        have HQ := Lib.hid (hpt.symm.trans HP.out)
        clear hpt
        have hie : t.isEmpty = false := by cases t with
          | nil => exact absurd rfl hte
          | cons a t => rfl
        by_cases hn : n < 0
        · have H1 : Hid ((⟨(Lib.itoa n).toArray⟩ : ByteArray) = ⟨#[45]⟩ ++ ⟨t.toArray⟩) := by
            show _ = _
            rw [str_cons, HQ.out]
            unfold Lib.itoa
            rw [if_pos hn]
          go_wp2
          go_ret
          exact ⟨by rw [H1.out]; rfl, hw⟩
        · have H1 : Hid ((⟨(Lib.itoa n).toArray⟩ : ByteArray) = ⟨t.toArray⟩) := by
            show _ = _
            rw [HQ.out]
            unfold Lib.itoa
            rw [if_neg hn, show n.toNat = n.natAbs by omega]
          go_wp2
          go_ret
          exact ⟨by rw [H1.out]; rfl, hw⟩
    · obtain ⟨c, hc⟩ : ∃ c, c = UInt8.ofNat (48 + k.natAbs % 10) := ⟨_, rfl⟩
      have hcn := ofn k.natAbs
      rw [← hc] at hcn
      obtain ⟨s1, s2⟩ := pre_step k (k / 10) t c hc (by omega) (Or.inl (by omega))
      have S1 := Lib.hid s1
      have S2 := Lib.hid s2
      have hkb : (k != 0) = true := by simp; omega
      have hz : ¬ k % 10 < 0 := by omega
      have hcv := conv1 wr (48 + k % 10) c (by omega)
      clear hc hcn s1 s2
      go_wp2
      go_roundg (ms (k / 10) (c :: t))
      case rel => exact ⟨k / 10, c :: t, by rw [← str_cons c t], rfl, by omega, by omega, rfl, by show pre _ _ = _; rw [S1.out]; exact HP.out, grw_trans hw (grw_alloc _ _)⟩
      all_goals exact S2.out
end Go.Proofs.YtoibhgoaibjopaaGreatDoor.Nu
end

/-
  What strconv.FormatUint answers, as a contract: at base 10, for every uint64. (NOT YET BUILT in this form: taken over from wip/digits/NLib; look at its imports and at the types' names.)
-/
section
namespace Go.Proofs.YtoibhgoaibjopaaGreatDoor.Nu
open Go.RowKit Go.Sort Go.Lib

theorem holds_zero0 (w : World) (T : TypeId) (nd : Nat) (hs : nd ≤ 24) : Holds (fun (b : UInt8) => Value.int .u8 (b.toNat : Int)) (w.alloc (.cells zeros24 T)) w.heap.size 0 (Array.replicate nd (0 : UInt8)) := fun j hj => by
  have hj' : j < nd := by simpa using hj
  refine ⟨?_, World.frozen?_alloc_new _ _ _ _⟩
  rw [World.cell?_alloc_new, zeros24_at _ (by omega), getElem!_pos _ j hj]
  simp
theorem fin_pos0 (w : World) (o : Obj) (dk : Array UInt8) (k : Nat) : Grw w ((putRow (fun (b : UInt8) => Value.int .u8 (b.toNat : Int)) (w.alloc o) w.heap.size 0 dk).drewN k) := by
  rw [alloc_eq_grow]
  obtain ⟨os', _, e⟩ := putRow_grow_new (fun (b : UInt8) => Value.int .u8 (b.toNat : Int)) w #[o] w.heap.size 0 dk (Nat.le_refl _)
  rw [e]
  exact grw_grow w k os'

set_option maxHeartbeats 6400000 in
set_option maxRecDepth 100000 in
theorem formatUint_in (u : Nat) (hu64 : u < 18446744073709551616) (w : World) (htab : Tab w) :
    Calls Tryz.prog 72 #[.int .u64 u, .int .i64 10] w fun e w' => e = .returned (.string ⟨(Lib.decDigits u).toArray⟩) ∧ Grw w w' := by
  by_cases hs : u < 100
  · go_enter Tryz.func72, Tryz.ntmps72
    go_wp2_with (go_at_call 86; refine (Tryz.internal_strconv_small u hs _).mono ?_; rintro e w' ⟨rfl, rfl⟩)
    go_ret
    exact ⟨rfl, grw_refl _⟩
  · have hu1 : 1 ≤ u := by omega
    have hnd20 : Lib.nDigits u ≤ 20 := by have := Lib.numDigits_eq u hu1 hu64; split at this <;> omega
    have hal : Tryz.prog.arrayLen 119 = 24 := by kernel_rfl
    have hsl1 : ∀ W, (Instr.sliceAt 119 (.pointer (some ⟨w.heap.size, 0, none⟩)) none (some (.int .i64 (Lib.nDigits u : Int))) none).run Tryz.prog W = .ok (.slice (some ⟨w.heap.size, 0, none⟩) (Lib.nDigits u) 24) W := fun W => by
      rw [run_sliceAt_array_h W 119 ⟨w.heap.size, 0, none⟩ (by kernel_rfl) .i64 (Lib.nDigits u : Int) (by omega) (by rw [hal]; omega)]
      go_simp
    have hH0 := holds_zero0 w 119 (Lib.nDigits u) (by omega)
    have hfmt := Tryz.internal_strconv_formatBase10 w.heap.size 0 24 u (Array.replicate (Lib.nDigits u) 0) (w.alloc (.cells Lib.zeros24 119)) hH0 (by rw [Array.size_replicate]; exact Lib.lt_pow_nDigits u) hu64 (by rw [Array.size_replicate]; omega)
    rw [Array.size_replicate] at hfmt
    have HH0 := Lib.hid hH0
    clear hH0 hal
    go_enter Tryz.func72, Tryz.ntmps72
    go_wp2_with (first
      | (go_at_call 87; refine (Tryz.internal_strconv_numDigits u hu1 hu64 _ (Lib.tabIs_alloc htab _)).mono ?_; rintro e w' ⟨rfl, rfl⟩))
    go_at_call 88
    refine hfmt.mono ?_
    rintro e w' ⟨rfl, k, v', dk, rfl, hF⟩
    have hcv : (convert 88 9 (.slice (some ⟨w.heap.size, 0, none⟩) (Lib.nDigits u) 24)).run Tryz.prog ((putRow (fun (b : UInt8) => Value.int .u8 (b.toNat : Int)) (w.alloc (.cells Lib.zeros24 119)) w.heap.size 0 dk).drewN k) = .ok (.string ⟨(Lib.decDigits u).toArray⟩) ((putRow (fun (b : UInt8) => Value.int .u8 (b.toNat : Int)) (w.alloc (.cells Lib.zeros24 119)) w.heap.size 0 dk).drewN k) := by
      have h := run_convert_bytes_back (P := Tryz.prog) ((putRow (fun (b : UInt8) => Value.int .u8 (b.toNat : Int)) (w.alloc (.cells Lib.zeros24 119)) w.heap.size 0 dk).drewN k) 88 9 5 ⟨w.heap.size, 0, none⟩ 24 (Lib.decDigits u) Tryz.underlying88 Tryz.underlying5 Tryz.underlying9 (fun j hj => by
        rw [Lib.row_is_numeral hF j hj, Lib.add_plain, World.cell?_drewN]
        exact cell?_putRow (fun (b : UInt8) => Value.int .u8 (b.toNat : Int)) _ w.heap.size 0 _ dk HH0.out (by rw [hF.size, Array.size_replicate]) j (by rw [hF.size]; rw [Lib.decDigits_length] at hj; exact hj))
      rw [Lib.decDigits_length] at h
      exact h
    go_wp2
    go_ret
    exact ⟨rfl, fin_pos0 w (.cells Lib.zeros24 119) dk k⟩

theorem formatUint_any (u : Nat) (hu64 : u < 18446744073709551616) (w : World) (htab : Tab w) :
    Calls Tryz.prog 53 #[.int .u64 u, .int .i64 10] w fun e w' => e = .returned (.string ⟨(Lib.decDigits u).toArray⟩) ∧ Grw w w' := by
  go_enter Tryz.func53, Tryz.ntmps53
  go_wp2_with (go_at_call 72; refine (formatUint_in u hu64 _ htab).mono ?_; rintro e w1 ⟨rfl, g1⟩)
  go_ret
  exact ⟨rfl, g1⟩
end Go.Proofs.YtoibhgoaibjopaaGreatDoor.Nu
end

/-
  What digits.Money answers, as a contract: for every int64.
-/
section
namespace Go.Proofs.YtoibhgoaibjopaaGreatDoor.Nu
open Go.RowKit Go.Sort Go.Lib

theorem formatUint_int (v : Int) (u : Nat) (h : v = (u : Int)) (hu : u < 18446744073709551616) (w : World) (hT : Tab w) (l : List UInt8) (hl : decDigits u = l) :
    Calls Tryz.prog 53 #[.int .u64 v, .int .i64 10] w fun e w' => e = .returned (.string ⟨l.toArray⟩) ∧ Grw w w' := by
  subst h; subst hl
  exact formatUint_any u hu w hT
theorem cents_one (u : Nat) (h : u % 100 < 10) : ∃ c, decDigits (u % 100) = [c] ∧ two u = [48, c] := by
  refine ⟨_, dec_small _ h, ?_⟩
  unfold two
  rw [show u / 10 % 10 = 0 by omega, show u % 10 = u % 100 by omega]
  rfl
theorem cents_two (u : Nat) (h : ¬ u % 100 < 10) : ∃ c d, decDigits (u % 100) = [c, d] ∧ two u = [c, d] := by
  refine ⟨UInt8.ofNat (48 + u % 100 / 10), UInt8.ofNat (48 + u % 100 % 10), Lib.decDigits_two h (by omega), ?_⟩
  unfold two
  rw [show u / 10 % 10 = u % 100 / 10 by omega, show u % 10 = u % 100 % 10 by omega]
theorem money_pos (u : Nat) (D t : List UInt8) (hD : decDigits (u / 100) = D) (ht : two u = t) : moneyL (u : Int) = D ++ 46 :: t := by
  unfold moneyL moneyU
  rw [if_neg (by omega), List.nil_append, show ((u : Int)).natAbs = u by omega, hD, ht]
theorem money_neg (u : Nat) (h : 1 ≤ u) (D t : List UInt8) (hD : decDigits (u / 100) = D) (ht : two u = t) : moneyL (-(u : Int)) = 45 :: (D ++ 46 :: t) := by
  unfold moneyL moneyU
  rw [if_pos (by omega), show (-(u : Int)).natAbs = u by omega, hD, ht]
  rfl

set_option maxHeartbeats 2000000 in
theorem money_any (a : Int) (h0 : -9223372036854775808 ≤ a) (h1 : a ≤ 9223372036854775807) (w : World) (hT : Tab w) :
    Calls Tryz.prog 30 #[.int .i64 a] w fun e w' => e = .returned (.string ⟨(moneyL a).toArray⟩) ∧ Grw w w' := by
  have hw : Grw w w := grw_refl w
  by_cases hn : a < 0
  · obtain ⟨u, rfl⟩ : ∃ u : Nat, a = -(u : Int) := ⟨a.natAbs, by omega⟩
    have hu1 : 1 ≤ u := by omega
    have hu : u < 18446744073709551616 := by omega
    have hwr : IntKind.u64.wrap (-IntKind.u64.wrap (-(u : Int))) = (u : Int) := by rw [IntKind.wrap_u64, IntKind.wrap_u64]; omega
    obtain ⟨D, hD⟩ : ∃ D, Hid (decDigits (u / 100) = D) := ⟨_, rfl⟩
    have hDl : D.length ≤ 20 := by rw [← hD.out]; exact dec_len _ 20 (by omega) (by omega)
    by_cases hc : u % 100 < 10
    · obtain ⟨c, ec, et⟩ := cents_one u hc
      have H : Hid ((⟨(moneyL (-(u : Int))).toArray⟩ : ByteArray) = ⟨#[45]⟩ ++ ⟨D.toArray⟩ ++ ⟨#[46]⟩ ++ (⟨#[48]⟩ ++ ⟨[c].toArray⟩)) := by
        show _ = _
        rw [money_neg u hu1 D _ hD.out et]
        apply ByteArray.ext; simp
      have EC := Lib.hid ec
      clear ec et
      go_enter Tryz.func30, Tryz.ntmps30
      go_wp2_with (first | (go_at_call 53; refine (formatUint_int _ (u % 100) (by omega) (by omega) _ hT _ EC.out).mono ?_; rintro e w1 ⟨rfl, g1⟩; replace hw := grw_trans hw g1; replace hT := tab_grw hT g1; clear g1 EC) | (go_at_call 53; refine (formatUint_int _ (u / 100) (by omega) (by omega) _ hT _ hD.out).mono ?_; rintro e w1 ⟨rfl, g1⟩; replace hw := grw_trans hw g1; replace hT := tab_grw hT g1; clear g1))
      go_ret
      exact ⟨by rw [H.out]; first | rfl | simp, hw⟩
    · obtain ⟨c, d, ec, et⟩ := cents_two u hc
      have H : Hid ((⟨(moneyL (-(u : Int))).toArray⟩ : ByteArray) = ⟨#[45]⟩ ++ ⟨D.toArray⟩ ++ ⟨#[46]⟩ ++ ⟨[c, d].toArray⟩) := by
        show _ = _
        rw [money_neg u hu1 D _ hD.out et]
        apply ByteArray.ext; simp
      have EC := Lib.hid ec
      clear ec et
      go_enter Tryz.func30, Tryz.ntmps30
      go_wp2_with (first | (go_at_call 53; refine (formatUint_int _ (u % 100) (by omega) (by omega) _ hT _ EC.out).mono ?_; rintro e w1 ⟨rfl, g1⟩; replace hw := grw_trans hw g1; replace hT := tab_grw hT g1; clear g1 EC) | (go_at_call 53; refine (formatUint_int _ (u / 100) (by omega) (by omega) _ hT _ hD.out).mono ?_; rintro e w1 ⟨rfl, g1⟩; replace hw := grw_trans hw g1; replace hT := tab_grw hT g1; clear g1))
      go_ret
      exact ⟨by rw [H.out]; first | rfl | simp, hw⟩
  · obtain ⟨u, rfl⟩ : ∃ u : Nat, a = (u : Int) := ⟨a.natAbs, by omega⟩
    have hu : u < 18446744073709551616 := by omega
    obtain ⟨D, hD⟩ : ∃ D, Hid (decDigits (u / 100) = D) := ⟨_, rfl⟩
    have hDl : D.length ≤ 20 := by rw [← hD.out]; exact dec_len _ 20 (by omega) (by omega)
    by_cases hc : u % 100 < 10
    · obtain ⟨c, ec, et⟩ := cents_one u hc
      have H : Hid ((⟨(moneyL (u : Int)).toArray⟩ : ByteArray) = ⟨#[]⟩ ++ ⟨D.toArray⟩ ++ ⟨#[46]⟩ ++ (⟨#[48]⟩ ++ ⟨[c].toArray⟩)) := by
        show _ = _
        rw [money_pos u D _ hD.out et]
        apply ByteArray.ext; simp
      have EC := Lib.hid ec
      clear ec et
      go_enter Tryz.func30, Tryz.ntmps30
      go_wp2_with (first | (go_at_call 53; refine (formatUint_int _ (u % 100) (by omega) (by omega) _ hT _ EC.out).mono ?_; rintro e w1 ⟨rfl, g1⟩; replace hw := grw_trans hw g1; replace hT := tab_grw hT g1; clear g1 EC) | (go_at_call 53; refine (formatUint_int _ (u / 100) (by omega) (by omega) _ hT _ hD.out).mono ?_; rintro e w1 ⟨rfl, g1⟩; replace hw := grw_trans hw g1; replace hT := tab_grw hT g1; clear g1))
      go_ret
      exact ⟨by rw [H.out]; first | rfl | simp, hw⟩
    · obtain ⟨c, d, ec, et⟩ := cents_two u hc
      have H : Hid ((⟨(moneyL (u : Int)).toArray⟩ : ByteArray) = ⟨#[]⟩ ++ ⟨D.toArray⟩ ++ ⟨#[46]⟩ ++ ⟨[c, d].toArray⟩) := by
        show _ = _
        rw [money_pos u D _ hD.out et]
        apply ByteArray.ext; simp
      have EC := Lib.hid ec
      clear ec et
      go_enter Tryz.func30, Tryz.ntmps30
      go_wp2_with (first | (go_at_call 53; refine (formatUint_int _ (u % 100) (by omega) (by omega) _ hT _ EC.out).mono ?_; rintro e w1 ⟨rfl, g1⟩; replace hw := grw_trans hw g1; replace hT := tab_grw hT g1; clear g1 EC) | (go_at_call 53; refine (formatUint_int _ (u / 100) (by omega) (by omega) _ hT _ hD.out).mono ?_; rintro e w1 ⟨rfl, g1⟩; replace hw := grw_trans hw g1; replace hT := tab_grw hT g1; clear g1))
      go_ret
      exact ⟨by rw [H.out]; first | rfl | simp, hw⟩
end Go.Proofs.YtoibhgoaibjopaaGreatDoor.Nu
end

/-
  What the writer's add does, as a contract: where the text does not grow too long.
-/
section
set_option linter.unusedSimpArgs false
set_option linter.unusedVariables false
set_option maxRecDepth 100000
namespace Go.Proofs.YtoibhgoaibjopaaGreatDoor.Pl
open Go.RowKit
open Wo (Wd WdsAt box_cell box_two keepB heap_far)

theorem w64 (n : Int) (h0 : -9223372036854775808 ≤ n) (h1 : n ≤ 9223372036854775807) : wrap64 n = n := by unfold wrap64; omega
abbrev strs (ts : List Tx) : List Value := ts.map fun t => .string (mk t)
/-- The writer in its box: the words, and how many bytes they take with a blank behind each. -/
def WrAt (q : Nat) (ws : List Tx) (w : World) : Prop := ∃ v, w.heap[q]? = some (.cells #[v, .int .i64 (szW ws : Nat)] 46 (0, 0)) ∧ w.ownsRow (q + 1) 9 1 v ws.length (strs ws)
/-- What the writer leaves as it was. -/
def KeptW (q : Nat) (w w' : World) : Prop := Below q w w' ∧ w.heap.size ≤ w'.heap.size ∧ ∀ (k : Nat) (cs : Array Value) (T : TypeId), q < k → T ≠ 9 → w.heap[k]? = some (.cells cs T (0, 0)) → w'.heap[k]? = some (.cells cs T (0, 0))
theorem KeptW.refl (q : Nat) (w : World) : KeptW q w w := ⟨Below.refl _ _, Nat.le_refl _, fun _ _ _ _ _ h => h⟩
theorem KeptW.trans {q : Nat} {a b c : World} (h : KeptW q a b) (k : KeptW q b c) : KeptW q a c := ⟨h.1.trans k.1, Nat.le_trans h.2.1 k.2.1, fun i cs T hi hT hh => k.2.2 i cs T hi hT (h.2.2 i cs T hi hT hh)⟩
theorem KeptW.of {q : Nat} {w w' : World} (hb : Below w.heap.size w w') (hq : q < w.heap.size) : KeptW q w w' := ⟨hb.mono (Nat.le_of_lt hq), hb.size, fun i cs T _ _ hh => keepB hh hb⟩
theorem WrAt.lt {q : Nat} {ws : List Tx} {w : World} (h : WrAt q ws w) : q < w.heap.size := by obtain ⟨v, h, -⟩ := h; exact (Array.getElem?_eq_some_iff.1 h).1
theorem WrAt.grw {q : Nat} {ws : List Tx} {w w' : World} (h : WrAt q ws w) (hb : Below w.heap.size w w') : WrAt q ws w' := by
  obtain ⟨v, h1, h2⟩ := h
  exact ⟨v, keepB h1 hb, h2.kept (grown_of (p := none) hb) (by cases v.ownBlock <;> simp)⟩
theorem infoT : ∃ i, Tryz.prog.info? 9 = some i ∧ i.zero = some (.string ByteArray.empty) ∧ i.size = 1 ∧ i.bytes = 16 := by
  have hi : (Tryz.prog.info? 9).map (fun i => (i.zero, i.size, i.bytes)) = some (some (.string ByteArray.empty), 1, 16) := by kernel_rfl
  cases hq : Tryz.prog.info? 9 with
  | none => rw [hq] at hi; cases hi
  | some i =>
    rw [hq] at hi
    simp only [Option.map_some, Option.some.injEq, Prod.mk.injEq] at hi
    exact ⟨i, rfl, hi⟩
theorem sz_len (ws : List Tx) : ws.length ≤ szW ws := by
  induction ws with
  | nil => simp [szW]
  | cons x r ih => rw [sz_cons, List.length_cons]; omega
theorem sz_take (ts : List Tx) (n : Nat) (t : Tx) (h : ts[n]? = some t) : szW (ts.take (n + 1)) = szW (ts.take n) + (t.length + 1) := by
  rw [List.take_add_one, h, sz_app]; rfl
theorem sz_take_le (ts : List Tx) (n : Nat) : szW (ts.take n) ≤ szW ts := by
  conv => rhs; rw [← List.take_append_drop n ts, sz_app]
  omega
set_option maxHeartbeats 16000000 in
theorem add_any (q : Nat) (ws ts : List Tx) (tv : Value) (w : World) (h : WrAt q ws w) (ht : TxAt (fun b => b ≠ q) w tv ts) (hne : ts ≠ []) (hsz : szW ws + szW ts ≤ 65537) :
    Calls Tryz.prog 29 #[.pointer (some ⟨q, 0, none⟩), tv] w fun e w' => e = .returned (.tuple #[]) ∧ WrAt q (ws ++ ts) w' ∧ KeptW q w w' := by
  have hq := h.lt
  obtain ⟨lv, hbq, hown⟩ := h
  obtain ⟨iT, j1, j2, j3, j4⟩ := infoT
  obtain ⟨la, lc, rfl, hl1, hl2⟩ := own_form hown
  have hpos : 0 < ts.length := List.length_pos_iff.2 hne
  have HT := Lib.hid ht
  obtain ⟨ta, tc, rfl, ht1, ht2, -⟩ := ht
  unfold maxLen at ht2
  have HW := Lib.hid hown
  have HQ := Lib.hid hbq
  have hwl := sz_len ws
  have htl := sz_len ts
  have HG0 := Lib.hid (grown_of (p := some q) (Below.refl w.heap.size w))
  have HN := Lib.hid hne
  clear hbq hown hne
  go_enter Tryz.func29, Tryz.ntmps29
  go_wp2
  go_loopg [8] (ts.length) (fun g i wr => ∃ n : Nat, n ≤ ts.length ∧ g = ts.length - n ∧ i = .int .i64 n ∧ Hid (wr.heap[q]? = some (.cells #[.slice la ws.length lc, .int .i64 (szW ws + szW (ts.take n) : Nat)] 46 (0, 0))) ∧ Hid (w.grownBy wr (some q)))
  case atStart => exact ⟨0, Nat.zero_le _, rfl, rfl, HQ.out, HG0.out⟩
  case round =>
    clear HG0 HQ
    obtain ⟨n, hn, hgk, rfl, HQr, HGr⟩ := hrel
    obtain ⟨c0, c1, f0, f1⟩ := box_two HQr.out
    by_cases hlt : n < ts.length
    · obtain ⟨b, o, rfl, hx, hu⟩ : ∃ b o, ta = some ⟨b, o, none⟩ ∧ ts[n]? = some ts[n] ∧ wr.cell? ⟨b, o + n, none⟩ = some (.string (mk ts[n])) := by
        obtain ⟨a', c', he, _, _, h3⟩ := TxAt.rd HT.out HGr.out
        injection he with e1 e2 e3
        subst e1
        rcases h3 with h | ⟨b, o, ha, _, hb, hc⟩
        · exact absurd h HN.out
        · have hx := List.getElem?_eq_getElem hlt
          obtain ⟨u, q1, rfl⟩ := hc n _ hx
          exact ⟨b, o, ha, hx, q1⟩
      have hst := sz_take ts n _ hx
      have hsl := sz_take_le ts (n + 1)
      have hms := mk_size ts[n]
      have HST := Lib.hid hst
      clear hx
      generalize ts[n] = t at *
      generalize hye : szW (ts.take n) = y at *
      generalize hxe : szW ws = x at *
      have HV : Hid (((x + szW (ts.take (n + 1)) : Nat) : Int) = wrap64 ((x : Int) + (y : Int) + wrap64 ((t.length : Int) + 1))) := by
        show _ = _
        rw [HST.out, w64 ((t.length : Int) + 1) (by omega) (by omega), w64 _ (by omega) (by omega)]
        omega
      have HQ2 := Lib.hid (heap_setCell_same wr q 1 _ _ (.int .i64 (wrap64 ((x : Int) + (y : Int) + wrap64 ((t.length : Int) + 1)))) HQr.out)
      have HG2 := Lib.hid (grown_set HGr.out 1 (.int .i64 (wrap64 ((x : Int) + (y : Int) + wrap64 ((t.length : Int) + 1)))))
      clear hst HQr hye hxe HST hsl
      go_wp2
      go_roundg (ts.length - (n + 1))
      case rel => exact ⟨n + 1, by omega, rfl, by go_num, by rw [HV.out]; exact HQ2.out, HG2.out⟩
      case measure => omega
    · have hall : ts.take n = ts := List.take_of_length_le (by omega)
      rw [hall] at HQr c1
      clear hall
      have hrow := TxAt.rd HT.out HGr.out
      obtain ⟨b, o, rfl, HNw⟩ : ∃ b o, ta = some ⟨b, o, none⟩ ∧ Hid (∀ (j : Nat) u, (strs ts)[j]? = some u → wr.cell? ((⟨b, o, none⟩ : Addr).add j) = some u) := by
        obtain ⟨a', c', he, _, _, h3⟩ := hrow
        injection he with e1 e2 e3
        subst e1
        rcases h3 with h | ⟨b, o, ha, _, hb, hc⟩
        · exact absurd h HN.out
        · refine ⟨b, o, ha, fun j u hu => ?_⟩
          rw [List.getElem?_map] at hu
          cases hj : ts[j]? with
          | none => rw [hj] at hu; cases hu
          | some t =>
            rw [hj] at hu
            obtain rfl := Option.some.inj hu
            obtain ⟨u, q1, rfl⟩ := hc j _ hj
            have ea : (⟨b, o, none⟩ : Addr).add j = ⟨b, o + j, none⟩ := by unfold Addr.add; split <;> simp_all
            rw [ea]; exact q1
      have HO := Lib.hid (own_rd HW.out HGr.out (Nat.lt_succ_self q))
      have HON : Hid (∀ z ∈ strs ts, z.oneCell' = true) := fun z hz => by obtain ⟨t, _, rfl⟩ := List.mem_map.1 hz; rfl
      have HLN : Hid (ws.length + ts.length ≤ maxLen) := by show _ ≤ _; simp only [maxLen]; omega
      have HLB : Hid ((ws.length + ts.length) * 16 ≤ 140737488355328) := by show _ ≤ _; omega
      have HLL : Hid ((strs ts).length = ts.length * 1) := by show _ = _; simp
      have hsub : wrap64 (((szW ws + szW ts : Nat) : Int) - 1) = ((szW ws + szW ts : Nat) : Int) - 1 := w64 _ (by omega) (by omega)
      have hns : ¬ (65536 : Int) < ((szW ws + szW ts : Nat) : Int) - 1 := by omega
      have hgs := HGr.out.size
      clear hrow HT
      generalize hxy : szW ws + szW ts = xy at *
      go_wp2_with (at_builtin; refine wpList_append_own_at _ (by rfl) _ _ 44 (by rfl) (q + 1) 9 iT (.string ByteArray.empty) 1 16 Tryz.underlying44 j1 j2 j3 j4 (by rfl) (by omega) (.slice la ws.length lc) ws.length (strs ws) (by rfl) HO.out ⟨b, o, none⟩ ts.length tc (strs ts) (by rfl) HLL.out HNw.out HON.out HLN.out HLB.out (by omega) ?_)
      intro v6 w6 hown6 hgrow hnil hat
      obtain ⟨sa2, sc2, rfl, -, -⟩ := own_form hown6
      have hrow : ∀ k, (Value.slice la ws.length lc).ownBlock = some k → q < k := fun k hk => (HO.out.lt k hk).1
      have hq6 : w6.heap[q]? = some (.cells #[.slice la ws.length lc, .int .i64 (xy : Nat)] 46 (0, 0)) := by
        rw [hgrow.block q (Nat.lt_of_lt_of_le hq hgs) (fun e => Nat.lt_irrefl _ (hrow q e.symm))]; exact HQr.out
      obtain ⟨s0, s1, s2, s3⟩ := box_two hq6
      have HF : Hid (WrAt q (ws ++ ts) (w6.setCell ⟨q, 0, none⟩ (.slice sa2 (ws.length + ts.length) sc2)) ∧ KeptW q w (w6.setCell ⟨q, 0, none⟩ (.slice sa2 (ws.length + ts.length) sc2))) := by
        have hs6 := hgrow.size
        have hset : w6.grownBy (w6.setCell ⟨q, 0, none⟩ (.slice sa2 (ws.length + ts.length) sc2)) (some q) := grown_set (grown_of (Below.refl _ w6)) 0 _
        refine ⟨⟨.slice sa2 (ws.length + ts.length) sc2, ?_, ?_⟩, ⟨?_, ?_, ?_⟩⟩
        · rw [sz_app, hxy]
          exact heap_setCell_same w6 q 0 _ _ _ hq6
        · have hk := hown6.kept hset (by
            cases hv : (Value.slice sa2 (ws.length + ts.length) sc2).ownBlock with
            | none => exact Or.inl rfl
            | some k => exact Or.inr fun e => by have := (hown6.lt k hv).1; have : k = q := Option.some.inj e; omega)
          have e1 : strs (ws ++ ts) = strs ws ++ strs ts := by simp [strs]
          rw [e1, List.length_append]
          exact hk
        · refine ((Below.refl q w).trans ⟨HGr.out.os, HGr.out.tape, HGr.out.output, HGr.out.size, fun k hk => HGr.out.block k (by omega) (fun e => by have := Option.some.inj e; omega)⟩).trans ?_
          exact (⟨hgrow.os, hgrow.tape, hgrow.output, hgrow.size, fun k hk => hgrow.block k (by omega) (fun e => by have := hrow k e.symm; omega)⟩ : Below q wr w6).setCell (p := ⟨q, 0, none⟩) (Nat.le_refl _) _
        · have : (w6.setCell ⟨q, 0, none⟩ (.slice sa2 (ws.length + ts.length) sc2)).heap.size = w6.heap.size := by simp [World.setCell]
          omega
        · intro k cs T hk hT hh
          have h1 : wr.heap[k]? = some (.cells cs T (0, 0)) := grown_heap hh HGr.out (by omega)
          have h2 : w6.heap[k]? = some (.cells cs T (0, 0)) := Wo.kept_other h1 HO.out hT hgrow
          exact heap_far h2 (by omega)
      clear hown6 hgrow hnil hat hq6 hrow
      go_wp2
      go_end0
      exact ⟨rfl, HF.out.1, HF.out.2⟩
end Go.Proofs.YtoibhgoaibjopaaGreatDoor.Pl
end
