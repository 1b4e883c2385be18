/-
  Texts put together (merge.py): LCode, DRef, DRefB, CAdds, CRefs, ZRow, RInvB.
-/
import Derived.RowKit3
import Derived.Below
import Derived.WalkKit
import Derived.Test.YtmoldgmfhcmceaaDoorMb11
import Derived.Test.YtmoldgmfhcmceaaDoorMb10
import Derived.Test.YtmoldgmfhcmceaaDoorProg
import Derived.Test.YtmoldgmfhcmceaaDoorMb2
import Derived.Test.YtmoldgmfhcmceaaDoorMb13
import Derived.Test.YtmoldgmfhcmceaaDoorMb12
/-
  What claim.codeSign, Code, name, mods and the reference's Code answer, as contracts: for every text; the world stands.
-/
section
set_option linter.unusedSimpArgs false
namespace Go.Proofs.YtmoldgmfhcmceaaDoor.Cm
open Go.RowKit

theorem sign_any (c : UInt8) (w : World) :
    Calls Tryd.prog 76 #[.int .u8 c.toNat] w fun e w' => e = .returned (.bool (signB c)) ∧ w' = w := by
  unfold signB
  generalize c.toNat = n
  cases h1 : decide (65 ≤ n) <;> cases h2 : decide (n ≤ 90) <;> cases h3 : decide (48 ≤ n) <;> cases h4 : decide (n ≤ 57) <;>
  · simp only [decide_eq_true_eq, decide_eq_false_iff_not] at h1 h2 h3 h4
    first
      | omega
      | (go_enter Tryd.func76, Tryd.ntmps76
         go_wp2
         go_ret
         exact ⟨by first | rfl | (simp; omega), rfl⟩)

theorem all_take {p : UInt8 → Bool} (s : Tx) (k : Nat) (c : UInt8) (h : s[k]? = some c) (hk : (s.take k).all p = true) (hc : p c = true) : (s.take (k + 1)).all p = true := by
  rw [List.take_add_one, h]; simp_all
theorem all_not {p : UInt8 → Bool} (s : Tx) (k : Nat) (c : UInt8) (h : s[k]? = some c) (hc : p c = false) : s.all p = false := by
  rw [List.all_eq_false]
  exact ⟨c, List.mem_of_getElem? h, by simp [hc]⟩
theorem code_short (s : Tx) (f t : Int) (h : (s.length : Int) < f) : codeB s f t = false := by unfold codeB; rw [decide_eq_false (by omega)]; simp
theorem code_long (s : Tx) (f t : Int) (h : t < (s.length : Int)) : codeB s f t = false := by unfold codeB; rw [decide_eq_false (p := (s.length : Int) ≤ t) (by omega)]; simp
theorem code_in (s : Tx) (f t : Int) (h1 : f ≤ (s.length : Int)) (h2 : (s.length : Int) ≤ t) : codeB s f t = s.all signB := by unfold codeB; rw [decide_eq_true h1, decide_eq_true h2]; simp
theorem mk_at (s : Tx) (k : Nat) (hk : k < (mk s).size) : s[k]? = some (mk s)[k] := by
  have hl : k < s.length := by rw [← mk_size]; exact hk
  rw [List.getElem?_eq_getElem hl]
  rfl

set_option maxHeartbeats 1000000 in
theorem code_any (s : Tx) (f t : Int) (w : World) (hs : s.length ≤ 9223372036854775807) :
    Calls Tryd.prog 62 #[.string (mk s), .int .i64 f, .int .i64 t] w fun e w' => e = .returned (.bool (codeB s f t)) ∧ w' = w := by
  have hz := mk_size s
  have HS := Lib.hid hs
  have HAT := Lib.hid (mk_at s)
  have HSH := Lib.hid (code_short s f t)
  have HLO := Lib.hid (code_long s f t)
  have HIN := Lib.hid (code_in s f t)
  generalize codeB s f t = R at *
  rw [← hz] at hs HSH HLO HIN
  have HZ := Lib.hid hz
  clear hz
  generalize mk s = X at *
  by_cases h1 : (X.size : Int) < f
  · rw [HSH.out h1]
    go_enter Tryd.func62, Tryd.ntmps62
    go_wp2
    go_ret
    exact ⟨rfl, rfl⟩
  by_cases h2 : t < (X.size : Int)
  · rw [HLO.out h2]
    go_enter Tryd.func62, Tryd.ntmps62
    go_wp2
    go_ret
    exact ⟨rfl, rfl⟩
  rw [HIN.out (by omega) (by omega)]
  go_enter Tryd.func62, Tryd.ntmps62
  go_wp2
  go_loopg [20] (X.size) (fun g i wr => ∃ k : Nat, k ≤ X.size ∧ g = X.size - k ∧ i = .int .i64 k ∧ wr = w ∧ Hid ((s.take k).all signB = true))
  case atStart => exact ⟨0, Nat.zero_le _, rfl, rfl, rfl, rfl⟩
  case round =>
    obtain ⟨k, hk, hg, rfl, hw, HA⟩ := hrel
    rw [hw]
    clear hw wr
    by_cases hlt : k < X.size
    · have HC := Lib.hid (HAT.out k hlt)
      cases hq : signB X[k]
      · go_wp2_with (go_at_call 76; refine (sign_any _ _).mono ?_; rintro e w' ⟨rfl, rfl⟩)
        go_ret
        exact ⟨by rw [all_not s k _ HC.out hq]; rfl, rfl⟩
      · go_wp2_with (go_at_call 76; refine (sign_any _ _).mono ?_; rintro e w' ⟨rfl, rfl⟩)
        go_roundg (X.size - (k + 1))
        case rel => exact ⟨k + 1, by omega, rfl, by go_num, rfl, all_take s k _ HC.out HA.out hq⟩
        case measure => omega
    · have hall : (s.take k) = s := List.take_of_length_le (by rw [← HZ.out]; omega)
      rw [hall] at HA
      clear hall
      go_wp2
      go_ret
      exact ⟨by rw [HA.out]; rfl, rfl⟩

theorem mods_take (l : List Tx) (k : Nat) (c : Tx) (h : l[k]? = some c) (hk : ((l.take k).all fun x => codeB x 2 2) = true) (hc : codeB c 2 2 = true) : ((l.take (k + 1)).all fun x => codeB x 2 2) = true := by
  rw [List.take_add_one, h]; simp_all
theorem mods_not (l : List Tx) (k : Nat) (c : Tx) (h : l[k]? = some c) (hc : codeB c 2 2 = false) : modsB l = false := by
  unfold modsB
  have : (l.all fun x => codeB x 2 2) = false := by
    rw [List.all_eq_false]
    exact ⟨c, List.mem_of_getElem? h, by simp [hc]⟩
  rw [this]; simp
theorem mods_many (l : List Tx) (h : ¬ l.length ≤ 4) : modsB l = false := by unfold modsB; rw [decide_eq_false h]; rfl
theorem mods_all (l : List Tx) (k : Nat) (h : l.length ≤ 4) (hk : l.length ≤ k) (ha : ((l.take k).all fun x => codeB x 2 2) = true) : modsB l = true := by
  rw [List.take_of_length_le hk] at ha
  unfold modsB; rw [decide_eq_true h, ha]; rfl

end Go.Proofs.YtmoldgmfhcmceaaDoor.Cm
end

/-
  What the reference's leap, long and Good answer, as contracts. long lays a new table each time: the world grows.
-/
section
namespace Go.Proofs.YtmoldgmfhcmceaaDoor.Da
open Go.RowKit

theorem grown_trans {a b c : World} (h : Grown a b) (k : Grown b c) : Grown a c :=
  ⟨World.keptBut_trans h.1 (World.keptBut_mono (fun _ f => f.elim) k.1), fun x => (k.2.1 x).trans (h.2.1 x), Nat.le_trans h.2.2 k.2.2⟩
theorem tab_grown {w w' : World} (h : Tab w) (g : Grown w w') : Tab w' := fun i hi => by
  have c := h i hi
  have hb : (2 : Nat) < w.heap.size := World.block_lt_of_cell? w ⟨2, i, none⟩ c
  rw [g.1.cell hb (fun f => f)]
  exact c

theorem good_ref (n : Int) (h1 : 10101 ≤ n) (h2 : n ≤ 99991231) : good n = true ↔ (1 ≤ n / 100 % 100 ∧ n / 100 % 100 ≤ 12 ∧ 1 ≤ n % 100 ∧ n % 100 ≤ lenM (n / 10000) (n / 100 % 100)) := by
  rw [good_iff, yr_eq n (by omega), mo_eq n (by omega), da_eq n (by omega)]
  constructor
  · exact fun h => h.2.2
  · exact fun h => ⟨by omega, by omega, h⟩
theorem good_refn (n : Int) (h1 : 10101 ≤ n) (h2 : n ≤ 99991231) (h : ¬ (1 ≤ n / 100 % 100 ∧ n / 100 % 100 ≤ 12 ∧ 1 ≤ n % 100 ∧ n % 100 ≤ lenM (n / 10000) (n / 100 % 100))) : good n = false := by
  rw [← good_ref n h1 h2] at h
  simpa using h

end Go.Proofs.YtmoldgmfhcmceaaDoor.Da
end

/-
  What the reference's long and Good answer, as contracts over 'Below' (DRef has them over 'Grown').
-/
section
namespace Go.Proofs.YtmoldgmfhcmceaaDoor.Da
open Go.RowKit

end Go.Proofs.YtmoldgmfhcmceaaDoor.Da
end

/-
  What cents.Good and Add answer, as contracts: for every int64.
-/
section
namespace Go.Proofs.YtmoldgmfhcmceaaDoor.Ce
open Go.RowKit

theorem good_any (a : Int) (w : World) :
    Calls Tryd.prog 43 #[.int .i64 a] w fun e w' => e = .returned (.bool (good a)) ∧ w' = w := by
  by_cases h0 : 0 ≤ a
  · by_cases h1 : a ≤ 10000000000000
    · have g : good a = true := (good_iff a).2 ⟨h0, h1⟩
      rw [g]
      go_enter Tryd.func43, Tryd.ntmps43
      go_wp2
      go_ret
      exact ⟨rfl, rfl⟩
    · have g : good a = false := (good_not a).2 (by omega)
      rw [g]
      go_enter Tryd.func43, Tryd.ntmps43
      go_wp2
      go_ret
      exact ⟨rfl, rfl⟩
  · have g : good a = false := (good_not a).2 (by omega)
    rw [g]
    go_enter Tryd.func43, Tryd.ntmps43
    go_wp2
    go_ret
    exact ⟨rfl, rfl⟩

end Go.Proofs.YtmoldgmfhcmceaaDoor.Ce
end

/-
  What the reference's Good answers, as contracts: for every int64.
-/
section
namespace Go.Proofs.YtmoldgmfhcmceaaDoor.Ce
open Go.RowKit

end Go.Proofs.YtmoldgmfhcmceaaDoor.Ce
end

/-
  What fees.proc, fees.mod, fees.row and the reference's one and Ahead answer, as contracts: for every row.
-/
section
set_option linter.unusedSimpArgs false
set_option linter.unusedVariables false
set_option maxRecDepth 100000
namespace Go.Proofs.YtmoldgmfhcmceaaDoor.Fe
open Go.RowKit
open Wo (keepB box_cell box_two heap_far below_alloc below_trans)

def FeOk (f : Fee) : Prop := (f.proc.length ≤ 281474976710656 ∧ f.mod.length ≤ 281474976710656) ∧ (-9223372036854775808 ≤ f.net ∧ f.net ≤ 9223372036854775807) ∧ (-9223372036854775808 ≤ f.frm ∧ f.frm ≤ 9223372036854775807) ∧ (-9223372036854775808 ≤ f.cents ∧ f.cents ≤ 9223372036854775807)
theorem mk_emp (s : Tx) : (mk s).toList.isEmpty = decide (s = []) := by
  rw [mk_list']
  cases s <;> simp
theorem proc_any (s : Tx) (w : World) (hs : s.length ≤ 9223372036854775807) : Calls Tryd.prog 46 #[.string (mk s)] w fun e w' => e = .returned (.bool (Cm.codeB s 5 5)) ∧ w' = w := by
  go_enter Tryd.func46, Tryd.ntmps46
  go_wp2_with (go_at_call 62; refine (Cm.code_any s 5 5 _ hs).mono ?_; rintro e w' ⟨rfl, rfl⟩)
  go_ret
  exact ⟨rfl, rfl⟩
theorem mod_any (s : Tx) (w : World) (hs : s.length ≤ 9223372036854775807) : Calls Tryd.prog 47 #[.string (mk s)] w fun e w' => e = .returned (.bool (Cm.codeB s 2 2)) ∧ w' = w := by
  go_enter Tryd.func47, Tryd.ntmps47
  go_wp2_with (go_at_call 62; refine (Cm.code_any s 2 2 _ hs).mono ?_; rintro e w' ⟨rfl, rfl⟩)
  go_ret
  exact ⟨rfl, rfl⟩
theorem one9 {f : Fee} (h : (Cm.codeB f.proc 5 5 && (decide (f.mod = []) || Cm.codeB f.mod 2 2)) = false) : oneE f = 9 := by unfold oneE; rw [h]; rfl
theorem one3 {f : Fee} (h : (Cm.codeB f.proc 5 5 && (decide (f.mod = []) || Cm.codeB f.mod 2 2)) = true) (h1 : ¬ (0 ≤ f.net ∧ f.net ≤ 1)) : oneE f = 3 := by unfold oneE; rw [if_pos h, if_neg h1]
theorem one7 {f : Fee} (h : (Cm.codeB f.proc 5 5 && (decide (f.mod = []) || Cm.codeB f.mod 2 2)) = true) (h1 : 0 ≤ f.net ∧ f.net ≤ 1) (h2 : Da.good f.frm = false) : oneE f = 7 := by unfold oneE; rw [if_pos h, if_pos h1, if_neg (by rw [h2]; decide)]
theorem one8 {f : Fee} (h : (Cm.codeB f.proc 5 5 && (decide (f.mod = []) || Cm.codeB f.mod 2 2)) = true) (h1 : 0 ≤ f.net ∧ f.net ≤ 1) (h2 : Da.good f.frm = true) (h3 : Ce.good f.cents = false) : oneE f = 8 := by unfold oneE; rw [if_pos h, if_pos h1, if_pos h2]; exact if_neg (by show ¬ Ce.good f.cents = true; rw [h3]; decide)
theorem one0 {f : Fee} (h : (Cm.codeB f.proc 5 5 && (decide (f.mod = []) || Cm.codeB f.mod 2 2)) = true) (h1 : 0 ≤ f.net ∧ f.net ≤ 1) (h2 : Da.good f.frm = true) (h3 : Ce.good f.cents = true) : oneE f = 0 := by unfold oneE; rw [if_pos h, if_pos h1, if_pos h2]; exact if_pos h3
set_option maxHeartbeats 2000000 in
theorem row_any (f : Fee) (hf : FeOk f) (w : World) (hT : Da.Tab w) : Calls Tryd.prog 28 #[fev f] w fun e w' => e = .returned (.int .i64 (oneE f)) ∧ Below w.heap.size w w' := by
  obtain ⟨⟨z1, z2⟩, -, ⟨z3, z4⟩, -⟩ := hf
  have z1 : f.proc.length ≤ 9223372036854775807 := by omega
  have z2 : f.mod.length ≤ 9223372036854775807 := by omega
  have HB := Lib.hid fun o => below_alloc w o
  have HX := Lib.hid fun W' (hW : Below (w.alloc (.cells #[.string (mk f.proc), .string (mk f.mod), .int .i64 f.net, .int .i64 f.frm, .int .i64 f.cents] 35)).heap.size (w.alloc (.cells #[.string (mk f.proc), .string (mk f.mod), .int .i64 f.net, .int .i64 f.frm, .int .i64 f.cents] 35)) W') => cells5 (keepB (heap_alloc_new w (.cells #[.string (mk f.proc), .string (mk f.mod), .int .i64 f.net, .int .i64 f.frm, .int .i64 f.cents] 35)) hW)
  have HBR := Lib.hid fun W' (hW : Below (w.alloc (.cells #[.string (mk f.proc), .string (mk f.mod), .int .i64 f.net, .int .i64 f.frm, .int .i64 f.cents] 35)).heap.size (w.alloc (.cells #[.string (mk f.proc), .string (mk f.mod), .int .i64 f.net, .int .i64 f.frm, .int .i64 f.cents] 35)) W') => below_trans (below_alloc w _) hW
  have HD := Lib.hid fun w' (hb : Below w.heap.size w w') => Da.good_any f.frm w' (Cm.tab_below hT hb) z3 z4
  clear hT
  cases h1 : Cm.codeB f.proc 5 5
  · have hc : (Cm.codeB f.proc 5 5 && (decide (f.mod = []) || Cm.codeB f.mod 2 2)) = false := by rw [h1]; rfl
    rw [one9 hc]
    clear hc
    go_enter Tryd.func28, Tryd.ntmps28
    go_wp2_with (first | (go_at_call 46; refine (proc_any _ _ (by assumption)).mono ?_; rintro e w' ⟨rfl, rfl⟩) | (go_at_call 47; refine (mod_any _ _ (by assumption)).mono ?_; rintro e w' ⟨rfl, rfl⟩) | (go_at_call 48; refine (HD.out _ (HB.out _)).mono ?_; rintro e w3 ⟨rfl, rfl⟩) | (go_at_call 43; refine (Ce.good_any _ _).mono ?_; rintro e w4 ⟨rfl, rfl⟩))
    go_ret
    exact ⟨rfl, HB.out _⟩
  by_cases hm : f.mod = []
  · have hme : (mk f.mod).toList.isEmpty = true := by rw [mk_emp]; exact decide_eq_true hm
    have hc : (Cm.codeB f.proc 5 5 && (decide (f.mod = []) || Cm.codeB f.mod 2 2)) = true := by rw [h1, decide_eq_true hm]; rfl
    clear hm
    by_cases k0 : f.net = 0
    · have q0 : (f.net != 0) = false := by rw [k0]; rfl
      have hn : 0 ≤ f.net ∧ f.net ≤ 1 := by omega
      clear k0
      cases h5 : Da.good f.frm
      · rw [one7 hc hn h5]
        clear hc hn
        go_enter Tryd.func28, Tryd.ntmps28
        go_wp2_with (first | (go_at_call 46; refine (proc_any _ _ (by assumption)).mono ?_; rintro e w' ⟨rfl, rfl⟩) | (go_at_call 47; refine (mod_any _ _ (by assumption)).mono ?_; rintro e w' ⟨rfl, rfl⟩) | (go_at_call 48; refine (HD.out _ (HB.out _)).mono ?_; rintro e w3 ⟨rfl, rfl⟩) | (go_at_call 43; refine (Ce.good_any _ _).mono ?_; rintro e w4 ⟨rfl, rfl⟩))
        go_ret
        exact ⟨rfl, HB.out _⟩
      cases h6 : Ce.good f.cents
      · rw [one8 hc hn h5 h6]
        clear hc hn
        go_enter Tryd.func28, Tryd.ntmps28
        go_wp2_with (first | (go_at_call 46; refine (proc_any _ _ (by assumption)).mono ?_; rintro e w' ⟨rfl, rfl⟩) | (go_at_call 47; refine (mod_any _ _ (by assumption)).mono ?_; rintro e w' ⟨rfl, rfl⟩) | (go_at_call 48; refine (HD.out _ (HB.out _)).mono ?_; rintro e w3 ⟨rfl, rfl⟩) | (go_at_call 43; refine (Ce.good_any _ _).mono ?_; rintro e w4 ⟨rfl, rfl⟩))
        go_ret
        exact ⟨rfl, HB.out _⟩
      rw [one0 hc hn h5 h6]
      clear hc hn
      go_enter Tryd.func28, Tryd.ntmps28
      go_wp2_with (first | (go_at_call 46; refine (proc_any _ _ (by assumption)).mono ?_; rintro e w' ⟨rfl, rfl⟩) | (go_at_call 47; refine (mod_any _ _ (by assumption)).mono ?_; rintro e w' ⟨rfl, rfl⟩) | (go_at_call 48; refine (HD.out _ (HB.out _)).mono ?_; rintro e w3 ⟨rfl, rfl⟩) | (go_at_call 43; refine (Ce.good_any _ _).mono ?_; rintro e w4 ⟨rfl, rfl⟩))
      go_ret
      exact ⟨rfl, HB.out _⟩
    have q0 : (f.net != 0) = true := by simpa using k0
    by_cases k1 : f.net = 1
    · have q1 : (f.net != 1) = false := by rw [k1]; rfl
      have hn : 0 ≤ f.net ∧ f.net ≤ 1 := by omega
      clear k0 k1
      cases h5 : Da.good f.frm
      · rw [one7 hc hn h5]
        clear hc hn
        go_enter Tryd.func28, Tryd.ntmps28
        go_wp2_with (first | (go_at_call 46; refine (proc_any _ _ (by assumption)).mono ?_; rintro e w' ⟨rfl, rfl⟩) | (go_at_call 47; refine (mod_any _ _ (by assumption)).mono ?_; rintro e w' ⟨rfl, rfl⟩) | (go_at_call 48; refine (HD.out _ (HB.out _)).mono ?_; rintro e w3 ⟨rfl, rfl⟩) | (go_at_call 43; refine (Ce.good_any _ _).mono ?_; rintro e w4 ⟨rfl, rfl⟩))
        go_ret
        exact ⟨rfl, HB.out _⟩
      cases h6 : Ce.good f.cents
      · rw [one8 hc hn h5 h6]
        clear hc hn
        go_enter Tryd.func28, Tryd.ntmps28
        go_wp2_with (first | (go_at_call 46; refine (proc_any _ _ (by assumption)).mono ?_; rintro e w' ⟨rfl, rfl⟩) | (go_at_call 47; refine (mod_any _ _ (by assumption)).mono ?_; rintro e w' ⟨rfl, rfl⟩) | (go_at_call 48; refine (HD.out _ (HB.out _)).mono ?_; rintro e w3 ⟨rfl, rfl⟩) | (go_at_call 43; refine (Ce.good_any _ _).mono ?_; rintro e w4 ⟨rfl, rfl⟩))
        go_ret
        exact ⟨rfl, HB.out _⟩
      rw [one0 hc hn h5 h6]
      clear hc hn
      go_enter Tryd.func28, Tryd.ntmps28
      go_wp2_with (first | (go_at_call 46; refine (proc_any _ _ (by assumption)).mono ?_; rintro e w' ⟨rfl, rfl⟩) | (go_at_call 47; refine (mod_any _ _ (by assumption)).mono ?_; rintro e w' ⟨rfl, rfl⟩) | (go_at_call 48; refine (HD.out _ (HB.out _)).mono ?_; rintro e w3 ⟨rfl, rfl⟩) | (go_at_call 43; refine (Ce.good_any _ _).mono ?_; rintro e w4 ⟨rfl, rfl⟩))
      go_ret
      exact ⟨rfl, HB.out _⟩
    have q1 : (f.net != 1) = true := by simpa using k1
    have hn : ¬ (0 ≤ f.net ∧ f.net ≤ 1) := by omega
    clear k0 k1
    rw [one3 hc hn]
    clear hc hn
    go_enter Tryd.func28, Tryd.ntmps28
    go_wp2_with (first | (go_at_call 46; refine (proc_any _ _ (by assumption)).mono ?_; rintro e w' ⟨rfl, rfl⟩) | (go_at_call 47; refine (mod_any _ _ (by assumption)).mono ?_; rintro e w' ⟨rfl, rfl⟩) | (go_at_call 48; refine (HD.out _ (HB.out _)).mono ?_; rintro e w3 ⟨rfl, rfl⟩) | (go_at_call 43; refine (Ce.good_any _ _).mono ?_; rintro e w4 ⟨rfl, rfl⟩))
    go_ret
    exact ⟨rfl, HB.out _⟩
  have hme : (mk f.mod).toList.isEmpty = false := by rw [mk_emp]; exact decide_eq_false hm
  cases h3 : Cm.codeB f.mod 2 2
  · have hc : (Cm.codeB f.proc 5 5 && (decide (f.mod = []) || Cm.codeB f.mod 2 2)) = false := by rw [h1, h3, decide_eq_false hm]; rfl
    clear hm
    rw [one9 hc]
    clear hc
    go_enter Tryd.func28, Tryd.ntmps28
    go_wp2_with (first | (go_at_call 46; refine (proc_any _ _ (by assumption)).mono ?_; rintro e w' ⟨rfl, rfl⟩) | (go_at_call 47; refine (mod_any _ _ (by assumption)).mono ?_; rintro e w' ⟨rfl, rfl⟩) | (go_at_call 48; refine (HD.out _ (HB.out _)).mono ?_; rintro e w3 ⟨rfl, rfl⟩) | (go_at_call 43; refine (Ce.good_any _ _).mono ?_; rintro e w4 ⟨rfl, rfl⟩))
    go_ret
    exact ⟨rfl, HB.out _⟩
  have hc : (Cm.codeB f.proc 5 5 && (decide (f.mod = []) || Cm.codeB f.mod 2 2)) = true := by rw [h1, h3]; simp
  clear hm
  by_cases k0 : f.net = 0
  · have q0 : (f.net != 0) = false := by rw [k0]; rfl
    have hn : 0 ≤ f.net ∧ f.net ≤ 1 := by omega
    clear k0
    cases h5 : Da.good f.frm
    · rw [one7 hc hn h5]
      clear hc hn
      go_enter Tryd.func28, Tryd.ntmps28
      go_wp2_with (first | (go_at_call 46; refine (proc_any _ _ (by assumption)).mono ?_; rintro e w' ⟨rfl, rfl⟩) | (go_at_call 47; refine (mod_any _ _ (by assumption)).mono ?_; rintro e w' ⟨rfl, rfl⟩) | (go_at_call 48; refine (HD.out _ (HB.out _)).mono ?_; rintro e w3 ⟨rfl, rfl⟩) | (go_at_call 43; refine (Ce.good_any _ _).mono ?_; rintro e w4 ⟨rfl, rfl⟩))
      go_ret
      exact ⟨rfl, HB.out _⟩
    cases h6 : Ce.good f.cents
    · rw [one8 hc hn h5 h6]
      clear hc hn
      go_enter Tryd.func28, Tryd.ntmps28
      go_wp2_with (first | (go_at_call 46; refine (proc_any _ _ (by assumption)).mono ?_; rintro e w' ⟨rfl, rfl⟩) | (go_at_call 47; refine (mod_any _ _ (by assumption)).mono ?_; rintro e w' ⟨rfl, rfl⟩) | (go_at_call 48; refine (HD.out _ (HB.out _)).mono ?_; rintro e w3 ⟨rfl, rfl⟩) | (go_at_call 43; refine (Ce.good_any _ _).mono ?_; rintro e w4 ⟨rfl, rfl⟩))
      go_ret
      exact ⟨rfl, HB.out _⟩
    rw [one0 hc hn h5 h6]
    clear hc hn
    go_enter Tryd.func28, Tryd.ntmps28
    go_wp2_with (first | (go_at_call 46; refine (proc_any _ _ (by assumption)).mono ?_; rintro e w' ⟨rfl, rfl⟩) | (go_at_call 47; refine (mod_any _ _ (by assumption)).mono ?_; rintro e w' ⟨rfl, rfl⟩) | (go_at_call 48; refine (HD.out _ (HB.out _)).mono ?_; rintro e w3 ⟨rfl, rfl⟩) | (go_at_call 43; refine (Ce.good_any _ _).mono ?_; rintro e w4 ⟨rfl, rfl⟩))
    go_ret
    exact ⟨rfl, HB.out _⟩
  have q0 : (f.net != 0) = true := by simpa using k0
  by_cases k1 : f.net = 1
  · have q1 : (f.net != 1) = false := by rw [k1]; rfl
    have hn : 0 ≤ f.net ∧ f.net ≤ 1 := by omega
    clear k0 k1
    cases h5 : Da.good f.frm
    · rw [one7 hc hn h5]
      clear hc hn
      go_enter Tryd.func28, Tryd.ntmps28
      go_wp2_with (first | (go_at_call 46; refine (proc_any _ _ (by assumption)).mono ?_; rintro e w' ⟨rfl, rfl⟩) | (go_at_call 47; refine (mod_any _ _ (by assumption)).mono ?_; rintro e w' ⟨rfl, rfl⟩) | (go_at_call 48; refine (HD.out _ (HB.out _)).mono ?_; rintro e w3 ⟨rfl, rfl⟩) | (go_at_call 43; refine (Ce.good_any _ _).mono ?_; rintro e w4 ⟨rfl, rfl⟩))
      go_ret
      exact ⟨rfl, HB.out _⟩
    cases h6 : Ce.good f.cents
    · rw [one8 hc hn h5 h6]
      clear hc hn
      go_enter Tryd.func28, Tryd.ntmps28
      go_wp2_with (first | (go_at_call 46; refine (proc_any _ _ (by assumption)).mono ?_; rintro e w' ⟨rfl, rfl⟩) | (go_at_call 47; refine (mod_any _ _ (by assumption)).mono ?_; rintro e w' ⟨rfl, rfl⟩) | (go_at_call 48; refine (HD.out _ (HB.out _)).mono ?_; rintro e w3 ⟨rfl, rfl⟩) | (go_at_call 43; refine (Ce.good_any _ _).mono ?_; rintro e w4 ⟨rfl, rfl⟩))
      go_ret
      exact ⟨rfl, HB.out _⟩
    rw [one0 hc hn h5 h6]
    clear hc hn
    go_enter Tryd.func28, Tryd.ntmps28
    go_wp2_with (first | (go_at_call 46; refine (proc_any _ _ (by assumption)).mono ?_; rintro e w' ⟨rfl, rfl⟩) | (go_at_call 47; refine (mod_any _ _ (by assumption)).mono ?_; rintro e w' ⟨rfl, rfl⟩) | (go_at_call 48; refine (HD.out _ (HB.out _)).mono ?_; rintro e w3 ⟨rfl, rfl⟩) | (go_at_call 43; refine (Ce.good_any _ _).mono ?_; rintro e w4 ⟨rfl, rfl⟩))
    go_ret
    exact ⟨rfl, HB.out _⟩
  have q1 : (f.net != 1) = true := by simpa using k1
  have hn : ¬ (0 ≤ f.net ∧ f.net ≤ 1) := by omega
  clear k0 k1
  rw [one3 hc hn]
  clear hc hn
  go_enter Tryd.func28, Tryd.ntmps28
  go_wp2_with (first | (go_at_call 46; refine (proc_any _ _ (by assumption)).mono ?_; rintro e w' ⟨rfl, rfl⟩) | (go_at_call 47; refine (mod_any _ _ (by assumption)).mono ?_; rintro e w' ⟨rfl, rfl⟩) | (go_at_call 48; refine (HD.out _ (HB.out _)).mono ?_; rintro e w3 ⟨rfl, rfl⟩) | (go_at_call 43; refine (Ce.good_any _ _).mono ?_; rintro e w4 ⟨rfl, rfl⟩))
  go_ret
  exact ⟨rfl, HB.out _⟩
theorem ahead_form (a b : Fee) : aheadB a b = if ((mk a.proc).toList == (mk b.proc).toList) = true then (if ((mk a.mod).toList == (mk b.mod).toList) = true then (if (a.net == b.net) = true then decide (a.frm < b.frm) else decide (a.net < b.net)) else Op.bytesLess (mk a.mod).toList (mk b.mod).toList) else Op.bytesLess (mk a.proc).toList (mk b.proc).toList := by
  unfold aheadB lessT
  rw [mk_eqs', mk_eqs', mk_list', mk_list', mk_list', mk_list']
  simp only [decide_eq_true_eq, beq_iff_eq]
end Go.Proofs.YtmoldgmfhcmceaaDoor.Fe
end

/-
  The law of regions by facts, where an operation may name a later one by an edge that does not bind (stores that may come late).
-/
section
namespace Go.Proofs.YtmoldgmfhcmceaaDoor.Ri
open Go
def backB : Nat → List Oper → Bool
  | _, [] => true
  | k, o :: l => (o.after.all fun e => !Region.binds .any e || decide (e.on < k)) && backB (k + 1) l
theorem backB_spec : ∀ (l : List Oper) (k i : Nat) (o : Oper), backB k l = true → l[i]? = some o → ∀ e ∈ o.after, Region.binds .any e = true → e.on < k + i
  | [], _, _, _, _, h => by simp at h
  | x :: l, k, 0, o, hb, h => by
    simp at h; subst h
    simp only [backB, Bool.and_eq_true, Array.all_eq_true_iff_forall_mem, Bool.or_eq_true, decide_eq_true_eq] at hb
    intro e he hbe
    rcases hb.1 e he with h1 | h1
    · rw [hbe] at h1; cases h1
    · exact h1
  | x :: l, k, i + 1, o, hb, h => by
    simp at h
    simp only [backB, Bool.and_eq_true] at hb
    intro e he hbe
    have := backB_spec l (k + 1) i o hb.2 h e he hbe
    omega
theorem wp_region_factsB {P : Program} {id : Nat} {l : List Oper} {Q : Exit → Act → World → Prop} {a0 : Act} {w0 : World} (hm : P.follows .mixedOrders = true) (hap : apartD l = true) (hbk : backB 0 l = true)
    (B : World → Prop) (F : Nat → (Nat → Value) → World → Prop) (deps : Nat → List Nat) (hdp : depsOk deps 0 l = true)
    (hloc : ∀ j vs i v w, i ∉ deps j → F j vs w → F j (upd vs i v) w) (h0 : B w0.drew) (hop : Each P l Q a0 B F 0 l)
    (hd : ∀ vs w, B w → (∀ j, j < l.length → F j vs w) → Q .normal (puts l 0 vs a0) w) : (Code.region id l.toArray true).wp P Q a0 w0 := by
  refine wp_region_any hm (wpAny_inv (fun listed a w => listed.size = l.length ∧ (∀ j, listed.getD j false = true → ∀ d ∈ deps j, listed.getD d false = true) ∧ ∃ vs, a = puts l 0 vs a0 ∧ B w ∧ ∀ j, listed.getD j false = true → F j vs w) ?_ ?_ _ _ _ _ (by rw [opn_new]; exact Nat.le_refl _) ?_)
  · rintro listed a w ⟨hsz, hcl, vs, rfl, hB, hF⟩ i hi
    obtain ⟨hni, o, ho, hpre⟩ := mem_ready.1 hi
    have ho' : l[i]? = some o := by simpa using ho
    have hil : i < l.length := (List.getElem?_eq_some_iff.1 ho').1
    have hnf : listed.getD i false = false := by
      have : i < listed.size := by omega
      simpa [this] using hni
    have hst := Each.get l 0 i o hop ho'
    rw [Nat.zero_add] at hst
    refine wpOp_step ho fun K hK => ?_
    refine hst vs w hB (fun e he hb => hF _ (hpre e he hb)) K fun v w' hB' hFi hFj => hK _ _ ?_
    have hset : ∀ j, (listed.setIfInBounds i true).getD j false = true → j = i ∨ listed.getD j false = true := fun j hj => by
      by_cases hji : i = j
      · exact Or.inl hji.symm
      · rw [getD_set_ne false hji] at hj; exact Or.inr hj
    refine ⟨by simp [hsz], fun j hj d hdd => ?_, upd vs i v, by have := puts_put l 0 i o vs a0 v hap ho'; rwa [Nat.zero_add] at this, hB', fun j hj => ?_⟩
    · rcases hset j hj with rfl | hj'
      · have := depsOk_spec deps l 0 j o hdp ho'
        rw [Nat.zero_add] at this
        rcases this d hdd with rfl | ⟨e, he, hb, hde⟩
        · have : d < listed.size := by omega
          simp [this]
        · exact getD_set_true (hcl _ (hpre e he hb) d hde)
      · exact getD_set_true (hcl j hj' d hdd)
    · by_cases hji : j = i
      · subst hji; exact hFi
      · rcases hset j hj with h | hj'
        · exact absurd h hji
        · refine hloc j vs i v w' (fun hin => ?_) (hFj j hji (hF j hj'))
          rw [hcl j hj' i hin] at hnf
          cases hnf
  · rintro listed a w ⟨hsz, hcl, vs, rfl, hB, hF⟩ hr
    refine hd vs w hB fun j hj => hF j ?_
    have all : ∀ n, ∀ j, j < n → j < l.length → listed.getD j false = true := by
      intro n
      induction n with
      | zero => intro j h; omega
      | succ n ih =>
        intro j hjn hjl
        rcases Nat.lt_or_ge j n with h | h
        · exact ih j h hjl
        obtain rfl : j = n := by omega
        have hoj : l[j]? = some l[j] := List.getElem?_eq_getElem hjl
        by_cases hc : listed.getD j false = true
        · exact hc
        · exfalso
          have hjs : j < listed.size := by omega
          have hmem : j ∈ Region.ready .any l.toArray listed := mem_ready.2 ⟨by simpa [hjs] using hc, l[j], by simp, fun e he hbe => by
            have := backB_spec l 0 j _ hbk hoj e he hbe
            exact ih e.on (by omega) (by omega)⟩
          rw [hr] at hmem
          cases hmem
    exact all (j + 1) j (by omega) hj
  · obtain ⟨vs, hvs⟩ := puts_self l 0 a0
    refine ⟨by simp, fun j hj => ?_, vs, hvs.symm, h0, fun j hj => ?_⟩
    all_goals
      exfalso
      rw [Array.getD_eq_getD_getElem?, Array.getElem?_replicate] at hj
      split at hj <;> simp at hj
theorem wp_region_lastingB {P : Program} {id : Nat} {l : List Oper} {Q : Exit → Act → World → Prop} {a0 : Act} {w0 : World} (hm : P.follows .mixedOrders = true) (hap : apartD l = true) (hbk : backB 0 l = true)
    (B : World → Prop) (F : Nat → (Nat → Value) → World → Prop) (deps : Nat → List Nat) (hdp : depsOk deps 0 l = true)
    (hloc : ∀ j vs i v w, i ∉ deps j → F j vs w → F j (upd vs i v) w) (h0 : B w0.drew) (hop : EachA P l Q a0 B F 0 l)
    (hd : ∀ vs w, B w → (∀ j, j < l.length → F j vs w) → Q .normal (puts l 0 vs a0) w) : (Code.region id l.toArray true).wp P Q a0 w0 :=
  wp_region_factsB hm hap hbk B F deps hdp hloc h0 (EachA.each l 0 hop) hd
theorem wp_region_lastingB_g {P : Program} {id : Nat} {l : List Oper} {Q : Exit → Act → World → Prop} {a0 : Act} {w0 : World} (hm : P.follows .mixedOrders = true) (hap : apartD l = true) (hbk : backB 0 l = true)
    (B : World → Prop) (F : Nat → (Nat → Value) → World → Prop) (deps : Nat → List Nat) (hdp : depsOk deps 0 l = true)
    (hloc : ∀ j vs i v w, i ∉ deps j → F j vs w → F j (upd vs i v) w) (h0 : B w0.drew) (hop : EachG P l Q a0 B F 0 l)
    (hd : ∀ vs w, B w → (∀ j, j < l.length → F j vs w) → Q .normal (puts l 0 vs a0) w) : (Code.region id l.toArray true).wp P Q a0 w0 :=
  wp_region_factsB hm hap hbk B F deps hdp hloc h0 (EachG.each l 0 hop) hd
end Go.Proofs.YtmoldgmfhcmceaaDoor.Ri
end
