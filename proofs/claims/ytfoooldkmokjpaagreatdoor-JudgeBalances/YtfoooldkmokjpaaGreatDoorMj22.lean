/-
  Texts put together (merge.py): ZRow.
-/
import Derived.Test.YtfoooldkmokjpaaGreatDoorMj21
import Derived.Test.YtfoooldkmokjpaaGreatDoorMj5
import Derived.Test.YtfoooldkmokjpaaGreatDoorMj13
set_option linter.unusedSimpArgs false
set_option linter.unusedVariables false
section
set_option maxRecDepth 100000
namespace Go.Proofs.YtfoooldkmokjpaaGreatDoor.Fe
open Go.RowKit
open Wo (keepB box_cell box_two heap_far below_alloc below_trans)
def FeOk (f : Fee) : Prop := (f.proc.length ≤ 281474976710656 ∧ f.mod.length ≤ 281474976710656) ∧ (-9223372036854775808 ≤ f.net ∧ f.net ≤ 9223372036854775807) ∧ (-9223372036854775808 ≤ f.frm ∧ f.frm ≤ 9223372036854775807) ∧ (-9223372036854775808 ≤ f.cents ∧ f.cents ≤ 9223372036854775807)
theorem mk_emp (s : Tx) : (mk s).toList.isEmpty = decide (s = []) := by
 rw [mk_list']
 cases s <;> simp
theorem proc_any (s : Tx) (w : World) (hs : s.length ≤ 9223372036854775807) : Calls Tryz.prog 108 #[.string (mk s)] w fun e w' => e = .returned (.bool (Cm.codeB s 5 5)) ∧ w' = w := by
 go_enter Tryz.func108, Tryz.ntmps108
 go_wp2_with (go_at_call 119; refine (Cm.code_any s 5 5 _ hs).mono ?_; rintro e w' ⟨rfl, rfl⟩)
 go_ret
 exact ⟨rfl, rfl⟩
theorem mod_any (s : Tx) (w : World) (hs : s.length ≤ 9223372036854775807) : Calls Tryz.prog 109 #[.string (mk s)] w fun e w' => e = .returned (.bool (Cm.codeB s 2 2)) ∧ w' = w := by
 go_enter Tryz.func109, Tryz.ntmps109
 go_wp2_with (go_at_call 119; refine (Cm.code_any s 2 2 _ hs).mono ?_; rintro e w' ⟨rfl, rfl⟩)
 go_ret
 exact ⟨rfl, rfl⟩
theorem one9 {f : Fee} (h : (Cm.codeB f.proc 5 5 && (decide (f.mod = []) || Cm.codeB f.mod 2 2)) = false) : oneE f = 9 := by unfold oneE; rw [h]; rfl
theorem one3 {f : Fee} (h : (Cm.codeB f.proc 5 5 && (decide (f.mod = []) || Cm.codeB f.mod 2 2)) = true) (h1 : ¬ (0 ≤ f.net ∧ f.net ≤ 1)) : oneE f = 3 := by unfold oneE; rw [if_pos h, if_neg h1]
theorem one7 {f : Fee} (h : (Cm.codeB f.proc 5 5 && (decide (f.mod = []) || Cm.codeB f.mod 2 2)) = true) (h1 : 0 ≤ f.net ∧ f.net ≤ 1) (h2 : Da.good f.frm = false) : oneE f = 7 := by unfold oneE; rw [if_pos h, if_pos h1, if_neg (by rw [h2]; decide)]
theorem one8 {f : Fee} (h : (Cm.codeB f.proc 5 5 && (decide (f.mod = []) || Cm.codeB f.mod 2 2)) = true) (h1 : 0 ≤ f.net ∧ f.net ≤ 1) (h2 : Da.good f.frm = true) (h3 : Ce.good f.cents = false) : oneE f = 8 := by unfold oneE; rw [if_pos h, if_pos h1, if_pos h2]; exact if_neg (by show ¬ Ce.good f.cents = true; rw [h3]; decide)
theorem one0 {f : Fee} (h : (Cm.codeB f.proc 5 5 && (decide (f.mod = []) || Cm.codeB f.mod 2 2)) = true) (h1 : 0 ≤ f.net ∧ f.net ≤ 1) (h2 : Da.good f.frm = true) (h3 : Ce.good f.cents = true) : oneE f = 0 := by unfold oneE; rw [if_pos h, if_pos h1, if_pos h2]; exact if_pos h3
set_option maxHeartbeats 2000000 in
theorem row_any (f : Fee) (hf : FeOk f) (w : World) (hT : Da.Tab w) : Calls Tryz.prog 67 #[fev f] w fun e w' => e = .returned (.int .i64 (oneE f)) ∧ Below w.heap.size w w' := by
 obtain ⟨⟨z1, z2⟩, -, ⟨z3, z4⟩, -⟩ := hf
 have z1 : f.proc.length ≤ 9223372036854775807 := by omega
 have z2 : f.mod.length ≤ 9223372036854775807 := by omega
 have HB := Lib.hid fun o => below_alloc w o
 have HX := Lib.hid fun W' (hW : Below (w.alloc (.cells #[.string (mk f.proc), .string (mk f.mod), .int .i64 f.net, .int .i64 f.frm, .int .i64 f.cents] 59)).heap.size (w.alloc (.cells #[.string (mk f.proc), .string (mk f.mod), .int .i64 f.net, .int .i64 f.frm, .int .i64 f.cents] 59)) W') => cells5 (keepB (heap_alloc_new w (.cells #[.string (mk f.proc), .string (mk f.mod), .int .i64 f.net, .int .i64 f.frm, .int .i64 f.cents] 59)) hW)
 have HBR := Lib.hid fun W' (hW : Below (w.alloc (.cells #[.string (mk f.proc), .string (mk f.mod), .int .i64 f.net, .int .i64 f.frm, .int .i64 f.cents] 59)).heap.size (w.alloc (.cells #[.string (mk f.proc), .string (mk f.mod), .int .i64 f.net, .int .i64 f.frm, .int .i64 f.cents] 59)) W') => below_trans (below_alloc w _) hW
 have HD := Lib.hid fun w' (hb : Below w.heap.size w w') => Da.good_any f.frm w' (Cm.tab_below hT hb) z3 z4
 clear hT
 cases h1 : Cm.codeB f.proc 5 5
 ·have hc : (Cm.codeB f.proc 5 5 && (decide (f.mod = []) || Cm.codeB f.mod 2 2)) = false := by rw [h1]; rfl
  rw [one9 hc]
  clear hc
  go_enter Tryz.func67, Tryz.ntmps67
  go_wp2_with (first | (go_at_call 108; refine (proc_any _ _ (by assumption)).mono ?_; rintro e w' ⟨rfl, rfl⟩) | (go_at_call 109; refine (mod_any _ _ (by assumption)).mono ?_; rintro e w' ⟨rfl, rfl⟩) | (go_at_call 110; refine (HD.out _ (HB.out _)).mono ?_; rintro e w3 ⟨rfl, rfl⟩) | (go_at_call 79; refine (Ce.good_any _ _).mono ?_; rintro e w4 ⟨rfl, rfl⟩))
  go_ret
  exact ⟨rfl, HB.out _⟩
 by_cases hm : f.mod = []
 ·have hme : (mk f.mod).toList.isEmpty = true := by rw [mk_emp]; exact decide_eq_true hm
  have hc : (Cm.codeB f.proc 5 5 && (decide (f.mod = []) || Cm.codeB f.mod 2 2)) = true := by rw [h1, decide_eq_true hm]; rfl
  clear hm
  by_cases k0 : f.net = 0
  ·have q0 : (f.net != 0) = false := by rw [k0]; rfl
   have hn : 0 ≤ f.net ∧ f.net ≤ 1 := by omega
   clear k0
   cases h5 : Da.good f.frm
   ·rw [one7 hc hn h5]
    clear hc hn
    go_enter Tryz.func67, Tryz.ntmps67
    go_wp2_with (first | (go_at_call 108; refine (proc_any _ _ (by assumption)).mono ?_; rintro e w' ⟨rfl, rfl⟩) | (go_at_call 109; refine (mod_any _ _ (by assumption)).mono ?_; rintro e w' ⟨rfl, rfl⟩) | (go_at_call 110; refine (HD.out _ (HB.out _)).mono ?_; rintro e w3 ⟨rfl, rfl⟩) | (go_at_call 79; refine (Ce.good_any _ _).mono ?_; rintro e w4 ⟨rfl, rfl⟩))
    go_ret
    exact ⟨rfl, HB.out _⟩
   cases h6 : Ce.good f.cents
   ·rw [one8 hc hn h5 h6]
    clear hc hn
    go_enter Tryz.func67, Tryz.ntmps67
    go_wp2_with (first | (go_at_call 108; refine (proc_any _ _ (by assumption)).mono ?_; rintro e w' ⟨rfl, rfl⟩) | (go_at_call 109; refine (mod_any _ _ (by assumption)).mono ?_; rintro e w' ⟨rfl, rfl⟩) | (go_at_call 110; refine (HD.out _ (HB.out _)).mono ?_; rintro e w3 ⟨rfl, rfl⟩) | (go_at_call 79; refine (Ce.good_any _ _).mono ?_; rintro e w4 ⟨rfl, rfl⟩))
    go_ret
    exact ⟨rfl, HB.out _⟩
   rw [one0 hc hn h5 h6]
   clear hc hn
   go_enter Tryz.func67, Tryz.ntmps67
   go_wp2_with (first | (go_at_call 108; refine (proc_any _ _ (by assumption)).mono ?_; rintro e w' ⟨rfl, rfl⟩) | (go_at_call 109; refine (mod_any _ _ (by assumption)).mono ?_; rintro e w' ⟨rfl, rfl⟩) | (go_at_call 110; refine (HD.out _ (HB.out _)).mono ?_; rintro e w3 ⟨rfl, rfl⟩) | (go_at_call 79; refine (Ce.good_any _ _).mono ?_; rintro e w4 ⟨rfl, rfl⟩))
   go_ret
   exact ⟨rfl, HB.out _⟩
  have q0 : (f.net != 0) = true := by simpa using k0
  by_cases k1 : f.net = 1
  ·have q1 : (f.net != 1) = false := by rw [k1]; rfl
   have hn : 0 ≤ f.net ∧ f.net ≤ 1 := by omega
   clear k0 k1
   cases h5 : Da.good f.frm
   ·rw [one7 hc hn h5]
    clear hc hn
    go_enter Tryz.func67, Tryz.ntmps67
    go_wp2_with (first | (go_at_call 108; refine (proc_any _ _ (by assumption)).mono ?_; rintro e w' ⟨rfl, rfl⟩) | (go_at_call 109; refine (mod_any _ _ (by assumption)).mono ?_; rintro e w' ⟨rfl, rfl⟩) | (go_at_call 110; refine (HD.out _ (HB.out _)).mono ?_; rintro e w3 ⟨rfl, rfl⟩) | (go_at_call 79; refine (Ce.good_any _ _).mono ?_; rintro e w4 ⟨rfl, rfl⟩))
    go_ret
    exact ⟨rfl, HB.out _⟩
   cases h6 : Ce.good f.cents
   ·rw [one8 hc hn h5 h6]
    clear hc hn
    go_enter Tryz.func67, Tryz.ntmps67
    go_wp2_with (first | (go_at_call 108; refine (proc_any _ _ (by assumption)).mono ?_; rintro e w' ⟨rfl, rfl⟩) | (go_at_call 109; refine (mod_any _ _ (by assumption)).mono ?_; rintro e w' ⟨rfl, rfl⟩) | (go_at_call 110; refine (HD.out _ (HB.out _)).mono ?_; rintro e w3 ⟨rfl, rfl⟩) | (go_at_call 79; refine (Ce.good_any _ _).mono ?_; rintro e w4 ⟨rfl, rfl⟩))
    go_ret
    exact ⟨rfl, HB.out _⟩
   rw [one0 hc hn h5 h6]
   clear hc hn
   go_enter Tryz.func67, Tryz.ntmps67
   go_wp2_with (first | (go_at_call 108; refine (proc_any _ _ (by assumption)).mono ?_; rintro e w' ⟨rfl, rfl⟩) | (go_at_call 109; refine (mod_any _ _ (by assumption)).mono ?_; rintro e w' ⟨rfl, rfl⟩) | (go_at_call 110; refine (HD.out _ (HB.out _)).mono ?_; rintro e w3 ⟨rfl, rfl⟩) | (go_at_call 79; refine (Ce.good_any _ _).mono ?_; rintro e w4 ⟨rfl, rfl⟩))
   go_ret
   exact ⟨rfl, HB.out _⟩
  have q1 : (f.net != 1) = true := by simpa using k1
  have hn : ¬ (0 ≤ f.net ∧ f.net ≤ 1) := by omega
  clear k0 k1
  rw [one3 hc hn]
  clear hc hn
  go_enter Tryz.func67, Tryz.ntmps67
  go_wp2_with (first | (go_at_call 108; refine (proc_any _ _ (by assumption)).mono ?_; rintro e w' ⟨rfl, rfl⟩) | (go_at_call 109; refine (mod_any _ _ (by assumption)).mono ?_; rintro e w' ⟨rfl, rfl⟩) | (go_at_call 110; refine (HD.out _ (HB.out _)).mono ?_; rintro e w3 ⟨rfl, rfl⟩) | (go_at_call 79; refine (Ce.good_any _ _).mono ?_; rintro e w4 ⟨rfl, rfl⟩))
  go_ret
  exact ⟨rfl, HB.out _⟩
 have hme : (mk f.mod).toList.isEmpty = false := by rw [mk_emp]; exact decide_eq_false hm
 cases h3 : Cm.codeB f.mod 2 2
 ·have hc : (Cm.codeB f.proc 5 5 && (decide (f.mod = []) || Cm.codeB f.mod 2 2)) = false := by rw [h1, h3, decide_eq_false hm]; rfl
  clear hm
  rw [one9 hc]
  clear hc
  go_enter Tryz.func67, Tryz.ntmps67
  go_wp2_with (first | (go_at_call 108; refine (proc_any _ _ (by assumption)).mono ?_; rintro e w' ⟨rfl, rfl⟩) | (go_at_call 109; refine (mod_any _ _ (by assumption)).mono ?_; rintro e w' ⟨rfl, rfl⟩) | (go_at_call 110; refine (HD.out _ (HB.out _)).mono ?_; rintro e w3 ⟨rfl, rfl⟩) | (go_at_call 79; refine (Ce.good_any _ _).mono ?_; rintro e w4 ⟨rfl, rfl⟩))
  go_ret
  exact ⟨rfl, HB.out _⟩
 have hc : (Cm.codeB f.proc 5 5 && (decide (f.mod = []) || Cm.codeB f.mod 2 2)) = true := by rw [h1, h3]; simp
 clear hm
 by_cases k0 : f.net = 0
 ·have q0 : (f.net != 0) = false := by rw [k0]; rfl
  have hn : 0 ≤ f.net ∧ f.net ≤ 1 := by omega
  clear k0
  cases h5 : Da.good f.frm
  ·rw [one7 hc hn h5]
   clear hc hn
   go_enter Tryz.func67, Tryz.ntmps67
   go_wp2_with (first | (go_at_call 108; refine (proc_any _ _ (by assumption)).mono ?_; rintro e w' ⟨rfl, rfl⟩) | (go_at_call 109; refine (mod_any _ _ (by assumption)).mono ?_; rintro e w' ⟨rfl, rfl⟩) | (go_at_call 110; refine (HD.out _ (HB.out _)).mono ?_; rintro e w3 ⟨rfl, rfl⟩) | (go_at_call 79; refine (Ce.good_any _ _).mono ?_; rintro e w4 ⟨rfl, rfl⟩))
   go_ret
   exact ⟨rfl, HB.out _⟩
  cases h6 : Ce.good f.cents
  ·rw [one8 hc hn h5 h6]
   clear hc hn
   go_enter Tryz.func67, Tryz.ntmps67
   go_wp2_with (first | (go_at_call 108; refine (proc_any _ _ (by assumption)).mono ?_; rintro e w' ⟨rfl, rfl⟩) | (go_at_call 109; refine (mod_any _ _ (by assumption)).mono ?_; rintro e w' ⟨rfl, rfl⟩) | (go_at_call 110; refine (HD.out _ (HB.out _)).mono ?_; rintro e w3 ⟨rfl, rfl⟩) | (go_at_call 79; refine (Ce.good_any _ _).mono ?_; rintro e w4 ⟨rfl, rfl⟩))
   go_ret
   exact ⟨rfl, HB.out _⟩
  rw [one0 hc hn h5 h6]
  clear hc hn
  go_enter Tryz.func67, Tryz.ntmps67
  go_wp2_with (first | (go_at_call 108; refine (proc_any _ _ (by assumption)).mono ?_; rintro e w' ⟨rfl, rfl⟩) | (go_at_call 109; refine (mod_any _ _ (by assumption)).mono ?_; rintro e w' ⟨rfl, rfl⟩) | (go_at_call 110; refine (HD.out _ (HB.out _)).mono ?_; rintro e w3 ⟨rfl, rfl⟩) | (go_at_call 79; refine (Ce.good_any _ _).mono ?_; rintro e w4 ⟨rfl, rfl⟩))
  go_ret
  exact ⟨rfl, HB.out _⟩
 have q0 : (f.net != 0) = true := by simpa using k0
 by_cases k1 : f.net = 1
 ·have q1 : (f.net != 1) = false := by rw [k1]; rfl
  have hn : 0 ≤ f.net ∧ f.net ≤ 1 := by omega
  clear k0 k1
  cases h5 : Da.good f.frm
  ·rw [one7 hc hn h5]
   clear hc hn
   go_enter Tryz.func67, Tryz.ntmps67
   go_wp2_with (first | (go_at_call 108; refine (proc_any _ _ (by assumption)).mono ?_; rintro e w' ⟨rfl, rfl⟩) | (go_at_call 109; refine (mod_any _ _ (by assumption)).mono ?_; rintro e w' ⟨rfl, rfl⟩) | (go_at_call 110; refine (HD.out _ (HB.out _)).mono ?_; rintro e w3 ⟨rfl, rfl⟩) | (go_at_call 79; refine (Ce.good_any _ _).mono ?_; rintro e w4 ⟨rfl, rfl⟩))
   go_ret
   exact ⟨rfl, HB.out _⟩
  cases h6 : Ce.good f.cents
  ·rw [one8 hc hn h5 h6]
   clear hc hn
   go_enter Tryz.func67, Tryz.ntmps67
   go_wp2_with (first | (go_at_call 108; refine (proc_any _ _ (by assumption)).mono ?_; rintro e w' ⟨rfl, rfl⟩) | (go_at_call 109; refine (mod_any _ _ (by assumption)).mono ?_; rintro e w' ⟨rfl, rfl⟩) | (go_at_call 110; refine (HD.out _ (HB.out _)).mono ?_; rintro e w3 ⟨rfl, rfl⟩) | (go_at_call 79; refine (Ce.good_any _ _).mono ?_; rintro e w4 ⟨rfl, rfl⟩))
   go_ret
   exact ⟨rfl, HB.out _⟩
  rw [one0 hc hn h5 h6]
  clear hc hn
  go_enter Tryz.func67, Tryz.ntmps67
  go_wp2_with (first | (go_at_call 108; refine (proc_any _ _ (by assumption)).mono ?_; rintro e w' ⟨rfl, rfl⟩) | (go_at_call 109; refine (mod_any _ _ (by assumption)).mono ?_; rintro e w' ⟨rfl, rfl⟩) | (go_at_call 110; refine (HD.out _ (HB.out _)).mono ?_; rintro e w3 ⟨rfl, rfl⟩) | (go_at_call 79; refine (Ce.good_any _ _).mono ?_; rintro e w4 ⟨rfl, rfl⟩))
  go_ret
  exact ⟨rfl, HB.out _⟩
 have q1 : (f.net != 1) = true := by simpa using k1
 have hn : ¬ (0 ≤ f.net ∧ f.net ≤ 1) := by omega
 clear k0 k1
 rw [one3 hc hn]
 clear hc hn
 go_enter Tryz.func67, Tryz.ntmps67
 go_wp2_with (first | (go_at_call 108; refine (proc_any _ _ (by assumption)).mono ?_; rintro e w' ⟨rfl, rfl⟩) | (go_at_call 109; refine (mod_any _ _ (by assumption)).mono ?_; rintro e w' ⟨rfl, rfl⟩) | (go_at_call 110; refine (HD.out _ (HB.out _)).mono ?_; rintro e w3 ⟨rfl, rfl⟩) | (go_at_call 79; refine (Ce.good_any _ _).mono ?_; rintro e w4 ⟨rfl, rfl⟩))
 go_ret
 exact ⟨rfl, HB.out _⟩
end Go.Proofs.YtfoooldkmokjpaaGreatDoor.Fe
end
