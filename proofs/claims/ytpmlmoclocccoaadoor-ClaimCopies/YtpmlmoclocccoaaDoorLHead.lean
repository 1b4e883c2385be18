/-
  What claim.ref and head answer, as contracts: for every claim; services are not looked at.
-/
import Derived.Test.YtpmlmoclocccoaaDoorLCode
set_option linter.unusedSimpArgs false
namespace Go.Proofs.YtpmlmoclocccoaaDoor.Cm
open Go.RowKit

theorem mk_empty (s : Tx) : (mk s).toList.isEmpty = decide (s = []) := by
  rw [Lib.toList_data, mk_list]
  rw [Bool.eq_iff_iff]
  simp

set_option maxHeartbeats 1000000 in
theorem ref_any (c : Cl) (m : Value) (w : World) (hm : ∃ a n k, m = .slice a n k) (hz : c.ref.length ≤ 281474976710656) :
    Calls Tryd.prog 43 #[clv c m] w fun e w' => e = .returned (.bool (refB c)) ∧ Below w.heap.size w w' := by
  obtain ⟨a, n, k, rfl⟩ := hm
  have HB := Lib.hid fun o => below_alloc w o
  by_cases h1 : c.does = 1
  · have hr : refB c = decide (c.ref = []) := by unfold refB; rw [if_pos h1]
    have he := mk_empty c.ref
    rw [hr]
    clear hr
    have hb : (c.does == 1) = true := by simpa using h1
    generalize decide (c.ref = []) = R at *
    clear h1
    go_enter Tryd.func43, Tryd.ntmps43
    go_wp2
    go_ret
    exact ⟨by simp [he], HB.out _⟩
  · have hr : refB c = codeB c.ref 1 12 := by unfold refB; rw [if_neg h1]
    have HN := Lib.hid fun w => name_any c.ref w (by omega)
    have hb : (c.does == 1) = false := by simpa using h1
    rw [hr]
    clear hr
    generalize codeB c.ref 1 12 = R at *
    go_enter Tryd.func43, Tryd.ntmps43
    go_wp2_with (go_at_call 42; refine (HN.out _).mono ?_; rintro e w' ⟨rfl, rfl⟩)
    go_ret
    exact ⟨rfl, HB.out _⟩
theorem head9 {x : Cl} (h : namesB x = false) : headE x = 9 := by simp [headE, h]
theorem head3 {x : Cl} (h : namesB x = true) (h1 : netB x.net = false) : headE x = 3 := by simp [headE, h, h1]
theorem head9' {x : Cl} (h : namesB x = true) (h1 : netB x.net = true) (h2 : refB x = false) : headE x = 9 := by simp [headE, h, h1, h2]
theorem head3' {x : Cl} (h : namesB x = true) (h1 : netB x.net = true) (h2 : refB x = true) (h3 : doesB x.does = false) : headE x = 3 := by simp [headE, h, h1, h2, h3]
theorem head0 {x : Cl} (h : namesB x = true) (h1 : netB x.net = true) (h2 : refB x = true) (h3 : doesB x.does = true) : headE x = 0 := by simp [headE, h, h1, h2, h3]
def ClShort (c : Cl) : Prop := c.id.length ≤ 281474976710656 ∧ c.mem.length ≤ 281474976710656 ∧ c.fam.length ≤ 281474976710656 ∧ c.ref.length ≤ 281474976710656
theorem ClOk.short {c : Cl} (h : ClOk c) : ClShort c := ⟨h.2.2.1, h.2.2.2.1, h.2.2.2.2.1, h.2.2.2.2.2.1⟩

set_option maxHeartbeats 2000000 in
theorem head_any (c : Cl) (m : Value) (w : World) (hm : ∃ a n k, m = .slice a n k) (hz : ClShort c) :
    Calls Tryd.prog 27 #[clv c m] w fun e w' => e = .returned (.int .i64 (headE c)) ∧ Below w.heap.size w w' := by
  obtain ⟨z1, z2, z3, z4⟩ := hz
  have HN := Lib.hid fun (s : Tx) (hs : s.length ≤ 281474976710656) w => name_any s w (by omega)
  have HR := Lib.hid fun w => ref_any c m w hm z4
  have HB := Lib.hid fun o => below_alloc w o
  have H9 := Lib.hid (@head9 c)
  have H3 := Lib.hid (@head3 c)
  have H9' := Lib.hid (@head9' c)
  have H3' := Lib.hid (@head3' c)
  have H0 := Lib.hid (@head0 c)
  unfold namesB at H9 H3 H9' H3' H0
  have HBX : Hid (∀ w', Below (w.alloc (.cells #[.string (mk c.id), .string (mk c.mem), .string (mk c.fam), .int .i64 c.net, .int .i64 c.does, .string (mk c.ref), m] 24)).heap.size (w.alloc (.cells #[.string (mk c.id), .string (mk c.mem), .string (mk c.fam), .int .i64 c.net, .int .i64 c.does, .string (mk c.ref), m] 24)) w' → ClBox w' w.heap.size c m) := fun w' hb => (ClBox.new w c m _).grw hb
  obtain ⟨a, n, k, rfl⟩ := hm
  cases h1 : codeB c.id 1 12
  · rw [H9.out (by rw [h1]; rfl)]
    clear H9 H3 H9' H3' H0
    go_enter Tryd.func27, Tryd.ntmps27
    go_wp2_with (first | (go_at_call 42; refine (HN.out _ (by assumption) _).mono ?_; rintro e w' ⟨rfl, rfl⟩))
    go_ret
    exact ⟨rfl, HB.out _⟩
  cases h2 : codeB c.mem 1 12
  · rw [H9.out (by rw [h1, h2]; rfl)]
    clear H9 H3 H9' H3' H0
    go_enter Tryd.func27, Tryd.ntmps27
    go_wp2_with (first | (go_at_call 42; refine (HN.out _ (by assumption) _).mono ?_; rintro e w' ⟨rfl, rfl⟩))
    go_ret
    exact ⟨rfl, HB.out _⟩
  cases h3 : codeB c.fam 1 12
  · rw [H9.out (by rw [h1, h2, h3]; rfl)]
    clear H9 H3 H9' H3' H0
    go_enter Tryd.func27, Tryd.ntmps27
    go_wp2_with (first | (go_at_call 42; refine (HN.out _ (by assumption) _).mono ?_; rintro e w' ⟨rfl, rfl⟩))
    go_ret
    exact ⟨rfl, HB.out _⟩
  have hn : (codeB c.id 1 12 && (codeB c.mem 1 12 && codeB c.fam 1 12)) = true := by rw [h1, h2, h3]; rfl
  have b0 : (c.net != 0) = !decide (c.net = 0) := by rw [Bool.eq_iff_iff]; simp
  have b1 : (c.net != 1) = !decide (c.net = 1) := by rw [Bool.eq_iff_iff]; simp
  cases h4 : netB c.net
  · rw [H3.out hn h4]
    clear H9 H3 H9' H3' H0 hn
    unfold netB at h4
    rw [Bool.or_eq_false_iff] at h4
    rw [h4.1] at b0
    rw [h4.2] at b1
    clear h4
    go_enter Tryd.func27, Tryd.ntmps27
    go_wp2_with (first | (go_at_call 42; refine (HN.out _ (by assumption) _).mono ?_; rintro e w' ⟨rfl, rfl⟩))
    go_ret
    exact ⟨rfl, HB.out _⟩
  have h5 : (c.net != 0) = false ∨ ((c.net != 0) = true ∧ (c.net != 1) = false) := by
    rw [b0, b1]
    unfold netB at h4
    rw [Bool.or_eq_true] at h4
    rcases h4 with h4 | h4
    · left; rw [h4]; rfl
    · right
      rw [h4]
      rw [decide_eq_true_eq] at h4
      rw [decide_eq_false (by omega)]
      exact ⟨rfl, rfl⟩
  clear b0 b1
  have d1 : (c.does != 1) = !decide (c.does = 1) := by rw [Bool.eq_iff_iff]; simp
  have d7 : (c.does != 7) = !decide (c.does = 7) := by rw [Bool.eq_iff_iff]; simp
  have d8 : (c.does != 8) = !decide (c.does = 8) := by rw [Bool.eq_iff_iff]; simp
  cases h6 : refB c
  · rw [H9'.out hn h4 h6]
    rw [h6] at HR
    clear H9 H3 H9' H3' H0 hn h4 d1 d7 d8
    rcases h5 with h5 | ⟨h5, h5'⟩ <;>
    · go_enter Tryd.func27, Tryd.ntmps27
      go_wp2_with (first | (go_at_call 42; refine (HN.out _ (by assumption) _).mono ?_; rintro e w' ⟨rfl, rfl⟩) | (go_at_call 43; refine (HR.out _).mono ?_; rintro e w1 ⟨rfl, hb⟩; have HB1 := Lib.hid hb; clear hb))
      go_ret
      exact ⟨rfl, below_trans (HB.out _) HB1.out⟩
  rw [h6] at HR
  cases h7 : doesB c.does
  · rw [H3'.out hn h4 h6 h7]
    clear H9 H3 H9' H3' H0 hn h4
    unfold doesB at h7
    simp only [Bool.or_eq_false_iff] at h7
    rw [h7.1] at d1
    rw [h7.2.1] at d7
    rw [h7.2.2] at d8
    clear h7
    rcases h5 with h5 | ⟨h5, h5'⟩ <;>
    · go_enter Tryd.func27, Tryd.ntmps27
      go_wp2_with (first | (go_at_call 42; refine (HN.out _ (by assumption) _).mono ?_; rintro e w' ⟨rfl, rfl⟩) | (go_at_call 43; refine (HR.out _).mono ?_; rintro e w1 ⟨rfl, hb⟩; obtain ⟨n0, n1, n2, n3, n4, n5, n6⟩ := HBX.out _ hb; have HB1 := Lib.hid hb; clear hb))
      go_ret
      exact ⟨rfl, below_trans (HB.out _) HB1.out⟩
  rw [H0.out hn h4 h6 h7]
  clear H9 H3 H9' H3' H0 hn h4
  have h8 : (c.does != 1) = false ∨ ((c.does != 1) = true ∧ (c.does != 7) = false) ∨ ((c.does != 1) = true ∧ (c.does != 7) = true ∧ (c.does != 8) = false) := by
    rw [d1, d7, d8]
    unfold doesB at h7
    simp only [Bool.or_eq_true, decide_eq_true_eq] at h7
    rcases h7 with h7 | h7 | h7 <;> simp [h7]
  clear d1 d7 d8 h7
  rcases h5 with h5 | ⟨h5, h5'⟩ <;> rcases h8 with h8 | ⟨h8, h8'⟩ | ⟨h8, h8', h8''⟩ <;>
  · go_enter Tryd.func27, Tryd.ntmps27
    go_wp2_with (first | (go_at_call 42; refine (HN.out _ (by assumption) _).mono ?_; rintro e w' ⟨rfl, rfl⟩) | (go_at_call 43; refine (HR.out _).mono ?_; rintro e w1 ⟨rfl, hb⟩; obtain ⟨n0, n1, n2, n3, n4, n5, n6⟩ := HBX.out _ hb; have HB1 := Lib.hid hb; clear hb))
    go_ret
    exact ⟨rfl, below_trans (HB.out _) HB1.out⟩
end Go.Proofs.YtpmlmoclocccoaaDoor.Cm
