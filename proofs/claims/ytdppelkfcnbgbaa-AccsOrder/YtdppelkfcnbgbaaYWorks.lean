/-
  What works answers, as a contract: yes.
-/
import Derived.Test.YtdppelkfcnbgbaaYRoom
import Derived.Test.YtdppelkfcnbgbaaYChk
set_option linter.unusedSimpArgs false
set_option linter.unusedVariables false
set_option maxRecDepth 100000
namespace Go.Proofs.Ytdppelkfcnbgbaa.Ac
open Go.RowKit

def tM1 : Tx := [77, 49]
def tF1 : Tx := [70, 49]
def exO : Sh.Ot := ⟨0, 100, 50, 0, 0, 0, 0, 0⟩
def exL : List Row := [⟨tM1, false, 2024, 100, 150⟩, ⟨tF1, true, 2024, 100, 150⟩]
theorem ex_bothE : bothE [] tM1 tF1 2024 exO = 0 := by rfl
theorem ex_bothV : bothV [] tM1 tF1 2024 exO = exL := by rfl
theorem ex_ok : Ok exL := (check_iff exL).1 (by rfl)
theorem ex_addE : addE exL tM1 false 2024 5 4 = 3 := by rfl
theorem ex_get : getV exL tF1 true 2024 = ⟨tF1, true, 2024, 100, 150⟩ := by rfl
theorem ex_room1 : roomV 0 300 350 (getV exL tM1 false 2024).de (getV exL tF1 true 2024).de = 200 := by rfl
theorem ex_room2 : roomV 0 1000 2000 (getV exL tM1 false 2024).oo (getV exL tF1 true 2024).oo = 850 := by rfl
theorem ex_check : checkE exL = 0 := by rfl
theorem ex_check1 : checkE [⟨[], false, 0, 0, 0⟩] = 1 := by rfl
theorem ok_nil : Ok [] := (check_iff []).1 (by rfl)

/-- x.Oop of a row in a value. -/
theorem run_oop (a b c d e : Value) (he : e.oneCell' = true) (w : World) : (Instr.field TA (.agg #[a, b, c, d, e]) 4).run Try.prog w = .ok e w := by
  have hu : Try.prog.underlying TA = some _ := Try.underlying31
  obtain ⟨i, hi, hz⟩ : ∃ i, Try.prog.info? 2 = some i ∧ i.size = 1 := by
    have h : (Try.prog.info? 2).map (·.size) = some 1 := by kernel_rfl
    cases q : Try.prog.info? 2 with
    | none => rw [q] at h; cases h
    | some i => rw [q] at h; exact ⟨i, rfl, by simpa using h⟩
  simp [Instr.field, run_underlying hu, asAgg, part, sizeOf, typeInfo, hi, hz]
set_option maxHeartbeats 8000000 in
theorem works_any (w : World) : Calls Try.prog 10 #[] w fun e w' => e = .returned (.bool true) ∧ Below w.heap.size w w' := by
  have HBo : Hid (Calls Try.prog 20 #[.slice none 0 0, .string ⟨#[77, 49]⟩, .string ⟨#[70, 49]⟩, .int .i64 2024, .agg #[.int .i64 0, .int .i64 100, .int .i64 50, .int .i64 0, .int .i64 0, .int .i64 0, .int .i64 0, .int .i64 0]] w fun e w' => ∃ v', e = .returned (.tuple #[v', .int .i64 0]) ∧ Own w.heap.size w' v' exL ∧ Below w.heap.size w w') := by
    have h := both_any [] tM1 tF1 2024 exO (.slice none 0 0) w (RwsAt.nil _ _) (by simp) ok_nil ⟨by decide, by decide, by decide⟩
    rw [ex_bothE, ex_bothV] at h
    exact h
  have HRo : Hid (∀ v W, RwsAt All W v exL → Calls Try.prog 24 #[.agg #[.int .i64 0, .int .i64 300, .int .i64 350, .int .i64 1000, .int .i64 2000, .slice none 0 0], v, .string ⟨#[77, 49]⟩, .string ⟨#[70, 49]⟩, .int .i64 2024] W fun e w' => e = .returned (.tuple #[.int .i64 200, .int .i64 850]) ∧ Below W.heap.size W w') := fun v W hW => by
    have h := room_any 0 300 350 1000 2000 none 0 0 exL tM1 tF1 2024 v W hW (by decide) ex_ok ⟨by decide, by decide⟩ ⟨by decide, by decide⟩ ⟨by decide, by decide⟩ ⟨by decide, by decide⟩
    rw [ex_room1, ex_room2] at h
    exact h
  have HAd : Hid (∀ v W, RwsAt All W v exL → Calls Try.prog 14 #[v, .string ⟨#[77, 49]⟩, .bool false, .int .i64 2024, .int .i64 5, .int .i64 4] W fun e w' => ∃ v', e = .returned (.tuple #[v', .int .i64 3]) ∧ Below W.heap.size W w') := fun v W hW => by
    have h := add_any exL tM1 false 2024 5 4 v W hW (by decide) ex_ok
    rw [ex_addE] at h
    exact h.mono fun e w' ⟨v', h1, _, h3⟩ => ⟨v', h1, h3⟩
  have HGe : Hid (∀ v W, RwsAt All W v exL → Calls Try.prog 17 #[v, .string ⟨#[70, 49]⟩, .bool true, .int .i64 2024] W fun e w' => e = .returned (.agg #[.string ⟨#[70, 49]⟩, .bool true, .int .i64 2024, .int .i64 100, .int .i64 150]) ∧ Below W.heap.size W w') := fun v W hW => by
    have h := get_any exL tF1 true 2024 v W hW (by decide) ex_ok.up
    rw [ex_get] at h
    exact h
  have HCk : Hid (∀ v W, RwsAt All W v exL → Calls Try.prog 11 #[v] W fun e w' => e = .returned (.int .i64 0) ∧ Below W.heap.size W w') := fun v W hW => by
    have h := check_any exL v W hW (by decide)
    rw [ex_check] at h
    exact h
  have HC1 : Hid (∀ W v, RwsAt All W v [⟨[], false, 0, 0, 0⟩] → Calls Try.prog 11 #[v] W fun e w' => e = .returned (.int .i64 1) ∧ Below W.heap.size W w') := fun W v hW => by
    have h := check_any _ v W hW (by decide)
    rw [ex_check1] at h
    exact h
  go_enter Try.func10, Try.ntmps10
  go_wp2_with fail
  go_at_call 20
  refine HBo.out.mono ?_
  rintro e w1 ⟨v1, rfl, ho1, hb1⟩
  have HR1 := Lib.hid (rws_of_own (K := All) ho1 fun _ _ => trivial)
  have HB1 := Lib.hid hb1
  obtain ⟨a1, c1, rfl, hm1, hm2⟩ := own_form ho1
  have hlen : exL.length = 2 := rfl
  rw [hlen] at hm1 HR1 ⊢
  clear ho1 hb1 HBo
  go_wp2_with fail
  go_at_call 24
  refine (HRo.out _ w1 HR1.out).mono ?_
  rintro e w2 ⟨rfl, hb2⟩
  have HR2 := Lib.hid (HR1.out.grw hb2)
  have HB2 := Lib.hid (below_trans HB1.out hb2)
  clear hb2 HRo HR1 HB1
  go_wp2_with fail
  go_at_call 14
  refine (HAd.out _ w2 HR2.out).mono ?_
  rintro e w3 ⟨v3, rfl, hb3⟩
  have HR3 := Lib.hid (HR2.out.grw hb3)
  have HB3 := Lib.hid (below_trans HB2.out hb3)
  clear hb3 HAd HR2 HB2
  go_wp2_with fail
  try (go_at_call 17)
  refine (HGe.out _ w3 HR3.out).mono ?_
  rintro e w4 ⟨rfl, hb4⟩
  have HR4 := Lib.hid (HR3.out.grw hb4)
  have HB4 := Lib.hid (below_trans HB3.out hb4)
  have hfld := run_oop (.string ⟨#[70, 49]⟩) (.bool true) (.int .i64 2024) (.int .i64 100) (.int .i64 150) rfl w4
  clear hb4 HGe HR3 HB3
  go_wp2_with fail
  try (go_at_call 11)
  refine (HCk.out _ w4 HR4.out).mono ?_
  rintro e w5 ⟨rfl, hb5⟩
  have HB5 := Lib.hid (below_trans HB4.out hb5)
  clear hb5 HCk HR4 HB4
  have hb6 := below_alloc w5 (.cells #[.string ⟨#[]⟩, .bool false, .int .i64 0, .int .i64 0, .int .i64 0] TA)
  have hz6 := heap_alloc_new w5 (.cells #[.string ⟨#[]⟩, .bool false, .int .i64 0, .int .i64 0, .int .i64 0] TA)
  have HR6 : Hid (RwsAt All (w5.alloc (.cells #[.string ⟨#[]⟩, .bool false, .int .i64 0, .int .i64 0, .int .i64 0] TA)) (.slice (some ⟨w5.heap.size, 0, none⟩) 1 1) [⟨[], false, 0, 0, 0⟩]) := by
    refine ⟨_, 1, rfl, by simp, by unfold maxLen; omega, Or.inr ⟨w5.heap.size, 0, rfl, trivial, by simp, fun j x hj => ?_⟩⟩
    match j, hj with
    | 0, hj =>
      obtain rfl := Option.some.inj hj
      exact cells5 hz6
    | n + 1, hj => simp at hj
  have HC6 := Lib.hid (HC1.out _ _ HR6.out)
  have HB6 := Lib.hid (below_trans HB5.out hb6)
  clear hb6 hz6 HR6 HC1 HB5
  go_wp2_with fail
  try (go_at_call 11)
  refine HC6.out.mono ?_
  rintro e w7 ⟨rfl, hb7⟩
  have HB7 := Lib.hid (below_trans HB6.out hb7)
  clear hb7 HC6 HB6
  go_wp2
  go_ret
  exact ⟨rfl, HB7.out⟩
end Go.Proofs.Ytdppelkfcnbgbaa.Ac
