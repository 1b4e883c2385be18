/-
  Texts put together (merge.py): MRun.
-/
import Derived.Test.YtpfpjbeofogbgaaMg22
/-
  What is owed of a number, by entries; one claim, one entry behind the other.
-/
section
set_option linter.unusedSimpArgs false
set_option linter.unusedVariables false
set_option maxRecDepth 100000
namespace Go.Proofs.Ytpfpjbeofogbgaa.Re
open Go.RowKit
open Sv (Ca Sr Cp checkE svcE ofE ofV totP svsV raw oneV)
open Bk (En)
open Sh (Ot)
open Cm (Ln)

def planS : List Ot → Int
  | [] => 0
  | o :: l => o.plan + planS l
theorem planS_app : ∀ (a b : List Ot), planS (a ++ b) = planS a + planS b
  | [], b => by simp [planS]
  | x :: a, b => by simp only [List.cons_append, planS, planS_app a b]; omega
theorem tot_plan : ∀ (ls : List Ln) (os : List Ot), os.length = ls.length → totP (svsV ls os) = planS os
  | [], [], _ => rfl
  | [], o :: os, h => by simp at h
  | l :: ls, [], h => by simp at h
  | l :: ls, o :: os, h => by simp only [svsV, totP, planS, oneV]; rw [tot_plan ls os (by simpa using h)]
theorem mem_svs : ∀ (ls : List Ln) (os : List Ot), os.length = ls.length → ∀ o ∈ os, ∃ l, oneV l o ∈ svsV ls os
  | [], [], _, o, ho => by cases ho
  | [], o :: os, h, _, _ => by simp at h
  | l :: ls, [], h, _, _ => by simp at h
  | l :: ls, x :: os, h, o, ho => by
    rcases List.mem_cons.1 ho with rfl | ho
    · exact ⟨l, List.mem_cons_self ..⟩
    · obtain ⟨l', h'⟩ := mem_svs ls os (by simpa using h) o ho
      exact ⟨l', List.mem_cons_of_mem _ h'⟩
theorem live_paid {y : En} (h : ofE y.cl y.outs = 0) : (nowV y).paid = planS y.outs ∧ ∀ o ∈ y.outs, 0 ≤ o.plan ∧ o.plan ≤ 10000000000000 := by
  have hl : y.outs.length = y.cl.lines.length := by
    unfold ofE at h
    by_cases hc : y.outs.length = y.cl.lines.length
    · exact hc
    · rw [if_neg hc] at h; simp at h
  have hc : checkE (raw y.cl y.outs) = 0 := by unfold ofE at h; rwa [if_pos hl] at h
  refine ⟨?_, fun o ho => ?_⟩
  · unfold nowV ofV
    rw [if_pos h]
    exact tot_plan _ _ hl
  · obtain ⟨l, hm⟩ := mem_svs _ _ hl o ho
    have h1 := ((Sv.check_iff _).1 hc).2.2.1 _ hm
    have h2 := ((Sv.svc_iff _ _).1 h1).2.2.1.2
    exact (Sv.ok_one _).1 h2
def owed (id : Tx) : List En → Int
  | [] => 0
  | y :: l => (if y.cl.id = id ∧ y.st = 0 then planS y.outs else 0) + owed id l
theorem owed_is (id : Tx) : ∀ (l : List En), (∀ y ∈ l, entE y = 0) → sumI id (mkN l) = owed id l
  | [], _ => rfl
  | y :: l, h => by
    have ih := owed_is id l fun z hz => h z (List.mem_cons_of_mem _ hz)
    have hy := h y (List.mem_cons_self ..)
    simp only [mkN, sumI_app, owed]
    rw [ih]
    congr 1
    unfold entN
    by_cases hs : y.st = 0
    · have ho : ofE y.cl y.outs = 0 := by unfold entE at hy; rw [if_pos hs] at hy; exact hy
      rw [if_pos hs]
      simp only [sumI, now_id ho, (live_paid ho).1, hs, and_true]
      split <;> omega
    · rw [if_neg hs, if_neg (fun hc => hs hc.2)]; rfl
theorem sumI_step {id : Tx} {l : List Cp} {k : Nat} {x : Cp} (hx : l[k]? = some x) {A s : Int} (h : A + sumI id (l.drop k) = s) : (A + (if x.id = id then x.paid else 0)) + sumI id (l.drop (k + 1)) = s := by
  obtain ⟨hl, e⟩ := List.getElem?_eq_some_iff.1 hx
  rw [List.drop_eq_getElem_cons hl, e] at h
  simp only [sumI] at h
  omega
theorem sumI_end {id : Tx} {l : List Cp} {k : Nat} (hk : l.length ≤ k) {A s : Int} (h : A + sumI id (l.drop k) = s) : A = s := by
  rw [List.drop_eq_nil_of_le hk] at h
  simp only [sumI] at h
  omega
theorem owed_step {id : Tx} {l : List En} {k : Nat} {y : En} (hx : l[k]? = some y) {A s : Int} (h : A + owed id (l.drop k) = s) : (A + (if y.cl.id = id ∧ y.st = 0 then planS y.outs else 0)) + owed id (l.drop (k + 1)) = s := by
  obtain ⟨hl, e⟩ := List.getElem?_eq_some_iff.1 hx
  rw [List.drop_eq_getElem_cons hl, e] at h
  simp only [owed] at h
  omega
theorem owed_end {id : Tx} {l : List En} {k : Nat} (hk : l.length ≤ k) {A s : Int} (h : A + owed id (l.drop k) = s) : A = s := by
  rw [List.drop_eq_nil_of_le hk] at h
  simp only [owed] at h
  omega
theorem plan_step {l : List Ot} {k : Nat} {o : Ot} (hx : l[k]? = some o) {A s : Int} (h : A + planS (l.drop k) = s) : (A + o.plan) + planS (l.drop (k + 1)) = s := by
  obtain ⟨hl, e⟩ := List.getElem?_eq_some_iff.1 hx
  rw [List.drop_eq_getElem_cons hl, e] at h
  simp only [planS] at h
  omega
theorem plan_end {l : List Ot} {k : Nat} (hk : l.length ≤ k) {A s : Int} (h : A + planS (l.drop k) = s) : A = s := by
  rw [List.drop_eq_nil_of_le hk] at h
  simp only [planS] at h
  omega
/-- What was told of a number, and is told now, is what is owed. -/
theorem runs_ok {n held : Int} {told : List Cp} {l : List En} (id : Tx) (h : makeE n told l held = 0) : sumI id told + sumI id (makeR n told l held).cs = owed id l ∧ (makeR n told l held).cs.length ≤ 2 * l.length ∧ (∀ x ∈ told, -10000000000000 ≤ x.paid ∧ x.paid ≤ 10000000000000) ∧ (∀ x ∈ (makeR n told l held).cs, -10000000000000 ≤ x.paid ∧ x.paid ≤ 10000000000000) ∧ ∀ y ∈ l, y.st = 0 → ∀ o ∈ y.outs, 0 ≤ o.plan ∧ o.plan ≤ 10000000000000 := by
  obtain ⟨-, -, hT, hE⟩ := make_ok h
  have e : (makeR n told l held).cs = mkO told l := by unfold makeR; rw [if_pos h]
  rw [e]
  refine ⟨?_, mkO_len l told, fun x hx => (paid_bd ((told_of hT).2 x hx).2).1, fun x hx => (paid_bd (mkO_bd hT hE x hx).1).1, fun y hy hs => ?_⟩
  · rw [mk_runs id l told (told_of hT).1 hE, owed_is id l (mk_all l told hE)]
  · have hy := mk_all l told hE y hy
    have ho : ofE y.cl y.outs = 0 := by unfold entE at hy; rw [if_pos hs] at hy; exact hy
    exact (live_paid ho).2
end Go.Proofs.Ytpfpjbeofogbgaa.Re
end
