/-
  What the reference's Check of a plan leans on, in short. (For the seats of the layers above plan's.)
-/
import Derived.Test.YtdppelkfcnbgbaaPCode
import Derived.Test.YtdppelkfcnbgbaaPChe
import Derived.Test.YtdppelkfcnbgbaaCAdds
set_option linter.unusedSimpArgs false
set_option linter.unusedVariables false
set_option maxRecDepth 100000
namespace Go.Proofs.Ytdppelkfcnbgbaa.Pl
open Go.RowKit
open Wo (Wd WdsAt box_cell box_two keepB heap_far)

theorem eq_lit (x t : Tx) : ((mk x).toList == t) = decide (x = t) := by
  rw [Lib.toList_data, mk_list, Bool.eq_iff_iff]
  simp
theorem lit_t {x t : Tx} (h : x = t) : ((mk x).toList == t) = true := by rw [eq_lit]; exact decide_eq_true h
theorem lit_f {x t : Tx} (h : ¬ x = t) : ((mk x).toList == t) = false := by rw [eq_lit]; exact decide_eq_false h
theorem condB_eq (f : Nat) (c : Cd) : condB (f + 1) c = (decide (c.kids.length = kidN c.kind) && (c.kids.all (condB f) && leafB c.kind c.lo c.hi c.n)) := by cases c; rfl
theorem all_take1 {p : Cd → Bool} (l : List Cd) (k : Nat) (c : Cd) (h : l[k]? = some c) (hk : (l.take k).all p = true) (hc : p c = true) : (l.take (k + 1)).all p = true := by
  rw [List.take_add_one, h]; simp_all
theorem all_not1 {p : Cd → Bool} (l : List Cd) (k : Nat) (c : Cd) (h : l[k]? = some c) (hc : p c = false) : l.all p = false := by
  rw [List.all_eq_false]
  exact ⟨c, List.mem_of_getElem? h, by simp [hc]⟩
theorem leaf_plain (k : Int) (lo hi : Tx) (n : Int) (h : k = 0 ∨ k = 5 ∨ k = 6 ∨ k = 7 ∨ k = 8) : leafB k lo hi n = (((mk lo).toList == []) && (((mk hi).toList == []) && (n == 0))) := by
  rw [eq_lit, eq_lit, show (n == 0) = decide (n = 0) from rfl]
  rcases h with rfl | rfl | rfl | rfl | rfl <;> rfl
theorem leaf_other (k : Int) (lo hi : Tx) (n : Int) (h : ¬ (0 ≤ k ∧ k ≤ 8)) : leafB k lo hi n = false := by
  unfold leafB
  have : (decide (0 ≤ k) && decide (k ≤ 8)) = false := by simp; omega
  rw [this]; rfl
theorem ruleB_eq (r : Ru) : ruleB r = ((decide (0 ≤ r.rank) && decide (r.rank ≤ 9999)) && (condB 16 r.cif && (decide (r.unl.length ≤ 1) && (r.unl.all (condB 16) && (decide (1 ≤ r.sets.length) && setsB [] r.sets))))) := rfl
theorem StsAt.take {K : Nat → Prop} {w : World} {a : Option Addr} {n c : Nat} {ss : List St} (h : StsAt K w (.slice a n c) ss) (k : Nat) (hk : k ≤ ss.length) : StsAt K w (.slice a k c) (ss.take k) := by
  obtain ⟨a', c', he, h1, h2, h4, h5, h3⟩ := h
  injection he with e1 e2 e3
  subst e1 e2 e3
  have hl : (ss.take k).length = k := by simp; omega
  refine ⟨a, c, by rw [hl], by rw [hl]; omega, h2, by rw [hl]; omega, fun x hx => h5 x (List.mem_of_mem_take hx), ?_⟩
  rcases h3 with h | ⟨b, o, ha, hK, hb, hc⟩
  · subst h; left; simp
  · exact Or.inr ⟨b, o, ha, hK, hb, fun j x hj => hc j x (by rw [List.getElem?_take] at hj; split at hj; exact hj; cases hj)⟩
theorem sets_at (ss : List St) (k : Nat) (s : St) (seen : List Int) (h : ss[k]? = some s) : setsB seen (ss.drop k) = (setB s && (decide (s.what ∉ seen) && setsB (seen ++ [s.what]) (ss.drop (k + 1)))) := by
  have hk : k < ss.length := (List.getElem?_eq_some_iff.1 h).1
  have hs : ss[k] = s := (List.getElem?_eq_some_iff.1 h).2
  rw [List.drop_eq_getElem_cons hk, hs]
  rfl
theorem map_take1 (ss : List St) (k : Nat) (s : St) (h : ss[k]? = some s) : (ss.take (k + 1)).map (·.what) = (ss.take k).map (·.what) ++ [s.what] := by
  rw [List.take_add_one, h]; simp
theorem all_takeR {p : Ru → Bool} (l : List Ru) (k : Nat) (c : Ru) (h : l[k]? = some c) (hk : (l.take k).all p = true) (hc : p c = true) : (l.take (k + 1)).all p = true := by
  rw [List.take_add_one, h]; simp_all
theorem all_notR {p : Ru → Bool} (l : List Ru) (k : Nat) (c : Ru) (h : l[k]? = some c) (hc : p c = false) : l.all p = false := by
  rw [List.all_eq_false]
  exact ⟨c, List.mem_of_getElem? h, by simp [hc]⟩
theorem mk_eqs (x y : Tx) : ((mk x).toList == (mk y).toList) = decide (x = y) := by
  rw [Lib.toList_data, Lib.toList_data, mk_list, mk_list]
  rw [Bool.eq_iff_iff]
  simp
end Go.Proofs.Ytdppelkfcnbgbaa.Pl
