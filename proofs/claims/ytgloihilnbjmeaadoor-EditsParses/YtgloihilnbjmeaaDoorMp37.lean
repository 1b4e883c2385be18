/-
  Texts put together (merge.py): WJoin.
-/
import Derived.BigQuiet
import Derived.Deep.DeepCutAuto
import Derived.Test.YtgloihilnbjmeaaDoorMp36
import Derived.Test.YtgloihilnbjmeaaDoorShelf
/-
  What words.Join, and the reference's Join and Same, answer, as contracts; the example of the statements holds.
-/
section
set_option linter.unusedSimpArgs false
set_option linter.unusedVariables false
namespace Go.Proofs.YtgloihilnbjmeaaDoor.Wo
open Go.RowKit

theorem sum_many : ∀ xs : List Tx, xs.length ≤ (xs.map fun x => 1 + x.length).sum
  | [] => by simp
  | x :: r => by have := sum_many r; simp only [List.length_cons, List.map_cons, List.sum_cons]; omega
theorem join_many (c : UInt8) (xs : List Tx) : xs.length ≤ (joinC c xs).length + 1 := by
  by_cases h : xs = []
  · subst h; simp
  · rw [join_len c xs h]; exact sum_many xs
theorem strings_join (v : Value) (xs : List Tx) (c : UInt8) (w : World) (h : TxAt All w v xs) (hl : (joinC c xs).length ≤ 1000000) :
    Calls Tryd.prog 34 #[v, .string (mk [c])] w fun e w' => e = .returned (.string (mk (joinC c xs))) ∧ Below w.heap.size w w' := by
  obtain ⟨a, cap, rfl, h1, h2, h3⟩ := h
  rcases h3 with rfl | ⟨b, o, rfl, _, hb, hc⟩
  · refine (Tryd.strings_Join_none a cap _ w).mono ?_
    rintro e w' ⟨rfl, rfl⟩
    exact ⟨rfl, Below.refl _ _⟩
  · have e1 : (xs.map mk).map (·.data.toList) = xs := by
      rw [List.map_map]
      conv => rhs; rw [← List.map_id xs]
      exact List.map_congr_left fun x _ => mk_list x
    have e2 : (xs.map mk).length = xs.length := List.length_map ..
    have e3 : (mk [c]).data.toList = [c] := mk_list _
    have := Tryd.strings_Join b o cap (xs.map mk) (mk [c]) w (fun j x hx => by
      rw [List.getElem?_map, Option.map_eq_some_iff] at hx
      obtain ⟨y, hy, rfl⟩ := hx
      obtain ⟨u, hu, rfl⟩ := hc j y hy
      exact hu) hb (by rw [e2]; have := join_many c xs; omega) (by rw [e2]; exact h1) (by rw [e1, e3]; exact Nat.le_trans hl (by omega))
    rw [e1, e2, e3] at this
    exact this
set_option maxHeartbeats 1000000 in
theorem join_any (v : Value) (xs : List Tx) (w : World) (h : TxAt All w v xs) (hl : (joinC 32 xs).length ≤ 1000000) :
    Calls Tryd.prog 22 #[v] w fun e w' => e = .returned (.string (mk (joinC 32 xs))) ∧ Below w.heap.size w w' := by
  have HJ : Hid (Calls Tryd.prog 34 #[v, .string ⟨#[32]⟩] w _) := strings_join v xs 32 w h hl
  obtain ⟨a, c, rfl, -, -, -⟩ := h
  go_enter Tryd.func22, Tryd.ntmps22
  go_wp2_with (go_at_call 34; refine HJ.out.mono ?_; rintro e w1 ⟨rfl, hb⟩; have HB := Lib.hid hb; clear hb)
  go_ret
  exact ⟨rfl, HB.out⟩

theorem mk_cat (a b : Tx) : mk a ++ mk b = mk (a ++ b) := by
  apply ByteArray.ext
  simp [mk]
theorem join_take (c : UInt8) (xs : List Tx) (k : Nat) (x : Tx) (hx : xs[k]? = some x) : joinC c (xs.take (k + 1)) = (if k = 0 then [] else joinC c (xs.take k) ++ [c]) ++ x := by
  cases xs with
  | nil => simp at hx
  | cons y r =>
    cases k with
    | zero =>
      simp at hx
      subst hx
      simp [joinC_one]
    | succ k =>
      rw [List.getElem?_cons_succ] at hx
      unfold joinC
      rw [List.take_succ_cons, Lib.join_cons, List.take_succ_cons, Lib.join_cons, Lib.joinTail_take_succ [c] r k x hx, if_neg (by omega)]
      simp
theorem tx_get {K : Nat → Prop} {w : World} {a : Option Addr} {n c : Nat} {xs : List Tx} (h : TxAt K w (.slice a n c) xs) (k : Nat) (hk : k < xs.length) :
    ∃ b o, a = some ⟨b, o, none⟩ ∧ xs[k]? = some xs[k] ∧ w.cell? ⟨b, o + k, none⟩ = some (.string (mk xs[k])) := by
  obtain ⟨a', c', he, h1, h2, h3⟩ := h
  have ha : a = a' := by injection he
  subst ha
  rcases h3 with h | ⟨b, o, ha, _, _, hc⟩
  · subst h; simp at hk
  · have hx := List.getElem?_eq_getElem hk
    obtain ⟨m, q1, rfl⟩ := hc k _ hx
    exact ⟨b, o, ha, hx, q1⟩
theorem join_len_take (c : UInt8) (xs : List Tx) (k : Nat) : (joinC c (xs.take k)).length ≤ (joinC c xs).length := by
  by_cases h : xs.take k = []
  · rw [h]; exact Nat.zero_le _
  · have h' : xs ≠ [] := fun e => h (by rw [e]; simp)
    have e1 := join_len c _ h
    have e2 := join_len c _ h'
    have e3 : ((xs.take k).map fun x => 1 + x.length).sum ≤ (xs.map fun x => 1 + x.length).sum := by
      conv => rhs; rw [← List.take_append_drop k xs]
      rw [List.map_append, List.sum_append]
      omega
    omega
theorem infoS : ∃ i, Tryd.prog.info? 9 = some i ∧ i.zero = some (.string ByteArray.empty) ∧ i.size = 1 ∧ i.bytes = 16 := by
  have hi : (Tryd.prog.info? 9).map (fun i => (i.zero, i.size, i.bytes)) = some (some (.string ByteArray.empty), 1, 16) := by kernel_rfl
  cases hq : Tryd.prog.info? 9 with
  | none => rw [hq] at hi; cases hi
  | some i =>
    rw [hq] at hi
    simp only [Option.map_some, Option.some.injEq, Prod.mk.injEq] at hi
    exact ⟨i, rfl, hi⟩
theorem lit1 : spE [114, 117, 108, 101, 32, 53, 32, 40, 97, 108, 108, 41, 10, 49, 50, 46, 53, 48] = 0 ∧ spA [114, 117, 108, 101, 32, 53, 32, 40, 97, 108, 108, 41, 10, 49, 50, 46, 53, 48] = 0 ∧ spV [114, 117, 108, 101, 32, 53, 32, 40, 97, 108, 108, 41, 10, 49, 50, 46, 53, 48] = [([114, 117, 108, 101], 0), ([53], 5), ([40], 7), ([97, 108, 108], 8), ([41], 11), ([49, 50, 46, 53, 48], 13)] := by decide
theorem lit2 : spE [97, 44, 98] = 4 ∧ spA [97, 44, 98] = 1 ∧ spV [97, 44, 98] = [] := by decide
theorem two_at (w : World) : TxAt All (w.alloc (.cells #[.string ⟨#[97]⟩, .string ⟨#[98]⟩] 9)) (.slice (some ⟨w.heap.size, 0, none⟩) 2 2) [[97], [98]] := by
  refine ⟨_, 2, rfl, by decide, by simp [maxLen], Or.inr ⟨w.heap.size, 0, rfl, trivial, by simp, fun j x hj => ?_⟩⟩
  have h := heap_alloc_new w (.cells #[.string ⟨#[97]⟩, .string ⟨#[98]⟩] 9)
  match j, hj with
  | 0, hj => simp at hj; subst hj; exact ⟨_, by rw [cell_of_row _ _ _ _ _ _ h]; rfl, rfl⟩
  | 1, hj => simp at hj; subst hj; exact ⟨_, by rw [cell_of_row _ _ _ _ _ _ h]; rfl, rfl⟩
end Go.Proofs.YtgloihilnbjmeaaDoor.Wo
end
