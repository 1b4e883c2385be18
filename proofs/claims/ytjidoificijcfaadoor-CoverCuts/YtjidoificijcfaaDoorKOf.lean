/-
  What the reference's Of answers, as a contract: a segment of three plain elements, in new memory.
-/
import Derived.Test.YtjidoificijcfaaDoorKEnds
set_option linter.unusedSimpArgs false
namespace Go.Proofs.YtjidoificijcfaaDoor
open Go.RowKit

theorem row_newK {α : Type} {K : Nat → Prop} {R : World → Value → α → Prop} (w : World) (us : List Value) (xs : List α) (t : TypeId) (hK : K w.heap.size) (hl : us.length = xs.length) (hm : xs.length ≤ maxLen) (hR : ∀ (j : Nat) u x, us[j]? = some u → xs[j]? = some x → R (w.alloc (.cells us.toArray t)) u x) :
    RowAt K R (w.alloc (.cells us.toArray t)) (.slice (some ⟨w.heap.size, 0, none⟩) xs.length xs.length) xs := by
  refine ⟨_, _, rfl, Nat.le_refl _, hm, Or.inr ⟨w.heap.size, 0, rfl, hK, by simp, fun j x hj => ?_⟩⟩
  have hjl : j < us.length := by rw [hl]; exact (List.getElem?_eq_some_iff.1 hj).1
  refine ⟨us[j], ?_, hR j _ x (List.getElem?_eq_getElem hjl) hj⟩
  rw [Nat.zero_add, World.cell?_alloc_new]
  simp [hjl]
theorem tx_oneK {K : Nat → Prop} (w : World) (a : Tx) (hK : K w.heap.size) : TxAt K (w.alloc (.cells #[.string (mk a)] 9)) (.slice (some ⟨w.heap.size, 0, none⟩) 1 1) [a] := by
  refine row_newK (R := StrAt) w [.string (mk a)] [a] 9 hK rfl (by simp only [maxLen]; simp) fun j u x hu hx => ?_
  match j, hu, hx with
  | 0, hu, hx => simp at hu hx; subst hu hx; rfl
theorem el_threeK {K : Nat → Prop} {w : World} {u1 u2 u3 : Value} {g1 g2 g3 : List Tx} (hK : K w.heap.size) (h1 : TxAt K w u1 g1) (h2 : TxAt K w u2 g2) (h3 : TxAt K w u3 g3) : ElAt K (w.alloc (.cells #[u1, u2, u3] 41)) (.slice (some ⟨w.heap.size, 0, none⟩) 3 3) [g1, g2, g3] := by
  refine row_newK (R := TxAt K) w [u1, u2, u3] [g1, g2, g3] 41 hK rfl (by simp only [maxLen]; simp) fun j u x hu hx => ?_
  have hm := moves_alloc K w (.cells #[u1, u2, u3] 41)
  match j, hu, hx with
  | 0, hu, hx => simp at hu hx; subst hu hx; exact TxAt.move h1 hm
  | 1, hu, hx => simp at hu hx; subst hu hx; exact TxAt.move h2 hm
  | 2, hu, hx => simp at hu hx; subst hu hx; exact TxAt.move h3 hm

set_option maxHeartbeats 1000000 in
theorem of_new (a b c : Tx) (w : World) :
    Calls Tryd.prog 19 #[.string (mk a), .string (mk b), .string (mk c)] w fun x w' => (∃ q, x = .returned (.agg #[.slice (some ⟨q, 0, none⟩) 3 3]) ∧ ElAt (fun b => w.heap.size ≤ b) w' (.slice (some ⟨q, 0, none⟩) 3 3) (seg3 a b c)) ∧ Below w.heap.size w w' := by
  have HE : Hid (∀ o1, ElAt (fun b => w.heap.size ≤ b) (((((w.alloc o1).alloc (.cells #[.string (mk a)] 9)).alloc (.cells #[.string (mk b)] 9)).alloc (.cells #[.string (mk c)] 9)).alloc (.cells #[.slice (some ⟨w.heap.size + 1, 0, none⟩) 1 1, .slice (some ⟨w.heap.size + 2, 0, none⟩) 1 1, .slice (some ⟨w.heap.size + 3, 0, none⟩) 1 1] 41)) (.slice (some ⟨w.heap.size + 4, 0, none⟩) 3 3) (seg3 a b c)) := fun o1 => by
    have e0 : (w.alloc o1).heap.size = w.heap.size + 1 := by simp
    have e1 : ((w.alloc o1).alloc (.cells #[.string (mk a)] 9)).heap.size = w.heap.size + 2 := by simp
    have e2 : (((w.alloc o1).alloc (.cells #[.string (mk a)] 9)).alloc (.cells #[.string (mk b)] 9)).heap.size = w.heap.size + 3 := by simp
    have e3 : ((((w.alloc o1).alloc (.cells #[.string (mk a)] 9)).alloc (.cells #[.string (mk b)] 9)).alloc (.cells #[.string (mk c)] 9)).heap.size = w.heap.size + 4 := by simp
    have t1 := tx_oneK (K := fun b => w.heap.size ≤ b) (w.alloc o1) a (by show w.heap.size ≤ _; rw [e0]; omega)
    have t2 := tx_oneK (K := fun b => w.heap.size ≤ b) ((w.alloc o1).alloc (.cells #[.string (mk a)] 9)) b (by show w.heap.size ≤ _; rw [e1]; omega)
    have t3 := tx_oneK (K := fun b => w.heap.size ≤ b) (((w.alloc o1).alloc (.cells #[.string (mk a)] 9)).alloc (.cells #[.string (mk b)] 9)) c (by show w.heap.size ≤ _; rw [e2]; omega)
    rw [e0] at t1
    rw [e1] at t2
    rw [e2] at t3
    have := el_threeK (K := fun b => w.heap.size ≤ b) (by show w.heap.size ≤ _; rw [e3]; omega) (TxAt.move (TxAt.move t1 (moves_alloc _ _ _)) (moves_alloc _ _ (.cells #[.string (mk c)] 9))) (TxAt.move t2 (moves_alloc _ _ (.cells #[.string (mk c)] 9))) t3
    rw [e3] at this
    exact this
  have HB : Hid (∀ o1 o2 o3 o4 o5, Below w.heap.size w (((((w.alloc o1).alloc o2).alloc o3).alloc o4).alloc o5)) := fun o1 o2 o3 o4 o5 => below_trans (below_trans (below_trans (below_trans (below_alloc w o1) (below_alloc _ o2)) (below_alloc _ o3)) (below_alloc _ o4)) (below_alloc _ o5)
  generalize mk a = X at *
  generalize mk b = Y at *
  generalize mk c = Z at *
  go_enter Tryd.func19, Tryd.ntmps19
  go_wp2
  refine bodyPost_ret (v := .agg #[.slice (some ⟨w.heap.size + 4, 0, none⟩) 3 3]) (by simp [results, Tryd.results19, go_sem]) rfl ?_
  exact ⟨⟨w.heap.size + 4, rfl, HE.out _⟩, HB.out _ _ _ _ _⟩
theorem of_any (a b c : Tx) (w : World) :
    Calls Tryd.prog 19 #[.string (mk a), .string (mk b), .string (mk c)] w fun x w' => (∃ q, x = .returned (.agg #[.slice (some ⟨q, 0, none⟩) 3 3]) ∧ ElAt All w' (.slice (some ⟨q, 0, none⟩) 3 3) (seg3 a b c)) ∧ Below w.heap.size w w' :=
  (of_new a b c w).mono fun _ _ ⟨⟨q, h1, h2⟩, h3⟩ => ⟨⟨q, h1, ElAt.move h2 (moves_weak _ fun _ _ _ => trivial)⟩, h3⟩
end Go.Proofs.YtjidoificijcfaaDoor
