/-
  Rows of texts, of elements and of segments, as they lie in memory; what stands while the rest is written.
-/
import Derived.Test.YtpnkgkchpoehcaaQSpec
import Derived.Below
import Derived.Laws.AppendOwn
import Derived.Deep.AppendLies
import Derived.Maps.AppendAt
import Derived.WalkKit
namespace Go.Proofs.Ytpnkgkchpoehcaa
open Go.RowKit

abbrev All : Nat → Prop := fun _ => True
def RowAt {α : Type} (K : Nat → Prop) (R : World → Value → α → Prop) (w : World) (v : Value) (xs : List α) : Prop :=
  ∃ a c, v = .slice a xs.length c ∧ xs.length ≤ c ∧ c ≤ maxLen ∧ (xs = [] ∨ ∃ b o, a = some ⟨b, o, none⟩ ∧ K b ∧ b < w.heap.size ∧ ∀ (j : Nat) x, xs[j]? = some x → ∃ u, w.cell? ⟨b, o + j, none⟩ = some u ∧ R w u x)
def StrAt (_ : World) (u : Value) (x : Tx) : Prop := u = .string (mk x)
def TxAt (K : Nat → Prop) : World → Value → List Tx → Prop := RowAt K StrAt
def ElAt (K : Nat → Prop) : World → Value → Sg → Prop := RowAt K (TxAt K)
def SgAt (K : Nat → Prop) : World → Value → List Sg → Prop := RowAt K (ElAt K)

/-- What lies in the blocks of K lies there still, and these are blocks of K'. -/
def Moves (K K' : Nat → Prop) (w w' : World) : Prop := w.heap.size ≤ w'.heap.size ∧ ∀ b, b < w.heap.size → K b → K' b ∧ w'.heap[b]? = w.heap[b]?

theorem RowAt.move {α : Type} {K K' : Nat → Prop} {R R' : World → Value → α → Prop} {w w' : World} {v : Value} {xs : List α} (h : RowAt K R w v xs) (hm : Moves K K' w w') (hR : ∀ u x, x ∈ xs → R w u x → R' w' u x) : RowAt K' R' w' v xs := by
  obtain ⟨a, c, rfl, h1, h2, h3⟩ := h
  refine ⟨a, c, rfl, h1, h2, h3.imp id ?_⟩
  rintro ⟨b, o, rfl, hk, hb, hc⟩
  obtain ⟨k', hh⟩ := hm.2 b hb hk
  refine ⟨b, o, rfl, k', Nat.lt_of_lt_of_le hb hm.1, fun j x hj => ?_⟩
  obtain ⟨u, hu, hr⟩ := hc j x hj
  exact ⟨u, by rw [World.cell?_of_block (w := w) hh]; exact hu, hR u x (List.mem_of_getElem? hj) hr⟩
theorem TxAt.move {K K' : Nat → Prop} {w w' : World} {v : Value} {xs : List Tx} (h : TxAt K w v xs) (hm : Moves K K' w w') : TxAt K' w' v xs := RowAt.move h hm fun _ _ _ h => h
theorem ElAt.move {K K' : Nat → Prop} {w w' : World} {v : Value} {xs : Sg} (h : ElAt K w v xs) (hm : Moves K K' w w') : ElAt K' w' v xs := RowAt.move h hm fun _ _ _ h => TxAt.move h hm
theorem SgAt.move {K K' : Nat → Prop} {w w' : World} {v : Value} {xs : List Sg} (h : SgAt K w v xs) (hm : Moves K K' w w') : SgAt K' w' v xs := RowAt.move h hm fun _ _ _ h => ElAt.move h hm

theorem Below.moves {w w' : World} (h : Below w.heap.size w w') : Moves All All w w' := ⟨h.size, fun b hb _ => ⟨trivial, h.block b hb⟩⟩
theorem Below.moves_lo {B : Nat} {w w' : World} (h : Below B w w') : Moves (fun b => b < B) (fun b => b < B) w w' := ⟨h.size, fun b _ hk => ⟨hk, h.block b hk⟩⟩
theorem moves_alloc (K : Nat → Prop) (w : World) (o : Obj) : Moves K K w (w.alloc o) := ⟨by simp, fun b hb hk => ⟨hk, Below.heap_alloc w o b hb⟩⟩
theorem Moves.trans {K K' K'' : Nat → Prop} {a b c : World} (h : Moves K K' a b) (k : Moves K' K'' b c) : Moves K K'' a c :=
  ⟨Nat.le_trans h.1 k.1, fun x hx hk => by
    obtain ⟨k1, e1⟩ := h.2 x hx hk
    obtain ⟨k2, e2⟩ := k.2 x (Nat.lt_of_lt_of_le hx h.1) k1
    exact ⟨k2, e2.trans e1⟩⟩
theorem moves_grown {K K' : Nat → Prop} {w w' : World} {row : Option Nat} (hg : w.grownBy w' row) (h : ∀ b, b < w.heap.size → K b → K' b ∧ some b ≠ row) : Moves K K' w w' :=
  ⟨hg.size, fun b hb hk => ⟨(h b hb hk).1, hg.block b hb (h b hb hk).2⟩⟩
theorem moves_weak {K K' : Nat → Prop} (w : World) (h : ∀ b, b < w.heap.size → K b → K' b) : Moves K K' w w := ⟨Nat.le_refl _, fun b hb hk => ⟨h b hb hk, rfl⟩⟩

theorem TxAt.nil (K : Nat → Prop) (w : World) : TxAt K w (.slice none 0 0) [] := ⟨none, 0, rfl, by simp, by simp [maxLen], Or.inl rfl⟩
theorem ElAt.nil (K : Nat → Prop) (w : World) : ElAt K w (.slice none 0 0) [] := ⟨none, 0, rfl, by simp, by simp [maxLen], Or.inl rfl⟩
theorem SgAt.nil (K : Nat → Prop) (w : World) : SgAt K w (.slice none 0 0) [] := ⟨none, 0, rfl, by simp, by simp [maxLen], Or.inl rfl⟩

/-- A row of the call's own, cell by cell. -/
theorem row_of_own {α : Type} {K : Nat → Prop} {R : World → Value → α → Prop} {w : World} {base : Nat} {e : TypeId} {v : Value} {xs : List Value} {ys : List α}
    (h : w.ownsRow base e 1 v ys.length xs) (hK : ∀ b, v.ownBlock = some b → K b) (hR : ∀ (j : Nat) u y, xs[j]? = some u → ys[j]? = some y → R w u y) : RowAt K R w v ys := by
  obtain ⟨hl, h⟩ := h
  rcases h with ⟨rfl, h0⟩ | ⟨g, cap, cur, rfl, _, hg, h1, h2, hs, ht⟩
  · obtain rfl := List.length_eq_zero_iff.1 h0
    exact ⟨none, 0, rfl, by simp, by simp [maxLen], Or.inl rfl⟩
  · refine ⟨_, cap, rfl, h1, h2, Or.inr ⟨g, 0, rfl, hK g rfl, (Array.getElem?_eq_some_iff.1 hg).1, fun j y hj => ?_⟩⟩
    have hjl : j < ys.length := (List.getElem?_eq_some_iff.1 hj).1
    have hjx : j < xs.length := by omega
    refine ⟨xs[j], ?_, hR j _ y (List.getElem?_eq_getElem hjx) hj⟩
    rw [Nat.zero_add, cell_of_row w g j cur e (0, 0) hg]
    obtain ⟨u, hu⟩ : ∃ u, xs[j]? = some u := ⟨_, List.getElem?_eq_getElem hjx⟩
    have hu2 : xs[j] = u := by rw [List.getElem?_eq_getElem hjx] at hu; exact Option.some.inj hu
    rw [hu2]
    rw [← ht, List.getElem?_take] at hu
    split at hu
    · simpa using hu
    · cases hu
end Go.Proofs.Ytpnkgkchpoehcaa
