/-
  Reading byte by byte, over plain lists: what each byte does.
-/
import Derived.Test.YtjidoificijcfaaDoorQSplit
namespace Go.Proofs.YtjidoificijcfaaDoor

def curS (s : UInt8) (l : Tx) (i : Nat) : Tx := las s (l.take i)
def curE (e s : UInt8) (l : Tx) (i : Nat) : Tx := las e (curS s l i)
def curP (e p s : UInt8) (l : Tx) (i : Nat) : Tx := las p (curE e s l i)
def stG (e p s : UInt8) (l : Tx) (i : Nat) : List Sg := (ini s (l.take i)).map (parse e p)
def stE (e p s : UInt8) (l : Tx) (i : Nat) : Sg := (ini e (curS s l i)).map (splitC p)
def stP (e p s : UInt8) (l : Tx) (i : Nat) : List Tx := ini p (curE e s l i)

theorem st_zero (e p s : UInt8) (l : Tx) : stG e p s l 0 = [] ∧ stE e p s l 0 = [] ∧ stP e p s l 0 = [] ∧ curP e p s l 0 = [] ∧ curS s l 0 = [] := by
  refine ⟨?_, ?_, ?_, ?_, ?_⟩ <;> simp [stG, stE, stP, curP, curE, curS, ini_nil]
theorem print_snoc (l : Tx) (c : UInt8) : printB (l ++ [c]) = (printB l && prn c) := by simp [printB]
theorem st_other {e p s c : UInt8} {l : Tx} {i : Nat} (hx : l.take (i + 1) = l.take i ++ [c]) (he : c ≠ e) (hp : c ≠ p) (hs : c ≠ s) :
    stG e p s l (i + 1) = stG e p s l i ∧ stE e p s l (i + 1) = stE e p s l i ∧ stP e p s l (i + 1) = stP e p s l i ∧ curP e p s l (i + 1) = curP e p s l i ++ [c] ∧ curS s l (i + 1) = curS s l i ++ [c] ∧ ini s (l.take (i + 1)) = ini s (l.take i) := by
  obtain ⟨a1, a2⟩ := snoc_ne s c (l.take i) hs
  have h2 : curS s l (i + 1) = curS s l i ++ [c] := by unfold curS; rw [hx]; exact a2
  obtain ⟨b1, b2⟩ := snoc_ne e c (curS s l i) he
  have h3 : curE e s l (i + 1) = curE e s l i ++ [c] := by unfold curE; rw [h2]; exact b2
  obtain ⟨c1, c2⟩ := snoc_ne p c (curE e s l i) hp
  refine ⟨by unfold stG; rw [hx, a1], by unfold stE; rw [h2, b1], by unfold stP; rw [h3, c1], by unfold curP; rw [h3]; exact c2, h2, by rw [hx, a1]⟩
theorem st_part {e p s : UInt8} {l : Tx} {i : Nat} (hx : l.take (i + 1) = l.take i ++ [p]) (he : p ≠ e) (hs : p ≠ s) :
    stG e p s l (i + 1) = stG e p s l i ∧ stE e p s l (i + 1) = stE e p s l i ∧ stP e p s l (i + 1) = stP e p s l i ++ [curP e p s l i] ∧ curP e p s l (i + 1) = [] ∧ curS s l (i + 1) = curS s l i ++ [p] ∧ ini s (l.take (i + 1)) = ini s (l.take i) := by
  obtain ⟨a1, a2⟩ := snoc_ne s p (l.take i) hs
  have h2 : curS s l (i + 1) = curS s l i ++ [p] := by unfold curS; rw [hx]; exact a2
  obtain ⟨b1, b2⟩ := snoc_ne e p (curS s l i) he
  have h3 : curE e s l (i + 1) = curE e s l i ++ [p] := by unfold curE; rw [h2]; exact b2
  obtain ⟨c1, c2⟩ := snoc_eq p (curE e s l i)
  refine ⟨by unfold stG; rw [hx, a1], by unfold stE; rw [h2, b1], by unfold stP; rw [h3, c1]; rfl, by unfold curP; rw [h3]; exact c2, h2, by rw [hx, a1]⟩
theorem st_elem {e p s : UInt8} {l : Tx} {i : Nat} (hx : l.take (i + 1) = l.take i ++ [e]) (hs : e ≠ s) :
    stG e p s l (i + 1) = stG e p s l i ∧ stE e p s l (i + 1) = stE e p s l i ++ [stP e p s l i ++ [curP e p s l i]] ∧ stP e p s l (i + 1) = [] ∧ curP e p s l (i + 1) = [] ∧ curS s l (i + 1) = curS s l i ++ [e] ∧ ini s (l.take (i + 1)) = ini s (l.take i) := by
  obtain ⟨a1, a2⟩ := snoc_ne s e (l.take i) hs
  have h2 : curS s l (i + 1) = curS s l i ++ [e] := by unfold curS; rw [hx]; exact a2
  obtain ⟨b1, b2⟩ := snoc_eq e (curS s l i)
  have h3 : curE e s l (i + 1) = [] := by unfold curE; rw [h2]; exact b2
  have h4 : splitC p (curE e s l i) = stP e p s l i ++ [curP e p s l i] := split_ini p _
  refine ⟨by unfold stG; rw [hx, a1], ?_, by unfold stP; rw [h3]; rfl, by unfold curP; rw [h3]; rfl, h2, by rw [hx, a1]⟩
  unfold stE
  rw [h2, b1, List.map_append, ← h4]
  rfl
theorem parse_cur (e p s : UInt8) (l : Tx) (i : Nat) : parse e p (curS s l i) = stE e p s l i ++ [stP e p s l i ++ [curP e p s l i]] := by
  have h4 : splitC p (curE e s l i) = stP e p s l i ++ [curP e p s l i] := split_ini p _
  unfold parse stE
  rw [split_ini e (curS s l i), List.map_append, ← h4]
  rfl
theorem st_seg {e p s : UInt8} {l : Tx} {i : Nat} (hx : l.take (i + 1) = l.take i ++ [s]) :
    stG e p s l (i + 1) = stG e p s l i ++ [stE e p s l i ++ [stP e p s l i ++ [curP e p s l i]]] ∧ stE e p s l (i + 1) = [] ∧ stP e p s l (i + 1) = [] ∧ curP e p s l (i + 1) = [] ∧ curS s l (i + 1) = [] ∧ ini s (l.take (i + 1)) = ini s (l.take i) ++ [curS s l i] := by
  obtain ⟨a1, a2⟩ := snoc_eq s (l.take i)
  have h2 : curS s l (i + 1) = [] := by unfold curS; rw [hx]; exact a2
  have h3 : curE e s l (i + 1) = [] := by unfold curE; rw [h2]; rfl
  have h5 : ini s (l.take (i + 1)) = ini s (l.take i) ++ [curS s l i] := by rw [hx, a1]; rfl
  refine ⟨?_, by unfold stE; rw [h2]; rfl, by unfold stP; rw [h3]; rfl, by unfold curP; rw [h3]; rfl, h2, h5⟩
  unfold stG
  rw [h5, List.map_append, ← parse_cur]
  rfl
theorem cut_at (l : Tx) (i : Nat) (c : UInt8) (hx : l[i]? = some c) : l = l.take i ++ c :: l.drop (i + 1) := by
  have hi := (List.getElem?_eq_some_iff.1 hx).1
  conv => lhs; rw [← List.take_append_drop i l, List.drop_eq_getElem_cons hi]
  congr 2
  exact Option.some.inj ((List.getElem?_eq_getElem hi).symm.trans hx)
theorem rd_limit {e p s : UInt8} {l : Tx} {i : Nat} {c : UInt8} (hx : l[i]? = some c) (hl : l.getLast? = some s) (h0 : rdE e p 0 (ini s (l.take i)) = 0) (hn : (ini s (l.take i)).length = 4096) : rdE e p 0 (ini s l) = 10 := by
  have hc := cut_at l i c hx
  have hm : s ∈ c :: l.drop (i + 1) := by
    have h1 : (c :: l.drop (i + 1)).getLast? = some s := by
      rw [hc, List.getLast?_append] at hl
      cases h2 : (c :: l.drop (i + 1)).getLast? with
      | none => simp at h2
      | some z => rw [h2] at hl; simpa using hl
    exact List.mem_of_getLast? h1
  obtain ⟨t, r, h⟩ := ini_more s (l.take i) _ hm
  conv => lhs; rw [hc]
  rw [h, rd_append e p _ _ 0 h0, hn]
  rfl
theorem rd_wrong {e p s : UInt8} {l : Tx} {i : Nat} (hx : l[i]? = some s) (h0 : rdE e p 0 (ini s (l.take i)) = 0) (hn : (ini s (l.take i)).length ≠ 4096) (hb : printB (curS s l i) = false ∨ namedB (parse e p (curS s l i)) = false) : rdE e p 0 (ini s l) = 4 := by
  have hc := cut_at l i s hx
  conv => lhs; rw [hc]
  rw [ini_app, split_ini s (l.take i), List.append_assoc, rd_append e p _ _ 0 h0, Nat.zero_add]
  show rdE e p _ (curS s l i :: _) = 4
  rw [rdE, if_neg hn]
  split
  · rfl
  · next h1 =>
    rcases hb with hb | hb
    · exact absurd hb h1
    · rw [if_pos hb]
theorem rd_next {e p s : UInt8} {l : Tx} {i : Nat} (h0 : rdE e p 0 (ini s (l.take i)) = 0) (hn : (ini s (l.take i)).length ≠ 4096) (h1 : printB (curS s l i) = true) (h2 : namedB (parse e p (curS s l i)) = true) : rdE e p 0 (ini s (l.take i) ++ [curS s l i]) = 0 := by
  rw [rd_append e p _ _ 0 h0, Nat.zero_add, rdE, if_neg hn, h1, h2]
  rfl
theorem byte_at' (t : ByteArray) (i : Nat) (h : i < t.size) : t.data.toList[i]? = some t[i] := by
  rw [List.getElem?_eq_getElem (by rw [← Lib.size_eq]; exact h)]
  rfl
theorem mid_snoc (t : ByteArray) (f i : Nat) (h : i < t.size) (hf : f ≤ i) : (t.data.toList.drop f).take (i + 1 - f) = (t.data.toList.drop f).take (i - f) ++ [t[i]] := by
  have hb := byte_at' t i h
  rw [show i + 1 - f = (i - f) + 1 by omega, List.take_add_one, List.getElem?_drop, show f + (i - f) = i by omega, hb]
  rfl
end Go.Proofs.YtjidoificijcfaaDoor
