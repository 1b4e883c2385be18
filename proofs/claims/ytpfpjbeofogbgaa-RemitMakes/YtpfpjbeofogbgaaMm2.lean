/-
  Texts put together (merge.py): VMem, VCps, MMem, BMem, LWeightM.
-/
import Derived.BigQuiet
import Derived.Test.YtpfpjbeofogbgaaMm1
set_option linter.unusedSimpArgs false
set_option linter.unusedVariables false
section
set_option maxRecDepth 100000
namespace Go.Proofs.Ytpfpjbeofogbgaa.Sv
open Go.RowKit
open Cm (Ln Cl LnsAt)
open Sh (Ot)
open Bk (keepB heap_far below_alloc below_trans alloc_new heap_set add_lit)
abbrev cav (x : Ca) : Value := .agg #[.string (mk x.grp), .int .i64 x.why, .int .i64 x.ct]
abbrev cae (x : Ca) : Array Value := #[.string (mk x.grp), .int .i64 x.why, .int .i64 x.ct]
abbrev Tk : TypeId := 72
def kc (x : Ca) : List Value := [.string (mk x.grp), .int .i64 x.why, .int .i64 x.ct]
def kcs : List Ca → List Value
 | [] => []
 | x :: r => .string (mk x.grp) :: .int .i64 x.why :: .int .i64 x.ct :: kcs r
theorem kcs_app (a b : List Ca) : kcs (a ++ b) = kcs a ++ kcs b := by induction a <;> simp_all [kcs]
theorem kcs_len (a : List Ca) : (kcs a).length = a.length * 3 := by induction a <;> simp_all [kcs]; omega
theorem kcs_at : ∀ (a : List Ca) (j : Nat) (x : Ca), a[j]? = some x → ∀ i, i < 3 → (kcs a)[j * 3 + i]? = (kc x)[i]?
 | [], j, x, h, _, _ => by simp at h
 | y :: r, 0, x, h, i, hi => by
  simp at h; subst h
  match i, hi with
  | 0, _ => rfl
  | 1, _ => rfl
  | 2, _ => rfl
 | y :: r, j + 1, x, h, i, hi => by
  have := kcs_at r j x (by simpa using h) i hi
  rw [show (j + 1) * 3 + i = (j * 3 + i) + 3 by omega]
  simpa [kcs] using this
theorem kcs_one : ∀ (a : List Ca), ∀ u ∈ kcs a, u.oneCell' = true
 | [], u, h => by simp [kcs] at h
 | f :: r, u, h => by
  have ih := kcs_one r
  simp only [kcs, List.mem_cons] at h
  rcases h with rfl | rfl | rfl | h
  all_goals first | rfl | exact ih u h
def CaCells (w : World) (b o : Nat) (x : Ca) : Prop := w.cell? ⟨b, o, none⟩ = some (.string (mk x.grp)) ∧ w.cell? ⟨b, o + 1, none⟩ = some (.int .i64 x.why) ∧ w.cell? ⟨b, o + 2, none⟩ = some (.int .i64 x.ct)
theorem CaCells.of {w w' : World} {b o : Nat} {x : Ca} (h : CaCells w b o x) (he : w'.heap[b]? = w.heap[b]?) : CaCells w' b o x := by
 obtain ⟨h0, h1, h2⟩ := h
 refine ⟨?_, ?_, ?_⟩ <;> rw [World.cell?_of_block (w := w) he] <;> assumption
def CasAt (K : Nat → Prop) (w : World) (v : Value) (l : List Ca) : Prop :=
 ∃ a c, v = .slice a l.length c ∧ l.length ≤ c ∧ c ≤ maxLen ∧ (l = [] ∨ ∃ b o, a = some ⟨b, o, none⟩ ∧ K b ∧ b < w.heap.size ∧ ∀ (j : Nat) x, l[j]? = some x → CaCells w b (o + j * 3) x)
theorem CasAt.move {K K' : Nat → Prop} {w w' : World} {v : Value} {l : List Ca} (h : CasAt K w v l) (hm : Moves K K' w w') : CasAt K' w' v l := by
 obtain ⟨a, c, rfl, h1, h2, h3⟩ := h
 refine ⟨a, c, rfl, h1, h2, h3.imp id ?_⟩
 rintro ⟨b, o, rfl, hk, hb, hc⟩
 obtain ⟨k', hh⟩ := hm.2 b hb hk
 exact ⟨b, o, rfl, k', Nat.lt_of_lt_of_le hb hm.1, fun j x hj => (hc j x hj).of hh⟩
theorem CasAt.grw {w w' : World} {v : Value} {l : List Ca} (h : CasAt All w v l) (hb : Below w.heap.size w w') : CasAt All w' v l := h.move (Below.moves hb)
theorem CasAt.all {K : Nat → Prop} {w : World} {v : Value} {l : List Ca} (h : CasAt K w v l) : CasAt All w v l := h.move (moves_weak w fun _ _ _ => trivial)
theorem CasAt.nil (K : Nat → Prop) (w : World) : CasAt K w (.slice none 0 0) [] := ⟨none, 0, rfl, by simp, by simp [maxLen], Or.inl rfl⟩
theorem CasAt.form {K : Nat → Prop} {w : World} {v : Value} {xs : List Ca} (h : CasAt K w v xs) : ∃ a c, v = .slice a xs.length c ∧ xs.length ≤ c ∧ c ≤ 9223372036854775807 := by
 obtain ⟨a, c, rfl, h1, h2, _⟩ := h
 exact ⟨a, c, rfl, h1, by unfold maxLen at h2; exact h2⟩
theorem CasAt.get {K : Nat → Prop} {w : World} {a : Option Addr} {n c : Nat} {ls : List Ca} (h : CasAt K w (.slice a n c) ls) (k : Nat) (hk : k < ls.length) :
  ∃ b o, a = some ⟨b, o, none⟩ ∧ K b ∧ b < w.heap.size ∧ ls[k]? = some ls[k] ∧ CaCells w b (o + k * 3) ls[k] := by
 obtain ⟨a', c', he, h1, h2, h3⟩ := h
 have ha : a = a' := by injection he
 subst ha
 rcases h3 with h | ⟨b, o, ha, hk', hb, hc⟩
 ·subst h; simp at hk
 ·have hx := List.getElem?_eq_getElem hk
  exact ⟨b, o, ha, hk', hb, hx, hc k _ hx⟩
def OwnK (B : Nat) (w : World) (v : Value) (l : List Ca) : Prop := w.ownsRow B Tk 3 v l.length (kcs l)
theorem cas_of_own {K : Nat → Prop} {w : World} {base : Nat} {v : Value} {l : List Ca} (h : OwnK base w v l) (hK : ∀ b, base ≤ b → K b) : CasAt K w v l := by
 obtain ⟨hl, h⟩ := h
 rcases h with ⟨rfl, h0⟩ | ⟨g, cap, cur, rfl, hbg, hg, h1, h2, hs, ht⟩
 ·obtain rfl := List.length_eq_zero_iff.1 h0
  exact CasAt.nil _ _
 ·refine ⟨_, cap, rfl, h1, h2, Or.inr ⟨g, 0, rfl, hK g hbg, (Array.getElem?_eq_some_iff.1 hg).1, fun j x hj => ?_⟩⟩
  have hjl : j < l.length := (List.getElem?_eq_some_iff.1 hj).1
  have e : ∀ i, i < 3 → w.cell? ⟨g, 0 + j * 3 + i, none⟩ = (kc x)[i]? := fun i hi => by
   have q := kcs_at l j x hj i hi
   rw [← ht, List.getElem?_take, if_pos (by omega)] at q
   rw [cell_of_row w g _ cur _ (0, 0) hg, Nat.zero_add]
   simpa using q
  exact ⟨e 0 (by omega), e 1 (by omega), e 2 (by omega)⟩
theorem ownK_nil (B : Nat) (w : World) : OwnK B w (.slice none 0 0) [] := ⟨rfl, Or.inl ⟨rfl, rfl⟩⟩
theorem ownK_far {w w' : World} {B : Nat} {v : Value} {l : List Ca} (h : OwnK B w v l) (hb : Below w.heap.size w w') : OwnK B w' v l := by
 refine ⟨h.1, h.2.imp id ?_⟩
 rintro ⟨g, c, cur, rfl, h0, hh, hr⟩
 exact ⟨g, c, cur, rfl, h0, keepB hh hb, hr⟩
theorem ownK_form {w : World} {B : Nat} {v : Value} {l : List Ca} (h : OwnK B w v l) : ∃ a c, v = .slice a l.length c ∧ l.length ≤ c ∧ c ≤ 9223372036854775807 := (cas_of_own (K := All) h fun _ _ => trivial).form
theorem infok : ∃ i, Try.prog.info? Tk = some i ∧ i.zero = some (.agg #[.string ByteArray.empty, .int .i64 0, .int .i64 0]) ∧ i.size = 3 ∧ i.bytes = 32 := by
 have hi : (Try.prog.info? Tk).map (fun i => (i.zero, i.size, i.bytes)) = some (some (.agg #[.string ByteArray.empty, .int .i64 0, .int .i64 0]), 3, 32) := by kernel_rfl
 cases hq : Try.prog.info? Tk with
 | none => rw [hq] at hi; cases hi
 | some i =>
  rw [hq] at hi
  simp only [Option.map_some, Option.some.injEq, Prod.mk.injEq] at hi
  exact ⟨i, rfl, hi⟩
theorem k_src {w : World} {b o : Nat} {l : List Ca} (h : ∀ (j : Nat) x, l[j]? = some x → CaCells w b (o + j * 3) x) (j : Nat) (u : Value) (hj : (kcs l)[j]? = some u) : w.cell? ⟨b, o + j, none⟩ = some u := by
 have hjl : j < l.length * 3 := by have := (List.getElem?_eq_some_iff.1 hj).1; rwa [kcs_len] at this
 have hq : j / 3 < l.length := by omega
 have hx := List.getElem?_eq_getElem hq
 obtain ⟨c0, c1, c2⟩ := h _ _ hx
 have e := kcs_at l (j / 3) _ hx (j % 3) (Nat.mod_lt _ (by omega))
 rw [show j / 3 * 3 + j % 3 = j by omega, hj] at e
 have hr : j % 3 = 0 ∨ j % 3 = 1 ∨ j % 3 = 2 := by omega
 rcases hr with r | r | r <;> rw [r] at e
 ·rw [show o + j = o + j / 3 * 3 by omega, c0]; exact e.symm
 ·rw [show o + j = o + j / 3 * 3 + 1 by omega, c1]; exact e.symm
 ·rw [show o + j = o + j / 3 * 3 + 2 by omega, c2]; exact e.symm
theorem kc_src {w : World} {vb : Nat} {f : Ca} (hx : w.heap[vb]? = some (.cells (cae f) Tk (0, 0))) (j : Nat) (u : Value) (hj : (kc f)[j]? = some u) : w.cell? ((⟨vb, 0, none⟩ : Addr).add j) = some u := by
 rw [add_lit, Nat.zero_add, cell_of_row w vb _ _ _ (0, 0) hx]
 simpa [kc] using hj
theorem wp_appK {o : Oper} {a : Act} {w : World} {K : Act → World → Prop} {Q : Exit → Act → World → Prop} (s x : Operand) (ho : o.op = .call { callee := .builtin .append, args := #[s, x], argTypes := #[68, 68] })
  (B : Nat) (v : Value) (L : List Ca) (hs : a.eval s = v) (hown : OwnK B w v L) (b c : Nat) (f : Ca) (hx : a.eval x = .slice (some ⟨b, 0, none⟩) 1 c)
  (hc : w.heap[b]? = some (.cells (cae f) Tk (0, 0))) (hbd : L.length ≤ 1000000) (hB : B ≤ w.heap.size)
  (h : ∀ v' w', OwnK B w' v' (L ++ [f]) → w.grownBy w' v.ownBlock → (v'.ownBlock = v.ownBlock ∨ v'.ownBlock = some w.heap.size) → K (a.put o.dst v') w') : o.wp Try.prog a w K Q := by
 obtain ⟨i, q1, q2, q3, q4⟩ := infok
 refine wp_append_lies w s x 68 ho B Tk i _ 3 32 Try.underlying68 q1 q2 q3 q4 rfl (by omega) v L.length (kcs L) hs hown ⟨b, 0, none⟩ 1 c (kc f) hx rfl (kc_src hc) (fun u hu => by simp only [kc, List.mem_cons, List.not_mem_nil, or_false] at hu; rcases hu with rfl | rfl | rfl <;> rfl) (by omega) (by unfold maxLen; omega) (by omega) hB w.heap.size rfl fun g cap w' hown' hg hat _ => ?_
 refine h _ w' (by unfold OwnK; rw [kcs_app, List.length_append]; exact hown') hg ?_
 rcases hat with e | e
 ·exact Or.inl (by rw [e]; rfl)
 ·exact Or.inr (by rw [e]; rfl)
theorem growK_low {w w' : World} {B : Nat} {v : Value} {l : List Ca} (ho : OwnK B w v l) (hg : w.grownBy w' v.ownBlock) (hB : B ≤ w.heap.size) : Below B w w' :=
 ⟨hg.os, hg.tape, hg.output, hg.size, fun k hk => hg.block k (by omega) (fun e => by have := (ho.lt k e.symm).1; omega)⟩
structure Sx where
 s : Sr
 m : Value
abbrev srv (x : Sr) (m : Value) : Value := .agg #[.string (mk x.proc), .int .i64 x.bi, .int .i64 x.paid, m]
abbrev sre (x : Sr) (m : Value) : Array Value := #[.string (mk x.proc), .int .i64 x.bi, .int .i64 x.paid, m]
abbrev cpv (x : Cp) (m : Value) : Value := .agg #[.string (mk x.id), .int .i64 x.st, .int .i64 x.bi, .int .i64 x.paid, .int .i64 x.mem, m]
abbrev cpe (x : Cp) (m : Value) : Array Value := #[.string (mk x.id), .int .i64 x.st, .int .i64 x.bi, .int .i64 x.paid, .int .i64 x.mem, m]
def Sl (x : Sx) : Prop := x.m.oneCell' = true
abbrev Ts : TypeId := 70
def sc (x : Sx) : List Value := [.string (mk x.s.proc), .int .i64 x.s.bi, .int .i64 x.s.paid, x.m]
def scs : List Sx → List Value
 | [] => []
 | x :: r => .string (mk x.s.proc) :: .int .i64 x.s.bi :: .int .i64 x.s.paid :: x.m :: scs r
theorem scs_app (a b : List Sx) : scs (a ++ b) = scs a ++ scs b := by induction a <;> simp_all [scs]
theorem scs_len (a : List Sx) : (scs a).length = a.length * 4 := by induction a <;> simp_all [scs]; omega
theorem scs_at : ∀ (a : List Sx) (j : Nat) (x : Sx), a[j]? = some x → ∀ i, i < 4 → (scs a)[j * 4 + i]? = (sc x)[i]?
 | [], j, x, h, _, _ => by simp at h
 | y :: r, 0, x, h, i, hi => by
  simp at h; subst h
  match i, hi with
  | 0, _ => rfl
  | 1, _ => rfl
  | 2, _ => rfl
  | 3, _ => rfl
 | y :: r, j + 1, x, h, i, hi => by
  have := scs_at r j x (by simpa using h) i hi
  rw [show (j + 1) * 4 + i = (j * 4 + i) + 4 by omega]
  simpa [scs] using this
theorem scs_one : ∀ (a : List Sx), (∀ x ∈ a, Sl x) → ∀ u ∈ scs a, u.oneCell' = true
 | [], _, u, h => by simp [scs] at h
 | f :: r, hs, u, h => by
  have ih := scs_one r fun x hx => hs x (List.mem_cons_of_mem _ hx)
  have hf := hs f (List.mem_cons_self ..)
  simp only [scs, List.mem_cons] at h
  rcases h with rfl | rfl | rfl | rfl | h
  all_goals first | rfl | exact hf | exact ih u h
def SrCells (w : World) (b o : Nat) (x : Sr) (m : Value) : Prop := w.cell? ⟨b, o, none⟩ = some (.string (mk x.proc)) ∧ w.cell? ⟨b, o + 1, none⟩ = some (.int .i64 x.bi) ∧ w.cell? ⟨b, o + 2, none⟩ = some (.int .i64 x.paid) ∧ w.cell? ⟨b, o + 3, none⟩ = some (m)
theorem SrCells.of {w w' : World} {b o : Nat} {x : Sr} {m : Value} (h : SrCells w b o x m) (he : w'.heap[b]? = w.heap[b]?) : SrCells w' b o x m := by
 obtain ⟨h0, h1, h2, h3⟩ := h
 refine ⟨?_, ?_, ?_, ?_⟩ <;> rw [World.cell?_of_block (w := w) he] <;> assumption
def SvsAt (K : Nat → Prop) (w : World) (v : Value) (l : List Sr) : Prop :=
 ∃ a c, v = .slice a l.length c ∧ l.length ≤ c ∧ c ≤ maxLen ∧ (l = [] ∨ ∃ b o, a = some ⟨b, o, none⟩ ∧ K b ∧ b < w.heap.size ∧ ∀ (j : Nat) x, l[j]? = some x → ∃ m, SrCells w b (o + j * 4) x m ∧ CasAt K w m x.cas)
theorem SvsAt.move {K K' : Nat → Prop} {w w' : World} {v : Value} {l : List Sr} (h : SvsAt K w v l) (hm : Moves K K' w w') : SvsAt K' w' v l := by
 obtain ⟨a, c, rfl, h1, h2, h3⟩ := h
 refine ⟨a, c, rfl, h1, h2, h3.imp id ?_⟩
 rintro ⟨b, o, rfl, hk, hb, hc⟩
 obtain ⟨k', hh⟩ := hm.2 b hb hk
 refine ⟨b, o, rfl, k', Nat.lt_of_lt_of_le hb hm.1, fun j x hj => ?_⟩
 obtain ⟨m, q1, q2⟩ := hc j x hj
 exact ⟨m, q1.of hh, q2.move hm⟩
theorem SvsAt.grw {w w' : World} {v : Value} {l : List Sr} (h : SvsAt All w v l) (hb : Below w.heap.size w w') : SvsAt All w' v l := h.move (Below.moves hb)
theorem SvsAt.all {K : Nat → Prop} {w : World} {v : Value} {l : List Sr} (h : SvsAt K w v l) : SvsAt All w v l := h.move (moves_weak w fun _ _ _ => trivial)
theorem SvsAt.nil (K : Nat → Prop) (w : World) : SvsAt K w (.slice none 0 0) [] := ⟨none, 0, rfl, by simp, by simp [maxLen], Or.inl rfl⟩
theorem SvsAt.form {K : Nat → Prop} {w : World} {v : Value} {xs : List Sr} (h : SvsAt K w v xs) : ∃ a c, v = .slice a xs.length c ∧ xs.length ≤ c ∧ c ≤ 9223372036854775807 := by
 obtain ⟨a, c, rfl, h1, h2, _⟩ := h
 exact ⟨a, c, rfl, h1, by unfold maxLen at h2; exact h2⟩
theorem SvsAt.get {K : Nat → Prop} {w : World} {a : Option Addr} {n c : Nat} {ls : List Sr} (h : SvsAt K w (.slice a n c) ls) (k : Nat) (hk : k < ls.length) :
  ∃ b o m, a = some ⟨b, o, none⟩ ∧ K b ∧ b < w.heap.size ∧ ls[k]? = some ls[k] ∧ SrCells w b (o + k * 4) ls[k] m ∧ CasAt K w m ls[k].cas := by
 obtain ⟨a', c', he, h1, h2, h3⟩ := h
 have ha : a = a' := by injection he
 subst ha
 rcases h3 with h | ⟨b, o, ha, hk', hb, hc⟩
 ·subst h; simp at hk
 ·have hx := List.getElem?_eq_getElem hk
  obtain ⟨m, q1, q2⟩ := hc k _ hx
  exact ⟨b, o, m, ha, hk', hb, hx, q1, q2⟩
def OwnS (B : Nat) (w : World) (v : Value) (L : List Sx) : Prop := w.ownsRow B Ts 4 v L.length (scs L)
abbrev Off (B : Nat) (v : Value) (b : Nat) : Prop := v.ownBlock ≠ some b ∧ B ≤ b
def FullS (B : Nat) (w : World) (v : Value) (L : List Sx) : Prop := OwnS B w v L ∧ ∀ x ∈ L, CasAt (Off B v) w x.m x.s.cas
theorem FullS.at {B : Nat} {w : World} {v : Value} {L : List Sx} (h : FullS B w v L) : SvsAt (fun b => B ≤ b) w v (L.map (·.s)) := by
 obtain ⟨⟨hl, h⟩, hc⟩ := h
 rcases h with ⟨rfl, h0⟩ | ⟨g, cap, cur, rfl, hbg, hg, h1, h2, hs, ht⟩
 ·obtain rfl := List.length_eq_zero_iff.1 h0
  exact SvsAt.nil _ _
 ·refine ⟨some ⟨g, 0, none⟩, cap, by rw [List.length_map], by rw [List.length_map]; exact h1, h2, Or.inr ⟨g, 0, rfl, hbg, (Array.getElem?_eq_some_iff.1 hg).1, fun j x hj => ?_⟩⟩
  rw [List.getElem?_map] at hj
  obtain ⟨y, hy, rfl⟩ := Option.map_eq_some_iff.1 hj
  have hjl : j < L.length := (List.getElem?_eq_some_iff.1 hy).1
  have e : ∀ i, i < 4 → w.cell? ⟨g, 0 + j * 4 + i, none⟩ = (sc y)[i]? := fun i hi => by
   have q := scs_at L j y hy i hi
   rw [← ht, List.getElem?_take, if_pos (by omega)] at q
   rw [cell_of_row w g _ cur _ (0, 0) hg, Nat.zero_add]
   simpa using q
  refine ⟨y.m, ⟨e 0 (by omega), e 1 (by omega), e 2 (by omega), e 3 (by omega)⟩, ?_⟩
  exact (hc y (List.mem_of_getElem? hy)).move (moves_weak w fun _ _ k => k.2)
theorem infos : ∃ i, Try.prog.info? Ts = some i ∧ i.zero = some (.agg #[.string ByteArray.empty, .int .i64 0, .int .i64 0, .slice none 0 0]) ∧ i.size = 4 ∧ i.bytes = 56 := by
 have hi : (Try.prog.info? Ts).map (fun i => (i.zero, i.size, i.bytes)) = some (some (.agg #[.string ByteArray.empty, .int .i64 0, .int .i64 0, .slice none 0 0]), 4, 56) := by kernel_rfl
 cases hq : Try.prog.info? Ts with
 | none => rw [hq] at hi; cases hi
 | some i =>
  rw [hq] at hi
  simp only [Option.map_some, Option.some.injEq, Prod.mk.injEq] at hi
  exact ⟨i, rfl, hi⟩
theorem sc_src {w : World} {vb : Nat} {f : Sx} (hx : w.heap[vb]? = some (.cells (sre f.s f.m) Ts (0, 0))) (j : Nat) (u : Value) (hj : (sc f)[j]? = some u) : w.cell? ((⟨vb, 0, none⟩ : Addr).add j) = some u := by
 rw [add_lit, Nat.zero_add, cell_of_row w vb _ _ _ (0, 0) hx]
 simpa [sc] using hj
theorem sc_one (f : Sx) (hf : Sl f) : ∀ u ∈ sc f, u.oneCell' = true := by
 intro u hu
 simp only [sc, List.mem_cons, List.not_mem_nil, or_false] at hu
 rcases hu with rfl | rfl | rfl | rfl
 all_goals first | rfl | exact hf
theorem wp_appS {o : Oper} {a : Act} {w : World} {K : Act → World → Prop} {Q : Exit → Act → World → Prop} (s x : Operand) (ho : o.op = .call { callee := .builtin .append, args := #[s, x], argTypes := #[36, 36] })
  (B : Nat) (v : Value) (L : List Sx) (hs : a.eval s = v) (hown : OwnS B w v L) (b c : Nat) (f : Sx) (hx : a.eval x = .slice (some ⟨b, 0, none⟩) 1 c)
  (hc : w.heap[b]? = some (.cells (sre f.s f.m) Ts (0, 0))) (hf : Sl f) (hbd : L.length ≤ 1000000) (hB : B ≤ w.heap.size)
  (h : ∀ v' w', OwnS B w' v' (L ++ [f]) → w.grownBy w' v.ownBlock → (v'.ownBlock = v.ownBlock ∨ v'.ownBlock = some w.heap.size) → K (a.put o.dst v') w') : o.wp Try.prog a w K Q := by
 obtain ⟨i, q1, q2, q3, q4⟩ := infos
 refine wp_append_lies w s x 36 ho B Ts i _ 4 56 Try.underlying36 q1 q2 q3 q4 rfl (by omega) v L.length (scs L) hs hown ⟨b, 0, none⟩ 1 c (sc f) hx rfl (sc_src hc) (sc_one f hf) (by omega) (by unfold maxLen; omega) (by omega) hB w.heap.size rfl fun g cap w' hown' hg hat _ => ?_
 refine h _ w' (by unfold OwnS; rw [scs_app, List.length_append]; exact hown') hg ?_
 rcases hat with e | e
 ·exact Or.inl (by rw [e]; rfl)
 ·exact Or.inr (by rw [e]; rfl)
theorem CasAt.sl {K : Nat → Prop} {w : World} {m : Value} {s : Sr} (h : CasAt K w m s.cas) : Sl ⟨s, m⟩ := by
 obtain ⟨a, c, e, -, -⟩ := h.form
 show m.oneCell' = true
 rw [e]; rfl
theorem FullS.form {w : World} {B : Nat} {v : Value} {l : List Sx} (h : FullS B w v l) : ∃ a c, v = .slice a l.length c ∧ l.length ≤ c ∧ c ≤ 9223372036854775807 := by
 have := h.at.form
 rwa [List.length_map] at this
theorem FullS.grw {w w' : World} {B : Nat} {v : Value} {l : List Sx} (h : FullS B w v l) (hb : Below w.heap.size w w') : FullS B w' v l := by
 refine ⟨⟨h.1.1, h.1.2.imp id ?_⟩, fun x hx => (h.2 x hx).move ⟨hb.size, fun b hb' hk => ⟨hk, hb.block b hb'⟩⟩⟩
 rintro ⟨g, c, cur, rfl, h0, hh, hr⟩
 exact ⟨g, c, cur, rfl, h0, keepB hh hb, hr⟩
theorem FullS.nil (B : Nat) (w : World) : FullS B w (.slice none 0 0) [] := ⟨⟨rfl, Or.inl ⟨rfl, rfl⟩⟩, by simp⟩
theorem FullS.app {B : Nat} {w w' : World} {v v' : Value} {L : List Sx} {f : Sx} (h : FullS B w v L) (hf : CasAt (Off B v) w f.m f.s.cas) (ho : OwnS B w' v' (L ++ [f])) (hg : w.grownBy w' v.ownBlock) (hv : v'.ownBlock = v.ownBlock ∨ v'.ownBlock = some w.heap.size) : FullS B w' v' (L ++ [f]) := by
 refine ⟨ho, fun x hx => ?_⟩
 have hm : Moves (Off B v) (Off B v') w w' := by
  refine ⟨hg.size, fun b hb hk => ⟨⟨?_, hk.2⟩, hg.block b hb (fun e => hk.1 e.symm)⟩⟩
  rcases hv with e | e
  ·rw [e]; exact hk.1
  ·rw [e]; intro q; injection q with q; omega
 rcases List.mem_append.1 hx with hx | hx
 ·exact (h.2 x hx).move hm
 ·simp at hx; subst hx; exact hf.move hm
theorem growS_low {w w' : World} {B : Nat} {v : Value} {l : List Sx} (ho : OwnS B w v l) (hg : w.grownBy w' v.ownBlock) (hB : B ≤ w.heap.size) : Below B w w' :=
 ⟨hg.os, hg.tape, hg.output, hg.size, fun k hk => hg.block k (by omega) (fun e => by have := (ho.lt k e.symm).1; omega)⟩
theorem three {w : World} {q : Nat} {a0 a1 a2 : Value} {T : TypeId} (h : w.heap[q]? = some (.cells #[a0, a1, a2] T (0, 0))) : w.cell? ⟨q, 0, none⟩ = some a0 ∧ w.cell? ⟨q, 1, none⟩ = some a1 ∧ w.cell? ⟨q, 2, none⟩ = some a2 := by
 refine ⟨?_, ?_, ?_⟩ <;> rw [cell_of_row w q _ _ T (0, 0) h] <;> rfl
theorem four {w : World} {q : Nat} {a0 a1 a2 a3 : Value} {T : TypeId} (h : w.heap[q]? = some (.cells #[a0, a1, a2, a3] T (0, 0))) : w.cell? ⟨q, 0, none⟩ = some a0 ∧ w.cell? ⟨q, 1, none⟩ = some a1 ∧ w.cell? ⟨q, 2, none⟩ = some a2 ∧ w.cell? ⟨q, 3, none⟩ = some a3 := by
 refine ⟨?_, ?_, ?_, ?_⟩ <;> rw [cell_of_row w q _ _ T (0, 0) h] <;> rfl
theorem six {w : World} {q : Nat} {a0 a1 a2 a3 a4 a5 : Value} {T : TypeId} (h : w.heap[q]? = some (.cells #[a0, a1, a2, a3, a4, a5] T (0, 0))) : w.cell? ⟨q, 0, none⟩ = some a0 ∧ w.cell? ⟨q, 1, none⟩ = some a1 ∧ w.cell? ⟨q, 2, none⟩ = some a2 ∧ w.cell? ⟨q, 3, none⟩ = some a3 ∧ w.cell? ⟨q, 4, none⟩ = some a4 ∧ w.cell? ⟨q, 5, none⟩ = some a5 := by
 refine ⟨?_, ?_, ?_, ?_, ?_, ?_⟩ <;> rw [cell_of_row w q _ _ T (0, 0) h] <;> rfl
end Go.Proofs.Ytpfpjbeofogbgaa.Sv
end
section
set_option maxRecDepth 100000
namespace Go.Proofs.Ytpfpjbeofogbgaa.Sv
open Go.RowKit
open Bk (keepB below_alloc below_trans alloc_new)
def CpCells (w : World) (b o : Nat) (x : Cp) (m : Value) : Prop := w.cell? ⟨b, o, none⟩ = some (.string (mk x.id)) ∧ w.cell? ⟨b, o + 1, none⟩ = some (.int .i64 x.st) ∧ w.cell? ⟨b, o + 2, none⟩ = some (.int .i64 x.bi) ∧ w.cell? ⟨b, o + 3, none⟩ = some (.int .i64 x.paid) ∧ w.cell? ⟨b, o + 4, none⟩ = some (.int .i64 x.mem) ∧ w.cell? ⟨b, o + 5, none⟩ = some m
theorem CpCells.of {w w' : World} {b o : Nat} {x : Cp} {m : Value} (h : CpCells w b o x m) (he : w'.heap[b]? = w.heap[b]?) : CpCells w' b o x m := by
 obtain ⟨h0, h1, h2, h3, h4, h5⟩ := h
 refine ⟨?_, ?_, ?_, ?_, ?_, ?_⟩ <;> rw [World.cell?_of_block (w := w) he] <;> assumption
def CpsAt (K : Nat → Prop) (w : World) (v : Value) (l : List Cp) : Prop :=
 ∃ a c, v = .slice a l.length c ∧ l.length ≤ c ∧ c ≤ maxLen ∧ (l = [] ∨ ∃ b o, a = some ⟨b, o, none⟩ ∧ K b ∧ b < w.heap.size ∧ ∀ (j : Nat) x, l[j]? = some x → ∃ m, CpCells w b (o + j * 6) x m ∧ SvsAt K w m x.svs)
theorem CpsAt.move {K K' : Nat → Prop} {w w' : World} {v : Value} {l : List Cp} (h : CpsAt K w v l) (hm : Moves K K' w w') : CpsAt K' w' v l := by
 obtain ⟨a, c, rfl, h1, h2, h3⟩ := h
 refine ⟨a, c, rfl, h1, h2, h3.imp id ?_⟩
 rintro ⟨b, o, rfl, hk, hb, hc⟩
 obtain ⟨k', hh⟩ := hm.2 b hb hk
 refine ⟨b, o, rfl, k', Nat.lt_of_lt_of_le hb hm.1, fun j x hj => ?_⟩
 obtain ⟨m, q1, q2⟩ := hc j x hj
 exact ⟨m, q1.of hh, q2.move hm⟩
theorem CpsAt.grw {w w' : World} {v : Value} {l : List Cp} (h : CpsAt All w v l) (hb : Below w.heap.size w w') : CpsAt All w' v l := h.move (Below.moves hb)
theorem CpsAt.form {K : Nat → Prop} {w : World} {v : Value} {xs : List Cp} (h : CpsAt K w v xs) : ∃ a c, v = .slice a xs.length c ∧ xs.length ≤ c ∧ c ≤ 9223372036854775807 := by
 obtain ⟨a, c, rfl, h1, h2, _⟩ := h
 exact ⟨a, c, rfl, h1, by unfold maxLen at h2; exact h2⟩
theorem CpsAt.get {K : Nat → Prop} {w : World} {a : Option Addr} {n c : Nat} {ls : List Cp} (h : CpsAt K w (.slice a n c) ls) (k : Nat) (hk : k < ls.length) :
  ∃ b o m, a = some ⟨b, o, none⟩ ∧ b < w.heap.size ∧ ls[k]? = some ls[k] ∧ CpCells w b (o + k * 6) ls[k] m ∧ SvsAt K w m ls[k].svs := by
 obtain ⟨a', c', he, h1, h2, h3⟩ := h
 have ha : a = a' := by injection he
 subst ha
 rcases h3 with h | ⟨b, o, ha, hk', hb, hc⟩
 ·subst h; simp at hk
 ·have hx := List.getElem?_eq_getElem hk
  obtain ⟨m, q1, q2⟩ := hc k _ hx
  exact ⟨b, o, m, ha, hb, hx, q1, q2⟩
def LenS (s : Sr) : Prop := s.proc.length ≤ 281474976710656 ∧ s.cas.length ≤ 281474976710656 ∧ ∀ c ∈ s.cas, c.grp.length ≤ 281474976710656
def LenC (x : Cp) : Prop := x.id.length ≤ 281474976710656 ∧ x.svs.length ≤ 281474976710656 ∧ ∀ s ∈ x.svs, LenS s
end Go.Proofs.Ytpfpjbeofogbgaa.Sv
end
section
set_option maxRecDepth 100000
namespace Go.Proofs.Ytpfpjbeofogbgaa.Re
open Go.RowKit
open Sv (Ca Sr Cp SvsAt CasAt CpsAt CpCells cpv cpe)
open Bk (keepB heap_far below_alloc below_trans alloc_new heap_set add_lit)
structure Cx where
 c : Cp
 m : Value
def Sl (x : Cx) : Prop := x.m.oneCell' = true
abbrev Tp : TypeId := 38
def pc (x : Cx) : List Value := [.string (mk x.c.id), .int .i64 x.c.st, .int .i64 x.c.bi, .int .i64 x.c.paid, .int .i64 x.c.mem, x.m]
def pcs : List Cx → List Value
 | [] => []
 | x :: r => .string (mk x.c.id) :: .int .i64 x.c.st :: .int .i64 x.c.bi :: .int .i64 x.c.paid :: .int .i64 x.c.mem :: x.m :: pcs r
theorem pcs_app (a b : List Cx) : pcs (a ++ b) = pcs a ++ pcs b := by induction a <;> simp_all [pcs]
theorem pcs_len (a : List Cx) : (pcs a).length = a.length * 6 := by induction a <;> simp_all [pcs]; omega
theorem pcs_at : ∀ (a : List Cx) (j : Nat) (x : Cx), a[j]? = some x → ∀ i, i < 6 → (pcs a)[j * 6 + i]? = (pc x)[i]?
 | [], j, x, h, _, _ => by simp at h
 | y :: r, 0, x, h, i, hi => by
  simp at h; subst h
  match i, hi with
  | 0, _ => rfl
  | 1, _ => rfl
  | 2, _ => rfl
  | 3, _ => rfl
  | 4, _ => rfl
  | 5, _ => rfl
 | y :: r, j + 1, x, h, i, hi => by
  have := pcs_at r j x (by simpa using h) i hi
  rw [show (j + 1) * 6 + i = (j * 6 + i) + 6 by omega]
  simpa [pcs] using this
theorem pcs_one : ∀ (a : List Cx), (∀ x ∈ a, Sl x) → ∀ u ∈ pcs a, u.oneCell' = true
 | [], _, u, h => by simp [pcs] at h
 | f :: r, hs, u, h => by
  have ih := pcs_one r fun x hx => hs x (List.mem_cons_of_mem _ hx)
  have hf := hs f (List.mem_cons_self ..)
  simp only [pcs, List.mem_cons] at h
  rcases h with rfl | rfl | rfl | rfl | rfl | rfl | h
  all_goals first | rfl | exact hf | exact ih u h
def OwnC (B : Nat) (w : World) (v : Value) (L : List Cx) : Prop := w.ownsRow B Tp 6 v L.length (pcs L)
theorem ownC_nil (B : Nat) (w : World) : OwnC B w (.slice none 0 0) [] := ⟨rfl, Or.inl ⟨rfl, rfl⟩⟩
theorem OwnC.keep {B : Nat} {w w' : World} {v : Value} {L : List Cx} (h : OwnC B w v L) (hk : ∀ g, v.ownBlock = some g → w'.heap[g]? = w.heap[g]?) : OwnC B w' v L := by
 refine ⟨h.1, h.2.imp id ?_⟩
 rintro ⟨g, c, cur, rfl, h0, hh, hr⟩
 exact ⟨g, c, cur, rfl, h0, (hk g rfl).trans hh, hr⟩
theorem OwnC.lt {B : Nat} {w : World} {v : Value} {L : List Cx} (h : OwnC B w v L) {g : Nat} (hg : v.ownBlock = some g) : B ≤ g ∧ g < w.heap.size := World.ownsRow.lt h g hg
theorem OwnC.base {B C : Nat} {w : World} {v : Value} {L : List Cx} (h : OwnC B w v L) (hc : C ≤ B) : OwnC C w v L := by
 refine ⟨h.1, h.2.imp id ?_⟩
 rintro ⟨g, c, cur, rfl, h0, hr⟩
 exact ⟨g, c, cur, rfl, Nat.le_trans hc h0, hr⟩
theorem OwnC.low {w w' : World} {B : Nat} {v : Value} {l : List Cx} (ho : OwnC B w v l) (hg : w.grownBy w' v.ownBlock) (hB : B ≤ w.heap.size) : Below B w w' :=
 ⟨hg.os, hg.tape, hg.output, hg.size, fun k hk => hg.block k (by omega) (fun e => by have := (ho.lt e.symm).1; omega)⟩
theorem OwnC.at {B : Nat} {K K' : Nat → Prop} {w : World} {v : Value} {L : List Cx} (h : OwnC B w v L) (hK : ∀ b, B ≤ b → K b) (hc : ∀ x ∈ L, SvsAt K' w x.m x.c.svs) (hk : ∀ b, K' b → K b) : CpsAt K w v (L.map (·.c)) := by
 obtain ⟨hl, h⟩ := h
 rcases h with ⟨rfl, h0⟩ | ⟨g, cap, cur, rfl, hbg, hg, h1, h2, hs, ht⟩
 ·obtain rfl := List.length_eq_zero_iff.1 h0
  exact ⟨none, 0, rfl, by simp, by simp [maxLen], Or.inl rfl⟩
 ·refine ⟨some ⟨g, 0, none⟩, cap, by rw [List.length_map], by rw [List.length_map]; exact h1, h2, Or.inr ⟨g, 0, rfl, hK g hbg, (Array.getElem?_eq_some_iff.1 hg).1, fun j x hj => ?_⟩⟩
  rw [List.getElem?_map] at hj
  obtain ⟨y, hy, rfl⟩ := Option.map_eq_some_iff.1 hj
  have hjl : j < L.length := (List.getElem?_eq_some_iff.1 hy).1
  have e : ∀ i, i < 6 → w.cell? ⟨g, 0 + j * 6 + i, none⟩ = (pc y)[i]? := fun i hi => by
   have q := pcs_at L j y hy i hi
   rw [← ht, List.getElem?_take, if_pos (by omega)] at q
   rw [cell_of_row w g _ cur _ (0, 0) hg, Nat.zero_add]
   simpa using q
  refine ⟨y.m, ⟨e 0 (by omega), e 1 (by omega), e 2 (by omega), e 3 (by omega), e 4 (by omega), e 5 (by omega)⟩, ?_⟩
  exact (hc y (List.mem_of_getElem? hy)).move (moves_weak w fun b _ k => hk b k)
theorem OwnC.form {w : World} {B : Nat} {v : Value} {l : List Cx} (h : OwnC B w v l) : ∃ a c, v = .slice a l.length c ∧ l.length ≤ c ∧ c ≤ 9223372036854775807 := by
 rcases h.2 with ⟨rfl, h0⟩ | ⟨g, cap, cur, rfl, hbg, hg, h1, h2, hs, ht⟩
 ·exact ⟨none, 0, by rw [h0], by omega, by omega⟩
 ·exact ⟨_, cap, rfl, h1, by unfold maxLen at h2; exact h2⟩
theorem infop : ∃ i, Try.prog.info? Tp = some i ∧ i.zero = some (.agg #[.string ByteArray.empty, .int .i64 0, .int .i64 0, .int .i64 0, .int .i64 0, .slice none 0 0]) ∧ i.size = 6 ∧ i.bytes = 72 := by
 have hi : (Try.prog.info? Tp).map (fun i => (i.zero, i.size, i.bytes)) = some (some (.agg #[.string ByteArray.empty, .int .i64 0, .int .i64 0, .int .i64 0, .int .i64 0, .slice none 0 0]), 6, 72) := by kernel_rfl
 cases hq : Try.prog.info? Tp with
 | none => rw [hq] at hi; cases hi
 | some i =>
  rw [hq] at hi
  simp only [Option.map_some, Option.some.injEq, Prod.mk.injEq] at hi
  exact ⟨i, rfl, hi⟩
theorem pc_src {w : World} {vb : Nat} {f : Cx} (hx : w.heap[vb]? = some (.cells (cpe f.c f.m) Tp (0, 0))) (j : Nat) (u : Value) (hj : (pc f)[j]? = some u) : w.cell? ((⟨vb, 0, none⟩ : Addr).add j) = some u := by
 rw [add_lit, Nat.zero_add, cell_of_row w vb _ _ _ (0, 0) hx]
 simpa [pc] using hj
theorem pc_one (f : Cx) (hf : Sl f) : ∀ u ∈ pc f, u.oneCell' = true := fun u hu => pcs_one [f] (by simpa using hf) u (by simpa [pcs, pc] using hu)
theorem svs_sl {K : Nat → Prop} {w : World} {m : Value} {c : Cp} (h : SvsAt K w m c.svs) : Sl ⟨c, m⟩ := by
 obtain ⟨a, n, e, -, -⟩ := h.form
 show m.oneCell' = true
 rw [e]; rfl
theorem wp_appC {o : Oper} {a : Act} {w : World} {K : Act → World → Prop} {Q : Exit → Act → World → Prop} (s x : Operand) (ho : o.op = .call { callee := .builtin .append, args := #[s, x], argTypes := #[22, 22] })
  (B : Nat) (v : Value) (L : List Cx) (hs : a.eval s = v) (hown : OwnC B w v L) (b c : Nat) (f : Cx) (hx : a.eval x = .slice (some ⟨b, 0, none⟩) 1 c)
  (hc : w.heap[b]? = some (.cells (cpe f.c f.m) Tp (0, 0))) (hf : Sl f) (hbd : L.length ≤ 1000000) (hB : B ≤ w.heap.size)
  (h : ∀ v' w', OwnC B w' v' (L ++ [f]) → w.grownBy w' v.ownBlock → (v'.ownBlock = v.ownBlock ∨ v'.ownBlock = some w.heap.size) → K (a.put o.dst v') w') : o.wp Try.prog a w K Q := by
 obtain ⟨i, q1, q2, q3, q4⟩ := infop
 refine wp_append_lies w s x 22 ho B Tp i _ 6 72 Try.underlying22 q1 q2 q3 q4 rfl (by omega) v L.length (pcs L) hs hown ⟨b, 0, none⟩ 1 c (pc f) hx rfl (pc_src hc) (pc_one f hf) (by omega) (by unfold maxLen; omega) (by omega) hB w.heap.size rfl fun g cap w' hown' hg hat _ => ?_
 refine h _ w' (by unfold OwnC; rw [pcs_app, List.length_append]; exact hown') hg ?_
 rcases hat with e | e
 ·exact Or.inl (by rw [e]; rfl)
 ·exact Or.inr (by rw [e]; rfl)
abbrev Ofs (B : Nat) (v v' : Value) (b : Nat) : Prop := B ≤ b ∧ v.ownBlock ≠ some b ∧ v'.ownBlock ≠ some b
structure Two (B : Nat) (w : World) (v v' : Value) (L L' : List Cx) : Prop where
 o1 : OwnC B w v L
 o2 : OwnC B w v' L'
 ne : ∀ g, v.ownBlock = some g → v'.ownBlock ≠ some g
 c1 : ∀ x ∈ L, SvsAt (Ofs B v v') w x.m x.c.svs
 c2 : ∀ x ∈ L', SvsAt (Ofs B v v') w x.m x.c.svs
theorem Two.nil (B : Nat) (w : World) : Two B w (.slice none 0 0) (.slice none 0 0) [] [] := ⟨ownC_nil _ _, ownC_nil _ _, by simp [Value.ownBlock], by simp, by simp⟩
theorem Two.swap {B : Nat} {w : World} {v v' : Value} {L L' : List Cx} (h : Two B w v v' L L') : Two B w v' v L' L :=
 ⟨h.o2, h.o1, fun g e q => h.ne g q e, fun x hx => (h.c2 x hx).move (moves_weak w fun b _ k => ⟨k.1, k.2.2, k.2.1⟩), fun x hx => (h.c1 x hx).move (moves_weak w fun b _ k => ⟨k.1, k.2.2, k.2.1⟩)⟩
theorem Two.keep {B : Nat} {w w' : World} {v v' : Value} {L L' : List Cx} (h : Two B w v v' L L') (hs : w.heap.size ≤ w'.heap.size) (hk : ∀ b, B ≤ b → b < w.heap.size → w'.heap[b]? = w.heap[b]?) : Two B w' v v' L L' := by
 have hm : Moves (Ofs B v v') (Ofs B v v') w w' := ⟨hs, fun b hb k => ⟨k, hk b k.1 hb⟩⟩
 exact ⟨h.o1.keep fun g e => hk g (h.o1.lt e).1 (h.o1.lt e).2, h.o2.keep fun g e => hk g (h.o2.lt e).1 (h.o2.lt e).2, h.ne, fun x hx => (h.c1 x hx).move hm, fun x hx => (h.c2 x hx).move hm⟩
theorem Two.grw {B : Nat} {w w' : World} {v v' : Value} {L L' : List Cx} (h : Two B w v v' L L') (hb : Below w.heap.size w w') : Two B w' v v' L L' := h.keep hb.size fun b _ hlt => hb.block b hlt
theorem Two.del {B q : Nat} {w w' : World} {v v' : Value} {L L' : List Cx} (h : Two B w v v' L L') (hb : w.grownBy w' (some q)) (hq : q < B) : Two B w' v v' L L' := h.keep hb.size fun b hB hlt => hb.block b hlt (fun e => by injection e; omega)
theorem Two.off {B : Nat} {w w' : World} {v v' : Value} {L L' : List Cx} (h : Two B w v v' L L') {m : Value} {l : List Sr} (hm : SvsAt (fun b => w.heap.size ≤ b) w' m l) (hB : B ≤ w.heap.size) : SvsAt (Ofs B v v') w' m l :=
 hm.move (moves_weak w' fun b _ k => ⟨Nat.le_trans hB k, fun e => by have := (h.o1.lt e).2; omega, fun e => by have := (h.o2.lt e).2; omega⟩)
theorem Two.app {B : Nat} {w w' : World} {v v' u : Value} {L L' : List Cx} {f : Cx} (h : Two B w v v' L L') (hf : SvsAt (Ofs B v v') w f.m f.c.svs) (ho : OwnC B w' u (L ++ [f])) (hg : w.grownBy w' v.ownBlock) (hv : u.ownBlock = v.ownBlock ∨ u.ownBlock = some w.heap.size) : Two B w' u v' (L ++ [f]) L' := by
 have hm : Moves (Ofs B v v') (Ofs B u v') w w' := ⟨hg.size, fun b hb k => ⟨⟨k.1, by
  rcases hv with e | e
  ·rw [e]; exact k.2.1
  ·rw [e]; intro q; injection q with q; omega, k.2.2⟩, hg.block b hb (fun e => k.2.1 e.symm)⟩⟩
 refine ⟨ho, h.o2.keep fun g e => hg.block g (h.o2.lt e).2 (fun q => h.ne g q.symm e), fun g e q => ?_, fun x hx => ?_, fun x hx => (h.c2 x hx).move hm⟩
 ·rcases hv with r | r
  ·exact h.ne g (r ▸ e) q
  ·rw [r] at e; injection e with e; have := (h.o2.lt q).2; omega
 ·rcases List.mem_append.1 hx with hx | hx
  ·exact (h.c1 x hx).move hm
  ·simp at hx; subst hx; exact hf.move hm
theorem Two.at1 {B : Nat} {w : World} {v v' : Value} {L L' : List Cx} (h : Two B w v v' L L') : CpsAt (fun b => B ≤ b) w v (L.map (·.c)) := h.o1.at (fun b hb => hb) h.c1 fun b k => k.1
theorem Two.at2 {B : Nat} {w : World} {v v' : Value} {L L' : List Cx} (h : Two B w v v' L L') : CpsAt (fun b => B ≤ b) w v' (L'.map (·.c)) := h.swap.at1
theorem CpsAt.all {K : Nat → Prop} {w : World} {v : Value} {l : List Cp} (h : CpsAt K w v l) : CpsAt All w v l := Sv.CpsAt.move h (moves_weak w fun _ _ _ => trivial)
theorem cps_nil (K : Nat → Prop) (w : World) : CpsAt K w (.slice none 0 0) [] := ⟨none, 0, rfl, by simp, by simp [maxLen], Or.inl rfl⟩
structure Rm where
 n : Int
 paid : Int
 held : Int
 cs : List Cp
def rm0 : Rm := ⟨0, 0, 0, []⟩
abbrev rmv (r : Rm) (m : Value) : Value := .agg #[.int .i64 r.n, .int .i64 r.paid, .int .i64 r.held, m]
abbrev rme (r : Rm) (m : Value) : Array Value := #[.int .i64 r.n, .int .i64 r.paid, .int .i64 r.held, m]
end Go.Proofs.Ytpfpjbeofogbgaa.Re
end
section
set_option maxRecDepth 100000
namespace Go.Proofs.Ytpfpjbeofogbgaa.Bk
open Go.RowKit
open Cm (Ln Cl cl0 LnsAt ClCells lnv clv LnOk ClOk)
open Sh (Ot)
abbrev TE : TypeId := 48
structure Ev where
 e : En
 m : Value
 o : Value
abbrev enc (x : En) (m mo : Value) : Array Value := #[.string (mk x.cl.id), .string (mk x.cl.mem), .string (mk x.cl.fam), .int .i64 x.cl.net, .int .i64 x.cl.does, .string (mk x.cl.ref), m, .int .i64 x.tb, .int .i64 x.st, mo]
abbrev env (x : En) (m mo : Value) : Value := .agg #[.string (mk x.cl.id), .string (mk x.cl.mem), .string (mk x.cl.fam), .int .i64 x.cl.net, .int .i64 x.cl.does, .string (mk x.cl.ref), m, .int .i64 x.tb, .int .i64 x.st, mo]
def ec (x : Ev) : List Value := [.string (mk x.e.cl.id), .string (mk x.e.cl.mem), .string (mk x.e.cl.fam), .int .i64 x.e.cl.net, .int .i64 x.e.cl.does, .string (mk x.e.cl.ref), x.m, .int .i64 x.e.tb, .int .i64 x.e.st, x.o]
def ecs : List Ev → List Value
 | [] => []
 | x :: r => .string (mk x.e.cl.id) :: .string (mk x.e.cl.mem) :: .string (mk x.e.cl.fam) :: .int .i64 x.e.cl.net :: .int .i64 x.e.cl.does :: .string (mk x.e.cl.ref) :: x.m :: .int .i64 x.e.tb :: .int .i64 x.e.st :: x.o :: ecs r
theorem ecs_at : ∀ (a : List Ev) (j : Nat) (x : Ev), a[j]? = some x → ∀ i, i < 10 → (ecs a)[j * 10 + i]? = (ec x)[i]?
 | [], j, x, h, _, _ => by simp at h
 | y :: r, 0, x, h, i, hi => by
  simp at h; subst h
  match i, hi with
  | 0, _ => rfl
  | 1, _ => rfl
  | 2, _ => rfl
  | 3, _ => rfl
  | 4, _ => rfl
  | 5, _ => rfl
  | 6, _ => rfl
  | 7, _ => rfl
  | 8, _ => rfl
  | 9, _ => rfl
 | y :: r, j + 1, x, h, i, hi => by
  have := ecs_at r j x (by simpa using h) i hi
  rw [show (j + 1) * 10 + i = (j * 10 + i) + 10 by omega]
  simpa [ecs] using this
def Sl (x : Ev) : Prop := x.m.oneCell' = true ∧ x.o.oneCell' = true
def EnCells (w : World) (b o : Nat) (x : En) (m mo : Value) : Prop :=
 w.cell? ⟨b, o, none⟩ = some (.string (mk x.cl.id)) ∧ w.cell? ⟨b, o + 1, none⟩ = some (.string (mk x.cl.mem)) ∧ w.cell? ⟨b, o + 2, none⟩ = some (.string (mk x.cl.fam)) ∧ w.cell? ⟨b, o + 3, none⟩ = some (.int .i64 x.cl.net) ∧ w.cell? ⟨b, o + 4, none⟩ = some (.int .i64 x.cl.does) ∧ w.cell? ⟨b, o + 5, none⟩ = some (.string (mk x.cl.ref)) ∧ w.cell? ⟨b, o + 6, none⟩ = some m ∧ w.cell? ⟨b, o + 7, none⟩ = some (.int .i64 x.tb) ∧ w.cell? ⟨b, o + 8, none⟩ = some (.int .i64 x.st) ∧ w.cell? ⟨b, o + 9, none⟩ = some mo
theorem EnCells.of {w w' : World} {b o : Nat} {x : En} {m mo : Value} (h : EnCells w b o x m mo) (he : w'.heap[b]? = w.heap[b]?) : EnCells w' b o x m mo := by
 obtain ⟨h0, h1, h2, h3, h4, h5, h6, h7, h8, h9⟩ := h
 refine ⟨?_, ?_, ?_, ?_, ?_, ?_, ?_, ?_, ?_, ?_⟩ <;> rw [World.cell?_of_block (w := w) he] <;> assumption
def Cont (K : Nat → Prop) (w : World) (x : Ev) : Prop := LnsAt K w x.m x.e.cl.lines ∧ OtsAt K w x.o x.e.outs
theorem Cont.move {K K' : Nat → Prop} {w w' : World} {x : Ev} (h : Cont K w x) (hm : Moves K K' w w') : Cont K' w' x := ⟨LnsAt.move h.1 hm, h.2.move hm⟩
theorem Cont.all {K : Nat → Prop} {w : World} {x : Ev} (h : Cont K w x) : Cont All w x := h.move (moves_weak w fun _ _ _ => trivial)
theorem Cont.grw {w w' : World} {x : Ev} (h : Cont All w x) (hb : Below w.heap.size w w') : Cont All w' x := h.move (Below.moves hb)
theorem Cont.sl {K : Nat → Prop} {w : World} {x : Ev} (h : Cont K w x) : Sl x := by
 obtain ⟨a, c, e1, -, -⟩ := Cm.LnsAt.form h.1
 obtain ⟨b, d, e2, -, -⟩ := h.2.form
 exact ⟨by rw [e1]; rfl, by rw [e2]; rfl⟩
def EnsAt (K : Nat → Prop) (w : World) (v : Value) (l : List En) : Prop :=
 ∃ a c, v = .slice a l.length c ∧ l.length ≤ c ∧ c ≤ maxLen ∧ (l = [] ∨ ∃ b o, a = some ⟨b, o, none⟩ ∧ K b ∧ b < w.heap.size ∧ ∀ (j : Nat) x, l[j]? = some x → ∃ m mo, EnCells w b (o + j * 10) x m mo ∧ Cont K w ⟨x, m, mo⟩)
theorem EnsAt.move {K K' : Nat → Prop} {w w' : World} {v : Value} {l : List En} (h : EnsAt K w v l) (hm : Moves K K' w w') : EnsAt K' w' v l := by
 obtain ⟨a, c, rfl, h1, h2, h3⟩ := h
 refine ⟨a, c, rfl, h1, h2, h3.imp id ?_⟩
 rintro ⟨b, o, rfl, hk, hb, hc⟩
 obtain ⟨k', hh⟩ := hm.2 b hb hk
 refine ⟨b, o, rfl, k', Nat.lt_of_lt_of_le hb hm.1, fun j x hj => ?_⟩
 obtain ⟨m, mo, q1, q2⟩ := hc j x hj
 exact ⟨m, mo, q1.of hh, q2.move hm⟩
theorem EnsAt.grw {w w' : World} {v : Value} {l : List En} (h : EnsAt All w v l) (hb : Below w.heap.size w w') : EnsAt All w' v l := h.move (Below.moves hb)
theorem EnsAt.all {K : Nat → Prop} {w : World} {v : Value} {l : List En} (h : EnsAt K w v l) : EnsAt All w v l := h.move (moves_weak w fun _ _ _ => trivial)
theorem EnsAt.nil (K : Nat → Prop) (w : World) : EnsAt K w (.slice none 0 0) [] := ⟨none, 0, rfl, by simp, by simp [maxLen], Or.inl rfl⟩
theorem EnsAt.form {K : Nat → Prop} {w : World} {v : Value} {xs : List En} (h : EnsAt K w v xs) : ∃ a c, v = .slice a xs.length c ∧ xs.length ≤ c ∧ c ≤ 9223372036854775807 := by
 obtain ⟨a, c, rfl, h1, h2, _⟩ := h
 exact ⟨a, c, rfl, h1, by unfold maxLen at h2; exact h2⟩
theorem EnsAt.get {K : Nat → Prop} {w : World} {a : Option Addr} {n c : Nat} {ls : List En} (h : EnsAt K w (.slice a n c) ls) (k : Nat) (hk : k < ls.length) :
  ∃ b o m mo, a = some ⟨b, o, none⟩ ∧ b < w.heap.size ∧ ls[k]? = some ls[k] ∧ EnCells w b (o + k * 10) ls[k] m mo ∧ Cont K w ⟨ls[k], m, mo⟩ := by
 obtain ⟨a', c', he, h1, h2, h3⟩ := h
 have ha : a = a' := by injection he
 subst ha
 rcases h3 with h | ⟨b, o, ha, _, hb, hc⟩
 ·subst h; simp at hk
 ·have hx := List.getElem?_eq_getElem hk
  obtain ⟨m, mo, q1, q2⟩ := hc k _ hx
  exact ⟨b, o, m, mo, ha, hb, hx, q1, q2⟩
def OwnE (B : Nat) (w : World) (v : Value) (L : List Ev) : Prop := w.ownsRow B TE 10 v L.length (ecs L)
abbrev Of (B : Nat) (v : Value) (b : Nat) : Prop := v.ownBlock ≠ some b ∧ B ≤ b
def Full (B : Nat) (w : World) (v : Value) (L : List Ev) : Prop := OwnE B w v L ∧ ∀ x ∈ L, Cont (Of B v) w x
theorem Full.at {B : Nat} {w : World} {v : Value} {L : List Ev} (h : Full B w v L) : EnsAt All w v (L.map (·.e)) := by
 obtain ⟨⟨hl, h⟩, hc⟩ := h
 rcases h with ⟨rfl, h0⟩ | ⟨g, cap, cur, rfl, hbg, hg, h1, h2, hs, ht⟩
 ·obtain rfl := List.length_eq_zero_iff.1 h0
  exact EnsAt.nil _ _
 ·refine ⟨some ⟨g, 0, none⟩, cap, by rw [List.length_map], by rw [List.length_map]; exact h1, h2, Or.inr ⟨g, 0, rfl, trivial, (Array.getElem?_eq_some_iff.1 hg).1, fun j x hj => ?_⟩⟩
  rw [List.getElem?_map] at hj
  obtain ⟨y, hy, rfl⟩ := Option.map_eq_some_iff.1 hj
  have hjl : j < L.length := (List.getElem?_eq_some_iff.1 hy).1
  have e : ∀ i, i < 10 → w.cell? ⟨g, 0 + j * 10 + i, none⟩ = (ec y)[i]? := fun i hi => by
   have q := ecs_at L j y hy i hi
   rw [← ht, List.getElem?_take, if_pos (by omega)] at q
   rw [cell_of_row w g _ cur _ (0, 0) hg, Nat.zero_add]
   simpa using q
  refine ⟨y.m, y.o, ⟨e 0 (by omega), e 1 (by omega), e 2 (by omega), e 3 (by omega), e 4 (by omega), e 5 (by omega), e 6 (by omega), e 7 (by omega), e 8 (by omega), e 9 (by omega)⟩, ?_⟩
  exact (hc y (List.mem_of_getElem? hy)).all
theorem Full.form {w : World} {B : Nat} {v : Value} {l : List Ev} (h : Full B w v l) : ∃ a c, v = .slice a l.length c ∧ l.length ≤ c ∧ c ≤ 9223372036854775807 := by
 have := h.at.form
 rwa [List.length_map] at this
theorem Full.grw {w w' : World} {B : Nat} {v : Value} {l : List Ev} (h : Full B w v l) (hb : Below w.heap.size w w') : Full B w' v l := by
 refine ⟨⟨h.1.1, h.1.2.imp id ?_⟩, fun x hx => (h.2 x hx).move ⟨hb.size, fun b hb' hk => ⟨hk, hb.block b hb'⟩⟩⟩
 rintro ⟨g, c, cur, rfl, h0, hh, hr⟩
 exact ⟨g, c, cur, rfl, h0, keepB hh hb, hr⟩
theorem Full.nil (B : Nat) (w : World) : Full B w (.slice none 0 0) [] := ⟨⟨rfl, Or.inl ⟨rfl, rfl⟩⟩, by simp⟩
theorem Full.app {B : Nat} {w w' : World} {v v' : Value} {L : List Ev} {f : Ev} (h : Full B w v L) (hf : Cont (Of B v) w f) (ho : OwnE B w' v' (L ++ [f])) (hg : w.grownBy w' v.ownBlock) (hv : v'.ownBlock = v.ownBlock ∨ v'.ownBlock = some w.heap.size) : Full B w' v' (L ++ [f]) := by
 refine ⟨ho, fun x hx => ?_⟩
 have hm : Moves (Of B v) (Of B v') w w' := by
  refine ⟨hg.size, fun b hb hk => ⟨⟨?_, hk.2⟩, hg.block b hb (fun e => hk.1 e.symm)⟩⟩
  rcases hv with e | e
  ·rw [e]; exact hk.1
  ·rw [e]; intro q; injection q with q; omega
 rcases List.mem_append.1 hx with hx | hx
 ·exact (h.2 x hx).move hm
 ·simp at hx; subst hx; exact hf.move hm
theorem ten {w : World} {q : Nat} {a0 a1 a2 a3 a4 a5 a6 a7 a8 a9 : Value} {T : TypeId} (h : w.heap[q]? = some (.cells #[a0, a1, a2, a3, a4, a5, a6, a7, a8, a9] T (0, 0))) : w.cell? ⟨q, 0, none⟩ = some a0 ∧ w.cell? ⟨q, 1, none⟩ = some a1 ∧ w.cell? ⟨q, 2, none⟩ = some a2 ∧ w.cell? ⟨q, 3, none⟩ = some a3 ∧ w.cell? ⟨q, 4, none⟩ = some a4 ∧ w.cell? ⟨q, 5, none⟩ = some a5 ∧ w.cell? ⟨q, 6, none⟩ = some a6 ∧ w.cell? ⟨q, 7, none⟩ = some a7 ∧ w.cell? ⟨q, 8, none⟩ = some a8 ∧ w.cell? ⟨q, 9, none⟩ = some a9 := by
 refine ⟨?_, ?_, ?_, ?_, ?_, ?_, ?_, ?_, ?_, ?_⟩ <;> rw [cell_of_row w q _ _ T (0, 0) h] <;> rfl
end Go.Proofs.Ytpfpjbeofogbgaa.Bk
end
section
set_option maxRecDepth 100000
namespace Go.Proofs.Ytpfpjbeofogbgaa.Cm
open Go.RowKit
def LnLight (x : Ln) : Prop := x.mods.length ≤ 20000 ∧ ∀ t ∈ x.mods, t.length ≤ 20000
def ClLight (c : Cl) : Prop := c.lines.length ≤ 3000 ∧ ∀ x ∈ c.lines, LnLight x
theorem tx_snoc (l : List Tx) (k : Nat) (t : Tx) (hx : l[k]? = some t) (h : ∀ t ∈ l.take k, t.length ≤ 20000) (ht : t.length ≤ 20000) : ∀ t ∈ l.take (k + 1), t.length ≤ 20000 := by
 intro s hs
 rw [List.take_add_one, hx] at hs
 rcases List.mem_append.1 hs with h1 | h1
 ·exact h s h1
 ·simp at h1; rw [h1]; exact ht
theorem ln_snoc (l : List Ln) (k : Nat) (t : Ln) (hx : l[k]? = some t) (h : ∀ t ∈ l.take k, LnLight t) (ht : LnLight t) : ∀ t ∈ l.take (k + 1), LnLight t := by
 intro s hs
 rw [List.take_add_one, hx] at hs
 rcases List.mem_append.1 hs with h1 | h1
 ·exact h s h1
 ·simp at h1; rw [h1]; exact ht
theorem cl_snoc (l : List Cl) (k : Nat) (t : Cl) (hx : l[k]? = some t) (h : ∀ t ∈ l.take k, ClLight t) (ht : ClLight t) : ∀ t ∈ l.take (k + 1), ClLight t := by
 intro s hs
 rw [List.take_add_one, hx] at hs
 rcases List.mem_append.1 hs with h1 | h1
 ·exact h s h1
 ·simp at h1; rw [h1]; exact ht
end Go.Proofs.Ytpfpjbeofogbgaa.Cm
end
