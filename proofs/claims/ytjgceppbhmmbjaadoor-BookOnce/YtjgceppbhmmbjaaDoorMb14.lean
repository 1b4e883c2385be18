/-
  Texts put together (merge.py): BTake, BPut.
-/
import Derived.Test.YtjgceppbhmmbjaaDoorMb12
import Derived.Test.YtjgceppbhmmbjaaDoorMb13
/-
  What takeBack answers, as a contract: the place, and the entries with that one in another state.
-/
section
set_option linter.unusedSimpArgs false
set_option linter.unusedVariables false
set_option maxRecDepth 100000
namespace Go.Proofs.YtjgceppbhmmbjaaDoor.Bk
open Go.RowKit
open Cm (Ln Cl cl0 LnsAt ClCells lnv clv LnOk ClOk boxc)
open Sh (Ot)

def goneV (s : Int) (x : Ev) : Ev := ⟨gone s x.e, x.m, .slice none 0 0⟩
theorem ecs_gone (s : Int) : ∀ (L : List Ev) (i : Nat) (x : Ev), L[i]? = some x → ((ecs L).set (i * 10 + 8) (.int .i64 s)).set (i * 10 + 9) (.slice none 0 0) = ecs (L.set i (goneV s x))
  | [], i, x, h => by simp at h
  | y :: r, 0, x, h => by
    simp at h; subst h
    simp [ecs, goneV, gone]
  | y :: r, i + 1, x, h => by
    have ih := ecs_gone s r i x (by simpa using h)
    rw [show (i + 1) * 10 + 8 = i * 10 + 8 + 10 by omega, show (i + 1) * 10 + 9 = i * 10 + 9 + 10 by omega]
    simp only [ecs, List.set_cons_succ]
    rw [← ih]
theorem Full.gone {B : Nat} {w : World} {v : Value} {L : List Ev} (h : Full B w v L) {i : Nat} {x : Ev} (hx : L[i]? = some x) (s : Int) {g n c : Nat} (hv : v = .slice (some ⟨g, 0, none⟩) n c) :
    Full B ((w.setCell ⟨g, i * 10 + 8, none⟩ (.int .i64 s)).setCell ⟨g, i * 10 + 9, none⟩ (.slice none 0 0)) v (L.set i (goneV s x)) ∧ w.grownBy ((w.setCell ⟨g, i * 10 + 8, none⟩ (.int .i64 s)).setCell ⟨g, i * 10 + 9, none⟩ (.slice none 0 0)) v.ownBlock := by
  have hne : ∀ b, b ≠ g → ((w.setCell ⟨g, i * 10 + 8, none⟩ (.int .i64 s)).setCell ⟨g, i * 10 + 9, none⟩ (.slice none 0 0)).heap[b]? = w.heap[b]? := fun b hb => by
    rw [Below.heap_setCell _ _ _ _ (show b ≠ g from hb), Below.heap_setCell _ _ _ _ (show b ≠ g from hb)]
  have hsz : w.heap.size ≤ ((w.setCell ⟨g, i * 10 + 8, none⟩ (.int .i64 s)).setCell ⟨g, i * 10 + 9, none⟩ (.slice none 0 0)).heap.size := by simp
  have hob : v.ownBlock = some g := by rw [hv]; rfl
  refine ⟨⟨?_, ?_⟩, ⟨rfl, rfl, rfl, hsz, fun k hk hn => hne k (fun e => hn (by rw [hob, e]))⟩⟩
  · rcases h.1.2 with ⟨e, _⟩ | ⟨g', cap, cur, e, hbg, hg, h1, h2, hs, ht⟩
    · rw [hv] at e; cases e
    · have e' := hv.symm.trans e
      injection e' with e1 e2 e3
      injection e1 with e1
      injection e1 with e1 _ _
      subst e1
      refine ⟨by rw [ecs_len], Or.inr ⟨g, cap, _, by rw [List.length_set]; exact e, hbg, heap_set (heap_set hg _ _) _ _, by rw [List.length_set]; exact h1, h2, by simpa using hs, ?_⟩⟩
      rw [Array.toList_setIfInBounds, Array.toList_setIfInBounds, List.length_set, List.take_set, List.take_set, ht]
      exact ecs_gone s L i x hx
  · intro y hy
    have hm : Moves (fun b => v.ownBlock ≠ some b) (fun b => v.ownBlock ≠ some b) w ((w.setCell ⟨g, i * 10 + 8, none⟩ (.int .i64 s)).setCell ⟨g, i * 10 + 9, none⟩ (.slice none 0 0)) := ⟨hsz, fun b _ hk => ⟨hk, hne b (fun e => hk (by rw [hob, e]))⟩⟩
    rcases List.mem_or_eq_of_mem_set hy with hy | rfl
    · exact (h.2 y hy).move hm
    · exact ⟨LnsAt.move (h.2 x (List.mem_of_getElem? hx)).1 hm, OtsAt.nil _ _⟩

set_option maxHeartbeats 2000000 in
theorem take_any (L : List Ev) (id : Tx) (s : Int) (i : Nat) (x : Ev) (B : Nat) (v : Value) (w : World) (h : Full B w v L) (hf : find (L.map (·.e)) id = some i) (hx : L[i]? = some x) :
    Calls Tryd.prog 28 #[v, .string (mk id), .int .i64 s] w fun e w' => e = .returned (.int .i64 i) ∧ Full B w' v (L.set i (goneV s x)) ∧ w.grownBy w' v.ownBlock := by
  have hfv := find_id hf
  have hi : i < L.length := (List.getElem?_eq_some_iff.1 hx).1
  have HC := Lib.hid (find_any (L.map (·.e)) id v w h.at)
  rw [hfv] at HC
  rcases h.1.2 with ⟨rfl, h0⟩ | ⟨g, cap, cur, rfl, hbg, hg, h1, h2, hs, ht⟩
  · omega
  · have HG := Lib.hid (h.gone hx s rfl)
    have f1 := frzn hg
    have HCELL := Lib.hid (h.at.get i (by simpa using hi))
    obtain ⟨b, o, m, mo, e0, -, -, hc, -⟩ := HCELL.out
    simp only [Option.some.injEq, Addr.mk.injEq, and_true] at e0
    obtain ⟨rfl, rfl⟩ := e0
    obtain ⟨y, hy⟩ : ∃ y, (List.map (·.e) L)[i]'(by simpa using hi) = y := ⟨_, rfl⟩
    rw [hy] at hc
    obtain ⟨c0, c1, c2, c3, c4, c5, c6, c7, c8, c9⟩ := hc
    rw [Nat.zero_add] at c8 c9
    have hcap : cap ≤ 9223372036854775807 := by unfold maxLen at h2; exact h2
    clear hy h hg ht hs h2 hf hx hfv c0 c1 c2 c3 c4 c5 c6 c7 HCELL
    go_enter Tryd.func28, Tryd.ntmps28
    go_wp2_with (go_at_call 16; refine (HC.out).mono ?_; rintro e w1 ⟨rfl, rfl⟩)
    go_ret
    exact ⟨rfl, HG.out⟩
end Go.Proofs.YtjgceppbhmmbjaaDoor.Bk
end

/-
  What Put answers, as a contract: for all books and claims.
-/
section
set_option linter.unusedSimpArgs false
set_option linter.unusedVariables false
set_option maxRecDepth 100000
namespace Go.Proofs.YtjgceppbhmmbjaaDoor.Bk
open Go.RowKit
open Cm (Ln Cl cl0 LnsAt ClCells lnv clv LnOk ClOk boxc)
open Sh (Ot)

theorem putR_at (c : Cl) : ∀ (l : List En) (i : Nat) (e : En), find l c.ref = some i → l[i]? = some e → putR c l = (l.set i (gone 2 e)).take (i + 1) ++ ⟨c, e.tb, 0, []⟩ :: (l.set i (gone 2 e)).drop (i + 1)
  | [], i, e, _, h => by simp at h
  | y :: r, i, e, hf, h => by
    unfold find at hf
    by_cases h1 : y.cl.id = c.ref
    · rw [if_pos h1] at hf
      simp at hf; subst hf
      simp at h; subst h
      unfold putR
      rw [if_pos h1]; simp
    · rw [if_neg h1] at hf
      obtain ⟨k, hk, rfl⟩ := Option.map_eq_some_iff.1 hf
      have ih := putR_at c r k e hk (by simpa using h)
      unfold putR
      rw [if_neg h1, ih]; simp
theorem putD_at (c : Cl) : ∀ (l : List En) (i : Nat) (e : En), find l c.ref = some i → l[i]? = some e → putD c l = l.set i (gone 1 e)
  | [], i, e, _, h => by simp at h
  | y :: r, i, e, hf, h => by
    unfold find at hf
    by_cases h1 : y.cl.id = c.ref
    · rw [if_pos h1] at hf
      simp at hf; subst hf
      simp at h; subst h
      unfold putD
      rw [if_pos h1]; simp
    · rw [if_neg h1] at hf
      obtain ⟨k, hk, rfl⟩ := Option.map_eq_some_iff.1 hf
      have ih := putD_at c r k e hk (by simpa using h)
      unfold putD
      rw [if_neg h1, ih]; simp
theorem put_bad {l : List En} {c : Cl} {t most : Int} (h : admE l c most ≠ 0) : putV l c t most = [] ∧ putA l c most = 0 := by unfold putV putA; rw [if_neg h, if_neg h]; exact ⟨rfl, rfl⟩
theorem put1 {l : List En} {c : Cl} {t most : Int} (h : admE l c most = 0) (hd : c.does = 1) : putV l c t most = l ++ [⟨c, t, 0, []⟩] ∧ putA l c most = (l.length : Int) := by
  unfold putV putA putL; rw [if_pos h, if_pos h, if_neg (by omega), if_neg (by omega), if_pos hd]; exact ⟨rfl, rfl⟩
theorem put7 {l : List En} {c : Cl} {t most : Int} (h : admE l c most = 0) (hd : c.does = 7) : putV l c t most = putR c l ∧ putA l c most = findV l c.ref := by
  unfold putV putA putL; rw [if_pos h, if_pos h, if_pos hd, if_neg (by omega)]; exact ⟨rfl, rfl⟩
theorem put8 {l : List En} {c : Cl} {t most : Int} (h : admE l c most = 0) (hd : c.does = 8) : putV l c t most = putD c l ++ [⟨c, t, 1, []⟩] ∧ putA l c most = findV l c.ref := by
  unfold putV putA putL; rw [if_pos h, if_pos h, if_neg (by omega), if_pos hd, if_neg (by omega)]; exact ⟨rfl, rfl⟩
theorem Full.low {B B' : Nat} {w : World} {v : Value} {L : List Ev} (h : Full B w v L) (hb : B' ≤ B) : Full B' w v L := by
  refine ⟨⟨h.1.1, h.1.2.imp id ?_⟩, h.2⟩
  rintro ⟨g, c, cur, rfl, h0, hr⟩
  exact ⟨g, c, cur, rfl, by omega, hr⟩
theorem set_map (L : List Ev) (i : Nat) (s : Int) (x : Ev) : (L.set i (goneV s x)).map (·.e) = (L.map (·.e)).set i (gone s x.e) := by simp [goneV]
theorem run_make_ens (n : Nat) (hn : n ≤ 1000000) (w : World) : ∃ cs, (Instr.makeSlice 22 (.int .i64 0) (.int .i64 ((n : Int) + 1))).run Tryd.prog w = .ok (.slice (some ⟨w.heap.size, 0, none⟩) 0 (n + 1)) (w.alloc (.cells cs TE)) ∧ cs.size = (n + 1) * 10 := by
  obtain ⟨i, hi, hz, hs, hb⟩ := infoE
  have hr := run_make (P := Tryd.prog) w 22 TE i _ Tryd.underlying22 hi hz .i64 .i64 0 (n + 1) (by omega) (by omega) (by rw [hb]; omega) (by omega)
  rw [hs] at hr
  refine ⟨_, by simpa using hr, ?_⟩
  rw [size_madeCells]
theorem own_set {B : Nat} {w : World} {v : Value} {L : List Ev} (h : OwnE B w v L) {P : Nat} (hP : v.ownBlock ≠ some P) (j : Nat) (u : Value) : OwnE B (w.setCell ⟨P, j, none⟩ u) v L := by
  refine ⟨h.1, h.2.imp id ?_⟩
  rintro ⟨g, c, cur, rfl, h0, hh, hr⟩
  exact ⟨g, c, cur, rfl, h0, heap_far hh (fun e => hP (by rw [← e]; rfl)), hr⟩
/-- Behind takeBack, and one cell of another block written: what is held stands. -/
theorem after_take {B P : Nat} {w2 w3 w4 : World} {v : Value} {L : List Ev} {i : Nat} {x : Ev} {s : Int} (h2 : Full B w2 v L) (hP : w2.heap.size ≤ P) (hb3 : Below w2.heap.size w2 w3) (h4 : Full B w4 v (L.set i (goneV s x))) (hx : L[i]? = some x) (hg : w3.grownBy w4 v.ownBlock) (hB : B ≤ w2.heap.size) (j : Nat) (u : Value) :
    Full B (w4.setCell ⟨P, j, none⟩ u) v (L.set i (goneV s x)) ∧ Moves (fun b => v.ownBlock ≠ some b) (fun b => v.ownBlock ≠ some b) w2 (w4.setCell ⟨P, j, none⟩ u) ∧ Below B w2 (w4.setCell ⟨P, j, none⟩ u) := by
  have hst : ∀ b, b < w2.heap.size → v.ownBlock ≠ some b → (w4.setCell ⟨P, j, none⟩ u).heap[b]? = w2.heap[b]? := fun b hb hk => by
    rw [Below.heap_setCell _ _ _ _ (show b ≠ P by omega), hg.block b (by have := hb3.size; omega) (fun e => hk e.symm), hb3.block b hb]
  have hsz : w2.heap.size ≤ (w4.setCell ⟨P, j, none⟩ u).heap.size := by have := hb3.size; have := hg.size; simp; omega
  have hm : Moves (fun b => v.ownBlock ≠ some b) (fun b => v.ownBlock ≠ some b) w2 (w4.setCell ⟨P, j, none⟩ u) := ⟨hsz, fun b hb hk => ⟨hk, hst b hb hk⟩⟩
  have hne : v.ownBlock ≠ some P := fun e => by have := (h2.1.lt P e).2; omega
  refine ⟨⟨own_set h4.1 hne j u, fun y hy => ?_⟩, hm, ⟨(hg.os.trans hb3.os), (hg.tape.trans hb3.tape), (hg.output.trans hb3.output), hsz, fun k hk => hst k (by omega) (fun e => by have := (h2.1.lt k e).1; omega)⟩⟩
  rcases List.mem_or_eq_of_mem_set hy with hy | rfl
  · exact (h2.2 y hy).move hm
  · exact ⟨LnsAt.move (h2.2 x (List.mem_of_getElem? hx)).1 hm, OtsAt.nil _ _⟩
theorem take_cells {B : Nat} {w : World} {g n cap : Nat} {L : List Ev} {i : Nat} {y : Ev} (h : Full B w (.slice (some ⟨g, 0, none⟩) n cap) L) (hy : L[i]? = some y) : w.cell? ⟨g, i * 10 + 7, none⟩ = some (.int .i64 y.e.tb) := by
  have hi : i < (L.map (·.e)).length := by simpa using (List.getElem?_eq_some_iff.1 hy).1
  obtain ⟨b, o, m, mo, e0, -, hq, hc, -⟩ := h.at.get i hi
  simp only [Option.some.injEq, Addr.mk.injEq, and_true] at e0
  obtain ⟨rfl, rfl⟩ := e0
  rw [List.getElem?_map, hy] at hq
  have hq' := Option.some.inj hq
  rw [← hq'] at hc
  have := hc.2.2.2.2.2.2.2.1
  rwa [Nat.zero_add] at this
theorem ins_map (L : List Ev) (i : Nat) (f : Ev) : (L.take i ++ f :: L.drop i).map (·.e) = (L.map (·.e)).take i ++ f.e :: (L.map (·.e)).drop i := by simp
theorem insert_at (L : List Ev) (f : Ev) (i : Nat) (B : Nat) (v : Value) (w : World) (h : Full B w v L) (hf : Cont (fun b => v.ownBlock ≠ some b) w f) (hi : i + 1 ≤ L.length) (hl : L.length ≤ 100000) (hB : B ≤ w.heap.size) :
    Calls Tryd.prog 29 #[v, .int .i64 ((i : Int) + 1), .slice (some ⟨w.heap.size, 0, none⟩) 1 1] (w.alloc (.cells (enc f.e f.m f.o) TE)) fun e w' => ∃ v', e = .returned v' ∧ Full B w' v' (L.take (i + 1) ++ f :: L.drop (i + 1)) ∧ Below B w w' := by
  have hb := below_alloc w (.cells (enc f.e f.m f.o) TE)
  have hF := h.grw hb
  have hne : v.ownBlock ≠ some w.heap.size := fun e => by have := (h.1.lt _ e).2; omega
  have hf' : Cont (fun b => v.ownBlock ≠ some b) (w.alloc (.cells (enc f.e f.m f.o) TE)) f := hf.move ⟨hb.size, fun b hb' hk => ⟨hk, hb.block b hb'⟩⟩
  have := insert_any L f hF.sl hf.sl (i + 1) B v w.heap.size (w.alloc (.cells (enc f.e f.m f.o) TE)) hF.1 hi hl (by simp; omega) hne (alloc_new _ _ _)
  refine (show Calls _ _ #[v, .int .i64 ((i + 1 : Nat) : Int), .slice (some ⟨w.heap.size, 0, none⟩) 1 1] _ _ from this.mono ?_)
  rintro e w' ⟨v', rfl, ho, hg, hv⟩
  exact ⟨v', rfl, hF.ins hf' ho hg hv, (hb.mono hB).trans (grow_low hF.1 hg (by simp; omega))⟩
end Go.Proofs.YtjgceppbhmmbjaaDoor.Bk
end
