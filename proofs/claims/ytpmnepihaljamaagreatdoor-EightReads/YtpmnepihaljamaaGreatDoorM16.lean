/-
  Texts put together (merge.py): EMem, ESeg, ERd.
-/
import Derived.Deep.AppendLies
import Derived.Deep.DeepCutAuto
import Derived.Test.YtpmnepihaljamaaGreatDoorM15
import Derived.Test.YtpmnepihaljamaaGreatDoorM8
import Derived.Test.YtpmnepihaljamaaGreatDoorM3
/-
  Segments in new memory: elements of one part each, laid one by one; rows of segments that grow.
-/
section
set_option linter.unusedSimpArgs false
namespace Go.Proofs.YtpmnepihaljamaaGreatDoor
open Go.RowKit

abbrev slc (p : Nat) : Value := .slice (some ⟨p, 0, none⟩) 1 1
/-- Texts, each in a block of its own. -/
def PtsAt (B : Nat) (ts : List Tx) (ps : List Nat) (w : World) : Prop :=
  ps.length = ts.length ∧ ps.Pairwise (· < ·) ∧ ∀ (j : Nat) t, ts[j]? = some t → ∃ p, ps[j]? = some p ∧ B ≤ p ∧ w.heap[p]? = some (.cells #[.string (mk t)] 9 (0, 0))
theorem PtsAt.nil (B : Nat) (w : World) : PtsAt B [] [] w := ⟨rfl, List.Pairwise.nil, fun j t h => by simp at h⟩
theorem PtsAt.at {B : Nat} {ts : List Tx} {ps : List Nat} {w : World} (h : PtsAt B ts ps w) (p : Nat) (hp : p ∈ ps) : ∃ t, B ≤ p ∧ w.heap[p]? = some (.cells #[.string (mk t)] 9 (0, 0)) := by
  obtain ⟨j, hj⟩ := List.getElem?_of_mem hp
  have hl : j < ts.length := by rw [← h.1]; exact (List.getElem?_eq_some_iff.1 hj).1
  obtain ⟨p', hp', h1, h2⟩ := h.2.2 j ts[j] (List.getElem?_eq_getElem hl)
  rw [hj] at hp'
  obtain rfl := Option.some.inj hp'
  exact ⟨_, h1, h2⟩
theorem PtsAt.lt {B : Nat} {ts : List Tx} {ps : List Nat} {w : World} (h : PtsAt B ts ps w) (p : Nat) (hp : p ∈ ps) : p < w.heap.size := by
  obtain ⟨t, _, h2⟩ := h.at p hp
  exact (Array.getElem?_eq_some_iff.1 h2).1
theorem PtsAt.kept {B : Nat} {ts : List Tx} {ps : List Nat} {w w' : World} {row : Option Nat} (h : PtsAt B ts ps w) (hg : w.grownBy w' row) (hne : ∀ p ∈ ps, some p ≠ row) : PtsAt B ts ps w' := by
  refine ⟨h.1, h.2.1, fun j t hj => ?_⟩
  obtain ⟨p, hp, h1, h2⟩ := h.2.2 j t hj
  exact ⟨p, hp, h1, by rw [hg.block p (h.lt p (List.mem_of_getElem? hp)) (hne p (List.mem_of_getElem? hp))]; exact h2⟩
theorem grownBy_below {w w' : World} (hb : Below w.heap.size w w') : w.grownBy w' none := ⟨hb.os, hb.tape, hb.output, hb.size, fun k hk _ => hb.block k hk⟩
theorem PtsAt.grw {B : Nat} {ts : List Tx} {ps : List Nat} {w w' : World} (h : PtsAt B ts ps w) (hb : Below w.heap.size w w') : PtsAt B ts ps w' := h.kept (grownBy_below hb) (by simp)
theorem PtsAt.snoc {B : Nat} {ts : List Tx} {ps : List Nat} {w : World} (h : PtsAt B ts ps w) (t : Tx) (hB : B ≤ w.heap.size) : PtsAt B (ts ++ [t]) (ps ++ [w.heap.size]) (w.alloc (.cells #[.string (mk t)] 9)) := by
  have hk := h.grw (below_alloc w (.cells #[.string (mk t)] 9))
  refine ⟨by simp [h.1], ?_, ?_⟩
  · rw [List.pairwise_append]
    refine ⟨h.2.1, by simp, fun a ha b hb => ?_⟩
    simp at hb
    subst hb
    exact h.lt a ha
  · exact snoc_get (R := fun (y : Tx) (p : Nat) => B ≤ p ∧ (w.alloc (.cells #[.string (mk t)] 9)).heap[p]? = some (.cells #[.string (mk y)] 9 (0, 0))) (xs := ts) (us := ps) (x := t) (u := w.heap.size) h.1 hk.2.2 ⟨hB, heap_alloc_new w _⟩
theorem tx_block {K : Nat → Prop} {w : World} {p : Nat} {t : Tx} (h : w.heap[p]? = some (.cells #[.string (mk t)] 9 (0, 0))) (hK : K p) : TxAt K w (slc p) [t] := by
  refine ⟨_, 1, rfl, Nat.le_refl _, by simp [maxLen], Or.inr ⟨p, 0, rfl, hK, (Array.getElem?_eq_some_iff.1 h).1, fun j x hj => ?_⟩⟩
  have h0 : j = 0 := by have := (List.getElem?_eq_some_iff.1 hj).1; simp at this; omega
  subst h0
  simp at hj
  subst hj
  exact ⟨_, by rw [cell_of_row w p 0 _ 9 (0, 0) h]; rfl, rfl⟩
/-- Elements of one part each, in a row that a box holds. -/
structure Sq (B gb : Nat) (ts : List Tx) (ps : List Nat) (gv : Value) (w : World) : Prop where
  box : w.heap[gb]? = some (.cells #[gv] 50 (0, 0))
  own : w.ownsRow B 45 1 gv ts.length (ps.map slc)
  pts : PtsAt B ts ps w
def SegAt (B : Nat) (ts : List Tx) (u : Value) (w : World) : Prop := ∃ ps, w.ownsRow B 45 1 u ts.length (ps.map slc) ∧ PtsAt B ts ps w
theorem pts_apart {B : Nat} {ts : List Tx} {ps : List Nat} {w : World} {v : Value} {n : Nat} {xs : List Value} {T : TypeId} (h : PtsAt B ts ps w) (ho : w.ownsRow B T 1 v n xs) (hT : (9 : TypeId) ≠ T) (p : Nat) (hp : p ∈ ps) : some p ≠ v.ownBlock := by
  obtain ⟨t, _, h2⟩ := h.at p hp
  exact fun e => Lib.ownBlock_ne ho h2 hT e.symm
theorem pts_not {B : Nat} {ts : List Tx} {ps : List Nat} {w : World} (h : PtsAt B ts ps w) {b : Nat} {cs : Array Value} {T : TypeId} {fr : Nat × Nat} (hb : w.heap[b]? = some (.cells cs T fr)) (hT : (9 : TypeId) ≠ T) (p : Nat) (hp : p ∈ ps) : p ≠ b := by
  obtain ⟨t, _, h2⟩ := h.at p hp
  intro e
  subst e
  rw [h2] at hb
  simp only [Option.some.injEq, Obj.cells.injEq] at hb
  exact hT hb.2.1
theorem SegAt.grw {B : Nat} {ts : List Tx} {u : Value} {w w' : World} (h : SegAt B ts u w) (hb : Below w.heap.size w w') : SegAt B ts u w' := by
  obtain ⟨ps, h1, h2⟩ := h
  exact ⟨ps, h1.kept (grownBy_below hb) (or_ne fun b _ => by simp), h2.grw hb⟩
/-- Such a segment, as elements that lie apart from whatever lay there before. -/
theorem SegAt.els {B : Nat} {ts : List Tx} {u : Value} {w : World} (h : SegAt B ts u w) : ElAt (fun b => B ≤ b) w u (ones ts) := by
  obtain ⟨ps, h1, h2⟩ := h
  have hl : (ones ts).length = ts.length := by simp [ones]
  refine row_of_own (by rw [hl]; exact h1) (fun b hb => (h1.lt b hb).1) fun j u y hu hy => ?_
  unfold ones at hy
  rw [List.getElem?_map] at hy hu
  cases ht : ts[j]? with
  | none => rw [ht] at hy; cases hy
  | some t =>
    rw [ht] at hy
    obtain rfl : [t] = y := by simpa using hy
    obtain ⟨p, hp, q1, q2⟩ := h2.2.2 j t ht
    rw [hp] at hu
    obtain rfl : slc p = u := by simpa using hu
    exact tx_block q2 q1
theorem SegAt.els_all {B : Nat} {ts : List Tx} {u : Value} {w : World} (h : SegAt B ts u w) : ElAt All w u (ones ts) := ElAt.move h.els (moves_weak w fun _ _ _ => trivial)
theorem Sq.lt {B gb : Nat} {ts : List Tx} {ps : List Nat} {gv : Value} {w : World} (h : Sq B gb ts ps gv w) : gb < w.heap.size := (Array.getElem?_eq_some_iff.1 h.box).1
theorem Sq.start (w : World) (n : Nat) (hn : n ≤ maxLen) :
    Sq w.heap.size (w.heap.size + 2) [] [] (.slice (some ⟨w.heap.size + 1, 0, none⟩) 0 n) (((w.alloc (.cells #[.slice none 0 0] 50)).alloc (.cells (madeCells #[.slice none 0 0] n) 45)).alloc (.cells #[.slice (some ⟨w.heap.size + 1, 0, none⟩) 0 n] 50)) := by
  have e1 : (w.alloc (.cells #[.slice none 0 0] 50)).heap.size = w.heap.size + 1 := by simp
  have hE := World.ownsRow_made (base := w.heap.size) (size := 1) (e := 45) (w.alloc (.cells #[.slice none 0 0] 50)) (madeCells #[.slice none 0 0] n) n (by rw [e1]; omega) hn (by rw [size_madeCells, Nat.mul_one])
  rw [e1] at hE
  refine ⟨?_, hE.alloc _, PtsAt.nil _ _⟩
  have := heap_alloc_new ((w.alloc (.cells #[.slice none 0 0] 50)).alloc (.cells (madeCells #[.slice none 0 0] n) 45)) (.cells #[.slice (some ⟨w.heap.size + 1, 0, none⟩) 0 n] 50)
  rwa [show ((w.alloc (.cells #[.slice none 0 0] 50)).alloc (.cells (madeCells #[.slice none 0 0] n) 45)).heap.size = w.heap.size + 2 from by simp] at this
theorem Sq.lay {B gb : Nat} {ts : List Tx} {ps : List Nat} {gv : Value} {w : World} (h : Sq B gb ts ps gv w) (x : Tx) (hB : B ≤ w.heap.size) (o : Obj) :
    (((w.alloc (.cells #[.string (_root_.Go.Proofs.YtpmnepihaljamaaGreatDoor.mk x)] 9)).alloc o).ownsRow B 45 1 gv ts.length (ps.map slc)) ∧ PtsAt B (ts ++ [x]) (ps ++ [w.heap.size]) ((w.alloc (.cells #[.string (_root_.Go.Proofs.YtpmnepihaljamaaGreatDoor.mk x)] 9)).alloc o) ∧ ((w.alloc (.cells #[.string (_root_.Go.Proofs.YtpmnepihaljamaaGreatDoor.mk x)] 9)).alloc o).heap[gb]? = some (.cells #[gv] 50 (0, 0)) := by
  have hb := below_trans (below_alloc w (.cells #[.string (_root_.Go.Proofs.YtpmnepihaljamaaGreatDoor.mk x)] 9)) (below_alloc _ o)
  exact ⟨(h.own.alloc _).alloc _, (h.pts.snoc x hB).grw (below_alloc _ o), by rw [hb.block gb h.lt]; exact h.box⟩
theorem Sq.elem {B gb q : Nat} {ts : List Tx} {ps : List Nat} {gv gv' : Value} {W w' : World} {n : Nat} (ho : W.ownsRow B 45 1 gv n (ps.map slc)) (hp : PtsAt B ts (ps ++ [q]) W) (hx : W.heap[gb]? = some (.cells #[gv] 50 (0, 0)))
    (hown : w'.ownsRow B 45 1 gv' ts.length (ps.map slc ++ [slc q])) (hg : W.grownBy w' gv.ownBlock) : Sq B gb ts (ps ++ [q]) gv' (w'.setCell ⟨gb, 0, none⟩ gv') := by
  have hgbw : w'.heap[gb]? = some (.cells #[gv] 50 (0, 0)) := by rw [hg.block gb (Array.getElem?_eq_some_iff.1 hx).1 (Ne.symm (own_box ho hx (by decide)))]; exact hx
  have hs : w'.grownBy (w'.setCell ⟨gb, 0, none⟩ gv') (some gb) := ⟨rfl, rfl, rfl, by simp [World.setCell], fun k _ hk => Below.heap_setCell _ _ _ _ (fun e => hk (by rw [show k = gb from e]))⟩
  have hp' := hp.kept hg (pts_apart hp ho (by decide))
  refine ⟨by rw [heap_set hgbw]; rfl, ?_, hp'.kept hs fun p hpm e => pts_not hp' hgbw (by decide) p hpm (Option.some.inj e)⟩
  rw [List.map_append]
  exact World.ownsRow.kept hown hs (or_ne fun b hb e => by
    have h1 := Lib.ownBlock_ne hown hgbw (by decide)
    rw [hb, ← e] at h1
    exact h1 rfl)
/-- Behind the store of what is answered, in a box apart. -/
theorem Sq.done {B gb rb : Nat} {ts : List Tx} {ps : List Nat} {gv cv v : Value} {w : World} (h : Sq B gb ts ps gv w) (hr : w.heap[rb]? = some (.cells #[cv] 50 (0, 0))) : SegAt B ts gv (w.setCell ⟨rb, 0, none⟩ v) := by
  have hs : w.grownBy (w.setCell ⟨rb, 0, none⟩ v) (some rb) := ⟨rfl, rfl, rfl, by simp [World.setCell], fun k _ hk => Below.heap_setCell _ _ _ _ (fun e => hk (by rw [show k = rb from e]))⟩
  refine ⟨ps, World.ownsRow.kept h.own hs (or_ne fun b hb e => ?_), h.pts.kept hs fun p hpm e => pts_not h.pts hr (by decide) p hpm (Option.some.inj e)⟩
  have h1 := Lib.ownBlock_ne h.own hr (by decide)
  rw [hb, ← e] at h1
  exact h1 rfl

/-! ### Rows of segments that grow, in new memory -/
def NewAt (B : Nat) (gs : List Sg) (lv : Value) (w : World) : Prop := ∃ cs : List Value, w.ownsRow B 50 1 lv gs.length cs ∧ ∀ (i : Nat) g, gs[i]? = some g → ∃ u, cs[i]? = some u ∧ ElAt (fun b => B ≤ b ∧ lv.ownBlock ≠ some b) w u g
theorem NewAt.grw {B : Nat} {gs : List Sg} {lv : Value} {w w' : World} (h : NewAt B gs lv w) (hb : Below w.heap.size w w') : NewAt B gs lv w' := by
  obtain ⟨cs, h1, h2⟩ := h
  refine ⟨cs, h1.kept (grownBy_below hb) (or_ne fun b _ => by simp), fun i g hi => ?_⟩
  obtain ⟨u, hu, he⟩ := h2 i g hi
  exact ⟨u, hu, ElAt.move he ⟨hb.size, fun b hb' hk => ⟨hk, hb.block b hb'⟩⟩⟩
theorem NewAt.segs {B : Nat} {gs : List Sg} {lv : Value} {w : World} (h : NewAt B gs lv w) : SgAt (fun b => B ≤ b) w lv gs := by
  obtain ⟨cs, h1, h2⟩ := h
  refine row_of_own h1 (fun b hb => (h1.lt b hb).1) fun j u y hu hy => ?_
  obtain ⟨u', hu', he⟩ := h2 j y hy
  rw [hu] at hu'
  obtain rfl := Option.some.inj hu'
  exact ElAt.move he (moves_weak w fun _ _ hk => hk.1)
theorem NewAt.all {B : Nat} {gs : List Sg} {lv : Value} {w : World} (h : NewAt B gs lv w) : SgAt All w lv gs := SgAt.move h.segs (moves_weak w fun _ _ _ => trivial)
theorem NewAt.form {B : Nat} {gs : List Sg} {lv : Value} {w : World} (h : NewAt B gs lv w) : ∃ a c, lv = .slice a gs.length c := by
  obtain ⟨cs, h1, -⟩ := h
  exact own_form h1
/-- What lies in memory made since, appended. -/
theorem NewAt.app {B : Nat} {gs l : List Sg} {lv v' : Value} {w w' : World} {cs news : List Value} (h1 : w.ownsRow B 50 1 lv gs.length cs) (h2 : ∀ (i : Nat) g, gs[i]? = some g → ∃ u, cs[i]? = some u ∧ ElAt (fun b => B ≤ b ∧ lv.ownBlock ≠ some b) w u g)
    (hl : news.length = l.length) (hu : ∀ (j : Nat) u g, news[j]? = some u → l[j]? = some g → ElAt (fun b => B ≤ b ∧ lv.ownBlock ≠ some b) w u g) (ho : w'.ownsRow B 50 1 v' (gs.length + l.length) (cs ++ news)) (hg : w.grownBy w' lv.ownBlock) (hat : v'.ownBlock = lv.ownBlock ∨ v'.ownBlock = some w.heap.size) : NewAt B (gs ++ l) v' w' := by
  have hm : Moves (fun b => B ≤ b ∧ lv.ownBlock ≠ some b) (fun b => B ≤ b ∧ v'.ownBlock ≠ some b) w w' := moves_grown hg fun b hb hk => ⟨⟨hk.1, by
    rcases hat with e | e
    · rw [e]; exact hk.2
    · rw [e]; intro e2; have := Option.some.inj e2; omega⟩, Ne.symm hk.2⟩
  have hcl : cs.length = gs.length := by have := h1.1; omega
  refine ⟨cs ++ news, by rw [List.length_append]; exact ho, fun i x hi => ?_⟩
  rcases Nat.lt_or_ge i gs.length with hlt | hge
  · rw [List.getElem?_append_left hlt] at hi
    obtain ⟨u', hu', he⟩ := h2 i x hi
    exact ⟨u', by rw [List.getElem?_append_left (by omega)]; exact hu', ElAt.move he hm⟩
  · rw [List.getElem?_append_right hge] at hi
    have hil : i - gs.length < news.length := by rw [hl]; exact (List.getElem?_eq_some_iff.1 hi).1
    have hn := List.getElem?_eq_getElem hil
    refine ⟨news[i - gs.length], by rw [List.getElem?_append_right (by omega), hcl]; exact hn, ElAt.move (hu _ _ _ hn hi) hm⟩
/-- A row of segments that was just laid. -/
theorem NewAt.laid {B : Nat} {w : World} (us : List Value) (gs : List Sg) (hB : B ≤ w.heap.size) (hl : us.length = gs.length) (hm : gs.length ≤ maxLen) (hE : ∀ (j : Nat) u g, us[j]? = some u → gs[j]? = some g → ElAt (fun b => B ≤ b) w u g) :
    NewAt B gs (.slice (some ⟨w.heap.size, 0, none⟩) gs.length gs.length) (w.alloc (.cells us.toArray 50)) := by
  refine ⟨us, ⟨by rw [hl, Nat.mul_one], Or.inr ⟨w.heap.size, gs.length, us.toArray, rfl, hB, heap_alloc_new w _, Nat.le_refl _, hm, by simp [hl], by rw [Nat.mul_one, ← hl]; simp⟩⟩, fun i g hi => ?_⟩
  have hil : i < us.length := by rw [hl]; exact (List.getElem?_eq_some_iff.1 hi).1
  refine ⟨us[i], List.getElem?_eq_getElem hil, ElAt.move (hE i _ g (List.getElem?_eq_getElem hil) hi) ⟨by simp, fun b hb hk => ⟨⟨hk, ?_⟩, Below.heap_alloc w _ b hb⟩⟩⟩
  simp only [Value.ownBlock]
  intro e
  have := Option.some.inj e
  omega
/-- Memory that was made behind a row's is not the row's. -/
theorem new_apart {B : Nat} {gs : List Sg} {lv u : Value} {w w' : World} {g : Sg} (h : NewAt B gs lv w) (he : ElAt (fun b => w.heap.size ≤ b) w' u g) (hB : B ≤ w.heap.size) : ElAt (fun b => B ≤ b ∧ lv.ownBlock ≠ some b) w' u g := by
  obtain ⟨cs, h1, _⟩ := h
  refine ElAt.move he (moves_weak w' fun b hb' hk => ⟨by omega, fun e => ?_⟩)
  have := (h1.lt b e).2
  omega
end Go.Proofs.YtpmnepihaljamaaGreatDoor
end

/-
  What eight.segment and eight.whole answer, as contracts: a segment of so many elements, each of one part, in new memory; a number as a text.
-/
section
set_option linter.unusedSimpArgs false
namespace Go.Proofs.YtpmnepihaljamaaGreatDoor
open Go.RowKit

theorem whole_any (n : Int) (w : World) (hT : Tab w) (h0 : -9223372036854775808 ≤ n) (h1 : n ≤ 9223372036854775807) :
    Calls Tryz.prog 22 #[.int .i64 n] w fun e w' => e = .returned (.string (mk (Lib.itoa n))) ∧ Below w.heap.size w w' := by
  have HI := Lib.hid (Nu.int_any n h0 h1 w hT.2.2)
  have HK : Hid ((⟨(Lib.itoa n).toArray⟩ : ByteArray) = mk (Lib.itoa n)) := rfl
  generalize mk (Lib.itoa n) = q at *
  rw [HK.out] at HI
  clear HK
  go_enter Tryz.func22, Tryz.ntmps22
  go_wp2_with (first | (go_at_call 41; refine HI.out.mono ?_; rintro e w1 ⟨rfl, hb⟩; have HB := Lib.hid hb; clear hb))
  go_ret
  exact ⟨rfl, HB.out⟩

set_option maxHeartbeats 2000000 in
theorem eseg_any (v : Value) (ts : List Tx) (w : World) (h : TxAt All w v ts) (hn : ts.length ≤ 1000) :
    Calls Tryz.prog 21 #[v] w fun x w' => (∃ u, x = .returned (.agg #[u]) ∧ SegAt w.heap.size ts u w') ∧ Below w.heap.size w w' := by
  have hv := h
  obtain ⟨a, c, rfl, h1, h2, -⟩ := h
  unfold maxLen at h2
  have HV : Hid (TxAt All w (.slice a ts.length c) ts) := hv
  clear hv
  obtain ⟨i48, t1, t2, t3, t4⟩ := info48
  have hmk : ∀ w : World, (Instr.makeSlice 48 (.int .i64 0) (.int .i64 (ts.length : Int))).run Tryz.prog w = .ok (.slice (some ⟨w.heap.size, 0, none⟩) 0 ts.length) (w.alloc (.cells (madeCells (Value.slice none 0 0).cells ts.length) 45)) := fun w => by
    have := run_make (P := Tryz.prog) w 48 45 i48 _ Tryz.underlying48 t1 t2 .i64 .i64 0 ts.length (by omega) (by omega) (by rw [t4]; omega) (by omega)
    rw [t3, Nat.mul_one] at this
    simpa using this
  go_enter Tryz.func21, Tryz.ntmps21
  go_wp2
  go_loopg [12] (ts.length) (fun gg i wr => ∃ (k : Nat) (gv : Value) (ps : List Nat) (tk : List Tx), tk.length ≤ 1000 ∧ Hid (tk = ts.take k) ∧ k ≤ ts.length ∧ gg = ts.length - k ∧ i = .int .i64 k ∧ w.heap.size ≤ wr.heap.size ∧ Hid (Sq w.heap.size (w.heap.size + 2) tk ps gv wr) ∧ Hid (∃ cv, wr.heap[w.heap.size]? = some (.cells #[cv] 50 (0, 0))) ∧ Hid (Below w.heap.size w wr))
  case atStart =>
    refine ⟨0, _, _, [], by simp, by show _ = _; simp, Nat.zero_le _, rfl, rfl, by simp; omega, Sq.start w ts.length (by simp only [maxLen]; omega), ⟨.slice none 0 0, ?_⟩, below_trans (below_trans (below_alloc w _) (below_alloc _ _)) (below_alloc _ _)⟩
    rw [(below_trans (below_alloc _ _) (below_alloc _ _)).block w.heap.size (by simp)]
    exact heap_alloc_new w _
  case round =>
    clear hmk
    obtain ⟨k, gv, ps, tk, hlen, HTK, hk, hgk, rfl, hBw, HSt, HR, HB⟩ := hrel
    have HX : Hid (wr.heap[w.heap.size + 2]? = some (.cells #[gv] 50 (0, 0))) := HSt.out.box
    have hbx : wr.cell? ⟨w.heap.size + 2, 0, none⟩ = some gv := by rw [cell_of_row wr _ 0 _ 50 (0, 0) HX.out]; rfl
    have hlx := HSt.out.lt
    obtain ⟨ga0, gc0, rfl⟩ := own_form HSt.out.own
    by_cases hlt : k < ts.length
    · obtain ⟨b, o, u, rfl, hx, hu, rfl⟩ := RowAt.get (TxAt.move HV.out (Below.moves HB.out)) k hlt
      have HO : Hid (tk ++ [ts[k]] = ts.take (k + 1)) := by show _ = _; rw [List.take_add_one, hx, HTK.out]; rfl
      have hlen1 : (tk ++ [ts[k]]).length ≤ 1000 := by rw [HO.out, List.length_take]; omega
      have HLN := Lib.hid hlen1
      clear hlen1
      clear hx
      generalize ts[k] = x at *
      have hl1 : (tk ++ [x]).length = tk.length + 1 := by simp
      have HL1 := Lib.hid hl1
      clear hl1
      have hlay := Sq.lay HSt.out x hBw (.cells #[slc wr.heap.size] 45)
      have HOE := Lib.hid hlay.1
      have HPT := Lib.hid hlay.2.1
      have HBX := Lib.hid hlay.2.2
      clear hlay
      have HB2 := Lib.hid (below_trans HB.out (below_trans (below_alloc wr (.cells #[.string (mk x)] 9)) (below_alloc _ (.cells #[slc wr.heap.size] 45))))
      have hcl := cell_one_new (wr.alloc (.cells #[.string (mk x)] 9)) (slc wr.heap.size) 45
      rw [show (wr.alloc (.cells #[.string (mk x)] 9)).heap.size = wr.heap.size + 1 from by simp] at hcl
      have HCL := Lib.hid hcl
      obtain ⟨cv, hcv⟩ := HR.out
      have HCV := Lib.hid hcv
      have hlc : w.heap.size < wr.heap.size := (Array.getElem?_eq_some_iff.1 hcv).1
      clear hcl hcv
      go_wp2_with (at_builtin; refine wpList_append_own_at _ (by rfl) _ _ 48 (by rfl) w.heap.size 45 i48 (.slice none 0 0) 1 24 Tryz.underlying48 t1 t2 t3 t4 (by rfl) (by omega) (.slice ga0 tk.length gc0) tk.length (ps.map slc) (by rfl) HOE.out ⟨wr.heap.size + 1, 0, none⟩ 1 1 [slc wr.heap.size] (by rfl) (by rfl) HCL.out ?c2 ?c3 ?c4 ?c5 ?_)
      case c2 => intro u hu; simp at hu; subst hu; rfl
      case c3 => simp only [maxLen]; omega
      case c4 => omega
      case c5 => simp; omega
      intro gv8 w8 hown hgrow hnil hat
      obtain ⟨ga, gc, rfl⟩ := own_form hown
      have hsz2 : w.heap.size ≤ ((wr.alloc (.cells #[.string (mk x)] 9)).alloc (.cells #[slc wr.heap.size] 45)).heap.size := HB2.out.size
      have HB8 := Lib.hid (HB2.out.grown hgrow hsz2 fun k hk => (HOE.out.lt k hk).1)
      have hbox8 : w8.heap[w.heap.size + 2]? = some (.cells #[.slice ga0 tk.length gc0] 50 (0, 0)) := by
        rw [hgrow.block (w.heap.size + 2) (Array.getElem?_eq_some_iff.1 HBX.out).1 (Ne.symm (own_box HOE.out HBX.out (by decide)))]
        exact HBX.out
      have hcx8 : w8.cell? ⟨w.heap.size + 2, 0, none⟩ = some (.slice ga0 tk.length gc0) := by rw [cell_of_row w8 _ 0 _ 50 (0, 0) hbox8]; rfl
      have hfx8 : w8.frozen? ⟨w.heap.size + 2, 0, none⟩ = false := Lib.frozen_of_heap hbox8 0
      have HS9 : Hid (Sq w.heap.size (w.heap.size + 2) (tk ++ [x]) (ps ++ [wr.heap.size]) (.slice ga (tk.length + 1) gc) (w8.setCell ⟨w.heap.size + 2, 0, none⟩ (.slice ga (tk.length + 1) gc))) := Sq.elem HOE.out HPT.out HBX.out (by rw [HL1.out]; exact hown) hgrow
      have HR9 : Hid (∃ cv, (w8.setCell ⟨w.heap.size + 2, 0, none⟩ (.slice ga (tk.length + 1) gc)).heap[w.heap.size]? = some (.cells #[cv] 50 (0, 0))) := by
        refine ⟨cv, ?_⟩
        have hc2 : ((wr.alloc (.cells #[.string (mk x)] 9)).alloc (.cells #[slc wr.heap.size] 45)).heap[w.heap.size]? = some (.cells #[cv] 50 (0, 0)) := by
          rw [(below_trans (below_alloc wr (.cells #[.string (mk x)] 9)) (below_alloc _ (.cells #[slc wr.heap.size] 45))).block _ hlc]; exact HCV.out
        rw [Below.heap_setCell _ _ _ _ (by show w.heap.size ≠ w.heap.size + 2; omega), hgrow.block w.heap.size (by simp; omega) (Ne.symm (own_box HOE.out hc2 (by decide)))]
        exact hc2
      have HB9 := Lib.hid (HB8.out.setCell (p := ⟨w.heap.size + 2, 0, none⟩) (by show w.heap.size ≤ w.heap.size + 2; omega) (.slice ga (tk.length + 1) gc))
      clear hown hgrow hnil hat hbox8 hsz2 HB8 HOE HCL
      go_wp2
      go_roundg (ts.length - (k + 1))
      case rel => exact ⟨k + 1, _, _, _, HLN.out, HO.out, by omega, rfl, by go_num, HB9.out.size, HS9.out, HR9.out, HB9.out⟩
      case measure => omega
    · have HO : Hid (tk = ts) := by show _ = _; rw [HTK.out, List.take_of_length_le (by omega)]
      obtain ⟨cv, hcv⟩ := HR.out
      have hcs : wr.cell? ⟨w.heap.size, 0, none⟩ = some cv := by rw [cell_of_row wr _ 0 _ 50 (0, 0) hcv]; rfl
      have hfr : wr.frozen? ⟨w.heap.size, 0, none⟩ = false := Lib.frozen_of_heap hcv 0
      have HE9 := Lib.hid (Sq.done (v := .slice ga0 tk.length gc0) HSt.out hcv)
      have HB9 := Lib.hid (HB.out.setCell (p := ⟨w.heap.size, 0, none⟩) (Nat.le_refl _) (.slice ga0 tk.length gc0))
      clear hcv
      go_wp2
      refine bodyPost_ret (v := .agg #[.slice ga0 tk.length gc0]) (by simp [results, Tryz.results21, go_sem, hcs]) rfl ?_
      refine ⟨⟨_, rfl, ?_⟩, HB9.out⟩
      have := HE9.out
      have e := HO.out
      subst e
      exact this
end Go.Proofs.YtpmnepihaljamaaGreatDoor
end

/-
  What eight.name, behind, texts and placed answer, as contracts.
-/
section
set_option linter.unusedSimpArgs false
set_option maxRecDepth 100000
namespace Go.Proofs.YtpmnepihaljamaaGreatDoor
open Go.RowKit
open Et

def Nm (l : List Sg) : Prop := ∀ g ∈ l, namedB g = true
theorem Nm.tail {l : List Sg} (h : Nm l) : Nm l.tail := fun g hg => h g (List.mem_of_mem_tail hg)
theorem named_form {g : Sg} (h : namedB g = true) : ∃ t r, g = [t] :: r := by
  unfold namedB at h
  split at h
  · exact ⟨_, _, rfl⟩
  · cases h
/-- A named segment's memory, laid open. -/
theorem el_open {w : World} {u : Value} {t : Tx} {r : Sg} (h : ElAt All w u ([t] :: r)) : ∃ b o c b2 o2 c2, u = .slice (some ⟨b, o, none⟩) (r.length + 1) c ∧ r.length + 1 ≤ c ∧ c ≤ 9223372036854775807 ∧ w.cell? ⟨b, o, none⟩ = some (.slice (some ⟨b2, o2, none⟩) 1 c2) ∧ 1 ≤ c2 ∧ w.cell? ⟨b2, o2, none⟩ = some (.string (mk t)) := by
  have h' := h
  obtain ⟨a, c, rfl, h1, h2, -⟩ := h
  obtain ⟨b, o, u0, rfl, -, hu, h3⟩ := RowAt.get h' 0 (by simp)
  have h3' := h3
  obtain ⟨a2, c2, e2, g1, g2, -⟩ := h3
  have e2' : u0 = .slice a2 1 c2 := e2
  subst e2'
  obtain ⟨b2, o2, u1, rfl, -, hu1, h4⟩ := RowAt.get (xs := [t]) h3' 0 (by simp)
  have h4' : u1 = .string (mk t) := h4
  subst h4'
  rw [Nat.add_zero] at hu hu1
  unfold maxLen at h2
  exact ⟨b, o, c, b2, o2, c2, rfl, h1, h2, hu, g1, hu1⟩

set_option maxHeartbeats 1000000 in
theorem name_any (u : Value) (g : Sg) (w : World) (h : ElAt All w u g) (hn : namedB g = true) :
    Calls Tryz.prog 126 #[.agg #[u]] w fun e w' => e = .returned (.string (mk ((g.headD []).headD []))) ∧ Below w.heap.size w w' := by
  obtain ⟨t, r, rfl⟩ := named_form hn
  have HB := Lib.hid (below_alloc w (.cells #[u] 50))
  have h2 := ElAt.move h (Below.moves HB.out)
  obtain ⟨b, o, c, b2, o2, c2, rfl, q1, q2, k1, q3, k2⟩ := el_open h
  obtain ⟨b', o', c', b2', o2', c2', e, -, -, k1', -, k2'⟩ := el_open h2
  simp only [Value.slice.injEq, Option.some.injEq, Addr.mk.injEq] at e
  obtain ⟨⟨rfl, rfl, -⟩, -, rfl⟩ := e
  have HT : Hid ((([t] :: r : Sg).headD []).headD [] = t) := rfl
  clear h h2 hn k1 k2
  go_enter Tryz.func126, Tryz.ntmps126
  go_wp2
  go_ret
  exact ⟨rfl, HB.out⟩

theorem sg_open {w : World} {v : Value} {g : Sg} {r : List Sg} (h : SgAt All w v (g :: r)) : ∃ b o c u, v = .slice (some ⟨b, o, none⟩) (r.length + 1) c ∧ r.length + 1 ≤ c ∧ c ≤ 9223372036854775807 ∧ w.cell? ⟨b, o, none⟩ = some u ∧ ElAt All w u g := by
  have h' := h
  obtain ⟨a, c, rfl, h1, h2, -⟩ := h
  obtain ⟨b, o, u0, rfl, -, hu, h3⟩ := RowAt.get h' 0 (by simp)
  rw [Nat.add_zero] at hu
  unfold maxLen at h2
  exact ⟨b, o, c, u0, rfl, h1, h2, hu, h3⟩
/-- A row without its first. -/
theorem RowAt.tail {α : Type} {K : Nat → Prop} {R : World → Value → α → Prop} {w : World} {b o n c : Nat} {x : α} {xs : List α} (h : RowAt K R w (.slice (some ⟨b, o, none⟩) n c) (x :: xs)) : RowAt K R w (.slice (some ⟨b, o + 1, none⟩) xs.length (c - 1)) xs := by
  obtain ⟨a, c', e, h1, h2, h3⟩ := h
  simp only [Value.slice.injEq] at e
  obtain ⟨rfl, rfl, rfl⟩ := e
  refine ⟨_, _, rfl, by simp at h1; omega, by omega, ?_⟩
  rcases h3 with h3 | ⟨b', o', e, hk, hb, hc⟩
  · cases h3
  · simp only [Option.some.injEq, Addr.mk.injEq] at e
    obtain ⟨rfl, rfl, -⟩ := e
    refine Or.inr ⟨b, o + 1, rfl, hk, hb, fun j y hj => ?_⟩
    obtain ⟨u, hu, hr⟩ := hc (j + 1) y (by simpa using hj)
    exact ⟨u, by rw [show o + 1 + j = o + (j + 1) by omega]; exact hu, hr⟩
theorem RowAt.nil_of {α : Type} {K : Nat → Prop} {R : World → Value → α → Prop} {w : World} {a : Option Addr} {c : Nat} (hc : c ≤ maxLen) : RowAt K R w (.slice a 0 c) ([] : List α) := ⟨a, c, rfl, by simp, hc, Or.inl rfl⟩
theorem beh_no {l : List Sg} {t : Tx} {n : Nat} (h : behB l t n = false) : behV l t n = [] := by unfold behV; rw [h]; rfl
theorem beh_yes {l : List Sg} {t : Tx} {n : Nat} (h : behB l t n = true) : behV l t n = (l.headD []).tail := by unfold behV; rw [h]; rfl

set_option maxHeartbeats 2000000 in
theorem ebehind_any (v : Value) (l : List Sg) (t : Tx) (n : Nat) (w : World) (h : SgAt All w v l) (hn : Nm l) (h1 : 1 ≤ n) (h10 : n ≤ 10) :
    Calls Tryz.prog 98 #[v, .string (mk t), .int .i64 (n : Int)] w fun e w' => (∃ u, e = .returned (.tuple #[u, .bool (behB l t n)]) ∧ ElAt All w' u (behV l t n)) ∧ Below w.heap.size w w' := by
  cases l with
  | nil =>
    obtain ⟨a, c, rfl, h1', h2, -⟩ := h
    have HN := Lib.hid (ElAt.nil All w)
    go_enter Tryz.func98, Tryz.ntmps98
    go_wp2
    go_ret2
    exact ⟨⟨_, rfl, HN.out⟩, Below.refl _ _⟩
  | cons g r =>
    obtain ⟨b, o, c, u, rfl, q1, q2, k1, he⟩ := sg_open h
    obtain ⟨t0, rg, rfl⟩ := named_form (hn g (by simp))
    obtain ⟨b1, o1, c1, b2, o2, c2, rfl, q3, q4, k2, q5, k3⟩ := el_open he
    have HNm := Lib.hid (name_any _ _ w he (hn _ (by simp)))
    have HE := Lib.hid he
    rw [show ((([t0] :: rg : Sg).headD []).headD []) = t0 from rfl] at HNm
    have hb : behB (([t0] :: rg) :: r) t n = (decide (t0 = t) && decide (rg.length = n)) := by
      unfold behB
      show (true && (decide (t0 = t) && decide (rg.length + 1 = n + 1))) = _
      simp
    have heq := Cm.mk_ne t0 t
    have HCe : Hid (∀ W, Below w.heap.size w W → W.cell? ⟨b, o, none⟩ = some (.slice (some ⟨b1, o1, none⟩) (rg.length + 1) c1)) := fun W hW => by
      rw [hW.cell (p := ⟨b, o, none⟩) (World.block_lt_of_cell? w _ k1)]; exact k1
    clear h hn k2 k3
    by_cases e : t0 = t
    · rw [decide_eq_true e] at heq hb
      by_cases el : rg.length = n
      · rw [decide_eq_true el] at hb
        have HV := Lib.hid (beh_yes hb)
        have HB := Lib.hid hb
        have HTl : Hid (∀ W, Below w.heap.size w W → ElAt All W (.slice (some ⟨b1, o1 + 1, none⟩) rg.length (c1 - 1)) rg) := fun W hW => RowAt.tail (ElAt.move HE.out (Below.moves hW))
        have hln : (((rg.length + 1 : Nat) : Int) != ((n : Int) + 1)) = false := by simp; omega
        have hln' : ((rg.length : Int) + 1 != (n : Int) + 1) = false := by simp; omega
        have hc1 : ¬ c1 = 1 := by omega
        have hc2 : 1 < c1 := by omega
        clear hb he el
        go_enter Tryz.func98, Tryz.ntmps98
        go_wp2_with (first | (go_at_call 126; refine HNm.out.mono ?_; rintro x w1 ⟨rfl, hb1⟩; have HB1 := Lib.hid hb1; have k4 := HCe.out _ hb1; clear hb1))
        go_ret2
        refine ⟨⟨_, by rw [HB.out]; rfl, ?_⟩, HB1.out⟩
        rw [HV.out]
        have := HTl.out _ HB1.out
        simpa using this
      · rw [decide_eq_false el] at hb
        have HV := Lib.hid (beh_no hb)
        have HB := Lib.hid hb
        have HN := Lib.hid fun W => ElAt.nil All W
        have hln : (((rg.length + 1 : Nat) : Int) != ((n : Int) + 1)) = true := by simp; omega
        have hln' : ((rg.length : Int) + 1 != (n : Int) + 1) = true := by simp; omega
        clear hb he
        go_enter Tryz.func98, Tryz.ntmps98
        go_wp2_with (first | (go_at_call 126; refine HNm.out.mono ?_; rintro x w1 ⟨rfl, hb1⟩; have HB1 := Lib.hid hb1; have k4 := HCe.out _ hb1; clear hb1))
        go_ret2
        exact ⟨⟨_, by rw [HB.out]; rfl, by rw [HV.out]; exact HN.out _⟩, HB1.out⟩
    · rw [decide_eq_false e] at heq hb
      have hb' : behB (([t0] :: rg) :: r) t n = false := by rw [hb]; rfl
      have HV := Lib.hid (beh_no hb')
      have HB := Lib.hid hb'
      have HN := Lib.hid fun W => ElAt.nil All W
      clear hb hb' he
      go_enter Tryz.func98, Tryz.ntmps98
      go_wp2_with (first | (go_at_call 126; refine HNm.out.mono ?_; rintro x w1 ⟨rfl, hb1⟩; have HB1 := Lib.hid hb1; have k4 := HCe.out _ hb1; clear hb1))
      go_ret2
      exact ⟨⟨_, by rw [HB.out]; rfl, by rw [HV.out]; exact HN.out _⟩, HB1.out⟩
end Go.Proofs.YtpmnepihaljamaaGreatDoor
end
