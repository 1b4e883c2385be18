/-
  Texts put together (merge.py): MApp, MRTold.
-/
import Derived.BigQuiet
import Derived.Deep.Cut
import Derived.Test.YtpfpjbeofogbgaaMm16
import Derived.Test.YtpfpjbeofogbgaaMm21
import Derived.Test.YtpfpjbeofogbgaaMm7
import Derived.Test.YtpfpjbeofogbgaaMm5
import Derived.Test.YtpfpjbeofogbgaaMm3
set_option linter.unusedSimpArgs false
set_option linter.unusedVariables false
section
set_option maxRecDepth 100000
namespace Go.Proofs.Ytpfpjbeofogbgaa.Re
open Go.RowKit
open Sv (Ca Sr Cp SvsAt CasAt CpsAt CpCells cpv cpe cp0 four six CpOk checkE)
open Bk (keepB heap_far below_alloc below_trans alloc_new heap_set add_lit)
theorem cxs_of (K : Nat → Prop) (w : World) (b : Nat) : ∀ (l : List Cp) (o : Nat), (∀ (j : Nat) x, l[j]? = some x → ∃ m, CpCells w b (o + j * 6) x m ∧ SvsAt K w m x.svs) → ∃ L : List Cx, L.map (·.c) = l ∧ (∀ x ∈ L, SvsAt K w x.m x.c.svs) ∧ ∀ j u, (pcs L)[j]? = some u → w.cell? ⟨b, o + j, none⟩ = some u
 | [], o, _ => ⟨[], rfl, by simp, fun j u h => by simp [pcs] at h⟩
 | x :: l, o, h => by
  obtain ⟨m, hc, hco⟩ := h 0 x rfl
  obtain ⟨L, h1, h2, h3⟩ := cxs_of K w b l (o + 6) (fun j y hj => by
   obtain ⟨m, q1, q2⟩ := h (j + 1) y (by simpa using hj)
   refine ⟨m, ?_, q2⟩
   rwa [show o + 6 + j * 6 = o + (j + 1) * 6 by omega])
  refine ⟨⟨x, m⟩ :: L, by simp [h1], fun y hy => ?_, fun j u hj => ?_⟩
  ·rcases List.mem_cons.1 hy with rfl | hy
   ·exact hco
   ·exact h2 y hy
  ·rw [Nat.zero_mul, Nat.add_zero] at hc
   obtain ⟨c0, c1, c2, c3, c4, c5⟩ := hc
   match j, hj with
   | 0, hj => exact c0.trans (by simpa [pcs] using hj)
   | 1, hj => exact c1.trans (by simpa [pcs] using hj)
   | 2, hj => exact c2.trans (by simpa [pcs] using hj)
   | 3, hj => exact c3.trans (by simpa [pcs] using hj)
   | 4, hj => exact c4.trans (by simpa [pcs] using hj)
   | 5, hj => exact c5.trans (by simpa [pcs] using hj)
   | n + 6, hj =>
    have := h3 n u (by simpa [pcs] using hj)
    rwa [show o + 6 + n = o + (n + 6) by omega] at this
theorem cps_cxs {K : Nat → Prop} {w : World} {a : Option Addr} {n c : Nat} {l : List Cp} (h : CpsAt K w (.slice a n c) l) : ∃ L : List Cx, n = L.length ∧ L.map (·.c) = l ∧ (∀ x ∈ L, SvsAt K w x.m x.c.svs) ∧ (n = 0 ∨ ∃ b o, a = some ⟨b, o, none⟩ ∧ ∀ j u, (pcs L)[j]? = some u → w.cell? ⟨b, o + j, none⟩ = some u) := by
 obtain ⟨a', c', he, h1, h2, h3⟩ := h
 injection he with ha hn hc
 subst ha hn
 rcases h3 with h | ⟨b, o, ha, _, hb, hc⟩
 ·subst h; exact ⟨[], rfl, rfl, by simp, Or.inl rfl⟩
 ·obtain ⟨L, q1, q2, q3⟩ := cxs_of K w b l o hc
  exact ⟨L, by rw [← q1, List.length_map], q1, q2, Or.inr ⟨b, o, ha, q3⟩⟩
theorem app0 {w : World} {B : Nat} {v : Value} {L : List Cx} (hown : OwnC B w v L) (ty : Nat) (ad : Option Addr) (c : Nat) : (Builtin.append_ #[22, 22] ty #[v, .slice ad 0 c]).run Try.prog w = .ok v w := by
 obtain ⟨i, q1, _, q2, _⟩ := infop
 rcases hown.2 with ⟨rfl, h0⟩ | ⟨g, cap, cur, rfl, _, _, hnc, _⟩
 ·cases ad <;> simp [Builtin.append_, run_underlying Try.underlying22, sizeOf, typeInfo, q1, Builtin.lenOf, Builtin.firstCells, loadCells, loadCellsFrom]
 ·cases ad <;> simp [Builtin.append_, run_underlying Try.underlying22, sizeOf, typeInfo, q1, Builtin.lenOf, Builtin.firstCells, loadCells, loadCellsFrom, hnc, storeCells]
theorem wp_appR {o : Oper} {a : Act} {w : World} {K : Act → World → Prop} {Q : Exit → Act → World → Prop} (s x : Operand) (ho : o.op = .call { callee := .builtin .append, args := #[s, x], argTypes := #[22, 22] })
  (B : Nat) (v : Value) (L : List Cx) (hs : a.eval s = v) (hown : OwnC B w v L) (Kp : Nat → Prop) (ad : Option Addr) (m c : Nat) (l : List Cp) (hx : a.eval x = .slice ad m c) (hl : CpsAt Kp w (.slice ad m c) l) (hbd : L.length ≤ 100000) (hbl : l.length ≤ 100000) (hB : B ≤ w.heap.size)
  (h : ∀ v' w' L', L'.map (·.c) = l → (∀ y ∈ L', SvsAt Kp w y.m y.c.svs) → OwnC B w' v' (L ++ L') → w.grownBy w' v.ownBlock → (v'.ownBlock = v.ownBlock ∨ v'.ownBlock = some w.heap.size) → K (a.put o.dst v') w') : o.wp Try.prog a w K Q := by
 obtain ⟨L2, hm, hml, hco, hc⟩ := cps_cxs hl
 have hLl : L2.length ≤ 100000 := by rw [← hml, List.length_map] at hbl; exact hbl
 by_cases hm0 : m = 0
 ·subst hm0
  have e2 : L2 = [] := List.length_eq_zero_iff.1 hm.symm
  subst e2
  have hrun := app0 hown o.type ad c
  have hh := h v w [] hml (by simp) (by rw [List.append_nil]; exact hown) (World.grownBy.refl _ _) (Or.inl rfl)
  unfold Oper.wp
  simp [execOp, ho, resolve, invoke, builtin, hs, hx, hrun, Result.andThen]
  exact hh
 ·obtain ⟨b, o', rfl, hc2⟩ := hc.resolve_left hm0
  obtain ⟨i, q1, q2, q3, q4⟩ := infop
  have hsl : ∀ x ∈ L2, Sl x := fun x hx => svs_sl (hco x hx)
  refine wp_append_lies w s x 22 ho B Tp i _ 6 72 Try.underlying22 q1 q2 q3 q4 rfl (by omega) v L.length (pcs L) hs hown ⟨b, o', none⟩ m c (pcs L2) hx (by rw [pcs_len, hm]) (fun j u hj => ?_) (pcs_one L2 hsl) (by omega) (by unfold maxLen; omega) (by omega) hB w.heap.size rfl fun g cap w' hown' hg hat _ => ?_
  ·rw [add_lit]; exact hc2 j u hj
  ·refine h _ w' L2 hml hco (by unfold OwnC; rw [pcs_app, List.length_append, ← hm]; exact hown') hg ?_
   rcases hat with e | e
   ·exact Or.inl (by rw [e]; rfl)
   ·exact Or.inr (by rw [e]; rfl)
theorem Two.appR {B : Nat} {w w' : World} {v v' u : Value} {L L' Lx : List Cx} (h : Two B w v v' L L') (hf : ∀ x ∈ Lx, SvsAt (Ofs B v v') w x.m x.c.svs) (ho : OwnC B w' u (L ++ Lx)) (hg : w.grownBy w' v.ownBlock) (hv : u.ownBlock = v.ownBlock ∨ u.ownBlock = some w.heap.size) : Two B w' u v' (L ++ Lx) L' := by
 have hm : Moves (Ofs B v v') (Ofs B u v') w w' := ⟨hg.size, fun b hb k => ⟨⟨k.1, by
  rcases hv with e | e
  ·rw [e]; exact k.2.1
  ·rw [e]; intro q; injection q with q; omega, k.2.2⟩, hg.block b hb (fun e => k.2.1 e.symm)⟩⟩
 refine ⟨ho, h.o2.keep fun g e => hg.block g (h.o2.lt e).2 (fun q => h.ne g q.symm e), fun g e q => ?_, fun x hx => ?_, fun x hx => (h.c2 x hx).move hm⟩
 ·rcases hv with r | r
  ·exact h.ne g (r ▸ e) q
  ·rw [r] at e; injection e with e; have := (h.o2.lt q).2; omega
 ·rcases List.mem_append.1 hx with hx | hx
  ·exact (h.c1 x hx).move hm
  ·exact (hf x hx).move hm
abbrev Kw (pr : Nat) (v1 v2 : Value) (b : Nat) : Prop := b ≠ pr ∧ v1.ownBlock ≠ some b ∧ v2.ownBlock ≠ some b
structure Lp (p pr : Nat) (n : Int) (TR : TypeId) (w W : World) (v1 v2 vw : Value) (L L2 : List Cx) (was : List Cp) : Prop where
 y : W.heap[p]? = some (.cells #[.int .i64 0, .int .i64 0, .int .i64 0, .slice none 0 0] TR (0, 0))
 x : W.heap[pr]? = some (.cells #[.int .i64 n, .int .i64 0, .int .i64 0, v1] TR (0, 0))
 two : Two (pr + 1) W v1 v2 L L2
 was : CpsAt (Kw pr v1 v2) W vw was
 low : Below p w W
 lt : p < pr
theorem Lp.sz {p pr : Nat} {n : Int} {TR : TypeId} {w W : World} {v1 v2 vw : Value} {L L2 : List Cx} {was : List Cp} (h : Lp p pr n TR w W v1 v2 vw L L2 was) : pr < W.heap.size := (Array.getElem?_eq_some_iff.1 h.x).1
theorem Lp.grw {p pr : Nat} {n : Int} {TR : TypeId} {w W W' : World} {v1 v2 vw : Value} {L L2 : List Cx} {was : List Cp} (h : Lp p pr n TR w W v1 v2 vw L L2 was) (hb : Below W.heap.size W W') : Lp p pr n TR w W' v1 v2 vw L L2 was :=
 have hs := h.sz
 have hl := h.lt
 ⟨(hb.block p (by omega)).trans h.y, (hb.block pr hs).trans h.x, h.two.grw hb, h.was.move ⟨hb.size, fun b hlt k => ⟨k, hb.block b hlt⟩⟩, h.low.trans (hb.mono (by omega)), h.lt⟩
theorem Lp.told {p pr : Nat} {n : Int} {TR : TypeId} {w W : World} {v1 v2 vw vw' : Value} {L L2 : List Cx} {was was' : List Cp} (h : Lp p pr n TR w W v1 v2 vw L L2 was) (h2 : CpsAt (Kw pr v1 v2) W vw' was') : Lp p pr n TR w W v1 v2 vw' L L2 was' := ⟨h.y, h.x, h.two, h2, h.low, h.lt⟩
theorem kw_new {p pr : Nat} {n : Int} {TR : TypeId} {w W : World} {v1 v2 vw : Value} {L L2 : List Cx} {was : List Cp} (h : Lp p pr n TR w W v1 v2 vw L L2 was) (b : Nat) (hb : W.heap.size ≤ b) : Kw pr v1 v2 b :=
 ⟨by have := h.sz; omega, fun e => by have := (h.two.o1.lt e).2; omega, fun e => by have := (h.two.o2.lt e).2; omega⟩
theorem ofs_new {p pr : Nat} {n : Int} {TR : TypeId} {w W : World} {v1 v2 vw : Value} {L L2 : List Cx} {was : List Cp} (h : Lp p pr n TR w W v1 v2 vw L L2 was) (b : Nat) (hb : W.heap.size ≤ b) : Ofs (pr + 1) v1 v2 b :=
 ⟨by have := h.sz; omega, (kw_new h b hb).2.1, (kw_new h b hb).2.2⟩
theorem Lp.app2 {p pr B : Nat} {n : Int} {TR : TypeId} {w W W' : World} {v1 v2 v2' vw : Value} {L L2 Lx : List Cx} {was : List Cp} (h : Lp p pr n TR w W v1 v2 vw L L2 was) (hf : ∀ x ∈ Lx, SvsAt (Ofs (pr + 1) v1 v2) W x.m x.c.svs) (ho : OwnC (pr + 1) W' v2' (L2 ++ Lx)) (hg : W.grownBy W' v2.ownBlock) (hv : v2'.ownBlock = v2.ownBlock ∨ v2'.ownBlock = some W.heap.size) : Lp p pr n TR w W' v1 v2' vw L (L2 ++ Lx) was := by
 have hs := h.sz
 have hl := h.lt
 have hne : ∀ b, b ≤ pr → v2.ownBlock ≠ some b := fun b hb e => by have := (h.two.o2.lt e).1; omega
 refine ⟨(hg.block p (by omega) fun e => hne p (by omega) e.symm).trans h.y, (hg.block pr hs fun e => hne pr (Nat.le_refl _) e.symm).trans h.x, (h.two.swap.appR (fun x hx => (hf x hx).move (moves_weak W fun b _ k => ⟨k.1, k.2.2, k.2.1⟩)) ho hg hv).swap, h.was.move ⟨hg.size, fun b hb k => ⟨⟨k.1, k.2.1, ?_⟩, hg.block b hb fun e => k.2.2 e.symm⟩⟩, h.low.trans ⟨hg.os, hg.tape, hg.output, hg.size, fun b hb => hg.block b (by omega) fun e => hne b (by omega) e.symm⟩, h.lt⟩
 rcases hv with e | e
 ·rw [e]; exact k.2.2
 ·rw [e]; intro q; injection q with q; omega
theorem Lp.app1 {p pr : Nat} {n : Int} {TR : TypeId} {w W W' : World} {v1 v1' v2 vw : Value} {L L2 Lx : List Cx} {was : List Cp} (h : Lp p pr n TR w W v1 v2 vw L L2 was) (hf : ∀ x ∈ Lx, SvsAt (Ofs (pr + 1) v1 v2) W x.m x.c.svs) (ho : OwnC (pr + 1) W' v1' (L ++ Lx)) (hg : W.grownBy W' v1.ownBlock) (hv : v1'.ownBlock = v1.ownBlock ∨ v1'.ownBlock = some W.heap.size) :
  W'.heap[pr]? = some (.cells #[.int .i64 n, .int .i64 0, .int .i64 0, v1] TR (0, 0)) ∧ Lp p pr n TR w (W'.setCell ⟨pr, 3, none⟩ v1') v1' v2 vw (L ++ Lx) L2 was := by
 have hs := h.sz
 have hl := h.lt
 have hne : ∀ b, b ≤ pr → v1.ownBlock ≠ some b := fun b hb e => by have := (h.two.o1.lt e).1; omega
 have hx' := (hg.block pr hs fun e => hne pr (Nat.le_refl _) e.symm).trans h.x
 have hfar : ∀ b, b ≠ pr → (W'.setCell ⟨pr, 3, none⟩ v1').heap[b]? = W'.heap[b]? := fun b hb => Below.heap_setCell _ _ _ _ hb
 have hsz : W'.heap.size ≤ (W'.setCell ⟨pr, 3, none⟩ v1').heap.size := by simp
 have hS := hg.size
 refine ⟨hx', (hfar p (by omega)).trans ((hg.block p (by omega) fun e => hne p (by omega) e.symm).trans h.y), heap_set hx' 3 v1', (h.two.appR hf ho hg hv).keep hsz (fun b hb _ => hfar b (by omega)), h.was.move ⟨Nat.le_trans hS hsz, fun b hb k => ⟨⟨k.1, ?_, k.2.2⟩, (hfar b k.1).trans (hg.block b hb fun e => k.2.1 e.symm)⟩⟩, h.low.trans (Below.setCell (p := ⟨pr, 3, none⟩) ⟨hg.os, hg.tape, hg.output, hg.size, fun b hb => hg.block b (by omega) fun e => hne b (by omega) e.symm⟩ (by show p ≤ pr; omega) _), h.lt⟩
 rcases hv with e | e
 ·rw [e]; exact k.2.1
 ·rw [e]; intro q; injection q with q; omega
theorem Lp.keepR {p pr : Nat} {n : Int} {TR : TypeId} {w W W1 W9 : World} {v1 v2 vw x u : Value} {L L2 : List Cx} {was l : List Cp} (h : Lp p pr n TR w W v1 v2 vw L L2 was) (hg : W1.grownBy W9 v1.ownBlock) (hu : CpsAt (fun b => W.heap.size ≤ b) W1 u l) : CpsAt (fun b => W.heap.size ≤ b ∧ b < W1.heap.size) (W9.setCell ⟨pr, 3, none⟩ x) u l := by
 have hs := h.sz
 refine Sv.CpsAt.move hu ⟨by have := hg.size; simp; omega, fun b hlt k => ⟨⟨k, hlt⟩, ?_⟩⟩
 exact (Below.heap_setCell _ _ _ _ (show b ≠ pr by omega)).trans (hg.block b hlt fun e => by have := (h.two.o1.lt e.symm).2; omega)
theorem Lp.offs {p pr : Nat} {n : Int} {TR : TypeId} {w W W1 : World} {v1 v1' v2 vw : Value} {L L2 : List Cx} {was : List Cp} (h : Lp p pr n TR w W v1 v2 vw L L2 was) (hv : v1'.ownBlock = v1.ownBlock ∨ v1'.ownBlock = some W1.heap.size) (b : Nat) (hb : W.heap.size ≤ b ∧ b < W1.heap.size) : Ofs (pr + 1) v1' v2 b := by
 obtain ⟨k1, k2, k3⟩ := ofs_new h b hb.1
 refine ⟨k1, ?_, k3⟩
 rcases hv with e | e
 ·rw [e]; exact k2
 ·rw [e]; intro q; injection q with q; omega
theorem Lp.fin {p pr : Nat} {n : Int} {TR : TypeId} {w W W' : World} {v1 v2 vw : Value} {L L2 : List Cx} {was : List Cp} (h : Lp p pr n TR w W v1 v2 vw L L2 was) (hb : Below pr W W') (hf : ∀ b, pr < b → b < W.heap.size → W'.heap[b]? = W.heap[b]?) :
  W'.heap[p]? = some (.cells #[.int .i64 0, .int .i64 0, .int .i64 0, .slice none 0 0] TR (0, 0)) ∧ Below p w W' ∧ CpsAt (fun b => pr + 1 ≤ b) W' v1 (L.map (·.c)) ∧ CpsAt (fun b => pr + 1 ≤ b) W' v2 (L2.map (·.c)) := by
 have hl := h.lt
 have hm : Moves (fun b => pr + 1 ≤ b) (fun b => pr + 1 ≤ b) W W' := ⟨hb.size, fun b hlt k => ⟨k, hf b (by omega) hlt⟩⟩
 exact ⟨(hb.block p hl).trans h.y, h.low.trans (hb.mono (by omega)), Sv.CpsAt.move h.two.at1 hm, Sv.CpsAt.move h.two.at2 hm⟩
theorem without_le (l : List Cp) (id : Tx) : (without l id).length ≤ l.length := List.length_filter_le _ _
end Go.Proofs.Ytpfpjbeofogbgaa.Re
end
section
set_option maxRecDepth 100000
namespace Go.Proofs.Ytpfpjbeofogbgaa.Re
open Go.RowKit
open Sv (Ca Sr Cp SvsAt CasAt CpsAt CpCells cpv cpe cp0 four six CpOk checkE)
open Bk (keepB heap_far below_alloc below_trans alloc_new heap_set add_lit)
def FdV (l : List Cp) (id : Tx) (i : Int) : Prop := (findC l id = none ∧ i = -1) ∨ ∃ (k : Nat) (x : Cp), i = (k : Int) ∧ l[k]? = some x ∧ findC l id = some x
theorem fd_has {l : List Cp} {id : Tx} {i : Int} (h : FdV l id i) : decide (0 ≤ i) = hasB l id := by
 rw [has_find]
 rcases h with ⟨h1, h2⟩ | ⟨k, x, h1, h2, h3⟩
 ·rw [h1, h2]; rfl
 ·rw [h3, h1]; simp
theorem fd_hit : ∀ (l : List Cp) (id : Tx) (k : Nat) (x : Cp), l[k]? = some x → x.id = id → (∀ z ∈ l.take k, z.id ≠ id) → findC l id = some x
 | [], _, k, x, h, _, _ => by simp at h
 | y :: l, id, 0, x, h, he, _ => by simp at h; subst h; unfold findC; rw [if_pos he]
 | y :: l, id, k + 1, x, h, he, hn => by
  unfold findC
  rw [if_neg (hn y (by simp))]
  exact fd_hit l id k x (by simpa using h) he (fun z hz => hn z (by simp [hz]))
theorem fd_miss (l : List Cp) (id : Tx) (hn : ∀ z ∈ l, z.id ≠ id) : findC l id = none := find_none l id fun h => by
 obtain ⟨z, h1, h2⟩ := List.mem_map.1 h
 exact hn z h1 h2
theorem nid_snoc {l : List Cp} {k : Nat} {z : Cp} {t : Tx} (hx : l[k]? = some z) (h : ∀ z ∈ l.take k, z.id ≠ t) (hn : z.id ≠ t) : ∀ z ∈ l.take (k + 1), z.id ≠ t := by
 have ht : l.take (k + 1) = l.take k ++ [z] := by rw [List.take_add_one, hx]; rfl
 rw [ht]
 intro a ha
 rcases List.mem_append.1 ha with ha | ha
 ·exact h a ha
 ·simp at ha; subst ha; exact hn
theorem cps_take {K : Nat → Prop} {w : World} {a : Option Addr} {n c : Nat} {l : List Cp} (h : CpsAt K w (.slice a n c) l) (k : Nat) (hk : k ≤ l.length) : CpsAt K w (.slice a k c) (l.take k) := by
 obtain ⟨a', c', he, h1, h2, h3⟩ := h
 injection he with ha hn hc
 subst ha hc
 have hl : (l.take k).length = k := by rw [List.length_take]; omega
 refine ⟨a, c, by rw [hl], by rw [hl]; omega, h2, ?_⟩
 rcases h3 with h | ⟨b, o, ha, hk', hb, hcc⟩
 ·left; subst h; simp
 ·right
  refine ⟨b, o, ha, hk', hb, fun j x hj => hcc j x ?_⟩
  rw [List.getElem?_take] at hj
  split at hj
  ·exact hj
  ·cases hj
set_option maxHeartbeats 4000000 in
theorem rfind_any (l : List Cp) (id : Tx) (v : Value) (w : World) (h : CpsAt All w v l) : Calls Try.prog 38 #[v, .string (mk id)] w fun e w' => (∃ i, e = .returned (.int .i64 i) ∧ FdV l id i) ∧ Below w.heap.size w w' := by
 obtain ⟨a, cap, rfl, f1, f2⟩ := h.form
 have HM : Hid (∀ w', Below w.heap.size w w' → CpsAt All w' (.slice a l.length cap) l) := fun w' hb => h.grw hb
 have HRF := Lib.hid (Below.refl w.heap.size w)
 clear h
 go_enter Try.func38, Try.ntmps38
 go_wp2
 go_loopg [5] (l.length) (fun gg t5 wr => ∃ (k : Nat), k ≤ l.length ∧ gg = l.length - k ∧ t5 = .int .i64 k ∧ Hid (∀ z ∈ l.take k, z.id ≠ id) ∧ Hid (Below w.heap.size w wr))
 case atStart => exact ⟨0, Nat.zero_le _, rfl, rfl, by simp [Hid], HRF.out⟩
 case round =>
  obtain ⟨k, hk, hg, rfl, HN, HBn⟩ := hrel
  by_cases hlt : k < l.length
  case neg =>
   have hltz : ¬ (k : Int) < (l.length : Int) := by omega
   have HF : Hid (findC l id = none) := fd_miss l id (by have := HN.out; rwa [List.take_of_length_le (by omega)] at this)
   go_wp2
   go_ret
   exact ⟨⟨_, rfl, Or.inl ⟨HF.out, rfl⟩⟩, HBn.out⟩
  have hltz : (k : Int) < (l.length : Int) := by omega
  obtain ⟨b, o, m, rfl, -, hx, hcell, -⟩ := Sv.CpsAt.get (HM.out _ HBn.out) k hlt
  have e_id := Cm.mk_ne l[k].id id
  have HX := Lib.hid hx
  have hi1 : k < l.length := hlt
  generalize l[k] = x at *
  obtain ⟨c0, c1, c2, c3, c4, c5⟩ := hcell
  clear hx
  cases hB : decide (x.id = id)
  ·rw [hB] at e_id
   have HN2 := Lib.hid (nid_snoc HX.out HN.out (by simpa using hB))
   clear hB
   go_wp2
   go_roundg (l.length - (k + 1))
   case measure => omega
   case rel => exact ⟨k + 1, by omega, rfl, by go_num, HN2.out, HBn.out⟩
  ·rw [hB] at e_id
   have HF : Hid (findC l id = some x) := fd_hit l id k x HX.out (by simpa using hB) HN.out
   clear hB
   go_wp2
   go_ret
   exact ⟨⟨_, rfl, Or.inr ⟨k, x, rfl, HX.out, HF.out⟩⟩, HBn.out⟩
set_option maxHeartbeats 8000000 in
theorem rtold_any (l : List Cp) (v : Value) (w : World) (h : CpsAt All w v l) (hz : ∀ x ∈ l, CpOk x) :
  Calls Try.prog 27 #[v] w fun e w' => e = .returned (.int .i64 (toldE [] l)) ∧ Below w.heap.size w w' := by
 obtain ⟨a, cap, rfl, f1, f2⟩ := h.form
 have HM : Hid (∀ w', Below w.heap.size w w' → CpsAt All w' (.slice a l.length cap) l) := fun w' hb => h.grw hb
 have HZ := Lib.hid hz
 have HRF := Lib.hid (Below.refl w.heap.size w)
 obtain ⟨E, hE⟩ : ∃ E, toldE [] l = E := ⟨_, rfl⟩
 rw [hE]
 have HE0 : Hid (toldE (l.take 0) (l.drop 0) = E) := hE
 clear h hz hE
 go_enter Try.func27, Try.ntmps27
 go_wp2
 go_loopg [3] (l.length) (fun gg t3 wr => ∃ (k : Nat), k ≤ l.length ∧ gg = l.length - k ∧ t3 = .int .i64 k ∧ Hid (toldE (l.take k) (l.drop k) = E) ∧ Hid (Below w.heap.size w wr))
 case atStart => exact ⟨0, Nat.zero_le _, rfl, rfl, HE0.out, HRF.out⟩
 case round =>
  obtain ⟨k, hk, hg, rfl, HEk, HBk⟩ := hrel
  by_cases hlt : k < l.length
  case neg =>
   have hltz : ¬ (k : Int) < (l.length : Int) := by omega
   have HF := Lib.hid (told_end (by omega) HEk.out).1
   go_wp2
   go_ret
   exact ⟨by rw [HF.out]; rfl, HBk.out⟩
  have hltz : (k : Int) < (l.length : Int) := by omega
  have HFD : Hid (∀ W, Below wr.heap.size wr W → CpsAt All W (.slice a k cap) (l.take k)) := fun W hb => cps_take ((HM.out _ HBk.out).grw hb) k hk
  obtain ⟨b, o, m, rfl, hbl, hx, hcell, hr⟩ := Sv.CpsAt.get (HM.out _ HBk.out) k hlt
  obtain ⟨t1, t2, -⟩ := told_step hx HEk.out
  have HZx := Lib.hid (HZ.out _ (List.mem_of_getElem? hx))
  have hi1 : k < l.length := hlt
  generalize l[k] = x at *
  have T1 := Lib.hid t1
  have T2 := Lib.hid t2
  obtain ⟨am, nm, cm, rfl⟩ : ∃ am nm cm, m = .slice am nm cm := by
   obtain ⟨q1, q2, q3, -, -⟩ := SvsAt.form hr
   exact ⟨q1, _, q2, q3⟩
  obtain ⟨wo, rfl⟩ : ∃ z, z = wr := ⟨_, rfl⟩
  have HXK : Hid (∀ W, Below wo.heap.size wo W → CpCells W b (o + k * 6) x (.slice am nm cm)) := fun W hb => hcell.of (hb.block b hbl)
  have HCK := Lib.hid fun (W : World) (hb : Below wo.heap.size wo W) => Sv.rcheck_any x (.slice am nm cm) W (hr.grw hb) HZx.out
  have HD := Lib.hid (Below.drew (Below.refl wo.heap.size wo))
  obtain ⟨V, HV⟩ : ∃ V, Hid (hasB (l.take k) x.id = V) := ⟨_, rfl⟩
  have HFI := Lib.hid fun (W : World) (hb : Below wo.heap.size wo W) => rfind_any (l.take k) x.id _ W (HFD.out W hb)
  have hkc : k ≤ cap := by omega
  clear hx hcell hr hbl t1 t2 HFD
  go_upto_region 4 with fail
  refine Ri.wp_region_lasting (by kernel_rfl) (by kernel_rfl) (by kernel_rfl) (fun Wx => Below wo.heap.size wo Wx) (fun kz vs wz => (fun kx vx wx => match kx with | 0 => vx = .slice (some ⟨b, o, none⟩) l.length cap | 1 => vx = .int .i64 (k : Nat) | 2 => vx = .slice (some ⟨b, o, none⟩) k cap | 3 => vx = .slice (some ⟨b, o, none⟩) l.length cap | 4 => vx = .int .i64 (k : Nat) | 5 => vx = .pointer (some ⟨b, o + k * 6, none⟩) | 6 => vx = .pointer (some ⟨b, o + k * 6, none⟩) | 7 => vx = .string (mk x.id) | 8 => (∃ i : Int, vx = .int .i64 i ∧ decide (0 ≤ i) = V) | 9 => vx = .bool V | _ => True : Nat → Value → World → Prop) kz (vs kz) wz) (fun kz => [kz]) (by kernel_rfl) (fun jz vs iz vz wz hiz hz => Ri.loc_own (F := (fun kx vx wx => match kx with | 0 => vx = .slice (some ⟨b, o, none⟩) l.length cap | 1 => vx = .int .i64 (k : Nat) | 2 => vx = .slice (some ⟨b, o, none⟩) k cap | 3 => vx = .slice (some ⟨b, o, none⟩) l.length cap | 4 => vx = .int .i64 (k : Nat) | 5 => vx = .pointer (some ⟨b, o + k * 6, none⟩) | 6 => vx = .pointer (some ⟨b, o + k * 6, none⟩) | 7 => vx = .string (mk x.id) | 8 => (∃ i : Int, vx = .int .i64 i ∧ decide (0 ≤ i) = V) | 9 => vx = .bool V | _ => True : Nat → Value → World → Prop)) jz vs iz vz wz hiz hz) HD.out ⟨⟨rfl, ?_⟩, ⟨rfl, ?_⟩, ⟨rfl, ?_⟩, ⟨rfl, ?_⟩, ⟨rfl, ?_⟩, ⟨rfl, ?_⟩, ⟨rfl, ?_⟩, ⟨rfl, ?_⟩, ⟨rfl, ?_⟩, ⟨rfl, ?_⟩, trivial⟩ ?_
  ·intro vs Wx A hA hB hpre K hK
   have e0 := (hA 0).trans (show _ = Value.slice (some ⟨b, o, none⟩) l.length cap by kernel_rfl)
   clear hA hpre
   go_simp
   first | exact hK _ _ hB (by trivial) (fun _ _ h => h) | (rw [if_neg (by omega)]; go_simp; exact hK _ _ hB rfl (fun _ _ h => h))
  ·intro vs Wx A hA hB hpre K hK
   have e3 := (hA 3).trans (show _ = Value.int .i64 (k : Nat) by kernel_rfl)
   clear hA hpre
   go_simp
   first | exact hK _ _ hB (by trivial) (fun _ _ h => h) | (rw [if_neg (by omega)]; go_simp; exact hK _ _ hB rfl (fun _ _ h => h))
  ·intro vs Wx A hA hB hpre K hK
   have e10 := ((hA 10).trans (show _ = vs 0 by kernel_rfl)).trans (by repeat first | exact hpre.1 rfl | replace hpre := hpre.2)
   have e11 := ((hA 11).trans (show _ = vs 1 by kernel_rfl)).trans (by repeat first | exact hpre.1 rfl | replace hpre := hpre.2)
   clear hA hpre
   go_simp
   first | exact hK _ _ hB rfl (fun _ _ h => h) | (rw [if_pos (show k ≤ cap by omega)]; go_simp; first | exact hK _ _ hB rfl (fun _ _ h => h) | (rw [if_neg (show ¬ cap = k by omega)]; go_simp; exact hK _ _ hB rfl (fun _ _ h => h)))
  ·intro vs Wx A hA hB hpre K hK
   have e0 := (hA 0).trans (show _ = Value.slice (some ⟨b, o, none⟩) l.length cap by kernel_rfl)
   clear hA hpre
   go_simp
   first | exact hK _ _ hB (by trivial) (fun _ _ h => h) | (rw [if_neg (by omega)]; go_simp; exact hK _ _ hB rfl (fun _ _ h => h))
  ·intro vs Wx A hA hB hpre K hK
   have e3 := (hA 3).trans (show _ = Value.int .i64 (k : Nat) by kernel_rfl)
   clear hA hpre
   go_simp
   first | exact hK _ _ hB (by trivial) (fun _ _ h => h) | (rw [if_neg (by omega)]; go_simp; exact hK _ _ hB rfl (fun _ _ h => h))
  ·intro vs Wx A hA hB hpre K hK
   have e13 := ((hA 13).trans (show _ = vs 3 by kernel_rfl)).trans (by repeat first | exact hpre.1 rfl | replace hpre := hpre.2)
   have e14 := ((hA 14).trans (show _ = vs 4 by kernel_rfl)).trans (by repeat first | exact hpre.1 rfl | replace hpre := hpre.2)
   clear hA hpre
   go_simp
   first | exact hK _ _ hB (by trivial) (fun _ _ h => h) | (rw [if_neg (by omega)]; go_simp; exact hK _ _ hB rfl (fun _ _ h => h))
  ·intro vs Wx A hA hB hpre K hK
   have e15 := ((hA 15).trans (show _ = vs 5 by kernel_rfl)).trans (by repeat first | exact hpre.1 rfl | replace hpre := hpre.2)
   clear hA hpre
   go_simp
   first | exact hK _ _ hB (by trivial) (fun _ _ h => h) | (rw [if_neg (by omega)]; go_simp; exact hK _ _ hB rfl (fun _ _ h => h))
  ·intro vs Wx A hA hB hpre K hK
   have e16 := ((hA 16).trans (show _ = vs 6 by kernel_rfl)).trans (by repeat first | exact hpre.1 rfl | replace hpre := hpre.2)
   obtain ⟨c0, c1, c2, c3, c4, c5⟩ := HXK.out Wx hB
   clear hA hpre
   go_simp
   first | exact hK _ _ hB (by trivial) (fun _ _ h => h) | (rw [if_neg (by omega)]; go_simp; exact hK _ _ hB rfl (fun _ _ h => h))
  ·intro vs Wx A hA hB hpre K hK
   have e12 := ((hA 12).trans (show _ = vs 2 by kernel_rfl)).trans (by repeat first | exact hpre.1 rfl | replace hpre := hpre.2)
   have e17 := ((hA 17).trans (show _ = vs 7 by kernel_rfl)).trans (by repeat first | exact hpre.1 rfl | replace hpre := hpre.2)
   clear hA hpre
   go_simp
   go_at_call 38
   refine (HFI.out Wx hB).mono ?_
   rintro e w4 ⟨⟨i, rfl, hi⟩, hg⟩
   exact hK _ _ (below_trans hB hg) ⟨i, rfl, (fd_has hi).trans HV.out⟩ (fun jz hj hz => by match jz, hj, hz with | 8, hj, _ => exact absurd rfl hj | 0, _, hz => exact hz | 1, _, hz => exact hz | 2, _, hz => exact hz | 3, _, hz => exact hz | 4, _, hz => exact hz | 5, _, hz => exact hz | 6, _, hz => exact hz | 7, _, hz => exact hz | 9, _, hz => exact hz | n + 10, _, hz => exact hz)
  ·intro vs Wx A hA hB hpre K hK
   have hx8 : (∃ i : Int, vs 8 = .int .i64 i ∧ decide (0 ≤ i) = V) := by repeat first | exact hpre.1 rfl | replace hpre := hpre.2
   obtain ⟨gx8, hv8, hh8⟩ := hx8
   have e18 := ((hA 18).trans (show _ = vs 8 by kernel_rfl)).trans hv8
   clear hA hpre
   go_simp
   first | exact hK _ _ hB (by trivial) (fun _ _ h => h) | (rw [if_neg (by omega)]; go_simp; exact hK _ _ hB rfl (fun _ _ h => h))
  intro vs Wx hB hF
  have h9 : vs 9 = .bool V := hF 9 (by decide)
  have HB6 : Hid (Below w.heap.size w Wx) := HBk.out.trans (hB.mono HBk.out.size)
  have HB7 := Lib.hid hB
  obtain ⟨c0, c1, c2, c3, c4, c5⟩ := HXK.out Wx hB
  clear hF hB
  simp only [Ri.puts]
  rw [h9]
  clear h9
  go_simp
  cases V
  case true =>
   have hE := T1.out HV.out
   subst hE
   go_wp2
   go_ret
   exact ⟨rfl, HB6.out⟩
  obtain ⟨u1, u2⟩ := T2.out HV.out
  have U1 := Lib.hid u1
  have U2 := Lib.hid u2
  clear u1 u2
  by_cases hst : x.st = 1
  case neg =>
   have hE := U2.out (fun h => hst h.1)
   subst hE
   have hbs : (x.st != 1) = true := by simpa using hst
   clear hst
   go_wp2
   go_ret
   exact ⟨rfl, HB6.out⟩
  have hbs : (x.st != 1) = false := by simpa using hst
  by_cases hck : checkE x = 0
  case neg =>
   have hE := U2.out (fun h => hck h.2)
   subst hE
   have hbc : (checkE x != 0) = true := by simpa using hck
   generalize checkE x = EE at *
   clear hck hst
   go_wp2_with (first | (go_at_call 32; refine (HCK.out _ HB7.out).mono ?_; rintro e w4 ⟨rfl, hg4⟩; have HB4 : Hid (Below w.heap.size w w4) := HB6.out.trans (hg4.mono HB6.out.size); clear hg4))
   go_ret
   exact ⟨rfl, HB4.out⟩
  have HEK := Lib.hid (U1.out ⟨hst, hck⟩)
  rw [hck] at HCK
  clear hck hst U1 U2 T1 T2
  go_wp2_with (first | (go_at_call 32; refine (HCK.out _ HB7.out).mono ?_; rintro e w4 ⟨rfl, hg4⟩; have HB4 : Hid (Below w.heap.size w w4) := HB6.out.trans (hg4.mono HB6.out.size); clear hg4))
  go_roundg (l.length - (k + 1))
  case measure => omega
  case rel => exact ⟨k + 1, by omega, rfl, by go_num, HEK.out, HB4.out⟩
theorem wo_snoc {l : List Cp} {k : Nat} {x : Cp} (hx : l[k]? = some x) (id : Tx) : without (l.take (k + 1)) id = without (l.take k) id ++ (if x.id = id then [] else [x]) := by
 have ht : l.take (k + 1) = l.take k ++ [x] := by rw [List.take_add_one, hx]; rfl
 rw [ht]
 unfold without
 rw [List.filter_append]
 congr 1
 by_cases h : x.id = id
 ·rw [if_pos h]; simp [h]
 ·rw [if_neg h]; simp [h]
set_option maxHeartbeats 8000000 in
theorem rwithout_any (Kp : Nat → Prop) (l : List Cp) (id : Tx) (v : Value) (w : World) (h : CpsAt Kp w v l) (hKn : ∀ b, w.heap.size ≤ b → Kp b) (hlen : l.length ≤ 1000) :
  Calls Try.prog 29 #[v, .string (mk id)] w fun e w' => (∃ u, e = .returned u ∧ CpsAt Kp w' u (without l id)) ∧ Below w.heap.size w w' := by
 have hlow : CpsAt (fun b => b < w.heap.size ∧ Kp b) w v l := Sv.CpsAt.move h (moves_weak w fun b hb k => ⟨hb, k⟩)
 have HKN := Lib.hid hKn
 obtain ⟨a, cap, rfl, f1, f2⟩ := h.form
 have HM : Hid (∀ w', Below w.heap.size w w' → CpsAt (fun b => b < w.heap.size ∧ Kp b) w' (.slice a l.length cap) l) := fun w' hb => Sv.CpsAt.move hlow ⟨hb.size, fun b _ hlt => ⟨hlt, hb.block b hlt.1⟩⟩
 have HRF := Lib.hid (Below.refl w.heap.size w)
 clear h hlow hKn
 go_enter Try.func29, Try.ntmps29
 generalize hB0 : w.heap.size = B at *
 go_wp2
 go_loopg [5, 6] (l.length) (fun gg t5 t6 wr => ∃ (k : Nat) (u : Option Addr) (n c : Nat) (L : List Cx), k ≤ l.length ∧ gg = l.length - k ∧ t5 = .slice u n c ∧ t6 = .int .i64 k ∧ L.length ≤ k ∧ Hid (OwnC B wr (.slice u n c) L) ∧ Hid (L.map (·.c) = without (l.take k) id) ∧ Hid (∀ x ∈ L, SvsAt (fun b => b < B ∧ Kp b) wr x.m x.c.svs) ∧ Hid (Below B w wr) ∧ Hid (B ≤ wr.heap.size))
 case atStart => exact ⟨0, none, 0, 0, [], Nat.zero_le _, rfl, rfl, rfl, Nat.le_refl _, ownC_nil _ _, rfl, by simp [Hid], HRF.out, Nat.le_of_eq hB0.symm⟩
 case round =>
  obtain ⟨k, u, n, c, L, hk, hg, rfl, rfl, hL, HO, HL, HC, HBn, HPn⟩ := hrel
  by_cases hlt : k < l.length
  case neg =>
   have hltz : ¬ (k : Int) < (l.length : Int) := by omega
   have HF : Hid (CpsAt Kp wr (.slice u n c) (without l id)) := by
    have h1 := HO.out.at (K := Kp) (fun b hb => HKN.out b hb) HC.out (fun b k => k.2)
    rwa [HL.out, List.take_of_length_le (by omega)] at h1
   go_wp2
   go_ret
   exact ⟨⟨_, rfl, HF.out⟩, by first | exact HBn.out | (rw [hB0]; exact HBn.out)⟩
  have hltz : (k : Int) < (l.length : Int) := by omega
  obtain ⟨b, o, m, rfl, hbl, hx, hcell, hr⟩ := Sv.CpsAt.get (HM.out _ HBn.out) k hlt
  have HWS := Lib.hid (wo_snoc hx id)
  have e_id := Cm.mk_ne l[k].id id
  have hi1 : k < l.length := hlt
  generalize l[k] = x at *
  obtain ⟨am, nm, cm, rfl⟩ : ∃ am nm cm, m = .slice am nm cm := by
   obtain ⟨q1, q2, q3, -, -⟩ := SvsAt.form hr
   exact ⟨q1, _, q2, q3⟩
  obtain ⟨c0, c1, c2, c3, c4, c5⟩ := hcell
  have HR := Lib.hid hr
  clear hx hr
  cases hB : decide (x.id = id)
  case true =>
   rw [hB] at e_id
   have n_id : ((mk x.id).toList != (mk id).toList) = false := by simp only [bne, e_id]; rfl
   have HL2 : Hid (L.map (·.c) = without (l.take (k + 1)) id) := by show _ = _; rw [HWS.out, if_pos (by simpa using hB), List.append_nil, HL.out]
   clear hB
   go_wp2
   go_roundg (l.length - (k + 1))
   case measure => omega
   case rel => exact ⟨k + 1, u, n, c, L, by omega, rfl, rfl, by go_num, by omega, HO.out, HL2.out, HC.out, HBn.out, HPn.out⟩
  rw [hB] at e_id
  have n_id : ((mk x.id).toList != (mk id).toList) = true := by simp only [bne, e_id]; rfl
  have HL2 : Hid ((L ++ [(⟨x, .slice am nm cm⟩ : Cx)]).map (·.c) = without (l.take (k + 1)) id) := by show _ = _; rw [HWS.out, if_neg (by simpa using hB), List.map_append, HL.out]; rfl
  obtain ⟨wo, rfl⟩ : ∃ z, z = wr := ⟨_, rfl⟩
  have HN8 := Lib.hid (alloc_new wo (cpe x (.slice am nm cm)) Tp)
  have hba := below_alloc wo (.cells (cpe x (.slice am nm cm)) Tp)
  have HO8 : Hid (OwnC B (wo.alloc (.cells (cpe x (.slice am nm cm)) Tp)) (.slice u n c) L) := HO.out.keep fun q hq => hba.block q (HO.out.lt hq).2
  have HS8 : Hid (B ≤ (wo.alloc (.cells (cpe x (.slice am nm cm)) Tp)).heap.size) := Nat.le_trans HPn.out hba.size
  have HFF : Hid (∀ v' w', OwnC B w' v' (L ++ [⟨x, .slice am nm cm⟩]) → (wo.alloc (.cells (cpe x (.slice am nm cm)) Tp)).grownBy w' (Value.slice u n c).ownBlock → (∀ y ∈ L ++ [(⟨x, .slice am nm cm⟩ : Cx)], SvsAt (fun b => b < B ∧ Kp b) w' y.m y.c.svs) ∧ Below B w w' ∧ B ≤ w'.heap.size) := fun v' w' ho hg => by
   have hlow := HO8.out.low hg HS8.out
   have hb2 : Below B wo w' := ((below_alloc wo _).mono HPn.out).trans hlow
   refine ⟨fun y hy => ?_, HBn.out.trans hb2, Nat.le_trans HS8.out hlow.size⟩
   rcases List.mem_append.1 hy with hy | hy
   ·exact (HC.out y hy).move ⟨hb2.size, fun q hq hlt => ⟨hlt, hb2.block q hlt.1⟩⟩
   ·simp at hy; subst hy
    exact HR.out.move ⟨hb2.size, fun q hq hlt => ⟨hlt, hb2.block q hlt.1⟩⟩
  clear hB hba
  go_wp2_with (first | (at_builtin; refine wpList_plain (by rfl) (fun K hK => ?_); refine wp_appC _ _ rfl B (.slice u n c) L rfl HO8.out _ 1 (⟨x, .slice am nm cm⟩ : Cx) rfl HN8.out rfl (by omega) HS8.out (fun v' w9 ho hg hat => ?_); have HG9 := Lib.hid (HFF.out v' w9 ho hg); obtain ⟨a9, c9, hv9, -, -⟩ := OwnC.form ho; have HO9 := Lib.hid ho; clear ho hg hat; generalize (L ++ [(⟨x, .slice am nm cm⟩ : Cx)]).length = nq at hv9; subst hv9; refine hK _ _ ?_; clear hK))
  go_roundg (l.length - (k + 1))
  case measure => omega
  case rel => exact ⟨k + 1, a9, nq, c9, L ++ [(⟨x, .slice am nm cm⟩ : Cx)], by omega, rfl, rfl, by go_num, by rw [List.length_append]; simp; omega, HO9.out, HL2.out, HG9.out.1, HG9.out.2.1, HG9.out.2.2⟩
end Go.Proofs.Ytpfpjbeofogbgaa.Re
end
