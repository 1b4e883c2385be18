/-
  Texts put together (merge.py): ESvc.
-/
import Derived.Deep.DeepCutAuto
import Derived.Deep.RegionHeld3
import Derived.Deep.RegionLaw
import Derived.Test.YtpmnepihaljamaaGreatDoorM19
import Derived.Test.YtpmnepihaljamaaGreatDoorM30
import Derived.Test.YtpmnepihaljamaaGreatDoorM3
/-
  What eight.serviceSegs answers, as a contract: a service's segments, in new memory.
-/
section
set_option linter.unusedSimpArgs false
set_option maxRecDepth 100000
namespace Go.Proofs.YtpmnepihaljamaaGreatDoor
open Go.RowKit
open Cm (Ln LnBox lnv LnOk)

theorem tx_row (w : World) (ts : List Tx) (hm : ts.length ≤ maxLen) : TxAt All (w.alloc (.cells (ts.map fun t => Value.string (mk t)).toArray 9)) (.slice (some ⟨w.heap.size, 0, none⟩) ts.length ts.length) ts := by
  refine row_new (R := StrAt) w (ts.map fun t => Value.string (mk t)) ts 9 (by simp) hm fun j u x hu hx => ?_
  rw [List.getElem?_map, hx] at hu
  simp at hu
  subst hu
  rfl
theorem SegAt.mono {B B' : Nat} {ts : List Tx} {u : Value} {w : World} (h : SegAt B ts u w) (hB : B' ≤ B) : SegAt B' ts u w := by
  obtain ⟨ps, h1, h2⟩ := h
  refine ⟨ps, ⟨h1.1, ?_⟩, h2.1, h2.2.1, fun j t hj => ?_⟩
  · rcases h1.2 with h | ⟨g, cap, cur, r1, r2, r3⟩
    · exact Or.inl h
    · exact Or.inr ⟨g, cap, cur, r1, by omega, r3⟩
  · obtain ⟨p, q1, q2, q3⟩ := h2.2.2 j t hj
    exact ⟨p, q1, by omega, q3⟩
/-- Segment called for where its texts were just laid: new memory. -/
theorem eseg_row {w0 : World} {B : Nat} (ts : List Tx) (hn : ts.length ≤ 1000) (hB : B ≤ w0.heap.size) (V : World) (H : Nat) (hH : V.heap.size = H) (hV : Below w0.heap.size w0 V) (W : World) (hW : Below (V.alloc (.cells (ts.map fun t => Value.string (mk t)).toArray 9)).heap.size (V.alloc (.cells (ts.map fun t => Value.string (mk t)).toArray 9)) W) :
    Calls Tryz.prog 21 #[.slice (some ⟨H, 0, none⟩) ts.length ts.length] W fun x w' => (∃ ga gc, x = .returned (.agg #[.slice ga ts.length gc]) ∧ SegAt B ts (.slice ga ts.length gc) w') ∧ Below W.heap.size W w' := by
  subst hH
  refine (eseg_any _ ts _ (TxAt.move (tx_row V ts (by simp only [maxLen]; omega)) (Below.moves hW)) hn).mono ?_
  rintro _ _ ⟨⟨u, hx, he⟩, hb⟩
  obtain ⟨ga, gc, rfl⟩ : ∃ ga gc, u = .slice ga ts.length gc := by obtain ⟨ps, h1, _⟩ := he; exact own_form h1
  exact ⟨⟨ga, gc, hx, he.mono (by have h1 := (below_trans (below_alloc V _) hW).size; have h2 := hV.size; omega)⟩, hb⟩
/-- A segment in a box that stands apart, filled. -/
theorem SegAt.fill {B q : Nat} {ts : List Tx} {u cv v : Value} {w : World} (h : SegAt B ts u w) (hq : w.heap[q]? = some (.cells #[cv] 50 (0, 0))) : SegAt B ts u (w.setCell ⟨q, 0, none⟩ v) ∧ (w.setCell ⟨q, 0, none⟩ v).heap[q]? = some (.cells #[v] 50 (0, 0)) := by
  obtain ⟨ps, h1, h2⟩ := h
  have hs : w.grownBy (w.setCell ⟨q, 0, none⟩ v) (some q) := ⟨rfl, rfl, rfl, by simp [World.setCell], fun k _ hk => Below.heap_setCell _ _ _ _ (fun e => hk (by rw [show k = q from e]))⟩
  refine ⟨⟨ps, World.ownsRow.kept h1 hs (or_ne fun b hb e => ?_), h2.kept hs fun p hpm e => pts_not h2 hq (by decide) p hpm (Option.some.inj e)⟩, by rw [heap_set hq]; rfl⟩
  have h1 := Lib.ownBlock_ne h1 hq (by decide)
  rw [hb, ← e] at h1
  exact h1 rfl
theorem SegAt.box {B : Nat} {ts : List Tx} {u : Value} {w : World} (h : SegAt B ts u w) (v : Value) : SegAt B ts u (w.alloc (.cells #[v] 50)) ∧ (w.alloc (.cells #[v] 50)).heap[w.heap.size]? = some (.cells #[v] 50 (0, 0)) :=
  ⟨h.grw (below_alloc w _), heap_alloc_new w _⟩

/-- A service's second segment, while its element of many parts grows. -/
structure SvAt (B g cap p0 p2 p3 : Nat) (v : Value) (P : List Tx) (t0 t2 t3 : Tx) (w : World) : Prop where
  row : ∃ cur : Array Value, w.heap[g]? = some (.cells cur 45 (0, 0)) ∧ cur[0]? = some (slc p0) ∧ cur[1]? = some v ∧ cur[2]? = some (slc p2) ∧ cur[3]? = some (slc p3)
  b0 : w.heap[p0]? = some (.cells #[.string (mk t0)] 9 (0, 0))
  b2 : w.heap[p2]? = some (.cells #[.string (mk t2)] 9 (0, 0))
  b3 : w.heap[p3]? = some (.cells #[.string (mk t3)] 9 (0, 0))
  own : w.ownsRow B 9 1 v P.length (P.map fun t => Value.string (_root_.Go.Proofs.YtpmnepihaljamaaGreatDoor.mk t))
  n0 : v.ownBlock ≠ some p0
  n2 : v.ownBlock ≠ some p2
  n3 : v.ownBlock ≠ some p3
  lo : B ≤ g ∧ B ≤ p0 ∧ B ≤ p2 ∧ B ≤ p3
  hc : 4 ≤ cap ∧ cap ≤ maxLen
theorem SvAt.start {B : Nat} {t0 t1 t2 t3 : Tx} {ga : Option Addr} {gc : Nat} {w : World} (h : SegAt B [t0, t1, t2, t3] (.slice ga 4 gc) w) : ∃ g p0 p1 p2 p3, ga = some ⟨g, 0, none⟩ ∧ SvAt B g gc p0 p2 p3 (slc p1) [t1] t0 t2 t3 w := by
  obtain ⟨ps, h1, h2⟩ := h
  obtain ⟨p0, e0, l0, q0⟩ := h2.2.2 0 t0 rfl
  obtain ⟨p1, e1, l1, q1⟩ := h2.2.2 1 t1 rfl
  obtain ⟨p2, e2, l2, q2⟩ := h2.2.2 2 t2 rfl
  obtain ⟨p3, e3, l3, q3⟩ := h2.2.2 3 t3 rfl
  have hl := h2.1
  match ps, hl with
  | [a0, a1, a2, a3], _ =>
    simp at e0 e1 e2 e3
    subst e0 e1 e2 e3
    have hp := h2.2.1
    simp only [List.pairwise_cons, List.mem_cons, List.not_mem_nil, or_false, forall_eq_or_imp, forall_eq] at hp
    rcases h1.2 with ⟨hn, hz⟩ | ⟨g, cap, cur, hv, hb, hg, hc1, hc2, hs, ht⟩
    · simp at hz
    · simp only [Value.slice.injEq] at hv
      obtain ⟨rfl, hn, rfl⟩ := hv
      have hh : ∀ j, j < 4 → cur[j]? = ([slc a0, slc a1, slc a2, slc a3] : List Value)[j]? := fun j hj => by
        have := congrArg (fun l : List Value => l[j]?) ht
        simp only [List.getElem?_take] at this
        rw [if_pos (by simpa using hj)] at this
        simpa using this
      refine ⟨g, a0, a1, a2, a3, rfl, ⟨⟨cur, hg, hh 0 (by omega), hh 1 (by omega), hh 2 (by omega), hh 3 (by omega)⟩, q0, q2, q3, ⟨rfl, Or.inr ⟨a1, 1, _, rfl, l1, q1, Nat.le_refl _, by simp [maxLen], rfl, rfl⟩⟩, ?_, ?_, ?_, ⟨hb, l0, l2, l3⟩, ⟨hc1, hc2⟩⟩⟩
      all_goals
        simp only [Value.ownBlock]
        intro e
        have := Option.some.inj e
        omega
theorem SvAt.grown {B g cap p0 p2 p3 : Nat} {v : Value} {P : List Tx} {t0 t2 t3 : Tx} {w w' : World} (h : SvAt B g cap p0 p2 p3 v P t0 t2 t3 w) (hb : Below w.heap.size w w') : SvAt B g cap p0 p2 p3 v P t0 t2 t3 w' := by
  obtain ⟨cur, hg, hr⟩ := h.row
  exact ⟨⟨cur, keepB hg hb, hr⟩, keepB h.b0 hb, keepB h.b2 hb, keepB h.b3 hb, h.own.kept (grownBy_below hb) (or_ne fun b _ => by simp), h.n0, h.n2, h.n3, h.lo, h.hc⟩
/-- What is there for the walk: the row's second cell, which may be written. -/
theorem SvAt.cell {B g cap p0 p2 p3 : Nat} {v : Value} {P : List Tx} {t0 t2 t3 : Tx} {w : World} (h : SvAt B g cap p0 p2 p3 v P t0 t2 t3 w) : w.cell? ⟨g, 1, none⟩ = some v ∧ w.frozen? ⟨g, 1, none⟩ = false ∧ v.ownBlock ≠ some g := by
  obtain ⟨cur, hg, -, h1, -, -⟩ := h.row
  exact ⟨by rw [cell_of_row w g 1 _ _ (0, 0) hg, h1], Lib.frozen_of_heap hg 1, Lib.ownBlock_ne h.own hg (by decide)⟩
/-- Behind the append, and the store. -/
theorem SvAt.app {B g cap p0 p2 p3 : Nat} {v v' : Value} {P N : List Tx} {t0 t2 t3 : Tx} {w w' : World} (h : SvAt B g cap p0 p2 p3 v P t0 t2 t3 w) (ho : w'.ownsRow B 9 1 v' (P ++ N).length ((P ++ N).map fun t => Value.string (_root_.Go.Proofs.YtpmnepihaljamaaGreatDoor.mk t))) (hg : w.grownBy w' v.ownBlock) (hat : v'.ownBlock = v.ownBlock ∨ v'.ownBlock = some w.heap.size) : SvAt B g cap p0 p2 p3 v' (P ++ N) t0 t2 t3 (w'.setCell ⟨g, 1, none⟩ v') := by
  obtain ⟨cur, hgg, c0, c1, c2, c3⟩ := h.row
  have hlt : ∀ {b : Nat} {o : Obj}, w.heap[b]? = some o → b < w.heap.size := fun hb => (Array.getElem?_eq_some_iff.1 hb).1
  have kb : ∀ {b : Nat} {o : Obj}, w.heap[b]? = some o → v.ownBlock ≠ some b → w'.heap[b]? = some o := fun hb hn => by rw [hg.block _ (hlt hb) (Ne.symm hn)]; exact hb
  have hgw := kb hgg (Lib.ownBlock_ne h.own hgg (by decide))
  have hs : w'.grownBy (w'.setCell ⟨g, 1, none⟩ v') (some g) := ⟨rfl, rfl, rfl, by simp [World.setCell], fun k _ hk => Below.heap_setCell _ _ _ _ (fun e => hk (by rw [show k = g from e]))⟩
  have ks : ∀ {b : Nat} {t : Tx}, w'.heap[b]? = some (.cells #[.string (_root_.Go.Proofs.YtpmnepihaljamaaGreatDoor.mk t)] 9 (0, 0)) → (w'.setCell ⟨g, 1, none⟩ v').heap[b]? = some (.cells #[.string (_root_.Go.Proofs.YtpmnepihaljamaaGreatDoor.mk t)] 9 (0, 0)) := fun {b t} hb => by
    rw [Below.heap_setCell _ _ _ _ (show b ≠ g from fun e => by subst e; rw [hgw] at hb; simp only [Option.some.injEq, Obj.cells.injEq] at hb; exact absurd hb.2.1 (by decide))]; exact hb
  have nn : ∀ {b : Nat} {o : Obj}, w.heap[b]? = some o → v.ownBlock ≠ some b → v'.ownBlock ≠ some b := fun hb hn => by
    rcases hat with e | e
    · rw [e]; exact hn
    · rw [e]; intro e2; have := Option.some.inj e2; have := hlt hb; omega
  have h1s : 1 < cur.size := (Array.getElem?_eq_some_iff.1 c1).1
  refine ⟨⟨cur.setIfInBounds 1 v', by rw [heap_set hgw], ?_, ?_, ?_, ?_⟩, ks (kb h.b0 h.n0), ks (kb h.b2 h.n2), ks (kb h.b3 h.n3), World.ownsRow.kept ho hs (or_ne fun b hb e => ?_), nn h.b0 h.n0, nn h.b2 h.n2, nn h.b3 h.n3, h.lo, h.hc⟩
  · rw [Array.getElem?_setIfInBounds_ne (by omega)]; exact c0
  · rw [Array.getElem?_setIfInBounds_self_of_lt h1s]
  · rw [Array.getElem?_setIfInBounds_ne (by omega)]; exact c2
  · rw [Array.getElem?_setIfInBounds_ne (by omega)]; exact c3
  · have h1 := Lib.ownBlock_ne ho hgw (by decide)
    rw [hb, ← e] at h1
    exact h1 rfl
theorem SvAt.els {B g cap p0 p2 p3 : Nat} {v : Value} {P : List Tx} {t0 t2 t3 : Tx} {w : World} (h : SvAt B g cap p0 p2 p3 v P t0 t2 t3 w) : ElAt (fun b => B ≤ b) w (.slice (some ⟨g, 0, none⟩) 4 cap) [[t0], P, [t2], [t3]] := by
  obtain ⟨cur, hgg, c0, c1, c2, c3⟩ := h.row
  have hv : TxAt (fun b => B ≤ b) w v P := row_of_own h.own (fun b hb => (h.own.lt b hb).1) fun j u y hu hy => by
    rw [List.getElem?_map, hy] at hu
    simp at hu
    subst hu
    rfl
  refine ⟨_, cap, rfl, h.hc.1, h.hc.2, Or.inr ⟨g, 0, rfl, h.lo.1, (Array.getElem?_eq_some_iff.1 hgg).1, fun j x hj => ?_⟩⟩
  rw [Nat.zero_add, cell_of_row w g j _ _ (0, 0) hgg]
  match j, hj with
  | 0, hj => simp at hj; subst hj; exact ⟨_, c0, tx_block h.b0 h.lo.2.1⟩
  | 1, hj => simp at hj; subst hj; exact ⟨_, c1, hv⟩
  | 2, hj => simp at hj; subst hj; exact ⟨_, c2, tx_block h.b2 h.lo.2.2.1⟩
  | 3, hj => simp at hj; subst hj; exact ⟨_, c3, tx_block h.b3 h.lo.2.2.2⟩
theorem step_append_run {P : Program} {w w' : World} {ops : Array Oper} {o : Oper} {a : Act} {K : Act → World → Prop} {Q : Exit → Act → World → Prop} {E : Prop} (hgd : o.guard = none) (s x : Operand) (t : TypeId) (ho : o.op = .call { callee := .builtin .append, args := #[s, x], argTypes := #[t, t] }) (vs vx r : Value) (hs : a.eval s = vs) (hx : a.eval x = vx) (hr : (Builtin.append_ #[t, t] o.type #[vs, vx]).run P w = .ok r w') (h : K (a.put o.dst r) w') :
    if Region.wanted o (yielded ops a.tmps) = true then Oper.wp P o a w K Q else E := by
  have hw : Region.wanted o (yielded ops a.tmps) = true := by simp [Region.wanted, hgd]
  rw [if_pos hw]
  unfold Oper.wp execOp
  simp only [ho, resolve, invoke, builtin, Sem.run_bind, Sem.run_pure, Result.andThen_ok, List.map_toArray, List.map_cons, List.map_nil, hs, hx, hr]
  exact h
theorem kept_other {w w' : World} {b B n : Nat} {cs : Array Value} {T : TypeId} {v : Value} {xs : List Value} (h : w.heap[b]? = some (.cells cs T (0, 0))) (ho : w.ownsRow B 9 1 v n xs) (hT : T ≠ 9) (hg : w.grownBy w' v.ownBlock) : w'.heap[b]? = some (.cells cs T (0, 0)) := by
  rw [hg.block b (Array.getElem?_eq_some_iff.1 h).1 (Ne.symm (Lib.ownBlock_ne ho h hT))]; exact h
/-- A row of texts' cells, as a list. -/
theorem tx_cells {K : Nat → Prop} {w : World} {v : Value} {l : List Tx} (h : TxAt K w v l) (hne : l ≠ []) : ∃ ad c, v = .slice (some ad) l.length c ∧ ∀ j u, (l.map fun t => Value.string (mk t))[j]? = some u → w.cell? (ad.add j) = some u := by
  obtain ⟨a, c, rfl, _, _, h⟩ := h
  rcases h with h | ⟨b, o, rfl, _, _, hc⟩
  · exact absurd h hne
  · refine ⟨_, _, rfl, fun j u hu => ?_⟩
    rw [List.getElem?_map] at hu
    cases ht : l[j]? with
    | none => rw [ht] at hu; cases hu
    | some t =>
      rw [ht] at hu
      simp at hu
      subst hu
      obtain ⟨u', h1, rfl⟩ := hc j t ht
      rw [add_off]; exact h1

set_option maxHeartbeats 4000000 in
theorem svc_any (k : Nat) (x : Ln) (m : Value) (w : World) (hm : TxAt All w m x.mods) (hz : LnOk x) (hT : Tab w) (hk : k ≤ 1000000) (hml : x.mods.length ≤ 1000) :
    Calls Tryz.prog 44 #[.int .i64 (k : Int), lnv x m] w fun e w' => (∃ u, e = .returned u ∧ NewAt w.heap.size (Et.lnS k x) u w') ∧ Below w.heap.size w w' := by
  obtain ⟨am, cm, rfl, f1, f2⟩ := Cm.TxAt.form hm
  obtain ⟨z1, z2, z3, z4, z5⟩ := hz
  have HB0 := Lib.hid (Cm.below_alloc w (.cells #[.string (mk x.proc), .slice am x.mods.length cm, .int .i64 x.date, .int .i64 x.units, .int .i64 x.billed, .int .i64 x.prior] 47))
  have HBX := Lib.hid (LnBox.new w x (.slice am x.mods.length cm) 47)
  have HLH := Lib.hid (heap_alloc_new w (.cells #[.string (mk x.proc), .slice am x.mods.length cm, .int .i64 x.date, .int .i64 x.units, .int .i64 x.billed, .int .i64 x.prior] 47))
  have hsz : w.heap.size < (w.alloc (.cells #[.string (mk x.proc), .slice am x.mods.length cm, .int .i64 x.date, .int .i64 x.units, .int .i64 x.billed, .int .i64 x.prior] 47)).heap.size := by simp
  go_enter Tryz.func44, Tryz.ntmps44
  go_upto_region 1 with fail
  generalize w.alloc (.cells #[.string (mk x.proc), .slice am x.mods.length cm, .int .i64 x.date, .int .i64 x.units, .int .i64 x.billed, .int .i64 x.prior] 47) = w0 at *
  have HT0 := Lib.hid (tab_grw hT HB0.out)
  have HMo : Hid (∀ W, Below w0.heap.size w0 W → Calls Tryz.prog 43 #[.int .i64 x.billed] W fun e w' => e = .returned (.string (mk (Nu.moneyL x.billed))) ∧ Below W.heap.size W w') := fun W hW => Nu.money_any x.billed z3.1 z3.2 W (tab_grw HT0.out hW).2.2
  have HUn : Hid (∀ W, Below w0.heap.size w0 W → Calls Tryz.prog 22 #[.int .i64 x.units] W fun e w' => e = .returned (.string (mk (Lib.itoa x.units))) ∧ Below W.heap.size W w') := fun W hW => whole_any x.units W (tab_grw HT0.out hW) z2.1 z2.2
  have HZ := Lib.hid (And.intro z1 z4)
  have HT := Lib.hid hT
  have HLB : Hid (∀ W, Below w0.heap.size w0 W → W.cell? ⟨w.heap.size, 3, none⟩ = some (.int .i64 x.units) ∧ W.cell? ⟨w.heap.size, 4, none⟩ = some (.int .i64 x.billed) ∧ w.heap.size < W.heap.size) := fun W hW => ⟨(HBX.out.grw hW).2.2.2.1, (HBX.out.grw hW).2.2.2.2.1, by have := hW.size; omega⟩
  obtain ⟨tm, htm⟩ : ∃ tm, tm = Nu.moneyL x.billed := ⟨_, rfl⟩
  obtain ⟨tu, htu⟩ : ∃ tu, tu = Lib.itoa x.units := ⟨_, rfl⟩
  rw [← htm] at HMo
  rw [← htu] at HUn
  have HTM := Lib.hid htm
  have HTU := Lib.hid htu
  clear htm htu
  have HSg : Hid (∀ (V : World) (H : Nat), V.heap.size = H → Below w0.heap.size w0 V → ∀ W, Below (V.alloc (.cells #[.string ⟨#[83, 86]⟩, .string ⟨#[72, 67]⟩, .string (mk tm), .string (mk tu)] 9)).heap.size (V.alloc (.cells #[.string ⟨#[83, 86]⟩, .string ⟨#[72, 67]⟩, .string (mk tm), .string (mk tu)] 9)) W → Calls Tryz.prog 21 #[.slice (some ⟨H, 0, none⟩) 4 4] W fun x w' => (∃ ga gc, x = .returned (.agg #[.slice ga 4 gc]) ∧ SegAt w.heap.size [Et.tSV, Et.tHC, tm, tu] (.slice ga 4 gc) w') ∧ Below W.heap.size W w') := fun V H hH hV W hW => eseg_row (w0 := w0) (B := w.heap.size) [Et.tSV, Et.tHC, tm, tu] (by simp) (by omega) V H hH hV W hW
  clear z1 z2 z3 z4 z5 hT
  obtain ⟨b3, b4, -⟩ := HLB.out _ (Below.refl _ _)
  have HBd := Lib.hid (Below.drew (Below.refl w0.heap.size w0))
  have HDR : Hid ((w0.alloc (.cells #[.slice none 0 0] 50)).drew.heap[w0.heap.size]? = some (.cells #[.slice none 0 0] 50 (0, 0))) := heap_alloc_new w0 _
  have HDA : Hid (∀ (W : World) (o : Obj), (W.alloc o).heap.size = W.heap.size + 1) := fun W o => by simp
  have n0 : w.heap.size ≠ w0.heap.size := by omega
  go_cut [5] (fun s5 wx => ∃ (q : Nat) (ga : Option Addr) (gc : Nat), s5 = .pointer (some ⟨q, 0, none⟩) ∧ Hid (SegAt w.heap.size [Et.tSV, Et.tHC, tm, tu] (.slice ga 4 gc) wx ∧ wx.heap[q]? = some (.cells #[.slice ga 4 gc] 50 (0, 0))) ∧ Hid (Below w0.heap.size w0 wx) ∧ w0.heap.size ≤ q)
  case first =>
    go_region_held3 (fun w' => w'.cell? ⟨w.heap.size, 3, none⟩ = some (.int .i64 x.units) ∧ w'.cell? ⟨w.heap.size, 4, none⟩ = some (.int .i64 x.billed)) (first | go_keep | exact ⟨cell_far (by assumption) (by assumption), cell_far (by assumption) (by assumption)⟩) (first | (go_at_call 43; refine (HMo.out _ (by first | with_reducible exact HBd.out | with_reducible exact below_trans HBd.out (below_alloc _ _))).mono ?_; rintro e w1 ⟨rfl, hb⟩; have HS1 := Lib.hid hb; have HB1 := Lib.hid (below_trans (show Below w0.heap.size w0 _ by first | with_reducible exact HBd.out | with_reducible exact below_trans HBd.out (below_alloc _ _)) hb); obtain ⟨r3, r4, r5⟩ := HLB.out _ HB1.out; have n1 : w.heap.size ≠ w1.heap.size := (by omega); (first | have HZ1 : Hid (w1.heap[w0.heap.size]? = some (.cells #[.slice none 0 0] 50 (0, 0))) := (by with_reducible exact Lib.hid (keepB HDR.out hb)) | have HZ1 := Lib.hid trivial); clear hb) | (go_at_call 22; refine (HUn.out _ (by first | with_reducible exact HB1.out | with_reducible exact below_trans HB1.out (below_alloc _ _))).mono ?_; rintro e w2 ⟨rfl, hb⟩; have HS2 := Lib.hid hb; have HB2 := Lib.hid (below_trans (show Below w0.heap.size w0 _ by first | with_reducible exact HB1.out | with_reducible exact below_trans HB1.out (below_alloc _ _)) hb); obtain ⟨s3, s4, s5⟩ := HLB.out _ HB2.out; have n2 : w.heap.size ≠ w2.heap.size := (by omega); have n2' : w.heap.size ≠ w2.heap.size + 1 := (by omega); (first | have HZ2 : Hid (w2.heap[w0.heap.size]? = some (.cells #[.slice none 0 0] 50 (0, 0))) := (by with_reducible exact Lib.hid (keepB HZ1.out hb)) | have HZ2 : Hid (w2.heap[w1.heap.size]? = some (.cells #[.slice none 0 0] 50 (0, 0))) := (by with_reducible exact Lib.hid (keepB (new_at w1 (.cells #[.slice none 0 0] 50) w1.heap.size rfl) hb)) | have HZ2 := Lib.hid trivial); clear hb) | (go_at_call 21; (first | refine (HSg.out w2 _ (by first | with_reducible rfl | (simp; done)) HB2.out _ (by first | with_reducible exact Below.refl _ _ | with_reducible exact below_alloc _ _)).mono ?_ | refine (HSg.out (w2.alloc (.cells #[.slice none 0 0] 50)) _ (HDA.out _ _) (below_trans HB2.out (below_alloc _ _)) _ (by first | with_reducible exact Below.refl _ _ | with_reducible exact below_alloc _ _)).mono ?_); rintro e w3 ⟨⟨ga, gc, rfl, hs⟩, hb⟩; have HS3 := Lib.hid hb; have HE3 := Lib.hid hs; clear hs; have HB3 : Hid (Below w0.heap.size w0 w3) := Lib.hid (by first | with_reducible exact below_trans HB2.out (below_trans (below_alloc _ _) hb) | with_reducible exact below_trans HB2.out (below_trans (below_alloc _ _) (below_trans (below_alloc _ _) hb))); obtain ⟨u3, u4, u5⟩ := HLB.out w3 HB3.out; have n3 : w.heap.size ≠ w3.heap.size := (by omega); (first | (have hz3 : w3.heap[w0.heap.size]? = some (.cells #[.slice none 0 0] 50 (0, 0)) := (by with_reducible exact keepB (keepB HZ2.out (below_alloc _ _)) hb); have HZ3 := Lib.hid hz3; obtain ⟨v3, v4⟩ := box_cell hz3; clear hz3) | (have hz3 : w3.heap[w1.heap.size]? = some (.cells #[.slice none 0 0] 50 (0, 0)) := (by with_reducible exact keepB (keepB HZ2.out (below_alloc _ _)) hb); have HZ3 := Lib.hid hz3; obtain ⟨v3, v4⟩ := box_cell hz3; clear hz3) | (have hz3 : w3.heap[w2.heap.size]? = some (.cells #[.slice none 0 0] 50 (0, 0)) := (by with_reducible exact keepB (keepB (new_at w2 (.cells #[.slice none 0 0] 50) w2.heap.size rfl) (below_alloc _ _)) hb); have HZ3 := Lib.hid hz3; obtain ⟨v3, v4⟩ := box_cell hz3; clear hz3) | (have hz3 : w3.heap[(w2.heap.size + 1)]? = some (.cells #[.slice none 0 0] 50 (0, 0)) := (by with_reducible exact keepB (new_at (w2.alloc _) (.cells #[.slice none 0 0] 50) (w2.heap.size + 1) (HDA.out _ _)) hb); have HZ3 := Lib.hid hz3; obtain ⟨v3, v4⟩ := box_cell hz3; clear hz3) | skip); clear hb))
    all_goals
      go_wp2_with fail
      go_meet
      first
      | exact ⟨w3.heap.size, ga, gc, rfl, SegAt.box HE3.out _, below_trans HB3.out (below_alloc _ _), HB3.out.size⟩
      | exact ⟨_, ga, gc, rfl, SegAt.fill HE3.out HZ3.out, HB3.out.setCell (show w0.heap.size ≤ _ by first | exact Nat.le_refl _ | exact HB1.out.size | exact HB2.out.size | exact Nat.le_succ_of_le HB2.out.size) _, by first | exact Nat.le_refl _ | exact HB1.out.size | exact HB2.out.size | exact Nat.le_succ_of_le HB2.out.size⟩
  case rest =>
    obtain ⟨q, ga, gc, rfl, HSB, HB1, hq⟩ := hcut
    obtain ⟨g, p0, p1, p2, p3, rfl, hsv⟩ := SvAt.start HSB.out.1
    have HSV := Lib.hid hsv
    have HQ := Lib.hid HSB.out.2
    have HL := Lib.hid (keepB HLH.out HB1.out)
    have HBw := Lib.hid (below_trans HB0.out HB1.out)
    clear hsv HSB HB1 HMo HUn HSg HLB b3 b4 n0 HBd HDR HDA
    obtain ⟨i9, k1, k2, k3, k4⟩ := infoT
    -- region 2
    have hB2 := Below.drew (below_alloc wc (.cells #[.string (mk x.proc)] 9))
    have HS2 := Lib.hid (HSV.out.grown hB2)
    have HQ2 := Lib.hid (keepB HQ.out hB2)
    have HL2 := Lib.hid (keepB HL.out hB2)
    have HBw2 := Lib.hid (below_trans HBw.out hB2)
    have hN2 : (wc.alloc (.cells #[.string (mk x.proc)] 9)).drew.heap[wc.heap.size]? = some (.cells #[.string (mk x.proc)] 9 (0, 0)) := heap_alloc_new wc _
    have HNW := Lib.hid (World.news_of_block hN2)
    have HHS : Hid ((wc.alloc (.cells #[.string (mk x.proc)] 9)).drew.heap.size = wc.heap.size + 1) := by show (wc.alloc _).heap.size = _; simp
    have HON : Hid (∀ u ∈ [Value.string (mk x.proc)], u.oneCell' = true) := fun u hu => by simp at hu; subst hu; rfl
    have HLE : Hid (w.heap.size ≤ (wc.alloc (.cells #[.string (mk x.proc)] 9)).drew.heap.size) := HBw2.out.size
    clear hN2 hB2
    obtain ⟨d1, d2, -⟩ := SvAt.cell HSV.out
    obtain ⟨e1, e2, -⟩ := SvAt.cell HS2.out
    obtain ⟨y2, -⟩ := box_cell HQ2.out
    obtain ⟨l2, -⟩ := line_cells HL2.out
    obtain ⟨y1, -⟩ := box_cell HQ.out
    obtain ⟨l0, -⟩ := line_cells HL.out
    obtain ⟨cur, hcur, -⟩ := HSV.out.row
    have m1 : q ≠ g := other_block HQ.out hcur (by decide)
    have m2 : w.heap.size ≠ g := other_block HL.out hcur (by decide)
    have mq : q < wc.heap.size := (Array.getElem?_eq_some_iff.1 HQ.out).1
    have mg : g < wc.heap.size := (Array.getElem?_eq_some_iff.1 hcur).1
    have ml : w.heap.size < wc.heap.size := (Array.getElem?_eq_some_iff.1 HL.out).1
    clear hcur cur
    go_upto_region 2 with fail
    go_cut [5] (fun s5 wx => s5 = .pointer (some ⟨q, 0, none⟩) ∧ ∃ (a2 : Option Addr) (c2 : Nat), Hid (SvAt w.heap.size g gc p0 p2 p3 (.slice a2 2 c2) [Et.tHC, x.proc] Et.tSV tm tu wx) ∧ Hid (wx.heap[q]? = some (.cells #[.slice (some ⟨g, 0, none⟩) 4 gc] 50 (0, 0))) ∧ Hid (wx.heap[w.heap.size]? = some (.cells #[.string (mk x.proc), .slice am x.mods.length cm, .int .i64 x.date, .int .i64 x.units, .int .i64 x.billed, .int .i64 x.prior] 47 (0, 0))) ∧ Hid (Below w.heap.size w wx))
    case first =>
      go_region_law (first | (refine step_append_lies _ rfl _ _ 45 rfl w.heap.size 9 i9 (.string ByteArray.empty) 1 16 Tryz.underlying45 k1 k2 k3 k4 rfl (by omega) (slc p1) 1 [.string (mk Et.tHC)] (by simp [Act.eval, Act.put]) HS2.out.own ⟨wc.heap.size, 0, none⟩ 1 1 [.string (mk x.proc)] (by simp [Act.eval, Act.put]) rfl HNW.out HON.out (by omega) (by simp [maxLen]) (by omega) HLE.out (wc.heap.size + 1) HHS.out ?_; intro g1 cap1 w1 hown hgrow hat hlt; have hq1 := kept_other HQ2.out HS2.out.own (by decide) hgrow; have hl1 := kept_other HL2.out HS2.out.own (by decide) hgrow; obtain ⟨cur, hcur, -⟩ := HS2.out.row; obtain ⟨x1, -⟩ := box_cell hq1; obtain ⟨x2, -⟩ := line_cells hl1; have hg1 := kept_other hcur HS2.out.own (by decide) hgrow; have x3 := Lib.frozen_of_heap hg1 1; have x4 : w1.cell? ⟨g, 1, none⟩ = some (slc p1) := (by rw [World.cell?_of_block (w := (wc.alloc (.cells #[.string (mk x.proc)] 9)).drew) (by rw [hg1, hcur])]; exact e1); have HQ3 := Lib.hid hq1; have HL3 := Lib.hid hl1; have HS3 : Hid (SvAt w.heap.size g gc p0 p2 p3 (.slice (some ⟨g1, 0, none⟩) 2 cap1) [Et.tHC, x.proc] Et.tSV tm tu (w1.setCell ⟨g, 1, none⟩ (.slice (some ⟨g1, 0, none⟩) 2 cap1))) := Lib.hid (SvAt.app (N := [x.proc]) HS2.out hown hgrow (by rcases hat with e | e; (exact Or.inl (by rw [e]; rfl)); (exact Or.inr (by rw [e, HHS.out]; rfl)))); have HB3 := Lib.hid (HBw2.out.grown hgrow HLE.out fun k hk => (HS2.out.own.lt k hk).1); clear hown hgrow hat hlt hq1 hl1 hcur hg1))
      all_goals
        go_wp2_with fail
        go_meet
        exact ⟨rfl, some ⟨g1, 0, none⟩, cap1, HS3.out, heap_far HQ3.out m1, heap_far HL3.out m2, HB3.out.setCell (p := ⟨g, 1, none⟩) (HSV.out.lo.1) _⟩
    case rest =>
      clear HSV HQ HL HBw HS2 HQ2 HL2 HBw2 HNW HHS HON HLE d1 d2 e1 e2 y1 y2 l0 l2 mq mg ml hq
      obtain ⟨rfl, a2, c2, HS3, HQ3, HL3, HB3⟩ := hcut
      have hBd := Below.drew (Below.refl wc.heap.size wc)
      have HSd := Lib.hid (HS3.out.grown hBd)
      have HQd := Lib.hid (keepB HQ3.out hBd)
      have HLd := Lib.hid (keepB HL3.out hBd)
      have HBd := Lib.hid (below_trans HB3.out hBd)
      obtain ⟨d1, d2, -⟩ := SvAt.cell HS3.out
      obtain ⟨y1, -⟩ := box_cell HQ3.out
      obtain ⟨l0, l1, -⟩ := line_cells HL3.out
      have HMw := Lib.hid (TxAt.move hm (Below.moves HBd.out))
      clear hBd
      go_upto_region 3 with fail
      go_cut [5] (fun s5 wx => s5 = .pointer (some ⟨q, 0, none⟩) ∧ Hid (ElAt (fun b => w.heap.size ≤ b) wx (.slice (some ⟨g, 0, none⟩) 4 gc) [[Et.tSV], Et.tHC :: x.proc :: x.mods, [tm], [tu]]) ∧ Hid (wx.heap[q]? = some (.cells #[.slice (some ⟨g, 0, none⟩) 4 gc] 50 (0, 0))) ∧ Hid (wx.heap[w.heap.size]? = some (.cells #[.string (mk x.proc), .slice am x.mods.length cm, .int .i64 x.date, .int .i64 x.units, .int .i64 x.billed, .int .i64 x.prior] 47 (0, 0))) ∧ Hid (Below w.heap.size w wx))
      case first =>
        by_cases hmo : x.mods.length = 0
        · have HM0 : Hid (x.mods = []) := List.length_eq_zero_iff.1 hmo
          have HAZ : Hid (∀ ty, (Builtin.append_ #[45, 45] ty #[.slice a2 2 c2, .slice am x.mods.length cm]).run Tryz.prog wc.drew = .ok (.slice a2 2 c2) wc.drew) := fun ty => by
            rw [hmo]
            exact app_zero ty cm am (.slice a2 2 c2) 2 _ HSd.out.own
          have HS4 : Hid (SvAt w.heap.size g gc p0 p2 p3 (.slice a2 2 c2) ([Et.tHC, x.proc] ++ x.mods) Et.tSV tm tu (wc.drew.setCell ⟨g, 1, none⟩ (.slice a2 2 c2))) := by
            refine SvAt.app HSd.out ?_ ⟨rfl, rfl, rfl, Nat.le_refl _, fun _ _ _ => rfl⟩ (Or.inl rfl)
            rw [HM0.out]
            exact HSd.out.own
          clear hmo
          go_region_law (first | (refine step_append_run rfl _ _ 45 rfl (.slice a2 2 c2) (.slice am x.mods.length cm) (.slice a2 2 c2) (by simp [Act.eval, Act.put]) (by simp [Act.eval, Act.put]) (HAZ.out _) ?_))
          all_goals
            go_wp2_with fail
            go_meet
            exact ⟨rfl, SvAt.els HS4.out, heap_far HQd.out m1, heap_far HLd.out m2, HBd.out.setCell (p := ⟨g, 1, none⟩) HS3.out.lo.1 _⟩
        · have HNE : Hid (x.mods ≠ []) := fun e => hmo (by rw [e]; rfl)
          obtain ⟨ad, cc, hadv, hnw⟩ := tx_cells HMw.out HNE.out
          simp only [Value.slice.injEq] at hadv
          obtain ⟨rfl, -, rfl⟩ := hadv
          have HNW := Lib.hid hnw
          have HON : Hid (∀ u ∈ (x.mods.map fun t => Value.string (mk t)), u.oneCell' = true) := fun u hu => by
            obtain ⟨t, -, rfl⟩ := List.mem_map.1 hu
            rfl
          have HLE : Hid (w.heap.size ≤ wc.drew.heap.size) := HBd.out.size
          have HLM : Hid ((x.mods.map fun t => Value.string (mk t)).length = x.mods.length * 1) := by show _ = _; simp
          have hpos : 0 < x.mods.length := by omega
          clear hnw hmo
          go_region_law (first | (refine step_append_lies _ rfl _ _ 45 rfl w.heap.size 9 i9 (.string ByteArray.empty) 1 16 Tryz.underlying45 k1 k2 k3 k4 rfl (by omega) (.slice a2 2 c2) 2 [.string (mk Et.tHC), .string (mk x.proc)] (by simp [Act.eval, Act.put]) HSd.out.own ad x.mods.length cm (x.mods.map fun t => Value.string (mk t)) (by simp [Act.eval, Act.put]) HLM.out HNW.out HON.out hpos (by simp only [maxLen]; omega) (by omega) HLE.out wc.heap.size rfl ?_; intro g1 cap1 w1 hown hgrow hat hlt; have hq1 := kept_other HQd.out HSd.out.own (by decide) hgrow; have hl1 := kept_other HLd.out HSd.out.own (by decide) hgrow; obtain ⟨cur, hcur, -⟩ := HSd.out.row; obtain ⟨x1, -⟩ := box_cell hq1; obtain ⟨x2, x5, -⟩ := line_cells hl1; have hg1 := kept_other hcur HSd.out.own (by decide) hgrow; have x3 := Lib.frozen_of_heap hg1 1; have x4 : w1.cell? ⟨g, 1, none⟩ = some (.slice a2 2 c2) := (by rw [World.cell?_of_block (w := wc.drew) (by rw [hg1, hcur])]; exact d1); have HQ4 := Lib.hid hq1; have HL4 := Lib.hid hl1; have HS4 : Hid (SvAt w.heap.size g gc p0 p2 p3 (.slice (some ⟨g1, 0, none⟩) (2 + x.mods.length) cap1) ([Et.tHC, x.proc] ++ x.mods) Et.tSV tm tu (w1.setCell ⟨g, 1, none⟩ (.slice (some ⟨g1, 0, none⟩) (2 + x.mods.length) cap1))) := Lib.hid (SvAt.app (N := x.mods) HSd.out (by rw [List.length_append, List.map_append]; exact hown) hgrow (by rcases hat with e | e; (exact Or.inl (by rw [e]; rfl)); (exact Or.inr (by rw [e]; rfl)))); have HB4 := Lib.hid (HBd.out.grown hgrow HLE.out fun k hk => (HSd.out.own.lt k hk).1); clear hown hgrow hat hlt hq1 hl1 hcur hg1))
          all_goals
            go_wp2_with fail
            go_meet
            exact ⟨rfl, SvAt.els HS4.out, heap_far HQ4.out m1, heap_far HL4.out m2, HB4.out.setCell (p := ⟨g, 1, none⟩) HS3.out.lo.1 _⟩
      case rest =>
        clear HS3 HQ3 HL3 HB3 HSd HQd HLd HBd d1 d2 y1 l0 l1 HMw
        obtain ⟨rfl, HE4, HQ4, HL4, HB4⟩ := hcut
        have HT4 := Lib.hid (tab_grw HT.out HB4.out)
        have HWk : Hid (∀ W, Below wc.heap.size wc W → Calls Tryz.prog 22 #[.int .i64 (k : Int)] W fun e w' => e = .returned (.string (mk (Lib.itoa (k : Int)))) ∧ Below W.heap.size W w') := fun W hW => whole_any _ W (tab_grw HT4.out hW) (by omega) (by omega)
        have HWd : Hid (∀ W, Below wc.heap.size wc W → Calls Tryz.prog 22 #[.int .i64 x.date] W fun e w' => e = .returned (.string (mk (Lib.itoa x.date))) ∧ Below W.heap.size W w') := fun W hW => whole_any _ W (tab_grw HT4.out hW) HZ.out.1.1 HZ.out.1.2
        have HMp : Hid (∀ W, Below wc.heap.size wc W → Calls Tryz.prog 43 #[.int .i64 x.prior] W fun e w' => e = .returned (.string (mk (Nu.moneyL x.prior))) ∧ Below W.heap.size W w') := fun W hW => Nu.money_any x.prior HZ.out.2.1 HZ.out.2.2 W (tab_grw HT4.out hW).2.2
        have HLn : Hid (Et.lnS k x = [ones [Et.tLX, Lib.itoa (k : Int)], [[Et.tSV], Et.tHC :: x.proc :: x.mods, [tm], [tu]], ones [Et.tDTP, Et.t472, Lib.itoa x.date]] ++ (if 0 < x.prior then [ones [Et.tAMT, Et.tD, Nu.moneyL x.prior]] else [])) := by
          show _ = _
          rw [HTM.out, HTU.out]
          rfl
        generalize Lib.itoa (k : Int) = tk at *
        generalize Lib.itoa x.date = td at *
        generalize Nu.moneyL x.prior = tp at *
        have HSl : Hid (∀ (V : World) (H : Nat), V.heap.size = H → Below wc.heap.size wc V → ∀ W, Below (V.alloc (.cells #[.string ⟨#[76, 88]⟩, .string (mk tk)] 9)).heap.size (V.alloc (.cells #[.string ⟨#[76, 88]⟩, .string (mk tk)] 9)) W → Calls Tryz.prog 21 #[.slice (some ⟨H, 0, none⟩) 2 2] W fun x w' => (∃ ga gc, x = .returned (.agg #[.slice ga 2 gc]) ∧ SegAt w.heap.size [Et.tLX, tk] (.slice ga 2 gc) w') ∧ Below W.heap.size W w') := fun V H hH hV W hW => eseg_row (w0 := wc) (B := w.heap.size) [Et.tLX, tk] (by simp) HB4.out.size V H hH hV W hW
        have HSt : Hid (∀ (V : World) (H : Nat), V.heap.size = H → Below wc.heap.size wc V → ∀ W, Below (V.alloc (.cells #[.string ⟨#[68, 84, 80]⟩, .string ⟨#[52, 55, 50]⟩, .string (mk td)] 9)).heap.size (V.alloc (.cells #[.string ⟨#[68, 84, 80]⟩, .string ⟨#[52, 55, 50]⟩, .string (mk td)] 9)) W → Calls Tryz.prog 21 #[.slice (some ⟨H, 0, none⟩) 3 3] W fun x w' => (∃ ga gc, x = .returned (.agg #[.slice ga 3 gc]) ∧ SegAt w.heap.size [Et.tDTP, Et.t472, td] (.slice ga 3 gc) w') ∧ Below W.heap.size W w') := fun V H hH hV W hW => eseg_row (w0 := wc) (B := w.heap.size) [Et.tDTP, Et.t472, td] (by simp) HB4.out.size V H hH hV W hW
        have HSm : Hid (∀ (V : World) (H : Nat), V.heap.size = H → Below wc.heap.size wc V → ∀ W, Below (V.alloc (.cells #[.string ⟨#[65, 77, 84]⟩, .string ⟨#[68]⟩, .string (mk tp)] 9)).heap.size (V.alloc (.cells #[.string ⟨#[65, 77, 84]⟩, .string ⟨#[68]⟩, .string (mk tp)] 9)) W → Calls Tryz.prog 21 #[.slice (some ⟨H, 0, none⟩) 3 3] W fun x w' => (∃ ga gc, x = .returned (.agg #[.slice ga 3 gc]) ∧ SegAt w.heap.size [Et.tAMT, Et.tD, tp] (.slice ga 3 gc) w') ∧ Below W.heap.size W w') := fun V H hH hV W hW => eseg_row (w0 := wc) (B := w.heap.size) [Et.tAMT, Et.tD, tp] (by simp) HB4.out.size V H hH hV W hW
        have HCs : Hid (∀ W, Below wc.heap.size wc W → W.cell? ⟨q, 0, none⟩ = some (.slice (some ⟨g, 0, none⟩) 4 gc) ∧ W.cell? ⟨w.heap.size, 2, none⟩ = some (.int .i64 x.date) ∧ W.cell? ⟨w.heap.size, 5, none⟩ = some (.int .i64 x.prior)) := fun W hW => ⟨(box_cell (keepB HQ4.out hW)).1, (line_cells (keepB HL4.out hW)).2.2.1, (line_cells (keepB HL4.out hW)).2.2.2.2.2⟩
        obtain ⟨y1, y2, -⟩ := HCs.out _ (Below.refl _ _)
        have HBd := Lib.hid (Below.drew (Below.refl wc.heap.size wc))
        have ml : w.heap.size < wc.heap.size := (Array.getElem?_eq_some_iff.1 HL4.out).1
        have mq : q < wc.heap.size := (Array.getElem?_eq_some_iff.1 HQ4.out).1
        go_upto_region 4 with fail
        go_region_held3 (fun w' => w'.cell? ⟨q, 0, none⟩ = some (.slice (some ⟨g, 0, none⟩) 4 gc) ∧ w'.cell? ⟨w.heap.size, 2, none⟩ = some (.int .i64 x.date)) (go_keep) (first | (go_at_call 22; with_reducible refine (HWk.out _ HBd.out).mono ?_; rintro e w5 ⟨rfl, hb⟩; have HB5 := Lib.hid (below_trans HBd.out hb); obtain ⟨r1, r2, -⟩ := HCs.out _ HB5.out; have r3 := HB5.out.size; clear hb) | (go_at_call 21; with_reducible refine (HSl.out w5 _ rfl HB5.out _ (Below.refl _ _)).mono ?_; rintro e w6 ⟨⟨ga6, gc6, rfl, hs⟩, hb⟩; have HE6 := Lib.hid hs; have HB6 := Lib.hid (below_trans HB5.out (below_trans (below_alloc _ _) hb)); obtain ⟨r4, r5, -⟩ := HCs.out _ HB6.out; have r6 := HB6.out.size; clear hb hs) | (go_at_call 22; with_reducible refine (HWd.out _ HB6.out).mono ?_; rintro e w7 ⟨rfl, hb⟩; have HB7 := Lib.hid (below_trans HB6.out hb); have HE7 := Lib.hid (HE6.out.grw hb); obtain ⟨r7, r8, -⟩ := HCs.out _ HB7.out; have r9 := HB7.out.size; clear hb) | (go_at_call 21; with_reducible refine (HSt.out w7 _ rfl HB7.out _ (Below.refl _ _)).mono ?_; rintro e w8 ⟨⟨ga8, gc8, rfl, hs⟩, hb⟩; have HE8 := Lib.hid hs; have HF8 := Lib.hid (HE7.out.grw (below_trans (below_alloc _ _) hb)); have HB8 := Lib.hid (below_trans HB7.out (below_trans (below_alloc _ _) hb)); obtain ⟨v1, v2, v3⟩ := HCs.out _ HB8.out; have v4 := HB8.out.size; clear hb hs))
        have HN8 : Hid (NewAt w.heap.size [ones [Et.tLX, tk], [[Et.tSV], Et.tHC :: x.proc :: x.mods, [tm], [tu]], ones [Et.tDTP, Et.t472, td]] (.slice (some ⟨w8.heap.size, 0, none⟩) 3 3) (w8.alloc (.cells #[.slice ga6 2 gc6, .slice (some ⟨g, 0, none⟩) 4 gc, .slice ga8 3 gc8] 50))) := by
          refine NewAt.laid [.slice ga6 2 gc6, .slice (some ⟨g, 0, none⟩) 4 gc, .slice ga8 3 gc8] _ (by omega) rfl (by simp [maxLen]) fun j u gg hu hg => ?_
          match j, hu, hg with
          | 0, hu, hg => simp at hu hg; subst hu hg; exact HF8.out.els
          | 1, hu, hg => simp at hu hg; subst hu hg; exact ElAt.move HE4.out ⟨HB8.out.size, fun b hb hk => ⟨hk, HB8.out.block b hb⟩⟩
          | 2, hu, hg => simp at hu hg; subst hu hg; exact HE8.out.els
        have HB9 := Lib.hid (below_trans HB8.out (below_alloc w8 (.cells #[.slice ga6 2 gc6, .slice (some ⟨g, 0, none⟩) 4 gc, .slice ga8 3 gc8] 50)))
        obtain ⟨-, -, v5⟩ := HCs.out _ HB9.out
        by_cases hp : 0 < x.prior
        case neg =>
          have HL9 : Hid (Et.lnS k x = [ones [Et.tLX, tk], [[Et.tSV], Et.tHC :: x.proc :: x.mods, [tm], [tu]], ones [Et.tDTP, Et.t472, td]]) := by show _ = _; rw [HLn.out, if_neg hp]; rfl
          go_wp2
          go_ret
          exact ⟨⟨_, rfl, by rw [HL9.out]; exact HN8.out⟩, below_trans HB4.out HB9.out⟩
        have HL9 : Hid (Et.lnS k x = [ones [Et.tLX, tk], [[Et.tSV], Et.tHC :: x.proc :: x.mods, [tm], [tu]], ones [Et.tDTP, Et.t472, td]] ++ [ones [Et.tAMT, Et.tD, tp]]) := by show _ = _; rw [HLn.out, if_pos hp]
        generalize ([ones [Et.tLX, tk], [[Et.tSV], Et.tHC :: x.proc :: x.mods, [tm], [tu]], ones [Et.tDTP, Et.t472, td]] : List Sg) = G3 at *
        obtain ⟨i47, j1, j2, j3, j4⟩ := info47
        have hG3 : G3.length = 3 := by
          obtain ⟨cs, d1, -⟩ := HN8.out
          rcases d1.2 with ⟨h, _⟩ | ⟨g', cap, cur, h, _⟩
          · cases h
          · simp only [Value.slice.injEq] at h
            exact h.2.1.symm
        have HSm2 : Hid (∀ (V W : World), Below (V.alloc (.cells #[.string ⟨#[65, 77, 84]⟩, .string ⟨#[68]⟩, .string (mk tp)] 9)).heap.size (V.alloc (.cells #[.string ⟨#[65, 77, 84]⟩, .string ⟨#[68]⟩, .string (mk tp)] 9)) W → Calls Tryz.prog 21 #[.slice (some ⟨V.heap.size, 0, none⟩) 3 3] W fun x w' => (∃ ga gc, x = .returned (.agg #[.slice ga 3 gc]) ∧ SegAt V.heap.size [Et.tAMT, Et.tD, tp] (.slice ga 3 gc) w') ∧ Below W.heap.size W w') := fun V W hW => eseg_row (w0 := V) (B := V.heap.size) [Et.tAMT, Et.tD, tp] (by simp) (Nat.le_refl _) V _ rfl (Below.refl _ _) W hW
        go_wp2_with fail
        go_at_call 43
        refine (HMp.out _ HB9.out).mono ?_
        rintro e yA ⟨rfl, hb⟩
        have HBA := Lib.hid (below_trans HB9.out hb)
        have HNA := Lib.hid (HN8.out.grw hb)
        clear hb
        go_wp2_with fail
        go_at_call 21
        refine (HSm2.out yA _ (Below.refl _ _)).mono ?_
        rintro e yB ⟨⟨gaB, gcB, rfl, hs⟩, hb⟩
        have hAB := below_trans (below_alloc yA _) hb
        have hBC := below_trans hAB (below_alloc yB (.cells #[.slice gaB 3 gcB] 50))
        have HEB := Lib.hid (ElAt.move (new_apart HNA.out hs.els (by have := HBA.out.size; omega)) (moves_alloc _ yB (.cells #[.slice gaB 3 gcB] 50)))
        have HBC := Lib.hid (below_trans HB4.out (below_trans HBA.out hBC))
        obtain ⟨cs, d1, d2⟩ := HNA.out.grw hBC
        have HO := Lib.hid d1
        have HP := Lib.hid d2
        rw [hG3] at d1
        have HO3 := Lib.hid d1
        have hsz := HBC.out.size
        clear hb hs hAB hBC d1 d2
        go_wp2_with (at_builtin; refine wpList_append_own_at _ (by rfl) _ _ 53 (by rfl) w.heap.size 50 i47 (.agg #[.slice none 0 0]) 1 24 Tryz.underlying53 j1 j2 j3 j4 (by rfl) (by omega) (.slice (some ⟨w8.heap.size, 0, none⟩) 3 3) 3 cs (by rfl) HO3.out ⟨yB.heap.size, 0, none⟩ 1 1 [.slice gaB 3 gcB] (by rfl) (by rfl) (cell_one_new yB _ 50) ?c2 ?c3 ?c4 ?c5 ?_)
        case c2 => intro u hu; simp at hu; subst hu; rfl
        case c3 => simp [maxLen]
        case c4 => omega
        case c5 => exact hsz
        intro lv wz hown hgrow hnil hat
        have HDZ := Lib.hid (NewAt.app (l := [ones [Et.tAMT, Et.tD, tp]]) (news := [.slice gaB 3 gcB]) HO.out HP.out rfl (fun j u g' hu hg' => by
          match j, hu, hg' with
          | 0, hu, hg' => simp at hu hg'; subst hu hg'; exact HEB.out) (by rw [hG3]; exact hown) hgrow (by simpa using hat))
        have HBZ := Lib.hid (HBC.out.grown hgrow hsz fun k hk => (HO.out.lt k hk).1)
        obtain ⟨la, lc, rfl⟩ := own_form hown
        clear hown hgrow hnil hat
        go_wp2
        go_ret
        exact ⟨⟨_, rfl, by rw [HL9.out]; exact HDZ.out⟩, HBZ.out⟩
end Go.Proofs.YtpmnepihaljamaaGreatDoor
end
