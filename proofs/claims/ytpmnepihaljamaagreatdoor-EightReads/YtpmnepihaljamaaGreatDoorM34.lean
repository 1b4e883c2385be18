/-
  Texts put together (merge.py): ERPl, ERIs, NRefNum, NRefRead.
-/
import Derived.Deep.RegionLaw
import Derived.BigQuiet
import Derived.Test.YtpmnepihaljamaaGreatDoorM19
import Derived.Test.YtpmnepihaljamaaGreatDoorM30
import Derived.Test.YtpmnepihaljamaaGreatDoorM16
import Derived.Test.YtpmnepihaljamaaGreatDoorM7
/-
  What the reference's plain and num answer, as contracts: a segment of so many elements, each of one part, in new memory; a number as a text.
-/
section
set_option linter.unusedSimpArgs false
set_option linter.unusedVariables false
set_option maxRecDepth 100000
namespace Go.Proofs.YtpmnepihaljamaaGreatDoor
open Go.RowKit

theorem rnum_any (n : Int) (w : World) (h0 : -9223372036854775808 ≤ n) (h1 : n ≤ 9223372036854775807) :
    Calls Tryz.prog 26 #[.int .i64 n] w fun e w' => e = .returned (.string (mk (Lib.itoa n))) ∧ Below w.heap.size w w' := by
  have HI : Hid (∀ W : World, Calls Tryz.prog 52 #[.int .i64 n] W fun e w' => e = .returned (.string (mk (Lib.itoa n))) ∧ Below W.heap.size W w') := fun W => Nu.rint_any n h0 h1 W
  generalize mk (Lib.itoa n) = q at *
  go_enter Tryz.func26, Tryz.ntmps26
  go_wp2_with (first | (go_at_call 52; refine (HI.out _).mono ?_; rintro e w1 ⟨rfl, hb⟩; have HB := Lib.hid hb; clear hb))
  go_ret
  exact ⟨rfl, HB.out⟩
theorem kept_oth {w w' : World} {q : Nat} {cs : Array Value} {T : TypeId} {B : Nat} {e : TypeId} {z : Nat} {v : Value} {n : Nat} {xs : List Value} (h : w.heap[q]? = some (.cells cs T (0, 0))) (ho : w.ownsRow B e z v n xs) (hT : T ≠ e) (hg : w.grownBy w' v.ownBlock) : w'.heap[q]? = some (.cells cs T (0, 0)) := by
  rw [hg.block q (Array.getElem?_eq_some_iff.1 h).1 ?_]
  · exact h
  · intro e
    rcases ho.2 with ⟨rfl, -⟩ | ⟨g, c, cur, rfl, _, hh, _⟩
    · cases e
    · simp only [Value.ownBlock, Option.some.injEq] at e
      subst e
      rw [hh] at h
      simp only [Option.some.injEq, Obj.cells.injEq] at h
      exact hT h.2.1.symm
theorem Sq.start0 (w : World) : Sq w.heap.size (w.heap.size + 1) [] [] (.slice none 0 0) ((w.alloc (.cells #[.slice none 0 0] 50)).alloc (.cells #[.slice none 0 0] 50)) :=
  ⟨new_at _ _ (w.heap.size + 1) (by simp), World.ownsRow_nil _ _ _ _, PtsAt.nil _ _⟩

set_option maxHeartbeats 4000000 in
theorem rpl_any (v : Value) (ts : List Tx) (w : World) (h : TxAt All w v ts) (hn : ts.length ≤ 1000) :
    Calls Tryz.prog 25 #[v] w fun x w' => (∃ u, x = .returned (.agg #[u]) ∧ SegAt w.heap.size ts u w') ∧ Below w.heap.size w w' := by
  have HV := Lib.hid h
  obtain ⟨a, c, rfl, h1, h2, -⟩ := h
  unfold maxLen at h2
  obtain ⟨i48, t1, t2, t3, t4⟩ := info48
  have HST := Lib.hid (Sq.start0 w)
  have hb0 := below_trans (below_alloc w (.cells #[.slice none 0 0] 50)) (below_alloc _ (.cells #[.slice none 0 0] 50))
  have HB0 := Lib.hid hb0
  have HR0 := Lib.hid (keepB (heap_alloc_new w (.cells #[.slice none 0 0] 50)) (below_alloc (w.alloc (.cells #[.slice none 0 0] 50)) (.cells #[.slice none 0 0] 50)))
  clear hb0
  go_enter Tryz.func25, Tryz.ntmps25
  go_wp2
  go_loopg [4] (ts.length) (fun gg i wr => ∃ (k : Nat) (gv : Value) (ps : List Nat) (tk : List Tx), tk.length ≤ 1000 ∧ Hid (tk = ts.take k) ∧ k ≤ ts.length ∧ gg = ts.length - k ∧ i = .int .i64 k ∧ Hid (Sq w.heap.size (w.heap.size + 1) tk ps gv wr) ∧ Hid (wr.heap[w.heap.size]? = some (.cells #[.slice none 0 0] 50 (0, 0))) ∧ Hid (Below w.heap.size w wr))
  case atStart => exact ⟨0, _, _, [], by simp, by show _ = _; simp, Nat.zero_le _, rfl, rfl, HST.out, HR0.out, HB0.out⟩
  case round =>
    clear HST HR0 HB0
    obtain ⟨k, gv, ps, tk, hlen, HTK, hk, hgk, rfl, HSt, HR, HB⟩ := hrel
    obtain ⟨hbx, hfx⟩ := box_cell HSt.out.box
    have hlx := HSt.out.lt
    have hBw := HB.out.size
    obtain ⟨ga0, gc0, rfl⟩ := own_form HSt.out.own
    by_cases hlt : k < ts.length
    · obtain ⟨b, o, u, rfl, hx, hu, rfl⟩ := RowAt.get (TxAt.move HV.out (Below.moves HB.out)) k hlt
      have HO : Hid (tk ++ [ts[k]] = ts.take (k + 1)) := by show _ = _; rw [List.take_add_one, hx, HTK.out]; rfl
      have hlen1 : (tk ++ [ts[k]]).length ≤ 1000 := by rw [HO.out, List.length_take]; omega
      have HLN := Lib.hid hlen1
      clear hlen1 hx
      generalize ts[k] = x at *
      have HL1 : Hid ((tk ++ [x]).length = tk.length + 1) := by show _ = _; simp
      have hlay := Sq.lay HSt.out x hBw (.cells #[slc wr.heap.size] 45)
      have HOE : Hid ((((wr.alloc (.cells #[.string (mk x)] 9)).alloc (.cells #[slc wr.heap.size] 45)).drew).ownsRow w.heap.size 45 1 (.slice ga0 tk.length gc0) tk.length (ps.map slc)) := hlay.1
      have HPT : Hid (PtsAt w.heap.size (tk ++ [x]) (ps ++ [wr.heap.size]) (((wr.alloc (.cells #[.string (mk x)] 9)).alloc (.cells #[slc wr.heap.size] 45)).drew)) := hlay.2.1
      have HBX : Hid ((((wr.alloc (.cells #[.string (mk x)] 9)).alloc (.cells #[slc wr.heap.size] 45)).drew).heap[w.heap.size + 1]? = some (.cells #[.slice ga0 tk.length gc0] 50 (0, 0))) := hlay.2.2
      have hb2 := Below.drew (below_trans (below_alloc wr (.cells #[.string (mk x)] 9)) (below_alloc _ (.cells #[slc wr.heap.size] 45)))
      have HB2 := Lib.hid (below_trans HB.out hb2)
      have HR2 := Lib.hid (keepB HR.out hb2)
      have hN2 : ((wr.alloc (.cells #[.string (mk x)] 9)).alloc (.cells #[slc wr.heap.size] 45)).drew.heap[wr.heap.size + 1]? = some (.cells #[slc wr.heap.size] 45 (0, 0)) := new_at (wr.alloc (.cells #[.string (mk x)] 9)) _ (wr.heap.size + 1) (by simp)
      have HNW := Lib.hid (World.news_of_block hN2)
      have HHS : Hid (((wr.alloc (.cells #[.string (mk x)] 9)).alloc (.cells #[slc wr.heap.size] 45)).drew.heap.size = wr.heap.size + 2) := by show ((wr.alloc _).alloc _).heap.size = _; simp
      have HON : Hid (∀ u ∈ [slc wr.heap.size], u.oneCell' = true) := fun u hu => by simp at hu; subst hu; rfl
      have HLE : Hid (w.heap.size ≤ ((wr.alloc (.cells #[.string (mk x)] 9)).alloc (.cells #[slc wr.heap.size] 45)).drew.heap.size) := HB2.out.size
      obtain ⟨e1, -⟩ := box_cell HBX.out
      have hub : b < wr.heap.size := World.block_lt_of_cell? _ _ hu
      clear hlay hb2 hN2
      go_wp2_with fail
      go_region_law (first | (refine step_append_lies _ rfl _ _ 48 rfl w.heap.size 45 i48 (.slice none 0 0) 1 24 Tryz.underlying48 t1 t2 t3 t4 rfl (by omega) (.slice ga0 tk.length gc0) tk.length (ps.map slc) (by simp [Act.eval, Act.put]) HOE.out ⟨wr.heap.size + 1, 0, none⟩ 1 1 [slc wr.heap.size] (by simp [Act.eval, Act.put]) rfl HNW.out HON.out (by omega) (by simp only [maxLen]; omega) (by omega) HLE.out (wr.heap.size + 2) HHS.out ?_; intro g1 cap1 w1 hown hgrow hat hlt1; have hq1 := kept_oth HBX.out HOE.out (by decide) hgrow; have hr1 := kept_oth HR2.out HOE.out (by decide) hgrow; obtain ⟨x1, x2⟩ := box_cell hq1; have HR3 := Lib.hid hr1; have HS3 : Hid (Sq w.heap.size (w.heap.size + 1) (tk ++ [x]) (ps ++ [wr.heap.size]) (.slice (some ⟨g1, 0, none⟩) (tk.length + 1) cap1) (w1.setCell ⟨w.heap.size + 1, 0, none⟩ (.slice (some ⟨g1, 0, none⟩) (tk.length + 1) cap1))) := Lib.hid (Sq.elem HOE.out HPT.out HBX.out (by rw [HL1.out]; exact hown) hgrow); have HB3 := Lib.hid (HB2.out.grown hgrow HLE.out fun k hk => (HOE.out.lt k hk).1); clear hown hgrow hat hlt1 hq1 hr1))
      all_goals
        go_wp2
        go_roundg (ts.length - (k + 1))
        case rel => exact ⟨k + 1, _, _, _, HLN.out, HO.out, by omega, rfl, by go_num, HS3.out, heap_far HR3.out (by omega), HB3.out.setCell (p := ⟨w.heap.size + 1, 0, none⟩) (by show w.heap.size ≤ w.heap.size + 1; omega) _⟩
        case measure => omega
    · have HO : Hid (tk = ts) := by show _ = _; rw [HTK.out, List.take_of_length_le (by omega)]
      obtain ⟨hcs, hfr⟩ := box_cell HR.out
      have HE9 := Lib.hid (Sq.done (v := .slice ga0 tk.length gc0) HSt.out HR.out)
      have HB9 := Lib.hid (HB.out.setCell (p := ⟨w.heap.size, 0, none⟩) (Nat.le_refl _) (.slice ga0 tk.length gc0))
      go_wp2
      refine bodyPost_ret (v := .agg #[.slice ga0 tk.length gc0]) (by simp [results, Tryz.results25, go_sem, hcs]) rfl ?_
      refine ⟨⟨_, rfl, ?_⟩, HB9.out⟩
      have := HE9.out
      rw [HO.out] at this ⊢
      exact this
end Go.Proofs.YtpmnepihaljamaaGreatDoor
end

/-
  What the reference's is and el answer, as contracts: of a box of segments and where it stands.
-/
section
set_option linter.unusedSimpArgs false
set_option linter.unusedVariables false
set_option maxRecDepth 100000
namespace Go.Proofs.YtpmnepihaljamaaGreatDoor
open Go.RowKit
open Et

def allBut (but : Int) : Nat → List (List Tx) → Bool
  | _, [] => true
  | i, ps :: r => (decide ((i : Int) = but) || decide (ps.length = 1)) && allBut but (i + 1) r
def isB (l : List Sg) (t : Tx) (n : Nat) (but : Int) : Bool := !l.isEmpty && (decide ((l.headD []).length = n) && (decide (tx l 0 = t) && allBut but 1 (l.headD []).tail))
theorem allBut_none : ∀ (r : List (List Tx)) (i : Nat), allBut (-1) i r = oneB r
  | [], i => rfl
  | ps :: r, i => by
    have h : decide ((i : Int) = -1) = false := by rw [decide_eq_false_iff_not]; omega
    show ((decide ((i : Int) = -1) || decide (ps.length = 1)) && allBut (-1) (i + 1) r) = (decide (ps.length = 1) && oneB r)
    rw [h, allBut_none r (i + 1)]; rfl
theorem is_tx (l : List Sg) (t : Tx) (n : Nat) : isB l t (n + 1) (-1) = txB l t n := by
  unfold isB txB behB
  rw [allBut_none]
  cases decide ((l.headD []).length = n + 1) <;> cases decide (tx l 0 = t) <;> cases l.isEmpty <;> cases oneB (l.headD []).tail <;> rfl
/-- A box of segments, and where it stands. -/
def SgBox (p : Nat) (la : Option Addr) (n lc at' : Nat) (w : World) : Prop := w.heap[p]? = some (.cells #[.slice la n lc, .int .i64 (at' : Int)] 63 (0, 0))
theorem SgBox.cells {p : Nat} {la : Option Addr} {n lc a : Nat} {w : World} (h : SgBox p la n lc a w) : w.cell? ⟨p, 0, none⟩ = some (.slice la n lc) ∧ w.cell? ⟨p, 1, none⟩ = some (.int .i64 (a : Int)) :=
  ⟨by rw [cell_of_row w p 0 _ _ (0, 0) h]; rfl, by rw [cell_of_row w p 1 _ _ (0, 0) h]; rfl⟩
theorem drop_cons {l : List Sg} {k : Nat} (h : k < l.length) : l.drop k = l[k] :: l.drop (k + 1) := List.drop_eq_getElem_cons h

set_option maxHeartbeats 4000000 in
theorem rel_q (p : Nat) (la : Option Addr) (lc a i : Nat) (l : List Sg) (w : World) (hb : SgBox p la l.length lc (a + 1) w) (hS : SgAt All w (.slice la l.length lc) l) (ha : a < l.length) (hl : l.length ≤ 100000) (hi : i < (l[a]).length) (h1 : 0 < ((l[a])[i]).length) (hi10 : i ≤ 10) :
    Calls Tryz.prog 34 #[.pointer (some ⟨p, 0, none⟩), .int .i64 (i : Int)] w fun e w' => e = .returned (.string (mk (tx (l.drop a) i))) ∧ ∃ q, w' = w.drewN q := by
  obtain ⟨b0, b1⟩ := hb.cells
  obtain ⟨b, o, u, rfl, -, hu, hel⟩ := RowAt.get hS a ha
  have HX : Hid (tx (l.drop a) i = (l[a])[i].headD []) := by
    show _ = _
    rw [drop_cons ha]
    show (((l[a]).getD i []).headD []) = _
    rw [List.getD_eq_getElem?_getD, List.getElem?_eq_getElem hi]
    rfl
  obtain ⟨f1, f2⟩ : l.length ≤ lc ∧ lc ≤ 9223372036854775807 := by obtain ⟨_, _, e, q1, q2, -⟩ := hS; simp only [Value.slice.injEq] at e; obtain ⟨-, -, rfl⟩ := e; exact ⟨q1, q2⟩
  generalize hg : l[a] = g at *
  obtain ⟨ea, ec, he, f3, f4, -⟩ := id hel
  subst he
  obtain ⟨b', o', u', rfl, -, hu', htx⟩ := RowAt.get hel i hi
  generalize g[i] = ps at *
  obtain ⟨ta, tc, ht, f5, f6, -⟩ := id htx
  subst ht
  obtain ⟨b2, o2, u2, rfl, -, hu2, rfl⟩ := RowAt.get htx 0 h1
  rw [Nat.add_zero] at hu2
  have HY : Hid (ps.headD [] = ps[0]) := by
    show _ = _
    cases ps with
    | nil => simp at h1
    | cons x r => rfl
  generalize ps[0] = x at *
  have hs1 : ((a : Int) + 1) - 1 = (a : Int) := by omega
  have hcast : ((a + 1 : Nat) : Int) = (a : Int) + 1 := by omega
  rw [hcast] at b1
  unfold maxLen at f4 f6
  clear hS hel htx hb hg hcast
  go_enter Tryz.func34, Tryz.ntmps34
  go_wp2_with fail
  go_quiet (fail)
  go_wp2
  go_ret
  exact ⟨by rw [HX.out, HY.out]; rfl, ⟨_, rfl⟩⟩
theorem allBut_step {but : Int} {k : Nat} {r : List (List Tx)} {ps : List Tx} {q : List (List Tx)} (h : r.drop k = ps :: q) : allBut but (k + 1) (r.drop k) = ((decide (((k + 1 : Nat) : Int) = but) || decide (ps.length = 1)) && allBut but (k + 2) (r.drop (k + 1))) := by
  have h2 : r.drop (k + 1) = q := by
    have := congrArg (List.drop 1) h
    simpa [List.drop_drop, Nat.add_comm] using this
  rw [h, h2]; rfl

set_option maxHeartbeats 8000000 in
theorem ris_q (p : Nat) (la : Option Addr) (lc a n : Nat) (t : Tx) (but : Int) (l : List Sg) (w : World) (hb : SgBox p la l.length lc a w) (hS : SgAt All w (.slice la l.length lc) l) (hn : Nm l) (ha : a ≤ l.length) (hl : l.length ≤ 100000) (h1 : 1 ≤ n) (h10 : n ≤ 10) :
    Calls Tryz.prog 32 #[.pointer (some ⟨p, 0, none⟩), .string (mk t), .int .i64 (n : Int), .int .i64 but] w fun e w' => e = .returned (.bool (isB (l.drop a) t n but)) ∧ ∃ q, w' = w.drewN q := by
  obtain ⟨b0, b1⟩ := hb.cells
  by_cases hlt : a < l.length
  case neg =>
    have HX : Hid (isB (l.drop a) t n but = false) := by show _ = _; rw [List.drop_eq_nil_of_le (by omega)]; rfl
    have hge : (l.length : Int) ≤ (a : Int) := by omega
    clear hS hb hn hlt
    go_enter Tryz.func32, Tryz.ntmps32
    go_wp2_with fail
    go_quiet (fail)
    go_wp2
    go_ret
    exact ⟨by rw [HX.out]; rfl, ⟨_, rfl⟩⟩
  have hge : ¬ (l.length : Int) ≤ (a : Int) := by omega
  obtain ⟨b, o, u, rfl, -, hu, hel⟩ := RowAt.get hS a hlt
  obtain ⟨t0, r, hgr⟩ := named_form (hn _ (List.getElem_mem hlt))
  have HD : Hid (isB (l.drop a) t n but = (decide (r.length + 1 = n) && (decide (t0 = t) && allBut but 1 r))) := by
    show _ = _
    rw [drop_cons hlt, hgr]
    rfl
  obtain ⟨f1, f2⟩ : l.length ≤ lc ∧ lc ≤ 9223372036854775807 := by obtain ⟨_, _, e, q1, q2, -⟩ := hS; simp only [Value.slice.injEq] at e; obtain ⟨-, -, rfl⟩ := e; exact ⟨q1, q2⟩
  rw [hgr] at hel
  obtain ⟨ea, ec, he, f3, f4, -⟩ := id hel
  subst he
  obtain ⟨b', o', u', rfl, -, hu', htx⟩ := RowAt.get hel 0 (by simp)
  have htx' : TxAt All w u' [t0] := htx
  obtain ⟨ta, tc, ht, f5, f6, -⟩ := id htx'
  subst ht
  obtain ⟨b2, o2, u2, rfl, -, hu2, rfl⟩ := RowAt.get htx' 0 (by simp)
  rw [Nat.add_zero] at hu2 hu'
  have hu2' : w.cell? ⟨b2, o2, none⟩ = some (.string (mk t0)) := hu2
  have heq := Cm.mk_ne t0 t
  unfold maxLen at f4 f6
  have HE := Lib.hid hel
  simp only [List.length_cons] at hu f3
  have hlr : ([t0] :: r).length = r.length + 1 := rfl
  clear hS hb hn hgr htx htx' hu2 hel
  by_cases hrn : r.length + 1 = n
  case neg =>
    have HX : Hid (isB (l.drop a) t n but = false) := by show _ = _; rw [HD.out, decide_eq_false hrn]; rfl
    have hne : (((r.length : Int) + 1) != (n : Int)) = true := by simp; omega
    clear hrn
    go_enter Tryz.func32, Tryz.ntmps32
    go_wp2_with fail
    go_quiet (fail)
    go_wp2_with fail
    go_quiet (fail)
    go_wp2
    go_ret
    exact ⟨by rw [HX.out]; rfl, ⟨_, rfl⟩⟩
  have hne : (((r.length : Int) + 1) != (n : Int)) = false := by simp; omega
  rw [decide_eq_true hrn] at HD
  by_cases htt : t0 = t
  case neg =>
    have HX : Hid (isB (l.drop a) t n but = false) := by show _ = _; rw [HD.out, decide_eq_false htt]; rfl
    rw [decide_eq_false htt] at heq
    clear hrn htt
    go_enter Tryz.func32, Tryz.ntmps32
    go_wp2_with fail
    go_quiet (fail)
    go_wp2_with fail
    go_quiet (fail)
    go_wp2
    go_ret
    exact ⟨by rw [HX.out]; rfl, ⟨_, rfl⟩⟩
  have HX : Hid (isB (l.drop a) t n but = allBut but 1 r) := by show _ = _; rw [HD.out, decide_eq_true htt]; rfl
  rw [decide_eq_true htt] at heq
  have HRN := Lib.hid hrn
  clear hrn htt HD
  go_enter Tryz.func32, Tryz.ntmps32
  go_wp2_with fail
  go_quiet (fail)
  go_wp2_with fail
  go_quiet (fail)
  go_wp2
  go_loopg [10] (n) (fun g i wr => ∃ k : Nat, k < n ∧ g = n - k ∧ i = .int .i64 ((k : Int) + 1) ∧ Hid (allBut but 1 r = allBut but (k + 1) (r.drop k)) ∧ Hid (∃ q, wr = w.drewN q))
  case atStart => exact ⟨0, by omega, rfl, by simp, rfl, ⟨_, rfl⟩⟩
  case round =>
    obtain ⟨k, hk, hg, rfl, HA, HB⟩ := hrel
    by_cases hkn : k + 1 < n
    · have hkr : k < r.length := by have := HRN.out; omega
      have hd : r.drop k = r[k] :: r.drop (k + 1) := List.drop_eq_getElem_cons hkr
      have HST := Lib.hid (allBut_step (but := but) hd)
      obtain ⟨b9, o9, u9, e9, -, hu9, htx9⟩ := RowAt.get (ElAt.move HE.out (Below.moves (below_drewq HB.out))) (k + 1) (by simp; omega)
      simp only [Option.some.injEq, Addr.mk.injEq, and_true] at e9
      obtain ⟨rfl, rfl⟩ := e9
      have htx9' : TxAt All wr u9 r[k] := htx9
      generalize r[k] = ps at *
      obtain ⟨ta9, tc9, ht9, g5, g6, -⟩ := id htx9'
      subst ht9
      have hkI : (k : Int) + 1 < (n : Int) := by omega
      have hk1 : k + 1 < r.length + 1 := by omega
      unfold maxLen at g6
      clear htx9 htx9' hd
      by_cases hbut : ((k + 1 : Nat) : Int) = but
      · have hbI : (((k : Int) + 1) != but) = false := by rw [bne_eq_false_iff_eq]; omega
        have HN : Hid (allBut but 1 r = allBut but (k + 2) (r.drop (k + 1))) := by show _ = _; rw [HA.out, HST.out, decide_eq_true hbut]; rfl
        clear hbut
        go_wp2
        go_roundg (n - (k + 1))
        case rel => exact ⟨k + 1, hkn, rfl, by go_num, HN.out, HB.out⟩
        case measure => omega
      have hbI : (((k : Int) + 1) != but) = true := by rw [bne_iff_ne]; omega
      by_cases hone : ps.length = 1
      · have hoI : ((ps.length : Int) != 1) = false := by rw [bne_eq_false_iff_eq]; omega
        have HN : Hid (allBut but 1 r = allBut but (k + 2) (r.drop (k + 1))) := by show _ = _; rw [HA.out, HST.out, decide_eq_true hone, Bool.or_true]; rfl
        clear hbut hone
        go_wp2
        go_roundg (n - (k + 1))
        case rel => exact ⟨k + 1, hkn, rfl, by go_num, HN.out, HB.out⟩
        case measure => omega
      · have hoI : ((ps.length : Int) != 1) = true := by rw [bne_iff_ne]; omega
        have HN : Hid (allBut but 1 r = false) := by show _ = _; rw [HA.out, HST.out, decide_eq_false hbut, decide_eq_false hone]; rfl
        clear hbut hone
        go_wp2
        go_ret
        exact ⟨by rw [HX.out, HN.out]; rfl, HB.out⟩
    · have hkI : ¬ (k : Int) + 1 < (n : Int) := by omega
      have HN : Hid (allBut but 1 r = true) := by show _ = _; rw [HA.out, List.drop_eq_nil_of_le (by have := HRN.out; omega)]; rfl
      clear hkn
      go_wp2
      go_ret
      exact ⟨by rw [HX.out, HN.out]; rfl, HB.out⟩
theorem rel_any (p : Nat) (la : Option Addr) (lc a i : Nat) (l : List Sg) (w : World) (hb : SgBox p la l.length lc (a + 1) w) (hS : SgAt All w (.slice la l.length lc) l) (ha : a < l.length) (hl : l.length ≤ 100000) (hi : i < (l[a]).length) (h1 : 0 < ((l[a])[i]).length) (hi10 : i ≤ 10) :
    Calls Tryz.prog 34 #[.pointer (some ⟨p, 0, none⟩), .int .i64 (i : Int)] w fun e w' => e = .returned (.string (mk (tx (l.drop a) i))) ∧ Below w.heap.size w w' :=
  (rel_q p la lc a i l w hb hS ha hl hi h1 hi10).mono fun _ _ ⟨h, hw⟩ => ⟨h, below_drewq hw⟩
theorem ris_any (p : Nat) (la : Option Addr) (lc a n : Nat) (t : Tx) (but : Int) (l : List Sg) (w : World) (hb : SgBox p la l.length lc a w) (hS : SgAt All w (.slice la l.length lc) l) (hn : Nm l) (ha : a ≤ l.length) (hl : l.length ≤ 100000) (h1 : 1 ≤ n) (h10 : n ≤ 10) :
    Calls Tryz.prog 32 #[.pointer (some ⟨p, 0, none⟩), .string (mk t), .int .i64 (n : Int), .int .i64 but] w fun e w' => e = .returned (.bool (isB (l.drop a) t n but)) ∧ Below w.heap.size w w' :=
  (ris_q p la lc a n t but l w hb hS hn ha hl h1 h10).mono fun _ _ ⟨h, hw⟩ => ⟨h, below_drewq hw⟩
end Go.Proofs.YtpmnepihaljamaaGreatDoor
end

/-
  What the reference's number answers, as a contract: of a text of at most 18 letters.
-/
section
namespace Go.Proofs.YtpmnepihaljamaaGreatDoor.Nu
open Go.RowKit

def rnum (l : List UInt8) : Int := if (!l.isEmpty && allD l) = true then (numL l : Int) else -1
theorem rnum_some (l : List UInt8) (h1 : l ≠ []) (h2 : allD l = true) : rnum l = numL l := by
  unfold rnum
  cases l with
  | nil => exact absurd rfl h1
  | cons a t => simp [h2]
theorem rnum_none (l : List UInt8) (h : l = [] ∨ allD l = false) : rnum l = -1 := by
  unfold rnum
  rcases h with h | h <;> simp [h]

set_option maxHeartbeats 1000000 in
theorem rnumber_any (s : ByteArray) (w : World) (hs : s.size ≤ 18) :
    Calls Tryz.prog 69 #[.string s] w fun e w' => e = .returned (.int .i64 (rnum s.data.toList)) ∧ w' = w := by
  have el : s.data.toList.length = s.size := (Lib.size_eq s).symm
  have HT := Lib.hid (Lib.toList_data s)
  have HL := Lib.hid el
  clear el
  by_cases h0 : s.toList = []
  · have H1 := Lib.hid (rnum_none s.data.toList (Or.inl (by rw [← HT.out]; exact h0)))
    go_enter Tryz.func69, Tryz.ntmps69
    go_wp2
    go_ret
    exact ⟨by rw [H1.out]; rfl, rfl⟩
  · have hie : s.toList.isEmpty = false := by cases e : s.toList with
      | nil => exact absurd e h0
      | cons a t => rfl
    have HN := Lib.hid (show s.data.toList ≠ [] by rw [← HT.out]; exact h0)
    go_enter Tryz.func69, Tryz.ntmps69
    go_wp2
    go_loop [3, 4] (fun n i => ∃ k : Nat, k ≤ s.size ∧ i = .int .i64 k ∧ n = .int .i64 (numL (s.data.toList.take k)) ∧ allD (s.data.toList.take k) = true) (fun _ i => s.size - (intOf i).toNat)
    case atStart => exact ⟨0, Nat.zero_le _, rfl, rfl, rfl⟩
    case round =>
      obtain ⟨k, hk, rfl, rfl, ha⟩ := hrel
      have HA := Lib.hid ha
      clear ha
      by_cases hlt : k < s.size
      · have HS : Hid (numL (s.data.toList.take (k + 1)) = numL (s.data.toList.take k) * 10 + (s[k].toNat - 48)) := by
          show numL (s.data.toList.take (k + 1)) = _
          rw [take_snoc s k hlt, numL_snoc]
        have HD : Hid (allD (s.data.toList.take (k + 1)) = isD s[k]) := by
          show allD (s.data.toList.take (k + 1)) = isD s[k]
          rw [take_snoc s k hlt, allD_snoc, HA.out]; simp
        have hb : numL (s.data.toList.take k) < 100000000000000000 := by
          have h1 := numL_lt (s.data.toList.take k) HA.out
          have h2 : (s.data.toList.take k).length ≤ 17 := by simp; omega
          have h3 : 10 ^ (s.data.toList.take k).length ≤ 10 ^ 17 := Nat.pow_le_pow_right (by omega) h2
          have h4 : (10 : Nat) ^ 17 = 100000000000000000 := rfl
          omega
        by_cases h1 : (s[k].toNat : Int) < 48
        · have HF : Hid (rnum s.data.toList = -1) := by
            refine rnum_none _ (Or.inr ?_)
            cases e : allD s.data.toList
            · rfl
            · have := (isD_iff _).1 (isD_mem s k hlt e); omega
          go_wp2
          go_ret
          exact ⟨by rw [HF.out]; rfl, rfl⟩
        · by_cases h2 : 57 < (s[k].toNat : Int)
          · have HF : Hid (rnum s.data.toList = -1) := by
              refine rnum_none _ (Or.inr ?_)
              cases e : allD s.data.toList
              · rfl
              · have := (isD_iff _).1 (isD_mem s k hlt e); omega
            go_wp2
            go_ret
            exact ⟨by rw [HF.out]; rfl, rfl⟩
          · go_wp2
            go_round
            case rel => exact ⟨k + 1, by omega, by go_num, by rw [HS.out]; go_num, by rw [HD.out, isD_iff]; omega⟩
            case measure => simp [intOf]; omega
      · have HF : Hid (rnum s.data.toList = numL (s.data.toList.take k)) := by
          show rnum s.data.toList = _
          rw [take_all s k (by omega)]
          exact rnum_some _ HN.out (by rw [← take_all s k (by omega)]; exact HA.out)
        go_wp2
        go_ret
        exact ⟨by rw [HF.out]; rfl, rfl⟩
end Go.Proofs.YtpmnepihaljamaaGreatDoor.Nu
end

/-
  What the reference's ReadInt answers, as a contract: of every text and every int.
-/
section
namespace Go.Proofs.YtpmnepihaljamaaGreatDoor.Nu
open Go.RowKit Go.Sort Go.Lib

theorem canon_num (l : List UInt8) : (decDigits (numL l) == l) = canon l := by
  rw [Bool.eq_iff_iff, beq_iff_eq]
  exact canon_iff l
theorem itoa_num (l : List UInt8) : Lib.itoa (numL l : Int) = decDigits (numL l) := Lib.itoa_nonneg _

set_option maxHeartbeats 1000000 in
theorem rreadInt_any (s : ByteArray) (most : Int) (w : World) :
    Calls Tryz.prog 33 #[.string s, .int .i64 most] w fun e w' => e = .returned (.tuple #[.int .i64 (riV s.data.toList most), .int .i64 (riE s.data.toList most)]) ∧ Grw w w' := by
  have el : s.data.toList.length = s.size := (Lib.size_eq s).symm
  have HT := Lib.hid (Lib.toList_data s)
  have hw : Grw w w := grw_refl w
  by_cases hlen : (s.size : Int) ≤ most ∧ s.size ≤ 18
  · have HR := Lib.hid (ri_short s.data.toList most (by rw [el]; exact hlen))
    obtain ⟨hl1, hl2⟩ := hlen
    have d1 : decide (18 < (s.size : Int)) = false := by rw [decide_eq_false_iff_not]; omega
    have d2 : decide (most < (s.size : Int)) = false := by rw [decide_eq_false_iff_not]; omega
    by_cases hok : s.data.toList = [] ∨ allD s.data.toList = false
    · have hv := rnum_none _ hok
      obtain ⟨e1, e2⟩ := ri_none s.data.toList most (by
        rcases hok with h | h
        · rw [h]; exact ri_nil _
        · exact ri_notD _ _ h)
      have H1 := Lib.hid e1
      have H2 := Lib.hid e2
      clear e1 e2 hok el
      go_enter Tryz.func33, Tryz.ntmps33
      go_wp2_with (first | (go_at_call 69; refine (rnumber_any s _ hl2).mono ?_; rintro e w' ⟨rfl, rfl⟩))
      go_ret2
      exact ⟨by rw [H1.out, H2.out]; rfl, hw⟩
    · have hne : s.data.toList ≠ [] := fun e => hok (Or.inl e)
      have ha : allD s.data.toList = true := by
        cases e : allD s.data.toList
        · exact absurd (Or.inr e) hok
        · rfl
      have hv := rnum_some _ hne ha
      have hb : numL s.data.toList < 1000000000000000000 := by
        have h1 := numL_lt _ ha
        have h2 : 10 ^ s.data.toList.length ≤ 10 ^ 18 := Nat.pow_le_pow_right (by omega) (by omega)
        have h3 : (10 : Nat) ^ 18 = 1000000000000000000 := rfl
        omega
      have HC := Lib.hid (canon_num s.data.toList)
      have HL := Lib.hid (itoa_num s.data.toList)
      have dn : decide ((numL s.data.toList : Int) < 0) = false := by rw [decide_eq_false_iff_not]; omega
      clear hok el hne ha
      cases hc : canon s.data.toList
      · obtain ⟨e1, e2⟩ := ri_none s.data.toList most (by rw [HR.out]; exact hc)
        have H1 := Lib.hid e1
        have H2 := Lib.hid e2
        have hq : (Lib.itoa (numL s.data.toList : Int) == s.toList) = false := by rw [HL.out, HT.out, HC.out]; exact hc
        clear e1 e2 hc
        go_enter Tryz.func33, Tryz.ntmps33
        go_wp2_with (first | (go_at_call 69; refine (rnumber_any s _ hl2).mono ?_; rintro e w' ⟨rfl, rfl⟩) | (go_at_call 52; refine (rint_any _ (by omega) (by omega) _).mono ?_; rintro e w1 ⟨rfl, g1⟩; replace hw := grw_trans hw g1; clear g1))
        go_ret2
        exact ⟨by rw [H1.out, H2.out]; rfl, hw⟩
      · obtain ⟨e1, e2⟩ := ri_some s.data.toList most (by rw [HR.out]; exact hc)
        have H1 := Lib.hid e1
        have H2 := Lib.hid e2
        have hq : (Lib.itoa (numL s.data.toList : Int) == s.toList) = true := by rw [HL.out, HT.out, HC.out]; exact hc
        clear e1 e2 hc
        go_enter Tryz.func33, Tryz.ntmps33
        go_wp2_with (first | (go_at_call 69; refine (rnumber_any s _ hl2).mono ?_; rintro e w' ⟨rfl, rfl⟩) | (go_at_call 52; refine (rint_any _ (by omega) (by omega) _).mono ?_; rintro e w1 ⟨rfl, g1⟩; replace hw := grw_trans hw g1; clear g1))
        go_ret2
        exact ⟨by rw [H1.out, H2.out]; rfl, hw⟩
  · obtain ⟨e1, e2⟩ := ri_none _ _ (ri_long s.data.toList most (by rw [el]; exact hlen))
    have H1 := Lib.hid e1
    have H2 := Lib.hid e2
    clear e1 e2 el
    by_cases h18 : 18 < (s.size : Int)
    · clear hlen
      go_enter Tryz.func33, Tryz.ntmps33
      go_wp2
      go_ret2
      exact ⟨by rw [H1.out, H2.out]; rfl, hw⟩
    · have hm : most < (s.size : Int) := by omega
      clear hlen
      go_enter Tryz.func33, Tryz.ntmps33
      go_wp2
      go_ret2
      exact ⟨by rw [H1.out, H2.out]; rfl, hw⟩
end Go.Proofs.YtpmnepihaljamaaGreatDoor.Nu
end
