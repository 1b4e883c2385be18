/-
  Texts put together (merge.py): ESeg, ERd, ETx.
-/
import Derived.Deep.DeepCutAuto
import Derived.Test.YtpmnepihaljamaaGreatDoorM20
import Derived.Test.YtpmnepihaljamaaGreatDoorM11
import Derived.Test.YtpmnepihaljamaaGreatDoorM3
/-
  What eight.segment and eight.whole answer, as contracts: a segment of so many elements, each of one part, in new memory; a number as a text.
-/
section
set_option linter.unusedSimpArgs false
namespace Go.Proofs.YtpmnepihaljamaaGreatDoor
open Go.RowKit

theorem whole_any (n : Int) (w : World) (hT : Tab w) (h0 : -9223372036854775808 ≤ n) (h1 : n ≤ 9223372036854775807) :
    Calls Tryz.prog 22 #[.int .i64 n] w fun e w' => e = .returned (.string (mk (Lib.itoa n))) ∧ Below w.heap.size w w' := by
  have HI := Lib.hid (Nu.int_any n h0 h1 w hT.2.2)
  have HK : Hid ((⟨(Lib.itoa n).toArray⟩ : ByteArray) = mk (Lib.itoa n)) := rfl
  generalize mk (Lib.itoa n) = q at *
  rw [HK.out] at HI
  clear HK
  go_enter Tryz.func22, Tryz.ntmps22
  go_wp2_with (first | (go_at_call 41; refine HI.out.mono ?_; rintro e w1 ⟨rfl, hb⟩; have HB := Lib.hid hb; clear hb))
  go_ret
  exact ⟨rfl, HB.out⟩

set_option maxHeartbeats 2000000 in
theorem eseg_any (v : Value) (ts : List Tx) (w : World) (h : TxAt All w v ts) (hn : ts.length ≤ 1000) :
    Calls Tryz.prog 21 #[v] w fun x w' => (∃ u, x = .returned (.agg #[u]) ∧ SegAt w.heap.size ts u w') ∧ Below w.heap.size w w' := by
  have hv := h
  obtain ⟨a, c, rfl, h1, h2, -⟩ := h
  unfold maxLen at h2
  have HV : Hid (TxAt All w (.slice a ts.length c) ts) := hv
  clear hv
  obtain ⟨i48, t1, t2, t3, t4⟩ := info48
  have hmk : ∀ w : World, (Instr.makeSlice 48 (.int .i64 0) (.int .i64 (ts.length : Int))).run Tryz.prog w = .ok (.slice (some ⟨w.heap.size, 0, none⟩) 0 ts.length) (w.alloc (.cells (madeCells (Value.slice none 0 0).cells ts.length) 45)) := fun w => by
    have := run_make (P := Tryz.prog) w 48 45 i48 _ Tryz.underlying48 t1 t2 .i64 .i64 0 ts.length (by omega) (by omega) (by rw [t4]; omega) (by omega)
    rw [t3, Nat.mul_one] at this
    simpa using this
  go_enter Tryz.func21, Tryz.ntmps21
  go_wp2
  go_loopg [12] (ts.length) (fun gg i wr => ∃ (k : Nat) (gv : Value) (ps : List Nat) (tk : List Tx), tk.length ≤ 1000 ∧ Hid (tk = ts.take k) ∧ k ≤ ts.length ∧ gg = ts.length - k ∧ i = .int .i64 k ∧ w.heap.size ≤ wr.heap.size ∧ Hid (Sq w.heap.size (w.heap.size + 2) tk ps gv wr) ∧ Hid (∃ cv, wr.heap[w.heap.size]? = some (.cells #[cv] 50 (0, 0))) ∧ Hid (Below w.heap.size w wr))
  case atStart =>
    refine ⟨0, _, _, [], by simp, by show _ = _; simp, Nat.zero_le _, rfl, rfl, by simp; omega, Sq.start w ts.length (by simp only [maxLen]; omega), ⟨.slice none 0 0, ?_⟩, below_trans (below_trans (below_alloc w _) (below_alloc _ _)) (below_alloc _ _)⟩
    rw [(below_trans (below_alloc _ _) (below_alloc _ _)).block w.heap.size (by simp)]
    exact heap_alloc_new w _
  case round =>
    clear hmk
    obtain ⟨k, gv, ps, tk, hlen, HTK, hk, hgk, rfl, hBw, HSt, HR, HB⟩ := hrel
    have HX : Hid (wr.heap[w.heap.size + 2]? = some (.cells #[gv] 50 (0, 0))) := HSt.out.box
    have hbx : wr.cell? ⟨w.heap.size + 2, 0, none⟩ = some gv := by rw [cell_of_row wr _ 0 _ 50 (0, 0) HX.out]; rfl
    have hlx := HSt.out.lt
    obtain ⟨ga0, gc0, rfl⟩ := own_form HSt.out.own
    by_cases hlt : k < ts.length
    · obtain ⟨b, o, u, rfl, hx, hu, rfl⟩ := RowAt.get (TxAt.move HV.out (Below.moves HB.out)) k hlt
      have HO : Hid (tk ++ [ts[k]] = ts.take (k + 1)) := by show _ = _; rw [List.take_add_one, hx, HTK.out]; rfl
      have hlen1 : (tk ++ [ts[k]]).length ≤ 1000 := by rw [HO.out, List.length_take]; omega
      have HLN := Lib.hid hlen1
      clear hlen1
      clear hx
      generalize ts[k] = x at *
      have hl1 : (tk ++ [x]).length = tk.length + 1 := by simp
      have HL1 := Lib.hid hl1
      clear hl1
      have hlay := Sq.lay HSt.out x hBw (.cells #[slc wr.heap.size] 45)
      have HOE := Lib.hid hlay.1
      have HPT := Lib.hid hlay.2.1
      have HBX := Lib.hid hlay.2.2
      clear hlay
      have HB2 := Lib.hid (below_trans HB.out (below_trans (below_alloc wr (.cells #[.string (mk x)] 9)) (below_alloc _ (.cells #[slc wr.heap.size] 45))))
      have hcl := cell_one_new (wr.alloc (.cells #[.string (mk x)] 9)) (slc wr.heap.size) 45
      rw [show (wr.alloc (.cells #[.string (mk x)] 9)).heap.size = wr.heap.size + 1 from by simp] at hcl
      have HCL := Lib.hid hcl
      obtain ⟨cv, hcv⟩ := HR.out
      have HCV := Lib.hid hcv
      have hlc : w.heap.size < wr.heap.size := (Array.getElem?_eq_some_iff.1 hcv).1
      clear hcl hcv
      go_wp2_with (at_builtin; refine wpList_append_own_at _ (by rfl) _ _ 48 (by rfl) w.heap.size 45 i48 (.slice none 0 0) 1 24 Tryz.underlying48 t1 t2 t3 t4 (by rfl) (by omega) (.slice ga0 tk.length gc0) tk.length (ps.map slc) (by rfl) HOE.out ⟨wr.heap.size + 1, 0, none⟩ 1 1 [slc wr.heap.size] (by rfl) (by rfl) HCL.out ?c2 ?c3 ?c4 ?c5 ?_)
      case c2 => intro u hu; simp at hu; subst hu; rfl
      case c3 => simp only [maxLen]; omega
      case c4 => omega
      case c5 => simp; omega
      intro gv8 w8 hown hgrow hnil hat
      obtain ⟨ga, gc, rfl⟩ := own_form hown
      have hsz2 : w.heap.size ≤ ((wr.alloc (.cells #[.string (mk x)] 9)).alloc (.cells #[slc wr.heap.size] 45)).heap.size := HB2.out.size
      have HB8 := Lib.hid (HB2.out.grown hgrow hsz2 fun k hk => (HOE.out.lt k hk).1)
      have hbox8 : w8.heap[w.heap.size + 2]? = some (.cells #[.slice ga0 tk.length gc0] 50 (0, 0)) := by
        rw [hgrow.block (w.heap.size + 2) (Array.getElem?_eq_some_iff.1 HBX.out).1 (Ne.symm (own_box HOE.out HBX.out (by decide)))]
        exact HBX.out
      have hcx8 : w8.cell? ⟨w.heap.size + 2, 0, none⟩ = some (.slice ga0 tk.length gc0) := by rw [cell_of_row w8 _ 0 _ 50 (0, 0) hbox8]; rfl
      have hfx8 : w8.frozen? ⟨w.heap.size + 2, 0, none⟩ = false := Lib.frozen_of_heap hbox8 0
      have HS9 : Hid (Sq w.heap.size (w.heap.size + 2) (tk ++ [x]) (ps ++ [wr.heap.size]) (.slice ga (tk.length + 1) gc) (w8.setCell ⟨w.heap.size + 2, 0, none⟩ (.slice ga (tk.length + 1) gc))) := Sq.elem HOE.out HPT.out HBX.out (by rw [HL1.out]; exact hown) hgrow
      have HR9 : Hid (∃ cv, (w8.setCell ⟨w.heap.size + 2, 0, none⟩ (.slice ga (tk.length + 1) gc)).heap[w.heap.size]? = some (.cells #[cv] 50 (0, 0))) := by
        refine ⟨cv, ?_⟩
        have hc2 : ((wr.alloc (.cells #[.string (mk x)] 9)).alloc (.cells #[slc wr.heap.size] 45)).heap[w.heap.size]? = some (.cells #[cv] 50 (0, 0)) := by
          rw [(below_trans (below_alloc wr (.cells #[.string (mk x)] 9)) (below_alloc _ (.cells #[slc wr.heap.size] 45))).block _ hlc]; exact HCV.out
        rw [Below.heap_setCell _ _ _ _ (by show w.heap.size ≠ w.heap.size + 2; omega), hgrow.block w.heap.size (by simp; omega) (Ne.symm (own_box HOE.out hc2 (by decide)))]
        exact hc2
      have HB9 := Lib.hid (HB8.out.setCell (p := ⟨w.heap.size + 2, 0, none⟩) (by show w.heap.size ≤ w.heap.size + 2; omega) (.slice ga (tk.length + 1) gc))
      clear hown hgrow hnil hat hbox8 hsz2 HB8 HOE HCL
      go_wp2
      go_roundg (ts.length - (k + 1))
      case rel => exact ⟨k + 1, _, _, _, HLN.out, HO.out, by omega, rfl, by go_num, HB9.out.size, HS9.out, HR9.out, HB9.out⟩
      case measure => omega
    · have HO : Hid (tk = ts) := by show _ = _; rw [HTK.out, List.take_of_length_le (by omega)]
      obtain ⟨cv, hcv⟩ := HR.out
      have hcs : wr.cell? ⟨w.heap.size, 0, none⟩ = some cv := by rw [cell_of_row wr _ 0 _ 50 (0, 0) hcv]; rfl
      have hfr : wr.frozen? ⟨w.heap.size, 0, none⟩ = false := Lib.frozen_of_heap hcv 0
      have HE9 := Lib.hid (Sq.done (v := .slice ga0 tk.length gc0) HSt.out hcv)
      have HB9 := Lib.hid (HB.out.setCell (p := ⟨w.heap.size, 0, none⟩) (Nat.le_refl _) (.slice ga0 tk.length gc0))
      clear hcv
      go_wp2
      refine bodyPost_ret (v := .agg #[.slice ga0 tk.length gc0]) (by simp [results, Tryz.results21, go_sem, hcs]) rfl ?_
      refine ⟨⟨_, rfl, ?_⟩, HB9.out⟩
      have := HE9.out
      have e := HO.out
      subst e
      exact this
end Go.Proofs.YtpmnepihaljamaaGreatDoor
end

/-
  What eight.name, behind, texts and placed answer, as contracts.
-/
section
set_option linter.unusedSimpArgs false
set_option maxRecDepth 100000
namespace Go.Proofs.YtpmnepihaljamaaGreatDoor
open Go.RowKit
open Et

def Nm (l : List Sg) : Prop := ∀ g ∈ l, namedB g = true
theorem Nm.tail {l : List Sg} (h : Nm l) : Nm l.tail := fun g hg => h g (List.mem_of_mem_tail hg)
theorem named_form {g : Sg} (h : namedB g = true) : ∃ t r, g = [t] :: r := by
  unfold namedB at h
  split at h
  · exact ⟨_, _, rfl⟩
  · cases h
/-- A named segment's memory, laid open. -/
theorem el_open {w : World} {u : Value} {t : Tx} {r : Sg} (h : ElAt All w u ([t] :: r)) : ∃ b o c b2 o2 c2, u = .slice (some ⟨b, o, none⟩) (r.length + 1) c ∧ r.length + 1 ≤ c ∧ c ≤ 9223372036854775807 ∧ w.cell? ⟨b, o, none⟩ = some (.slice (some ⟨b2, o2, none⟩) 1 c2) ∧ 1 ≤ c2 ∧ w.cell? ⟨b2, o2, none⟩ = some (.string (mk t)) := by
  have h' := h
  obtain ⟨a, c, rfl, h1, h2, -⟩ := h
  obtain ⟨b, o, u0, rfl, -, hu, h3⟩ := RowAt.get h' 0 (by simp)
  have h3' := h3
  obtain ⟨a2, c2, e2, g1, g2, -⟩ := h3
  have e2' : u0 = .slice a2 1 c2 := e2
  subst e2'
  obtain ⟨b2, o2, u1, rfl, -, hu1, h4⟩ := RowAt.get (xs := [t]) h3' 0 (by simp)
  have h4' : u1 = .string (mk t) := h4
  subst h4'
  rw [Nat.add_zero] at hu hu1
  unfold maxLen at h2
  exact ⟨b, o, c, b2, o2, c2, rfl, h1, h2, hu, g1, hu1⟩

set_option maxHeartbeats 1000000 in
theorem name_any (u : Value) (g : Sg) (w : World) (h : ElAt All w u g) (hn : namedB g = true) :
    Calls Tryz.prog 126 #[.agg #[u]] w fun e w' => e = .returned (.string (mk ((g.headD []).headD []))) ∧ Below w.heap.size w w' := by
  obtain ⟨t, r, rfl⟩ := named_form hn
  have HB := Lib.hid (below_alloc w (.cells #[u] 50))
  have h2 := ElAt.move h (Below.moves HB.out)
  obtain ⟨b, o, c, b2, o2, c2, rfl, q1, q2, k1, q3, k2⟩ := el_open h
  obtain ⟨b', o', c', b2', o2', c2', e, -, -, k1', -, k2'⟩ := el_open h2
  simp only [Value.slice.injEq, Option.some.injEq, Addr.mk.injEq] at e
  obtain ⟨⟨rfl, rfl, -⟩, -, rfl⟩ := e
  have HT : Hid ((([t] :: r : Sg).headD []).headD [] = t) := rfl
  clear h h2 hn k1 k2
  go_enter Tryz.func126, Tryz.ntmps126
  go_wp2
  go_ret
  exact ⟨rfl, HB.out⟩

theorem sg_open {w : World} {v : Value} {g : Sg} {r : List Sg} (h : SgAt All w v (g :: r)) : ∃ b o c u, v = .slice (some ⟨b, o, none⟩) (r.length + 1) c ∧ r.length + 1 ≤ c ∧ c ≤ 9223372036854775807 ∧ w.cell? ⟨b, o, none⟩ = some u ∧ ElAt All w u g := by
  have h' := h
  obtain ⟨a, c, rfl, h1, h2, -⟩ := h
  obtain ⟨b, o, u0, rfl, -, hu, h3⟩ := RowAt.get h' 0 (by simp)
  rw [Nat.add_zero] at hu
  unfold maxLen at h2
  exact ⟨b, o, c, u0, rfl, h1, h2, hu, h3⟩
/-- A row without its first. -/
theorem RowAt.tail {α : Type} {K : Nat → Prop} {R : World → Value → α → Prop} {w : World} {b o n c : Nat} {x : α} {xs : List α} (h : RowAt K R w (.slice (some ⟨b, o, none⟩) n c) (x :: xs)) : RowAt K R w (.slice (some ⟨b, o + 1, none⟩) xs.length (c - 1)) xs := by
  obtain ⟨a, c', e, h1, h2, h3⟩ := h
  simp only [Value.slice.injEq] at e
  obtain ⟨rfl, rfl, rfl⟩ := e
  refine ⟨_, _, rfl, by simp at h1; omega, by omega, ?_⟩
  rcases h3 with h3 | ⟨b', o', e, hk, hb, hc⟩
  · cases h3
  · simp only [Option.some.injEq, Addr.mk.injEq] at e
    obtain ⟨rfl, rfl, -⟩ := e
    refine Or.inr ⟨b, o + 1, rfl, hk, hb, fun j y hj => ?_⟩
    obtain ⟨u, hu, hr⟩ := hc (j + 1) y (by simpa using hj)
    exact ⟨u, by rw [show o + 1 + j = o + (j + 1) by omega]; exact hu, hr⟩
theorem RowAt.nil_of {α : Type} {K : Nat → Prop} {R : World → Value → α → Prop} {w : World} {a : Option Addr} {c : Nat} (hc : c ≤ maxLen) : RowAt K R w (.slice a 0 c) ([] : List α) := ⟨a, c, rfl, by simp, hc, Or.inl rfl⟩
theorem beh_no {l : List Sg} {t : Tx} {n : Nat} (h : behB l t n = false) : behV l t n = [] := by unfold behV; rw [h]; rfl
theorem beh_yes {l : List Sg} {t : Tx} {n : Nat} (h : behB l t n = true) : behV l t n = (l.headD []).tail := by unfold behV; rw [h]; rfl

set_option maxHeartbeats 2000000 in
theorem ebehind_any (v : Value) (l : List Sg) (t : Tx) (n : Nat) (w : World) (h : SgAt All w v l) (hn : Nm l) (h1 : 1 ≤ n) (h10 : n ≤ 10) :
    Calls Tryz.prog 98 #[v, .string (mk t), .int .i64 (n : Int)] w fun e w' => (∃ u, e = .returned (.tuple #[u, .bool (behB l t n)]) ∧ ElAt All w' u (behV l t n)) ∧ Below w.heap.size w w' := by
  cases l with
  | nil =>
    obtain ⟨a, c, rfl, h1', h2, -⟩ := h
    have HN := Lib.hid (ElAt.nil All w)
    go_enter Tryz.func98, Tryz.ntmps98
    go_wp2
    go_ret2
    exact ⟨⟨_, rfl, HN.out⟩, Below.refl _ _⟩
  | cons g r =>
    obtain ⟨b, o, c, u, rfl, q1, q2, k1, he⟩ := sg_open h
    obtain ⟨t0, rg, rfl⟩ := named_form (hn g (by simp))
    obtain ⟨b1, o1, c1, b2, o2, c2, rfl, q3, q4, k2, q5, k3⟩ := el_open he
    have HNm := Lib.hid (name_any _ _ w he (hn _ (by simp)))
    have HE := Lib.hid he
    rw [show ((([t0] :: rg : Sg).headD []).headD []) = t0 from rfl] at HNm
    have hb : behB (([t0] :: rg) :: r) t n = (decide (t0 = t) && decide (rg.length = n)) := by
      unfold behB
      show (true && (decide (t0 = t) && decide (rg.length + 1 = n + 1))) = _
      simp
    have heq := Cm.mk_ne t0 t
    have HCe : Hid (∀ W, Below w.heap.size w W → W.cell? ⟨b, o, none⟩ = some (.slice (some ⟨b1, o1, none⟩) (rg.length + 1) c1)) := fun W hW => by
      rw [hW.cell (p := ⟨b, o, none⟩) (World.block_lt_of_cell? w _ k1)]; exact k1
    clear h hn k2 k3
    by_cases e : t0 = t
    · rw [decide_eq_true e] at heq hb
      by_cases el : rg.length = n
      · rw [decide_eq_true el] at hb
        have HV := Lib.hid (beh_yes hb)
        have HB := Lib.hid hb
        have HTl : Hid (∀ W, Below w.heap.size w W → ElAt All W (.slice (some ⟨b1, o1 + 1, none⟩) rg.length (c1 - 1)) rg) := fun W hW => RowAt.tail (ElAt.move HE.out (Below.moves hW))
        have hln : (((rg.length + 1 : Nat) : Int) != ((n : Int) + 1)) = false := by simp; omega
        have hln' : ((rg.length : Int) + 1 != (n : Int) + 1) = false := by simp; omega
        have hc1 : ¬ c1 = 1 := by omega
        have hc2 : 1 < c1 := by omega
        clear hb he el
        go_enter Tryz.func98, Tryz.ntmps98
        go_wp2_with (first | (go_at_call 126; refine HNm.out.mono ?_; rintro x w1 ⟨rfl, hb1⟩; have HB1 := Lib.hid hb1; have k4 := HCe.out _ hb1; clear hb1))
        go_ret2
        refine ⟨⟨_, by rw [HB.out]; rfl, ?_⟩, HB1.out⟩
        rw [HV.out]
        have := HTl.out _ HB1.out
        simpa using this
      · rw [decide_eq_false el] at hb
        have HV := Lib.hid (beh_no hb)
        have HB := Lib.hid hb
        have HN := Lib.hid fun W => ElAt.nil All W
        have hln : (((rg.length + 1 : Nat) : Int) != ((n : Int) + 1)) = true := by simp; omega
        have hln' : ((rg.length : Int) + 1 != (n : Int) + 1) = true := by simp; omega
        clear hb he
        go_enter Tryz.func98, Tryz.ntmps98
        go_wp2_with (first | (go_at_call 126; refine HNm.out.mono ?_; rintro x w1 ⟨rfl, hb1⟩; have HB1 := Lib.hid hb1; have k4 := HCe.out _ hb1; clear hb1))
        go_ret2
        exact ⟨⟨_, by rw [HB.out]; rfl, by rw [HV.out]; exact HN.out _⟩, HB1.out⟩
    · rw [decide_eq_false e] at heq hb
      have hb' : behB (([t0] :: rg) :: r) t n = false := by rw [hb]; rfl
      have HV := Lib.hid (beh_no hb')
      have HB := Lib.hid hb'
      have HN := Lib.hid fun W => ElAt.nil All W
      clear hb hb' he
      go_enter Tryz.func98, Tryz.ntmps98
      go_wp2_with (first | (go_at_call 126; refine HNm.out.mono ?_; rintro x w1 ⟨rfl, hb1⟩; have HB1 := Lib.hid hb1; have k4 := HCe.out _ hb1; clear hb1))
      go_ret2
      exact ⟨⟨_, by rw [HB.out]; rfl, by rw [HV.out]; exact HN.out _⟩, HB1.out⟩
end Go.Proofs.YtpmnepihaljamaaGreatDoor
end

/-
  What eight.texts and placed answer, as contracts.
-/
section
set_option linter.unusedSimpArgs false
set_option maxRecDepth 100000
namespace Go.Proofs.YtpmnepihaljamaaGreatDoor
open Go.RowKit
open Et

theorem tx_no {l : List Sg} {t : Tx} {n : Nat} (h : txB l t n = false) : txV l t n = [] := by unfold txV; rw [h]; rfl
theorem tx_yes {l : List Sg} {t : Tx} {n : Nat} (h : txB l t n = true) : txV l t n = (l.headD []).tail.map (fun ps => ps.headD []) := by unfold txV; rw [h]; rfl
theorem beh_len {l : List Sg} {t : Tx} {n : Nat} (h : behB l t n = true) : (l.headD []).tail.length = n := by
  unfold behB at h
  simp only [Bool.and_eq_true, decide_eq_true_eq] at h
  have := h.2.2
  rw [List.length_tail]; omega
theorem tx_K {K : Nat → Prop} {w : World} {b o n c : Nat} {xs : List Tx} (h : TxAt All w (.slice (some ⟨b, o, none⟩) n c) xs) (hK : K b) : TxAt K w (.slice (some ⟨b, o, none⟩) n c) xs := by
  obtain ⟨a, c', e, h1, h2, h3⟩ := h
  simp only [Value.slice.injEq] at e
  obtain ⟨rfl, rfl, rfl⟩ := e
  refine ⟨_, _, rfl, h1, h2, h3.imp id ?_⟩
  rintro ⟨b', o', e, _, hb, hc⟩
  simp only [Option.some.injEq, Addr.mk.injEq] at e
  obtain ⟨rfl, rfl, -⟩ := e
  exact ⟨b, o, rfl, hK, hb, hc⟩
theorem len_one {α : Type} {l : List α} (h : l.length = 1) : ∃ a, l = [a] := by
  cases l with
  | nil => simp at h
  | cons a r => cases r with
    | nil => exact ⟨a, rfl⟩
    | cons b r => simp at h
theorem one_not {E : Sg} {j : Nat} {ps : List Tx} (hx : E[j]? = some ps) (h : ps.length ≠ 1) : oneB E = false := by
  unfold oneB
  rw [List.all_eq_false]
  exact ⟨ps, List.mem_of_getElem? hx, by simpa using h⟩
theorem one_take {E : Sg} {j : Nat} {ps : List Tx} (hx : E[j]? = some ps) (h : ps.length = 1) (ho : oneB (E.take j) = true) : oneB (E.take (j + 1)) = true := by
  unfold oneB at *
  rw [List.take_add_one, hx, List.all_append, ho]
  simpa using h

set_option maxHeartbeats 4000000 in
theorem etexts_new (v : Value) (l : List Sg) (t : Tx) (n : Nat) (w : World) (h : SgAt All w v l) (hn : Nm l) (h1 : 1 ≤ n) (h10 : n ≤ 10) :
    Calls Tryz.prog 63 #[v, .string (mk t), .int .i64 (n : Int)] w fun e w' => (∃ u, e = .returned (.tuple #[u, .bool (txB l t n)]) ∧ TxAt (fun b => w.heap.size ≤ b) w' u (txV l t n)) ∧ Below w.heap.size w w' := by
  have HC := Lib.hid (ebehind_any v l t n w h hn h1 h10)
  have HNil := Lib.hid fun W => TxAt.nil (fun b => w.heap.size ≤ b) W
  obtain ⟨a, c, rfl, -, -, -⟩ := h
  clear hn
  cases hb : behB l t n with
  | false =>
    have HX : Hid (txB l t n = false) := by show _ = _; unfold txB; rw [hb]; rfl
    have HV := Lib.hid (tx_no HX.out)
    rw [hb] at HC
    clear hb
    go_enter Tryz.func63, Tryz.ntmps63
    go_wp2_with (first | (go_at_call 98; refine HC.out.mono ?_; rintro x w1 ⟨⟨u, rfl, he⟩, hb1⟩; have HB1 := Lib.hid hb1; clear hb1 he))
    go_ret2
    exact ⟨⟨_, by rw [HX.out]; rfl, by rw [HV.out]; exact HNil.out _⟩, HB1.out⟩
  | true =>
    have hE : behV l t n = (l.headD []).tail := beh_yes hb
    have hl := beh_len hb
    have HX : Hid (txB l t n = oneB (l.headD []).tail) := by show _ = _; unfold txB; rw [hb]; rfl
    have HY : Hid (txB l t n = true → txV l t n = (l.headD []).tail.map (fun ps => ps.headD [])) := tx_yes
    have HNo : Hid (txB l t n = false → txV l t n = []) := tx_no
    rw [hb, hE] at HC
    clear hb hE
    generalize (l.headD []).tail = E at *
    have HL := Lib.hid hl
    clear hl
    have hmk := run_make_row' (P := Tryz.prog) 45 9 (.string ByteArray.empty) 16 Tryz.underlying45 hi9 rfl .i64 .i64 n (by omega) (by omega)
    go_enter Tryz.func63, Tryz.ntmps63
    go_wp2_with (first | (go_at_call 98; refine HC.out.mono ?_; rintro x w1 ⟨⟨u, rfl, he⟩, hb1⟩; have HB1 := Lib.hid hb1; have HEl := Lib.hid he; obtain ⟨au, cu, rfl, g1, g2, -⟩ := he; rw [HL.out] at HEl g1 ⊢; clear hb1))
    clear hmk
    go_loopg [26] (n) (fun gg i wq => ∃ j : Nat, j ≤ n ∧ gg = n - j ∧ i = .int .i64 j ∧ Hid (wq.heap[w1.heap.size]? = some (.cells (Lib.cellsOf ((E.take j).map fun ps => mk (ps.headD [])) n) 9 (0, 0))) ∧ Hid (oneB (E.take j) = true) ∧ Hid (Below w1.heap.size w1 wq))
    case atStart => exact ⟨0, Nat.zero_le _, rfl, rfl, by show _ = _; rw [List.take_zero, List.map_nil, Lib.cellsOf_nil]; exact heap_alloc_new w1 _, by show _ = _; rw [List.take_zero]; rfl, below_alloc w1 _⟩
    case round =>
      obtain ⟨j, hj, hgj, rfl, HCe, HOn, HBq⟩ := hrel
      have hszq : w1.heap.size < wr.heap.size := (Array.getElem?_eq_some_iff.1 HCe.out).1
      have HEq : Hid (ElAt All wr (.slice au n cu) E) := ElAt.move HEl.out (Below.moves HBq.out)
      by_cases hltj : j < n
      · obtain ⟨bu, ou, ux, rfl, hxj, huj, hrj⟩ := RowAt.get HEq.out j (by rw [HL.out]; exact hltj)
        have hrj' := hrj
        obtain ⟨aj, cj, rfl, hj1, hj2, -⟩ := hrj
        unfold maxLen at hj2
        by_cases hone : (E[j]'(by rw [HL.out]; exact hltj)).length = 1
        · have HO2 := Lib.hid (one_take hxj hone HOn.out)
          have hdl : ((E.take j).map fun ps => mk (ps.headD [])).length = j := by rw [List.length_map, List.length_take, HL.out]; omega
          obtain ⟨tj, htj⟩ := len_one hone
          have HTJ : Hid (((E.take (j + 1)).map fun ps => mk (ps.headD [])) = ((E.take j).map fun ps => mk (ps.headD [])) ++ [mk tj]) := by
            show _ = _
            rw [List.take_add_one, hxj, List.map_append, htj]; rfl
          have HSET := Lib.hid (Lib.cellsOf_set (done := ((E.take j).map fun ps => mk (ps.headD []))) (N := n) (by rw [hdl]; exact hltj) (mk tj))
          have HNX := Lib.hid (Lib.cellsOf_next (done := ((E.take j).map fun ps => mk (ps.headD []))) (N := n) (by rw [hdl]; exact hltj))
          rw [hdl] at HSET HNX
          rw [htj] at hrj' huj hj1
          obtain ⟨b3, o3, u3, rfl, -, hu3, h3⟩ := RowAt.get (xs := [tj]) hrj' 0 (by simp)
          have h3' : u3 = .string (mk tj) := h3
          subst h3'
          rw [Nat.add_zero] at hu3
          have hc4 := (cell_of_row wr w1.heap.size j _ 9 (0, 0) HCe.out).trans HNX.out
          have hf4 := Lib.frozen_of_heap HCe.out j
          clear hrj' hdl hxj htj hone h3
          go_wp2
          go_roundg (n - (j + 1))
          case rel => exact ⟨j + 1, by omega, rfl, by go_num, by show _ = _; rw [HTJ.out, ← HSET.out]; exact heap_set HCe.out j _, HO2.out, HBq.out.setCell (p := ⟨w1.heap.size, j, none⟩) (Nat.le_refl _) _⟩
          case measure => omega
        · have HF : Hid (txB l t n = false) := by show _ = _; rw [HX.out]; exact one_not hxj hone
          have hln : (((E[j]'(by rw [HL.out]; exact hltj)).length : Int) != 1) = true := by simp; omega
          clear hrj' hxj hone
          go_wp2
          go_ret2
          exact ⟨⟨_, by rw [HF.out]; rfl, by rw [HNo.out HF.out]; exact HNil.out _⟩, below_trans HB1.out HBq.out⟩
      · have hall : E.take j = E := List.take_of_length_le (by rw [HL.out]; omega)
        rw [hall] at HCe HOn
        have HT : Hid (txB l t n = true) := by show _ = _; rw [HX.out]; exact HOn.out
        have htx : TxAt All wr (.slice (some ⟨w1.heap.size, 0, none⟩) n n) (E.map fun ps => ps.headD []) := by
          have := tx_full (w := wr) (b := w1.heap.size) (E.map fun ps => ps.headD []) (by rw [List.length_map, HL.out, List.map_map]; exact HCe.out) (by rw [List.length_map, HL.out]; simp only [maxLen]; omega)
          rwa [List.length_map, HL.out] at this
        have HTX := Lib.hid (tx_K htx (K := fun b => w.heap.size ≤ b) HB1.out.size)
        clear htx hall
        go_wp2
        go_ret2
        exact ⟨⟨_, by rw [HT.out]; rfl, by rw [HY.out HT.out]; exact HTX.out⟩, below_trans HB1.out HBq.out⟩
theorem etexts_any (v : Value) (l : List Sg) (t : Tx) (n : Nat) (w : World) (h : SgAt All w v l) (hn : Nm l) (h1 : 1 ≤ n) (h10 : n ≤ 10) :
    Calls Tryz.prog 63 #[v, .string (mk t), .int .i64 (n : Int)] w fun e w' => (∃ u, e = .returned (.tuple #[u, .bool (txB l t n)]) ∧ TxAt All w' u (txV l t n)) ∧ Below w.heap.size w w' :=
  (etexts_new v l t n w h hn h1 h10).mono fun _ _ ⟨⟨u, e, ht⟩, hb⟩ => ⟨⟨u, e, TxAt.move ht (moves_weak _ fun _ _ _ => trivial)⟩, hb⟩
end Go.Proofs.YtpmnepihaljamaaGreatDoor
end
