/-
  Texts put together (merge.py): ERsv.
-/
import Derived.Test.YtpmnepihaljamaaGreatDoorM20
/-
  What eight.readService answers, as a contract. (Written by gen_rsv.py.)
-/
section
set_option linter.unusedSimpArgs false
set_option maxRecDepth 100000
namespace Go.Proofs.YtpmnepihaljamaaGreatDoor
open Go.RowKit
open Et
open Cm (Ln lnv ln0)

def Qs (l : List Sg) : Prop := ∀ g ∈ l, ∀ ps ∈ g, ps.length ≤ 100000
theorem Qs.tail {l : List Sg} (h : Qs l) : Qs l.tail := fun g hg => h g (List.mem_of_mem_tail hg)
theorem sv_bad {l : List Sg} (h : svE l ≠ 0) : svV l = ln0 ∧ svR l = [] := ⟨by unfold svV; rw [if_neg h], by unfold svR; rw [if_neg h]⟩
theorem sv_dn {l : List Sg} (h : dnE l ≠ 0) : svE l = dnE l ∧ svV l = ln0 ∧ svR l = [] := by
  have : svE l = dnE l := by unfold svE; rw [if_neg h]
  exact ⟨this, sv_bad (by rw [this]; exact h)⟩
theorem sv_dy {l : List Sg} (h : dnE l = 0) (h2 : dyE l.tail ≠ 0) : svE l = dyE l.tail ∧ svV l = ln0 ∧ svR l = [] := by
  have : svE l = dyE l.tail := by unfold svE; rw [if_pos h, if_neg h2]
  exact ⟨this, sv_bad (by rw [this]; exact h2)⟩
theorem sv_no {l : List Sg} (h : dnE l = 0) (h2 : dyE l.tail = 0) (h3 : amB l.tail.tail = false) : svE l = 0 ∧ svV l = ⟨(dnV l).proc, (dnV l).mods, dyV l.tail, (dnV l).units, (dnV l).billed, 0⟩ ∧ svR l = l.tail.tail := by
  have e : svE l = 0 := by unfold svE; rw [if_pos h, if_pos h2, h3]; rfl
  have ev : dnV l = dnX l := by unfold dnV; rw [if_pos h]
  refine ⟨e, ?_, ?_⟩
  · unfold svV svX; rw [if_pos e, h3, ev]; rfl
  · unfold svR svN; rw [if_pos e, h3]; rfl
theorem sv_am {l : List Sg} (h : dnE l = 0) (h2 : dyE l.tail = 0) (h3 : amB l.tail.tail = true) (h4 : amOk l.tail.tail = true) : svE l = 0 ∧ svV l = ⟨(dnV l).proc, (dnV l).mods, dyV l.tail, (dnV l).units, (dnV l).billed, Nu.mnV (tx l.tail.tail 2)⟩ ∧ svR l = l.tail.tail.tail := by
  have e : svE l = 0 := by unfold svE; rw [if_pos h, if_pos h2, h3, h4]; rfl
  have ev : dnV l = dnX l := by unfold dnV; rw [if_pos h]
  refine ⟨e, ?_, ?_⟩
  · unfold svV svX; rw [if_pos e, h3, ev]; rfl
  · unfold svR svN; rw [if_pos e, h3]; rfl
theorem sv_8 {l : List Sg} (h : dnE l = 0) (h2 : dyE l.tail = 0) (h3 : amB l.tail.tail = true) (h4 : amOk l.tail.tail = false) : svE l = 8 ∧ svV l = ln0 ∧ svR l = [] := by
  have e : svE l = 8 := by unfold svE; rw [if_pos h, if_pos h2, h3, h4]; rfl
  exact ⟨e, sv_bad (by rw [e]; decide)⟩
theorem set_line2 {w : World} {b : Nat} {c0 c1 c2 c3 c4 c5 v : Value} {T : TypeId} (h : w.heap[b]? = some (.cells #[c0, c1, c2, c3, c4, c5] T (0, 0))) : (w.setCell ⟨b, 2, none⟩ v).heap[b]? = some (.cells #[c0, c1, v, c3, c4, c5] T (0, 0)) := by rw [heap_set h]; rfl
theorem set_line5 {w : World} {b : Nat} {c0 c1 c2 c3 c4 c5 v : Value} {T : TypeId} (h : w.heap[b]? = some (.cells #[c0, c1, c2, c3, c4, c5] T (0, 0))) : (w.setCell ⟨b, 5, none⟩ v).heap[b]? = some (.cells #[c0, c1, c2, c3, c4, v] T (0, 0)) := by rw [heap_set h]; rfl
theorem tx_opnK {K : Nat → Prop} {w : World} {v : Value} {xs : List Tx} (h : TxAt K w v xs) (hne : 0 < xs.length) : ∃ b o c, v = .slice (some ⟨b, o, none⟩) xs.length c ∧ K b ∧ xs.length ≤ c ∧ c ≤ 9223372036854775807 ∧ ∀ j t, xs[j]? = some t → w.cell? ⟨b, o + j, none⟩ = some (.string (mk t)) := by
  obtain ⟨a, c, rfl, h1, h2, h3⟩ := h
  unfold maxLen at h2
  rcases h3 with h3 | ⟨b, o, rfl, hk, _, hc⟩
  · subst h3; simp at hne
  · refine ⟨b, o, c, rfl, hk, h1, h2, fun j t hj => ?_⟩
    obtain ⟨u, hu, rfl⟩ := hc j t hj
    exact hu
theorem put6_heap {W : World} {b : Nat} {c0 c1 c2 c3 c4 c5 a0 a1 a2 a3 a4 a5 : Value} {T : TypeId} (h : W.heap[b]? = some (.cells #[c0, c1, c2, c3, c4, c5] T (0, 0))) : (put6 W b a0 a1 a2 a3 a4 a5).heap[b]? = some (.cells #[a0, a1, a2, a3, a4, a5] T (0, 0)) := by
  have h0 : (W.setCell ⟨b, 0, none⟩ a0).heap[b]? = some (.cells #[a0, c1, c2, c3, c4, c5] T (0, 0)) := by rw [heap_set h]; rfl
  have h1 : ((W.setCell ⟨b, 0, none⟩ a0).setCell ⟨b, 1, none⟩ a1).heap[b]? = some (.cells #[a0, a1, c2, c3, c4, c5] T (0, 0)) := by rw [heap_set h0]; rfl
  have h2 := set_line2 (v := a2) h1
  have h3 : ((((W.setCell ⟨b, 0, none⟩ a0).setCell ⟨b, 1, none⟩ a1).setCell ⟨b, 2, none⟩ a2).setCell ⟨b, 3, none⟩ a3).heap[b]? = some (.cells #[a0, a1, a2, a3, c4, c5] T (0, 0)) := by rw [heap_set h2]; rfl
  have h4 : (((((W.setCell ⟨b, 0, none⟩ a0).setCell ⟨b, 1, none⟩ a1).setCell ⟨b, 2, none⟩ a2).setCell ⟨b, 3, none⟩ a3).setCell ⟨b, 4, none⟩ a4).heap[b]? = some (.cells #[a0, a1, a2, a3, a4, c5] T (0, 0)) := by rw [heap_set h3]; rfl
  exact set_line5 (v := a5) h4
theorem put6_cell {W : World} {b o q : Nat} {v a0 a1 a2 a3 a4 a5 : Value} (h : W.cell? ⟨b, o, none⟩ = some v) (hne : b ≠ q) : (put6 W q a0 a1 a2 a3 a4 a5).cell? ⟨b, o, none⟩ = some v := cell_far (cell_far (cell_far (cell_far (cell_far (cell_far h hne) hne) hne) hne) hne) hne
theorem Below.movesK (K : Nat → Prop) {w w' : World} (h : Below w.heap.size w w') : Moves K K w w' := ⟨h.size, fun b hb hk => ⟨hk, h.block b hb⟩⟩
theorem dn_cons {l : List Sg} (h : dnE l = 0) : ∃ g r, l = g :: r := by
  obtain ⟨g, r, rfl, -⟩ := dn_low h
  exact ⟨g, r, rfl⟩
theorem dy_cons {l : List Sg} (h : dyE l = 0) : ∃ g r, l = g :: r := by
  obtain ⟨g, r, rfl, -⟩ := dy_low h
  exact ⟨g, r, rfl⟩

set_option maxHeartbeats 4000000 in
theorem esv_any (K : Nat → Prop) (v : Value) (l : List Sg) (w : World) (hK : SgAt K w v l) (hn : Nm l) (hs : Sh l) (hq : Qs l) :
    Calls Tryz.prog 128 #[v] w fun e w' => (∃ m u, e = .returned (.tuple #[lnv (svV l) m, u, .int .i64 (svE l)]) ∧ TxAt (fun b => w.heap.size < b) w' m (svV l).mods ∧ SgAt K w' u (svR l)) ∧ Below w.heap.size w w' := by
  have h : SgAt All w v l := SgAt.move hK (moves_weak _ fun _ _ _ => trivial)
  have HSK := Lib.hid fun W (hW : Below w.heap.size w W) => SgAt.move hK (Below.movesK K hW)
  clear hK
  have HD := Lib.hid (edone_any v l (w.alloc (.cells #[.string ByteArray.empty, .slice none 0 0, .int .i64 0, .int .i64 0, .int .i64 0, .int .i64 0] 47)) (SgAt.move h (Below.moves (below_alloc w _))) hn hs hq)
  have HSg := Lib.hid fun W (hW : Below w.heap.size w W) => SgAt.move h (Below.moves hW)
  by_cases he : dnE l = 0
  case neg =>
    obtain ⟨va, vc, rfl, -, -, -⟩ := h
    have HX := Lib.hid (sv_dn he)
    have hne : (dnE l != 0) = true := by simpa using he
    clear he hn hs hq HSg
    generalize dnE l = E at *
    generalize dnV l = X at *
    go_enter Tryz.func128, Tryz.ntmps128
    go_upto_if 15 with (first | (go_at_call 144; refine HD.out.mono ?_; rintro x w1 ⟨⟨m, rfl, ht⟩, hb⟩; have HT1 := Lib.hid ht; obtain ⟨ma, mc, rfl, q1, q1'⟩ := Cm.TxAt.form ht; have HB1 := Lib.hid (below_trans (below_alloc w _) hb); have HZ1 := Lib.hid (keepB (heap_alloc_new w (.cells #[.string ByteArray.empty, .slice none 0 0, .int .i64 0, .int .i64 0, .int .i64 0, .int .i64 0] 47)) hb); have HB2 := Lib.hid (below_trans HB1.out (below_alloc w1 (.cells #[.string (mk X.proc), .slice ma X.mods.length mc, .int .i64 X.date, .int .i64 X.units, .int .i64 X.billed, .int .i64 X.prior] 47))); have HZ2 := Lib.hid (keepB HZ1.out (below_alloc w1 (.cells #[.string (mk X.proc), .slice ma X.mods.length mc, .int .i64 X.date, .int .i64 X.units, .int .i64 X.billed, .int .i64 X.prior] 47))); have HL2 := Lib.hid (heap_alloc_new w1 (.cells #[.string (mk X.proc), .slice ma X.mods.length mc, .int .i64 X.date, .int .i64 X.units, .int .i64 X.billed, .int .i64 X.prior] 47)); have ms := HB1.out.size; have mz : w.heap.size < w1.heap.size := (Array.getElem?_eq_some_iff.1 HZ1.out).1; obtain ⟨d0, d1, d2, d3, d4, d5⟩ := line_cells HZ2.out; obtain ⟨f0, f1, f2, f3, f4, f5⟩ := line_frozen HZ2.out; have nz : w.heap.size ≠ w1.heap.size := (by omega); have nz' : w1.heap.size ≠ w.heap.size := (by omega); clear hb ht))
    generalize w1.alloc (.cells #[.string (mk X.proc), .slice ma X.mods.length mc, .int .i64 X.date, .int .i64 X.units, .int .i64 X.billed, .int .i64 X.prior] 47) = w2 at *
    go_wp2
    refine bodyPost_ret (v := .tuple #[lnv ln0 (.slice none 0 0), .slice none 0 0, .int .i64 E]) (by simp [results, Tryz.results128, go_sem, d0, d1, d2, d3, d4, d5, nz, nz']; first | done | exact ⟨rfl, rfl, rfl, rfl, rfl⟩) rfl ?_
    exact ⟨⟨.slice none 0 0, .slice none 0 0, by rw [HX.out.1, HX.out.2.1], by rw [HX.out.2.1]; exact TxAt.nil _ _, by rw [HX.out.2.2]; exact SgAt.nil _ _⟩, put6_below (HB2.out) w.heap.size (Nat.le_refl _) _ _ _ _ _ _⟩
  obtain ⟨g, r, rfl⟩ := dn_cons he
  obtain ⟨b, o, c, u0, rfl, p1, p2, -, -⟩ := sg_open h
  rw [he] at HD
  have HE := Lib.hid he
  have HNm := Lib.hid hn.tail
  have HSh := Lib.hid hs.tail
  have HQs := Lib.hid hq.tail
  rw [List.tail_cons] at HNm HSh HQs
  by_cases hy : dyE r = 0
  case neg =>
    have HX := Lib.hid (sv_dy HE.out (show dyE (g :: r).tail ≠ 0 from hy))
    rw [List.tail_cons] at HX
    have hne : (dyE r != 0) = true := by simpa using hy
    by_cases hc : c = 1
    · subst hc
      have hr0 : r.length = 0 := by omega
      have HY : Hid (∀ W, Below w.heap.size w W → Calls Tryz.prog 145 #[.slice (some ⟨b, o, none⟩) 0 0] W fun e w' => e = .returned (.tuple #[.int .i64 (dyV r), .int .i64 (dyE r)]) ∧ Below W.heap.size W w') := fun W hW => eday_any _ r W (by rw [List.length_eq_zero_iff.1 hr0]; exact RowAt.nil_of (by simp [maxLen])) HNm.out HSh.out
      clear he hn hs hq HSg h hy
      generalize dyE r = E at *
      generalize dyV r = DV at *
      generalize dnV (g :: r) = X at *
      rw [hr0] at *
      go_enter Tryz.func128, Tryz.ntmps128
      go_upto_if 15 with (first | (go_at_call 144; refine HD.out.mono ?_; rintro x w1 ⟨⟨m, rfl, ht⟩, hb⟩; have HT1 := Lib.hid ht; obtain ⟨ma, mc, rfl, q1, q1'⟩ := Cm.TxAt.form ht; have HB1 := Lib.hid (below_trans (below_alloc w _) hb); have HZ1 := Lib.hid (keepB (heap_alloc_new w (.cells #[.string ByteArray.empty, .slice none 0 0, .int .i64 0, .int .i64 0, .int .i64 0, .int .i64 0] 47)) hb); have HB2 := Lib.hid (below_trans HB1.out (below_alloc w1 (.cells #[.string (mk X.proc), .slice ma X.mods.length mc, .int .i64 X.date, .int .i64 X.units, .int .i64 X.billed, .int .i64 X.prior] 47))); have HZ2 := Lib.hid (keepB HZ1.out (below_alloc w1 (.cells #[.string (mk X.proc), .slice ma X.mods.length mc, .int .i64 X.date, .int .i64 X.units, .int .i64 X.billed, .int .i64 X.prior] 47))); have HL2 := Lib.hid (heap_alloc_new w1 (.cells #[.string (mk X.proc), .slice ma X.mods.length mc, .int .i64 X.date, .int .i64 X.units, .int .i64 X.billed, .int .i64 X.prior] 47)); have ms := HB1.out.size; have mz : w.heap.size < w1.heap.size := (Array.getElem?_eq_some_iff.1 HZ1.out).1; obtain ⟨d0, d1, d2, d3, d4, d5⟩ := line_cells HZ2.out; obtain ⟨f0, f1, f2, f3, f4, f5⟩ := line_frozen HZ2.out; have nz : w.heap.size ≠ w1.heap.size := (by omega); have nz' : w1.heap.size ≠ w.heap.size := (by omega); clear hb ht))
      generalize w1.alloc (.cells #[.string (mk X.proc), .slice ma X.mods.length mc, .int .i64 X.date, .int .i64 X.units, .int .i64 X.billed, .int .i64 X.prior] 47) = w2 at *
      go_wp2_with (first | (go_at_call 145; refine (HY.out _ HB2.out).mono ?_; rintro x w3 ⟨rfl, hb⟩; have HC3 := Lib.hid hb; have HB3 := Lib.hid (below_trans HB2.out hb); have HZ3 := Lib.hid (keepB HZ2.out hb); have HL3 := Lib.hid (keepB HL2.out hb); clear d0 d1 d2 d3 d4 d5 f0 f1 f2 f3 f4 f5; obtain ⟨d0, d1, d2, d3, d4, d5⟩ := line_cells HZ3.out; obtain ⟨f0, f1, f2, f3, f4, f5⟩ := line_frozen HZ3.out; obtain ⟨l0, l1, l2, l3, l4, l5⟩ := line_cells HL3.out; have g2 := Lib.frozen_of_heap HL3.out 2; have m3 := HB3.out.size; have m4 : w1.heap.size < w3.heap.size := (Array.getElem?_eq_some_iff.1 HL3.out).1; clear hb))
      refine bodyPost_ret (v := .tuple #[lnv ln0 (.slice none 0 0), .slice none 0 0, .int .i64 E]) (by simp [results, Tryz.results128, go_sem, d0, d1, d2, d3, d4, d5, nz, nz']; first | done | exact ⟨rfl, rfl, rfl, rfl, rfl⟩) rfl ?_
      exact ⟨⟨.slice none 0 0, .slice none 0 0, by rw [HX.out.1, HX.out.2.1], by rw [HX.out.2.1]; exact TxAt.nil _ _, by rw [HX.out.2.2]; exact SgAt.nil _ _⟩, put6_below (HB3.out.setCell (p := ⟨w1.heap.size, 2, none⟩) ms _) w.heap.size (Nat.le_refl _) _ _ _ _ _ _⟩
    · have HY : Hid (∀ W, Below w.heap.size w W → Calls Tryz.prog 145 #[.slice (some ⟨b, o + 1, none⟩) r.length (c - 1)] W fun e w' => e = .returned (.tuple #[.int .i64 (dyV r), .int .i64 (dyE r)]) ∧ Below W.heap.size W w') := fun W hW => eday_any _ r W (RowAt.tail (HSg.out W hW)) HNm.out HSh.out
      clear he hn hs hq HSg h hy
      generalize dyE r = E at *
      generalize dyV r = DV at *
      generalize dnV (g :: r) = X at *
      go_enter Tryz.func128, Tryz.ntmps128
      go_upto_if 15 with (first | (go_at_call 144; refine HD.out.mono ?_; rintro x w1 ⟨⟨m, rfl, ht⟩, hb⟩; have HT1 := Lib.hid ht; obtain ⟨ma, mc, rfl, q1, q1'⟩ := Cm.TxAt.form ht; have HB1 := Lib.hid (below_trans (below_alloc w _) hb); have HZ1 := Lib.hid (keepB (heap_alloc_new w (.cells #[.string ByteArray.empty, .slice none 0 0, .int .i64 0, .int .i64 0, .int .i64 0, .int .i64 0] 47)) hb); have HB2 := Lib.hid (below_trans HB1.out (below_alloc w1 (.cells #[.string (mk X.proc), .slice ma X.mods.length mc, .int .i64 X.date, .int .i64 X.units, .int .i64 X.billed, .int .i64 X.prior] 47))); have HZ2 := Lib.hid (keepB HZ1.out (below_alloc w1 (.cells #[.string (mk X.proc), .slice ma X.mods.length mc, .int .i64 X.date, .int .i64 X.units, .int .i64 X.billed, .int .i64 X.prior] 47))); have HL2 := Lib.hid (heap_alloc_new w1 (.cells #[.string (mk X.proc), .slice ma X.mods.length mc, .int .i64 X.date, .int .i64 X.units, .int .i64 X.billed, .int .i64 X.prior] 47)); have ms := HB1.out.size; have mz : w.heap.size < w1.heap.size := (Array.getElem?_eq_some_iff.1 HZ1.out).1; obtain ⟨d0, d1, d2, d3, d4, d5⟩ := line_cells HZ2.out; obtain ⟨f0, f1, f2, f3, f4, f5⟩ := line_frozen HZ2.out; have nz : w.heap.size ≠ w1.heap.size := (by omega); have nz' : w1.heap.size ≠ w.heap.size := (by omega); clear hb ht))
      generalize w1.alloc (.cells #[.string (mk X.proc), .slice ma X.mods.length mc, .int .i64 X.date, .int .i64 X.units, .int .i64 X.billed, .int .i64 X.prior] 47) = w2 at *
      go_wp2_with (first | (go_at_call 145; refine (HY.out _ HB2.out).mono ?_; rintro x w3 ⟨rfl, hb⟩; have HC3 := Lib.hid hb; have HB3 := Lib.hid (below_trans HB2.out hb); have HZ3 := Lib.hid (keepB HZ2.out hb); have HL3 := Lib.hid (keepB HL2.out hb); clear d0 d1 d2 d3 d4 d5 f0 f1 f2 f3 f4 f5; obtain ⟨d0, d1, d2, d3, d4, d5⟩ := line_cells HZ3.out; obtain ⟨f0, f1, f2, f3, f4, f5⟩ := line_frozen HZ3.out; obtain ⟨l0, l1, l2, l3, l4, l5⟩ := line_cells HL3.out; have g2 := Lib.frozen_of_heap HL3.out 2; have m3 := HB3.out.size; have m4 : w1.heap.size < w3.heap.size := (Array.getElem?_eq_some_iff.1 HL3.out).1; clear hb))
      refine bodyPost_ret (v := .tuple #[lnv ln0 (.slice none 0 0), .slice none 0 0, .int .i64 E]) (by simp [results, Tryz.results128, go_sem, d0, d1, d2, d3, d4, d5, nz, nz']; first | done | exact ⟨rfl, rfl, rfl, rfl, rfl⟩) rfl ?_
      exact ⟨⟨.slice none 0 0, .slice none 0 0, by rw [HX.out.1, HX.out.2.1], by rw [HX.out.2.1]; exact TxAt.nil _ _, by rw [HX.out.2.2]; exact SgAt.nil _ _⟩, put6_below (HB3.out.setCell (p := ⟨w1.heap.size, 2, none⟩) ms _) w.heap.size (Nat.le_refl _) _ _ _ _ _ _⟩
  obtain ⟨g', r', rfl⟩ := dy_cons hy
  have hlen : r'.length + 2 ≤ c := by simp at p1; omega
  have HY : Hid (∀ W, Below w.heap.size w W → Calls Tryz.prog 145 #[.slice (some ⟨b, o + 1, none⟩) (r'.length + 1) (c - 1)] W fun e w' => e = .returned (.tuple #[.int .i64 (dyV (g' :: r')), .int .i64 0]) ∧ Below W.heap.size W w') := fun W hW => by
    have := eday_any _ (g' :: r') W (RowAt.tail (HSg.out W hW)) HNm.out HSh.out
    rw [hy] at this
    exact this
  have HPr : Hid ((dnV (g :: g' :: r')).prior = 0) := by show _ = _; unfold dnV; rw [if_pos HE.out]; rfl
  have HNm2 := Lib.hid HNm.out.tail
  have HSh2 := Lib.hid HSh.out.tail
  rw [List.tail_cons] at HNm2 HSh2
  have HS2 : Hid (∀ W, Below w.heap.size w W → SgAt All W (.slice (some ⟨b, o + 1 + 1, none⟩) r'.length (c - 1 - 1)) r') := fun W hW => RowAt.tail (RowAt.tail (HSg.out W hW))
  have HS2K : Hid (∀ W, Below w.heap.size w W → SgAt K W (.slice (some ⟨b, o + 1 + 1, none⟩) r'.length (c - 1 - 1)) r') := fun W hW => RowAt.tail (RowAt.tail (HSK.out W hW))
  clear HSK
  have hcc : ¬ c = 1 := by omega
  have HLX : Hid ((g :: g' :: r').length = r'.length + 2) := by show _ = _; simp
  simp only [List.length_cons] at p1 HD ⊢
  cases hA : amB r' with
  | false =>
    have HX := Lib.hid (sv_no HE.out (show dyE (g :: g' :: r').tail = 0 from hy) (show amB (g :: g' :: r').tail.tail = false from hA))
    rw [List.tail_cons, List.tail_cons] at HX
    by_cases hc2 : c = 2
    · have hr0 : r' = [] := List.length_eq_zero_iff.1 (by omega)
      have HT : Hid (∀ W, Below w.heap.size w W → Calls Tryz.prog 63 #[.slice (some ⟨b, o + 1, none⟩) 0 0, .string ⟨#[65, 77, 84]⟩, .int .i64 2] W fun e w' => (∃ u, e = .returned (.tuple #[u, .bool false]) ∧ TxAt All w' u (txV r' tAMT 2)) ∧ Below W.heap.size W w') := fun W hW => by
        have := etexts_any (.slice (some ⟨b, o + 1, none⟩) 0 0) r' tAMT 2 W (by rw [hr0]; exact RowAt.nil_of (by simp [maxLen])) HNm2.out (by omega) (by omega)
        rw [show txB r' tAMT 2 = false from hA] at this
        exact this
      have HSf : Hid (∀ W, Below w.heap.size w W → SgAt K W (.slice (some ⟨b, o + 1, none⟩) 0 0) r') := fun W hW => by rw [hr0]; exact RowAt.nil_of (by simp [maxLen])
      have hrl : r'.length = 0 := by rw [hr0]; rfl
      have hc3 : c - 1 = 1 := by omega
      have HK := Lib.hid (And.intro hrl (And.intro hc3 (And.intro hcc hlen)))
      clear he hn hs hq HSg h hy hA HS2 HS2K hr0 hrl hc3 hcc hlen hc2 p1
      generalize dyV (g' :: r') = DV at *
      generalize dnV (g :: g' :: r') = X at *
      have HPp := Lib.hid p2
      clear p2
      go_enter Tryz.func128, Tryz.ntmps128
      go_upto_if 15 with (first | (go_at_call 144; refine HD.out.mono ?_; rintro x w1 ⟨⟨m, rfl, ht⟩, hb⟩; have HT1 := Lib.hid ht; obtain ⟨ma, mc, rfl, q1, q1'⟩ := Cm.TxAt.form ht; have HB1 := Lib.hid (below_trans (below_alloc w _) hb); have HZ1 := Lib.hid (keepB (heap_alloc_new w (.cells #[.string ByteArray.empty, .slice none 0 0, .int .i64 0, .int .i64 0, .int .i64 0, .int .i64 0] 47)) hb); have HB2 := Lib.hid (below_trans HB1.out (below_alloc w1 (.cells #[.string (mk X.proc), .slice ma X.mods.length mc, .int .i64 X.date, .int .i64 X.units, .int .i64 X.billed, .int .i64 X.prior] 47))); have HZ2 := Lib.hid (keepB HZ1.out (below_alloc w1 (.cells #[.string (mk X.proc), .slice ma X.mods.length mc, .int .i64 X.date, .int .i64 X.units, .int .i64 X.billed, .int .i64 X.prior] 47))); have HL2 := Lib.hid (heap_alloc_new w1 (.cells #[.string (mk X.proc), .slice ma X.mods.length mc, .int .i64 X.date, .int .i64 X.units, .int .i64 X.billed, .int .i64 X.prior] 47)); have ms := HB1.out.size; have mz : w.heap.size < w1.heap.size := (Array.getElem?_eq_some_iff.1 HZ1.out).1; obtain ⟨d0, d1, d2, d3, d4, d5⟩ := line_cells HZ2.out; obtain ⟨f0, f1, f2, f3, f4, f5⟩ := line_frozen HZ2.out; have nz : w.heap.size ≠ w1.heap.size := (by omega); have nz' : w1.heap.size ≠ w.heap.size := (by omega); have HC2 := Lib.hid (below_alloc w1 (.cells #[.string (mk X.proc), .slice ma X.mods.length mc, .int .i64 X.date, .int .i64 X.units, .int .i64 X.billed, .int .i64 X.prior] 47)); clear hb ht))
      generalize w1.alloc (.cells #[.string (mk X.proc), .slice ma X.mods.length mc, .int .i64 X.date, .int .i64 X.units, .int .i64 X.billed, .int .i64 X.prior] 47) = w2 at *
      obtain ⟨-, -, hcc, hlen⟩ := HK.out
      have p2 := HPp.out
      go_upto_if 27 with (first | (go_at_call 145; refine (HY.out _ HB2.out).mono ?_; rintro x w3 ⟨rfl, hb⟩; have HC3 := Lib.hid hb; have HB3 := Lib.hid (below_trans HB2.out hb); have HZ3 := Lib.hid (keepB HZ2.out hb); have HL3 := Lib.hid (keepB HL2.out hb); clear d0 d1 d2 d3 d4 d5 f0 f1 f2 f3 f4 f5; obtain ⟨d0, d1, d2, d3, d4, d5⟩ := line_cells HZ3.out; obtain ⟨f0, f1, f2, f3, f4, f5⟩ := line_frozen HZ3.out; obtain ⟨l0, l1, l2, l3, l4, l5⟩ := line_cells HL3.out; have g2 := Lib.frozen_of_heap HL3.out 2; have m3 := HB3.out.size; have m4 : w1.heap.size < w3.heap.size := (Array.getElem?_eq_some_iff.1 HL3.out).1; have HZ4 := Lib.hid (heap_far (j := 2) (u := .int .i64 DV) HZ3.out nz); have HL4 := Lib.hid (set_line2 (v := .int .i64 DV) HL3.out); have HB4 := Lib.hid (HB3.out.setCell (p := ⟨w1.heap.size, 2, none⟩) ms (.int .i64 DV)); have HC4 := Lib.hid ((below_trans HC2.out hb).setCell (p := ⟨w1.heap.size, 2, none⟩) (Nat.le_refl _) (.int .i64 DV)); clear hb))
      generalize w3.setCell ⟨w1.heap.size, 2, none⟩ (.int .i64 DV) = w4 at *
      clear d0 d1 d2 d3 d4 d5 f0 f1 f2 f3 f4 f5 l0 l1 l2 l3 l4 l5 g2
      clear hcc hlen
      obtain ⟨hrl, hc3, -, -⟩ := HK.out
      go_wp2_with (first | (go_at_call 63; refine (HT.out _ HB4.out).mono ?_; rintro x w5 ⟨⟨u5, rfl, ht5⟩, hb⟩; have HB5 := Lib.hid (below_trans HB4.out hb); have HZ5 := Lib.hid (keepB HZ4.out hb); have HL5 := Lib.hid (keepB HL4.out hb); have HC5 := Lib.hid (HC4.out.trans (hb.mono HC4.out.size)); obtain ⟨d0, d1, d2, d3, d4, d5⟩ := line_cells HZ5.out; obtain ⟨f0, f1, f2, f3, f4, f5⟩ := line_frozen HZ5.out; obtain ⟨l0, l1, l2, l3, l4, l5⟩ := line_cells HL5.out; clear ht5; clear hb))
      refine bodyPost_ret (v := .tuple #[lnv ⟨X.proc, X.mods, DV, X.units, X.billed, X.prior⟩ (.slice ma X.mods.length mc), .slice (some ⟨b, o + 1, none⟩) 0 0, .int .i64 0]) (by simp [results, Tryz.results128, go_sem, d0, d1, d2, d3, d4, d5, nz, nz']) rfl ?_
      have HBF := Lib.hid (put6_below HB5.out w.heap.size (Nat.le_refl _) (.string (mk X.proc)) (.slice ma X.mods.length mc) (.int .i64 DV) (.int .i64 X.units) (.int .i64 X.billed) (.int .i64 X.prior))
      refine ⟨⟨.slice ma X.mods.length mc, .slice (some ⟨b, o + 1, none⟩) 0 0, by rw [HX.out.1, HX.out.2.1, HPr.out], ?_, by rw [HX.out.2.2]; exact HSf.out _ HBF.out⟩, HBF.out⟩
      rw [HX.out.2.1]
      exact TxAt.move (TxAt.move HT1.out (K' := fun b => w.heap.size < b) ⟨HC5.out.size, fun b hb hk => ⟨by simp at hk; omega, HC5.out.block b hb⟩⟩) (put6_moves _ _ _ _ _ _ _ _)
    · have HT : Hid (∀ W, Below w.heap.size w W → Calls Tryz.prog 63 #[.slice (some ⟨b, o + 1 + 1, none⟩) r'.length (c - 1 - 1), .string ⟨#[65, 77, 84]⟩, .int .i64 2] W fun e w' => (∃ u, e = .returned (.tuple #[u, .bool false]) ∧ TxAt All w' u (txV r' tAMT 2)) ∧ Below W.heap.size W w') := fun W hW => by
        have := etexts_any _ r' tAMT 2 W (HS2.out W hW) HNm2.out (by omega) (by omega)
        rw [show txB r' tAMT 2 = false from hA] at this
        exact this
      have HSf := HS2K
      have HK : Hid (¬ c - 1 = 1 ∧ r'.length + 1 ≤ c - 1 ∧ ¬ c = 1 ∧ r'.length + 2 ≤ c) := ⟨by omega, by omega, hcc, hlen⟩
      clear he hn hs hq HSg h hy hA HS2 HS2K hcc hlen hc2 p1
      generalize dyV (g' :: r') = DV at *
      generalize dnV (g :: g' :: r') = X at *
      have HPp := Lib.hid p2
      clear p2
      go_enter Tryz.func128, Tryz.ntmps128
      go_upto_if 15 with (first | (go_at_call 144; refine HD.out.mono ?_; rintro x w1 ⟨⟨m, rfl, ht⟩, hb⟩; have HT1 := Lib.hid ht; obtain ⟨ma, mc, rfl, q1, q1'⟩ := Cm.TxAt.form ht; have HB1 := Lib.hid (below_trans (below_alloc w _) hb); have HZ1 := Lib.hid (keepB (heap_alloc_new w (.cells #[.string ByteArray.empty, .slice none 0 0, .int .i64 0, .int .i64 0, .int .i64 0, .int .i64 0] 47)) hb); have HB2 := Lib.hid (below_trans HB1.out (below_alloc w1 (.cells #[.string (mk X.proc), .slice ma X.mods.length mc, .int .i64 X.date, .int .i64 X.units, .int .i64 X.billed, .int .i64 X.prior] 47))); have HZ2 := Lib.hid (keepB HZ1.out (below_alloc w1 (.cells #[.string (mk X.proc), .slice ma X.mods.length mc, .int .i64 X.date, .int .i64 X.units, .int .i64 X.billed, .int .i64 X.prior] 47))); have HL2 := Lib.hid (heap_alloc_new w1 (.cells #[.string (mk X.proc), .slice ma X.mods.length mc, .int .i64 X.date, .int .i64 X.units, .int .i64 X.billed, .int .i64 X.prior] 47)); have ms := HB1.out.size; have mz : w.heap.size < w1.heap.size := (Array.getElem?_eq_some_iff.1 HZ1.out).1; obtain ⟨d0, d1, d2, d3, d4, d5⟩ := line_cells HZ2.out; obtain ⟨f0, f1, f2, f3, f4, f5⟩ := line_frozen HZ2.out; have nz : w.heap.size ≠ w1.heap.size := (by omega); have nz' : w1.heap.size ≠ w.heap.size := (by omega); have HC2 := Lib.hid (below_alloc w1 (.cells #[.string (mk X.proc), .slice ma X.mods.length mc, .int .i64 X.date, .int .i64 X.units, .int .i64 X.billed, .int .i64 X.prior] 47)); clear hb ht))
      generalize w1.alloc (.cells #[.string (mk X.proc), .slice ma X.mods.length mc, .int .i64 X.date, .int .i64 X.units, .int .i64 X.billed, .int .i64 X.prior] 47) = w2 at *
      obtain ⟨-, -, hcc, hlen⟩ := HK.out
      have p2 := HPp.out
      go_upto_if 27 with (first | (go_at_call 145; refine (HY.out _ HB2.out).mono ?_; rintro x w3 ⟨rfl, hb⟩; have HC3 := Lib.hid hb; have HB3 := Lib.hid (below_trans HB2.out hb); have HZ3 := Lib.hid (keepB HZ2.out hb); have HL3 := Lib.hid (keepB HL2.out hb); clear d0 d1 d2 d3 d4 d5 f0 f1 f2 f3 f4 f5; obtain ⟨d0, d1, d2, d3, d4, d5⟩ := line_cells HZ3.out; obtain ⟨f0, f1, f2, f3, f4, f5⟩ := line_frozen HZ3.out; obtain ⟨l0, l1, l2, l3, l4, l5⟩ := line_cells HL3.out; have g2 := Lib.frozen_of_heap HL3.out 2; have m3 := HB3.out.size; have m4 : w1.heap.size < w3.heap.size := (Array.getElem?_eq_some_iff.1 HL3.out).1; have HZ4 := Lib.hid (heap_far (j := 2) (u := .int .i64 DV) HZ3.out nz); have HL4 := Lib.hid (set_line2 (v := .int .i64 DV) HL3.out); have HB4 := Lib.hid (HB3.out.setCell (p := ⟨w1.heap.size, 2, none⟩) ms (.int .i64 DV)); have HC4 := Lib.hid ((below_trans HC2.out hb).setCell (p := ⟨w1.heap.size, 2, none⟩) (Nat.le_refl _) (.int .i64 DV)); clear hb))
      generalize w3.setCell ⟨w1.heap.size, 2, none⟩ (.int .i64 DV) = w4 at *
      clear d0 d1 d2 d3 d4 d5 f0 f1 f2 f3 f4 f5 l0 l1 l2 l3 l4 l5 g2
      clear hcc hlen
      obtain ⟨hc3, hlen3, -, -⟩ := HK.out
      go_wp2_with (first | (go_at_call 63; refine (HT.out _ HB4.out).mono ?_; rintro x w5 ⟨⟨u5, rfl, ht5⟩, hb⟩; have HB5 := Lib.hid (below_trans HB4.out hb); have HZ5 := Lib.hid (keepB HZ4.out hb); have HL5 := Lib.hid (keepB HL4.out hb); have HC5 := Lib.hid (HC4.out.trans (hb.mono HC4.out.size)); obtain ⟨d0, d1, d2, d3, d4, d5⟩ := line_cells HZ5.out; obtain ⟨f0, f1, f2, f3, f4, f5⟩ := line_frozen HZ5.out; obtain ⟨l0, l1, l2, l3, l4, l5⟩ := line_cells HL5.out; clear ht5; clear hb))
      refine bodyPost_ret (v := .tuple #[lnv ⟨X.proc, X.mods, DV, X.units, X.billed, X.prior⟩ (.slice ma X.mods.length mc), .slice (some ⟨b, o + 1 + 1, none⟩) r'.length (c - 1 - 1), .int .i64 0]) (by simp [results, Tryz.results128, go_sem, d0, d1, d2, d3, d4, d5, nz, nz']) rfl ?_
      have HBF := Lib.hid (put6_below HB5.out w.heap.size (Nat.le_refl _) (.string (mk X.proc)) (.slice ma X.mods.length mc) (.int .i64 DV) (.int .i64 X.units) (.int .i64 X.billed) (.int .i64 X.prior))
      refine ⟨⟨.slice ma X.mods.length mc, .slice (some ⟨b, o + 1 + 1, none⟩) r'.length (c - 1 - 1), by rw [HX.out.1, HX.out.2.1, HPr.out], ?_, by rw [HX.out.2.2]; exact HSf.out _ HBF.out⟩, HBF.out⟩
      rw [HX.out.2.1]
      exact TxAt.move (TxAt.move HT1.out (K' := fun b => w.heap.size < b) ⟨HC5.out.size, fun b hb hk => ⟨by simp at hk; omega, HC5.out.block b hb⟩⟩) (put6_moves _ _ _ _ _ _ _ _)
  | true =>
    obtain ⟨pp, a1, a2, r2, rfl, -⟩ := tx2_form (show txB r' tAMT 2 = true from hA)
    have HAM : Hid (amOk ([pp, [a1], [a2]] :: r2) = (decide (a1 = tD) && (decide (Nu.mnE a2 = 0) && decide (Nu.mnV a2 ≠ 0)))) := rfl
    have HV2 : Hid (tx ([pp, [a1], [a2]] :: r2) 2 = a2) := rfl
    simp only [List.length_cons] at HD HY hlen ⊢
    have HT : Hid (∀ W, Below w.heap.size w W → Calls Tryz.prog 63 #[.slice (some ⟨b, o + 1 + 1, none⟩) (r2.length + 1) (c - 1 - 1), .string ⟨#[65, 77, 84]⟩, .int .i64 2] W fun e w' => (∃ u, e = .returned (.tuple #[u, .bool true]) ∧ TxAt (fun b => W.heap.size ≤ b) w' u [a1, a2]) ∧ Below W.heap.size W w') := fun W hW => by
      have := etexts_new _ ([pp, [a1], [a2]] :: r2) tAMT 2 W (HS2.out W hW) HNm2.out (by omega) (by omega)
      rw [show txB ([pp, [a1], [a2]] :: r2) tAMT 2 = true from hA, txv2 (show txB ([pp, [a1], [a2]] :: r2) tAMT 2 = true from hA)] at this
      exact this
    have HMn := Lib.hid fun W => readMoney_l a2 W (HSh2.out.tx 2)
    have HS3 : Hid (∀ W, Below w.heap.size w W → SgAt K W (.slice (some ⟨b, o + 1 + 1 + 1, none⟩) r2.length (c - 1 - 1 - 1)) r2) := fun W hW => RowAt.tail (HS2K.out W hW)
    have heq : ((mk a1).toList == [68]) = decide (a1 = tD) := mk_lit a1 tD
    have HK : Hid (¬ c - 1 = 1 ∧ r2.length + 1 + 1 ≤ c - 1 ∧ ¬ c = 1 ∧ r2.length + 1 + 2 ≤ c) := ⟨by omega, by omega, hcc, hlen⟩
    have HYY : Hid (dyE (g :: g' :: [pp, [a1], [a2]] :: r2).tail = 0) := hy
    have HAA : Hid (amB (g :: g' :: [pp, [a1], [a2]] :: r2).tail.tail = true) := hA
    have H8 : Hid (amOk ([pp, [a1], [a2]] :: r2) = false → svE (g :: g' :: [pp, [a1], [a2]] :: r2) = 8 ∧ svV (g :: g' :: [pp, [a1], [a2]] :: r2) = ln0 ∧ svR (g :: g' :: [pp, [a1], [a2]] :: r2) = []) := fun e => sv_8 HE.out HYY.out HAA.out e
    have HOK : Hid (amOk ([pp, [a1], [a2]] :: r2) = true → svE (g :: g' :: [pp, [a1], [a2]] :: r2) = 0 ∧ svV (g :: g' :: [pp, [a1], [a2]] :: r2) = ⟨(dnV (g :: g' :: [pp, [a1], [a2]] :: r2)).proc, (dnV (g :: g' :: [pp, [a1], [a2]] :: r2)).mods, dyV (g' :: [pp, [a1], [a2]] :: r2), (dnV (g :: g' :: [pp, [a1], [a2]] :: r2)).units, (dnV (g :: g' :: [pp, [a1], [a2]] :: r2)).billed, Nu.mnV a2⟩ ∧ svR (g :: g' :: [pp, [a1], [a2]] :: r2) = r2) := fun e => sv_am HE.out HYY.out HAA.out e
    clear he hn hs hq HSg h hy hA HS2 HS2K hcc hlen p1
    generalize dyV (g' :: [pp, [a1], [a2]] :: r2) = DV at *
    generalize dnV (g :: g' :: [pp, [a1], [a2]] :: r2) = X at *
    by_cases hD : a1 = tD
    case neg =>
      have HX := Lib.hid (H8.out (by rw [HAM.out, decide_eq_false hD]; rfl))
      rw [decide_eq_false hD] at heq
      clear hD
      generalize Nu.mnV a2 = M at *
      generalize Nu.mnE a2 = ME at *
      have HPp := Lib.hid p2
      clear p2
      go_enter Tryz.func128, Tryz.ntmps128
      go_upto_if 15 with (first | (go_at_call 144; refine HD.out.mono ?_; rintro x w1 ⟨⟨m, rfl, ht⟩, hb⟩; have HT1 := Lib.hid ht; obtain ⟨ma, mc, rfl, q1, q1'⟩ := Cm.TxAt.form ht; have HB1 := Lib.hid (below_trans (below_alloc w _) hb); have HZ1 := Lib.hid (keepB (heap_alloc_new w (.cells #[.string ByteArray.empty, .slice none 0 0, .int .i64 0, .int .i64 0, .int .i64 0, .int .i64 0] 47)) hb); have HB2 := Lib.hid (below_trans HB1.out (below_alloc w1 (.cells #[.string (mk X.proc), .slice ma X.mods.length mc, .int .i64 X.date, .int .i64 X.units, .int .i64 X.billed, .int .i64 X.prior] 47))); have HZ2 := Lib.hid (keepB HZ1.out (below_alloc w1 (.cells #[.string (mk X.proc), .slice ma X.mods.length mc, .int .i64 X.date, .int .i64 X.units, .int .i64 X.billed, .int .i64 X.prior] 47))); have HL2 := Lib.hid (heap_alloc_new w1 (.cells #[.string (mk X.proc), .slice ma X.mods.length mc, .int .i64 X.date, .int .i64 X.units, .int .i64 X.billed, .int .i64 X.prior] 47)); have ms := HB1.out.size; have mz : w.heap.size < w1.heap.size := (Array.getElem?_eq_some_iff.1 HZ1.out).1; obtain ⟨d0, d1, d2, d3, d4, d5⟩ := line_cells HZ2.out; obtain ⟨f0, f1, f2, f3, f4, f5⟩ := line_frozen HZ2.out; have nz : w.heap.size ≠ w1.heap.size := (by omega); have nz' : w1.heap.size ≠ w.heap.size := (by omega); have HC2 := Lib.hid (below_alloc w1 (.cells #[.string (mk X.proc), .slice ma X.mods.length mc, .int .i64 X.date, .int .i64 X.units, .int .i64 X.billed, .int .i64 X.prior] 47)); clear hb ht))
      generalize w1.alloc (.cells #[.string (mk X.proc), .slice ma X.mods.length mc, .int .i64 X.date, .int .i64 X.units, .int .i64 X.billed, .int .i64 X.prior] 47) = w2 at *
      obtain ⟨-, -, hcc, hlen⟩ := HK.out
      have p2 := HPp.out
      go_upto_if 27 with (first | (go_at_call 145; refine (HY.out _ HB2.out).mono ?_; rintro x w3 ⟨rfl, hb⟩; have HC3 := Lib.hid hb; have HB3 := Lib.hid (below_trans HB2.out hb); have HZ3 := Lib.hid (keepB HZ2.out hb); have HL3 := Lib.hid (keepB HL2.out hb); clear d0 d1 d2 d3 d4 d5 f0 f1 f2 f3 f4 f5; obtain ⟨d0, d1, d2, d3, d4, d5⟩ := line_cells HZ3.out; obtain ⟨f0, f1, f2, f3, f4, f5⟩ := line_frozen HZ3.out; obtain ⟨l0, l1, l2, l3, l4, l5⟩ := line_cells HL3.out; have g2 := Lib.frozen_of_heap HL3.out 2; have m3 := HB3.out.size; have m4 : w1.heap.size < w3.heap.size := (Array.getElem?_eq_some_iff.1 HL3.out).1; have HZ4 := Lib.hid (heap_far (j := 2) (u := .int .i64 DV) HZ3.out nz); have HL4 := Lib.hid (set_line2 (v := .int .i64 DV) HL3.out); have HB4 := Lib.hid (HB3.out.setCell (p := ⟨w1.heap.size, 2, none⟩) ms (.int .i64 DV)); have HC4 := Lib.hid ((below_trans HC2.out hb).setCell (p := ⟨w1.heap.size, 2, none⟩) (Nat.le_refl _) (.int .i64 DV)); clear hb))
      generalize w3.setCell ⟨w1.heap.size, 2, none⟩ (.int .i64 DV) = w4 at *
      clear d0 d1 d2 d3 d4 d5 f0 f1 f2 f3 f4 f5 l0 l1 l2 l3 l4 l5 g2
      clear hcc hlen
      obtain ⟨hc3, hlen3, -, -⟩ := HK.out
      have m5 : w1.heap.size < w4.heap.size := (Array.getElem?_eq_some_iff.1 HL4.out).1
      go_upto_if 61 with (first | (go_at_call 63; refine (HT.out _ HB4.out).mono ?_; rintro x w5 ⟨⟨u5, rfl, ht5⟩, hb⟩; have HB5 := Lib.hid (below_trans HB4.out hb); have HZ5 := Lib.hid (keepB HZ4.out hb); have HL5 := Lib.hid (keepB HL4.out hb); have HC5 := Lib.hid (HC4.out.trans (hb.mono HC4.out.size)); obtain ⟨d0, d1, d2, d3, d4, d5⟩ := line_cells HZ5.out; obtain ⟨f0, f1, f2, f3, f4, f5⟩ := line_frozen HZ5.out; obtain ⟨l0, l1, l2, l3, l4, l5⟩ := line_cells HL5.out; obtain ⟨bp, op, cp, rfl, hKb, g1, g3, hcc5⟩ := tx_opnK ht5 (by simp); have hc0 := hcc5 0 a1 rfl; have hc1 := hcc5 1 a2 rfl; rw [Nat.add_zero] at hc0; have nb : bp ≠ w1.heap.size := (by omega); clear ht5 hcc5; clear hb) | (go_at_call 127; refine (HMn.out _).mono ?_; rintro x w6 ⟨rfl, hb⟩; have hc6 := keepC hc0 hb; have HZ6 := Lib.hid (keepB HZ5.out hb); have HL6 := Lib.hid (keepB HL5.out hb); have HB6 := Lib.hid (below_trans HB5.out hb); have HZ7 := Lib.hid (heap_far (j := 5) (u := .int .i64 M) HZ6.out nz); have HL7 := Lib.hid (set_line5 (v := .int .i64 M) HL6.out); have HB7 := Lib.hid (HB6.out.setCell (p := ⟨w1.heap.size, 5, none⟩) ms (.int .i64 M)); have HC7 := Lib.hid ((HC5.out.trans (hb.mono HC5.out.size)).setCell (p := ⟨w1.heap.size, 5, none⟩) (Nat.le_refl _) (.int .i64 M)); have hc7 := cell_far (j := 5) (u := .int .i64 M) hc6 nb; have g5 := Lib.frozen_of_heap HL6.out 5; clear d0 d1 d2 d3 d4 d5 f0 f1 f2 f3 f4 f5 l0 l1 l2 l3 l4 l5; obtain ⟨l0, l1, l2, l3, l4, l5⟩ := line_cells HL6.out; obtain ⟨t0, t1, t2, t3, t4, t5⟩ := line_cells HL7.out; clear hb))
      generalize w6.setCell ⟨w1.heap.size, 5, none⟩ (.int .i64 M) = w7 at *
      clear l0 l1 l2 l3 l4 l5 hc6 g5
      obtain ⟨d0, d1, d2, d3, d4, d5⟩ := line_cells HZ7.out
      obtain ⟨f0, f1, f2, f3, f4, f5⟩ := line_frozen HZ7.out
      go_wp2
      refine bodyPost_ret (v := .tuple #[lnv ln0 (.slice none 0 0), .slice none 0 0, .int .i64 8]) (by simp [results, Tryz.results128, go_sem, d0, d1, d2, d3, d4, d5, nz, nz']; first | done | exact ⟨rfl, rfl, rfl, rfl, rfl⟩) rfl ?_
      exact ⟨⟨.slice none 0 0, .slice none 0 0, by rw [HX.out.1, HX.out.2.1], by rw [HX.out.2.1]; exact TxAt.nil _ _, by rw [HX.out.2.2]; exact SgAt.nil _ _⟩, put6_below (HB7.out) w.heap.size (Nat.le_refl _) _ _ _ _ _ _⟩
    rcases mn_e a2 with e0 | e8
    case inr =>
      have HX := Lib.hid (H8.out (by rw [HAM.out, decide_eq_true hD, e8]; rfl))
      rw [decide_eq_true hD] at heq
      rw [e8] at HMn
      clear hD e8
      generalize Nu.mnV a2 = M at *
      have HPp := Lib.hid p2
      clear p2
      go_enter Tryz.func128, Tryz.ntmps128
      go_upto_if 15 with (first | (go_at_call 144; refine HD.out.mono ?_; rintro x w1 ⟨⟨m, rfl, ht⟩, hb⟩; have HT1 := Lib.hid ht; obtain ⟨ma, mc, rfl, q1, q1'⟩ := Cm.TxAt.form ht; have HB1 := Lib.hid (below_trans (below_alloc w _) hb); have HZ1 := Lib.hid (keepB (heap_alloc_new w (.cells #[.string ByteArray.empty, .slice none 0 0, .int .i64 0, .int .i64 0, .int .i64 0, .int .i64 0] 47)) hb); have HB2 := Lib.hid (below_trans HB1.out (below_alloc w1 (.cells #[.string (mk X.proc), .slice ma X.mods.length mc, .int .i64 X.date, .int .i64 X.units, .int .i64 X.billed, .int .i64 X.prior] 47))); have HZ2 := Lib.hid (keepB HZ1.out (below_alloc w1 (.cells #[.string (mk X.proc), .slice ma X.mods.length mc, .int .i64 X.date, .int .i64 X.units, .int .i64 X.billed, .int .i64 X.prior] 47))); have HL2 := Lib.hid (heap_alloc_new w1 (.cells #[.string (mk X.proc), .slice ma X.mods.length mc, .int .i64 X.date, .int .i64 X.units, .int .i64 X.billed, .int .i64 X.prior] 47)); have ms := HB1.out.size; have mz : w.heap.size < w1.heap.size := (Array.getElem?_eq_some_iff.1 HZ1.out).1; obtain ⟨d0, d1, d2, d3, d4, d5⟩ := line_cells HZ2.out; obtain ⟨f0, f1, f2, f3, f4, f5⟩ := line_frozen HZ2.out; have nz : w.heap.size ≠ w1.heap.size := (by omega); have nz' : w1.heap.size ≠ w.heap.size := (by omega); have HC2 := Lib.hid (below_alloc w1 (.cells #[.string (mk X.proc), .slice ma X.mods.length mc, .int .i64 X.date, .int .i64 X.units, .int .i64 X.billed, .int .i64 X.prior] 47)); clear hb ht))
      generalize w1.alloc (.cells #[.string (mk X.proc), .slice ma X.mods.length mc, .int .i64 X.date, .int .i64 X.units, .int .i64 X.billed, .int .i64 X.prior] 47) = w2 at *
      obtain ⟨-, -, hcc, hlen⟩ := HK.out
      have p2 := HPp.out
      go_upto_if 27 with (first | (go_at_call 145; refine (HY.out _ HB2.out).mono ?_; rintro x w3 ⟨rfl, hb⟩; have HC3 := Lib.hid hb; have HB3 := Lib.hid (below_trans HB2.out hb); have HZ3 := Lib.hid (keepB HZ2.out hb); have HL3 := Lib.hid (keepB HL2.out hb); clear d0 d1 d2 d3 d4 d5 f0 f1 f2 f3 f4 f5; obtain ⟨d0, d1, d2, d3, d4, d5⟩ := line_cells HZ3.out; obtain ⟨f0, f1, f2, f3, f4, f5⟩ := line_frozen HZ3.out; obtain ⟨l0, l1, l2, l3, l4, l5⟩ := line_cells HL3.out; have g2 := Lib.frozen_of_heap HL3.out 2; have m3 := HB3.out.size; have m4 : w1.heap.size < w3.heap.size := (Array.getElem?_eq_some_iff.1 HL3.out).1; have HZ4 := Lib.hid (heap_far (j := 2) (u := .int .i64 DV) HZ3.out nz); have HL4 := Lib.hid (set_line2 (v := .int .i64 DV) HL3.out); have HB4 := Lib.hid (HB3.out.setCell (p := ⟨w1.heap.size, 2, none⟩) ms (.int .i64 DV)); have HC4 := Lib.hid ((below_trans HC2.out hb).setCell (p := ⟨w1.heap.size, 2, none⟩) (Nat.le_refl _) (.int .i64 DV)); clear hb))
      generalize w3.setCell ⟨w1.heap.size, 2, none⟩ (.int .i64 DV) = w4 at *
      clear d0 d1 d2 d3 d4 d5 f0 f1 f2 f3 f4 f5 l0 l1 l2 l3 l4 l5 g2
      clear hcc hlen
      obtain ⟨hc3, hlen3, -, -⟩ := HK.out
      have m5 : w1.heap.size < w4.heap.size := (Array.getElem?_eq_some_iff.1 HL4.out).1
      go_upto_if 61 with (first | (go_at_call 63; refine (HT.out _ HB4.out).mono ?_; rintro x w5 ⟨⟨u5, rfl, ht5⟩, hb⟩; have HB5 := Lib.hid (below_trans HB4.out hb); have HZ5 := Lib.hid (keepB HZ4.out hb); have HL5 := Lib.hid (keepB HL4.out hb); have HC5 := Lib.hid (HC4.out.trans (hb.mono HC4.out.size)); obtain ⟨d0, d1, d2, d3, d4, d5⟩ := line_cells HZ5.out; obtain ⟨f0, f1, f2, f3, f4, f5⟩ := line_frozen HZ5.out; obtain ⟨l0, l1, l2, l3, l4, l5⟩ := line_cells HL5.out; obtain ⟨bp, op, cp, rfl, hKb, g1, g3, hcc5⟩ := tx_opnK ht5 (by simp); have hc0 := hcc5 0 a1 rfl; have hc1 := hcc5 1 a2 rfl; rw [Nat.add_zero] at hc0; have nb : bp ≠ w1.heap.size := (by omega); clear ht5 hcc5; clear hb) | (go_at_call 127; refine (HMn.out _).mono ?_; rintro x w6 ⟨rfl, hb⟩; have hc6 := keepC hc0 hb; have HZ6 := Lib.hid (keepB HZ5.out hb); have HL6 := Lib.hid (keepB HL5.out hb); have HB6 := Lib.hid (below_trans HB5.out hb); have HZ7 := Lib.hid (heap_far (j := 5) (u := .int .i64 M) HZ6.out nz); have HL7 := Lib.hid (set_line5 (v := .int .i64 M) HL6.out); have HB7 := Lib.hid (HB6.out.setCell (p := ⟨w1.heap.size, 5, none⟩) ms (.int .i64 M)); have HC7 := Lib.hid ((HC5.out.trans (hb.mono HC5.out.size)).setCell (p := ⟨w1.heap.size, 5, none⟩) (Nat.le_refl _) (.int .i64 M)); have hc7 := cell_far (j := 5) (u := .int .i64 M) hc6 nb; have g5 := Lib.frozen_of_heap HL6.out 5; clear d0 d1 d2 d3 d4 d5 f0 f1 f2 f3 f4 f5 l0 l1 l2 l3 l4 l5; obtain ⟨l0, l1, l2, l3, l4, l5⟩ := line_cells HL6.out; obtain ⟨t0, t1, t2, t3, t4, t5⟩ := line_cells HL7.out; clear hb))
      generalize w6.setCell ⟨w1.heap.size, 5, none⟩ (.int .i64 M) = w7 at *
      clear l0 l1 l2 l3 l4 l5 hc6 g5
      obtain ⟨d0, d1, d2, d3, d4, d5⟩ := line_cells HZ7.out
      obtain ⟨f0, f1, f2, f3, f4, f5⟩ := line_frozen HZ7.out
      go_wp2
      refine bodyPost_ret (v := .tuple #[lnv ln0 (.slice none 0 0), .slice none 0 0, .int .i64 8]) (by simp [results, Tryz.results128, go_sem, d0, d1, d2, d3, d4, d5, nz, nz']; first | done | exact ⟨rfl, rfl, rfl, rfl, rfl⟩) rfl ?_
      exact ⟨⟨.slice none 0 0, .slice none 0 0, by rw [HX.out.1, HX.out.2.1], by rw [HX.out.2.1]; exact TxAt.nil _ _, by rw [HX.out.2.2]; exact SgAt.nil _ _⟩, put6_below (HB7.out) w.heap.size (Nat.le_refl _) _ _ _ _ _ _⟩
    by_cases hM : Nu.mnV a2 = 0
    case pos =>
      have HX := Lib.hid (H8.out (by rw [HAM.out, decide_eq_true hD, e0, hM]; rfl))
      rw [decide_eq_true hD] at heq
      rw [e0] at HMn
      clear hD e0
      generalize Nu.mnV a2 = M at *
      subst hM
      have HPp := Lib.hid p2
      clear p2
      go_enter Tryz.func128, Tryz.ntmps128
      go_upto_if 15 with (first | (go_at_call 144; refine HD.out.mono ?_; rintro x w1 ⟨⟨m, rfl, ht⟩, hb⟩; have HT1 := Lib.hid ht; obtain ⟨ma, mc, rfl, q1, q1'⟩ := Cm.TxAt.form ht; have HB1 := Lib.hid (below_trans (below_alloc w _) hb); have HZ1 := Lib.hid (keepB (heap_alloc_new w (.cells #[.string ByteArray.empty, .slice none 0 0, .int .i64 0, .int .i64 0, .int .i64 0, .int .i64 0] 47)) hb); have HB2 := Lib.hid (below_trans HB1.out (below_alloc w1 (.cells #[.string (mk X.proc), .slice ma X.mods.length mc, .int .i64 X.date, .int .i64 X.units, .int .i64 X.billed, .int .i64 X.prior] 47))); have HZ2 := Lib.hid (keepB HZ1.out (below_alloc w1 (.cells #[.string (mk X.proc), .slice ma X.mods.length mc, .int .i64 X.date, .int .i64 X.units, .int .i64 X.billed, .int .i64 X.prior] 47))); have HL2 := Lib.hid (heap_alloc_new w1 (.cells #[.string (mk X.proc), .slice ma X.mods.length mc, .int .i64 X.date, .int .i64 X.units, .int .i64 X.billed, .int .i64 X.prior] 47)); have ms := HB1.out.size; have mz : w.heap.size < w1.heap.size := (Array.getElem?_eq_some_iff.1 HZ1.out).1; obtain ⟨d0, d1, d2, d3, d4, d5⟩ := line_cells HZ2.out; obtain ⟨f0, f1, f2, f3, f4, f5⟩ := line_frozen HZ2.out; have nz : w.heap.size ≠ w1.heap.size := (by omega); have nz' : w1.heap.size ≠ w.heap.size := (by omega); have HC2 := Lib.hid (below_alloc w1 (.cells #[.string (mk X.proc), .slice ma X.mods.length mc, .int .i64 X.date, .int .i64 X.units, .int .i64 X.billed, .int .i64 X.prior] 47)); clear hb ht))
      generalize w1.alloc (.cells #[.string (mk X.proc), .slice ma X.mods.length mc, .int .i64 X.date, .int .i64 X.units, .int .i64 X.billed, .int .i64 X.prior] 47) = w2 at *
      obtain ⟨-, -, hcc, hlen⟩ := HK.out
      have p2 := HPp.out
      go_upto_if 27 with (first | (go_at_call 145; refine (HY.out _ HB2.out).mono ?_; rintro x w3 ⟨rfl, hb⟩; have HC3 := Lib.hid hb; have HB3 := Lib.hid (below_trans HB2.out hb); have HZ3 := Lib.hid (keepB HZ2.out hb); have HL3 := Lib.hid (keepB HL2.out hb); clear d0 d1 d2 d3 d4 d5 f0 f1 f2 f3 f4 f5; obtain ⟨d0, d1, d2, d3, d4, d5⟩ := line_cells HZ3.out; obtain ⟨f0, f1, f2, f3, f4, f5⟩ := line_frozen HZ3.out; obtain ⟨l0, l1, l2, l3, l4, l5⟩ := line_cells HL3.out; have g2 := Lib.frozen_of_heap HL3.out 2; have m3 := HB3.out.size; have m4 : w1.heap.size < w3.heap.size := (Array.getElem?_eq_some_iff.1 HL3.out).1; have HZ4 := Lib.hid (heap_far (j := 2) (u := .int .i64 DV) HZ3.out nz); have HL4 := Lib.hid (set_line2 (v := .int .i64 DV) HL3.out); have HB4 := Lib.hid (HB3.out.setCell (p := ⟨w1.heap.size, 2, none⟩) ms (.int .i64 DV)); have HC4 := Lib.hid ((below_trans HC2.out hb).setCell (p := ⟨w1.heap.size, 2, none⟩) (Nat.le_refl _) (.int .i64 DV)); clear hb))
      generalize w3.setCell ⟨w1.heap.size, 2, none⟩ (.int .i64 DV) = w4 at *
      clear d0 d1 d2 d3 d4 d5 f0 f1 f2 f3 f4 f5 l0 l1 l2 l3 l4 l5 g2
      clear hcc hlen
      obtain ⟨hc3, hlen3, -, -⟩ := HK.out
      have m5 : w1.heap.size < w4.heap.size := (Array.getElem?_eq_some_iff.1 HL4.out).1
      go_upto_if 61 with (first | (go_at_call 63; refine (HT.out _ HB4.out).mono ?_; rintro x w5 ⟨⟨u5, rfl, ht5⟩, hb⟩; have HB5 := Lib.hid (below_trans HB4.out hb); have HZ5 := Lib.hid (keepB HZ4.out hb); have HL5 := Lib.hid (keepB HL4.out hb); have HC5 := Lib.hid (HC4.out.trans (hb.mono HC4.out.size)); obtain ⟨d0, d1, d2, d3, d4, d5⟩ := line_cells HZ5.out; obtain ⟨f0, f1, f2, f3, f4, f5⟩ := line_frozen HZ5.out; obtain ⟨l0, l1, l2, l3, l4, l5⟩ := line_cells HL5.out; obtain ⟨bp, op, cp, rfl, hKb, g1, g3, hcc5⟩ := tx_opnK ht5 (by simp); have hc0 := hcc5 0 a1 rfl; have hc1 := hcc5 1 a2 rfl; rw [Nat.add_zero] at hc0; have nb : bp ≠ w1.heap.size := (by omega); clear ht5 hcc5; clear hb) | (go_at_call 127; refine (HMn.out _).mono ?_; rintro x w6 ⟨rfl, hb⟩; have hc6 := keepC hc0 hb; have HZ6 := Lib.hid (keepB HZ5.out hb); have HL6 := Lib.hid (keepB HL5.out hb); have HB6 := Lib.hid (below_trans HB5.out hb); have HZ7 := Lib.hid (heap_far (j := 5) (u := .int .i64 0) HZ6.out nz); have HL7 := Lib.hid (set_line5 (v := .int .i64 0) HL6.out); have HB7 := Lib.hid (HB6.out.setCell (p := ⟨w1.heap.size, 5, none⟩) ms (.int .i64 0)); have HC7 := Lib.hid ((HC5.out.trans (hb.mono HC5.out.size)).setCell (p := ⟨w1.heap.size, 5, none⟩) (Nat.le_refl _) (.int .i64 0)); have hc7 := cell_far (j := 5) (u := .int .i64 0) hc6 nb; have g5 := Lib.frozen_of_heap HL6.out 5; clear d0 d1 d2 d3 d4 d5 f0 f1 f2 f3 f4 f5 l0 l1 l2 l3 l4 l5; obtain ⟨l0, l1, l2, l3, l4, l5⟩ := line_cells HL6.out; obtain ⟨t0, t1, t2, t3, t4, t5⟩ := line_cells HL7.out; clear hb))
      generalize w6.setCell ⟨w1.heap.size, 5, none⟩ (.int .i64 0) = w7 at *
      clear l0 l1 l2 l3 l4 l5 hc6 g5
      obtain ⟨d0, d1, d2, d3, d4, d5⟩ := line_cells HZ7.out
      obtain ⟨f0, f1, f2, f3, f4, f5⟩ := line_frozen HZ7.out
      go_wp2
      refine bodyPost_ret (v := .tuple #[lnv ln0 (.slice none 0 0), .slice none 0 0, .int .i64 8]) (by simp [results, Tryz.results128, go_sem, d0, d1, d2, d3, d4, d5, nz, nz']; first | done | exact ⟨rfl, rfl, rfl, rfl, rfl⟩) rfl ?_
      exact ⟨⟨.slice none 0 0, .slice none 0 0, by rw [HX.out.1, HX.out.2.1], by rw [HX.out.2.1]; exact TxAt.nil _ _, by rw [HX.out.2.2]; exact SgAt.nil _ _⟩, put6_below (HB7.out) w.heap.size (Nat.le_refl _) _ _ _ _ _ _⟩
    have HX := Lib.hid (HOK.out (by rw [HAM.out, decide_eq_true hD, e0, decide_eq_true hM]; rfl))
    rw [decide_eq_true hD] at heq
    rw [e0] at HMn
    have hM0 : (Nu.mnV a2 == 0) = false := by simpa using hM
    clear hD e0 hM
    generalize Nu.mnV a2 = M at *
    by_cases hc5 : c - 1 - 1 = 1
    · have HK5 : Hid (r2.length = 0 ∧ c - 1 - 1 = 1) := ⟨by have := HK.out.2.1; omega, hc5⟩
      have HSf : Hid (∀ W, Below w.heap.size w W → SgAt K W (.slice (some ⟨b, o + 1 + 1, none⟩) 0 0) r2) := fun W hW => by rw [List.length_eq_zero_iff.1 HK5.out.1]; exact RowAt.nil_of (by simp [maxLen])
      clear hc5 HS3
      have HPp := Lib.hid p2
      clear p2
      go_enter Tryz.func128, Tryz.ntmps128
      go_upto_if 15 with (first | (go_at_call 144; refine HD.out.mono ?_; rintro x w1 ⟨⟨m, rfl, ht⟩, hb⟩; have HT1 := Lib.hid ht; obtain ⟨ma, mc, rfl, q1, q1'⟩ := Cm.TxAt.form ht; have HB1 := Lib.hid (below_trans (below_alloc w _) hb); have HZ1 := Lib.hid (keepB (heap_alloc_new w (.cells #[.string ByteArray.empty, .slice none 0 0, .int .i64 0, .int .i64 0, .int .i64 0, .int .i64 0] 47)) hb); have HB2 := Lib.hid (below_trans HB1.out (below_alloc w1 (.cells #[.string (mk X.proc), .slice ma X.mods.length mc, .int .i64 X.date, .int .i64 X.units, .int .i64 X.billed, .int .i64 X.prior] 47))); have HZ2 := Lib.hid (keepB HZ1.out (below_alloc w1 (.cells #[.string (mk X.proc), .slice ma X.mods.length mc, .int .i64 X.date, .int .i64 X.units, .int .i64 X.billed, .int .i64 X.prior] 47))); have HL2 := Lib.hid (heap_alloc_new w1 (.cells #[.string (mk X.proc), .slice ma X.mods.length mc, .int .i64 X.date, .int .i64 X.units, .int .i64 X.billed, .int .i64 X.prior] 47)); have ms := HB1.out.size; have mz : w.heap.size < w1.heap.size := (Array.getElem?_eq_some_iff.1 HZ1.out).1; obtain ⟨d0, d1, d2, d3, d4, d5⟩ := line_cells HZ2.out; obtain ⟨f0, f1, f2, f3, f4, f5⟩ := line_frozen HZ2.out; have nz : w.heap.size ≠ w1.heap.size := (by omega); have nz' : w1.heap.size ≠ w.heap.size := (by omega); have HC2 := Lib.hid (below_alloc w1 (.cells #[.string (mk X.proc), .slice ma X.mods.length mc, .int .i64 X.date, .int .i64 X.units, .int .i64 X.billed, .int .i64 X.prior] 47)); clear hb ht))
      generalize w1.alloc (.cells #[.string (mk X.proc), .slice ma X.mods.length mc, .int .i64 X.date, .int .i64 X.units, .int .i64 X.billed, .int .i64 X.prior] 47) = w2 at *
      obtain ⟨-, -, hcc, hlen⟩ := HK.out
      have p2 := HPp.out
      go_upto_if 27 with (first | (go_at_call 145; refine (HY.out _ HB2.out).mono ?_; rintro x w3 ⟨rfl, hb⟩; have HC3 := Lib.hid hb; have HB3 := Lib.hid (below_trans HB2.out hb); have HZ3 := Lib.hid (keepB HZ2.out hb); have HL3 := Lib.hid (keepB HL2.out hb); clear d0 d1 d2 d3 d4 d5 f0 f1 f2 f3 f4 f5; obtain ⟨d0, d1, d2, d3, d4, d5⟩ := line_cells HZ3.out; obtain ⟨f0, f1, f2, f3, f4, f5⟩ := line_frozen HZ3.out; obtain ⟨l0, l1, l2, l3, l4, l5⟩ := line_cells HL3.out; have g2 := Lib.frozen_of_heap HL3.out 2; have m3 := HB3.out.size; have m4 : w1.heap.size < w3.heap.size := (Array.getElem?_eq_some_iff.1 HL3.out).1; have HZ4 := Lib.hid (heap_far (j := 2) (u := .int .i64 DV) HZ3.out nz); have HL4 := Lib.hid (set_line2 (v := .int .i64 DV) HL3.out); have HB4 := Lib.hid (HB3.out.setCell (p := ⟨w1.heap.size, 2, none⟩) ms (.int .i64 DV)); have HC4 := Lib.hid ((below_trans HC2.out hb).setCell (p := ⟨w1.heap.size, 2, none⟩) (Nat.le_refl _) (.int .i64 DV)); clear hb))
      generalize w3.setCell ⟨w1.heap.size, 2, none⟩ (.int .i64 DV) = w4 at *
      clear d0 d1 d2 d3 d4 d5 f0 f1 f2 f3 f4 f5 l0 l1 l2 l3 l4 l5 g2
      clear hcc hlen
      obtain ⟨hc3, hlen3, -, -⟩ := HK.out
      have m5 : w1.heap.size < w4.heap.size := (Array.getElem?_eq_some_iff.1 HL4.out).1
      go_upto_if 61 with (first | (go_at_call 63; refine (HT.out _ HB4.out).mono ?_; rintro x w5 ⟨⟨u5, rfl, ht5⟩, hb⟩; have HB5 := Lib.hid (below_trans HB4.out hb); have HZ5 := Lib.hid (keepB HZ4.out hb); have HL5 := Lib.hid (keepB HL4.out hb); have HC5 := Lib.hid (HC4.out.trans (hb.mono HC4.out.size)); obtain ⟨d0, d1, d2, d3, d4, d5⟩ := line_cells HZ5.out; obtain ⟨f0, f1, f2, f3, f4, f5⟩ := line_frozen HZ5.out; obtain ⟨l0, l1, l2, l3, l4, l5⟩ := line_cells HL5.out; obtain ⟨bp, op, cp, rfl, hKb, g1, g3, hcc5⟩ := tx_opnK ht5 (by simp); have hc0 := hcc5 0 a1 rfl; have hc1 := hcc5 1 a2 rfl; rw [Nat.add_zero] at hc0; have nb : bp ≠ w1.heap.size := (by omega); clear ht5 hcc5; clear hb) | (go_at_call 127; refine (HMn.out _).mono ?_; rintro x w6 ⟨rfl, hb⟩; have hc6 := keepC hc0 hb; have HZ6 := Lib.hid (keepB HZ5.out hb); have HL6 := Lib.hid (keepB HL5.out hb); have HB6 := Lib.hid (below_trans HB5.out hb); have HZ7 := Lib.hid (heap_far (j := 5) (u := .int .i64 M) HZ6.out nz); have HL7 := Lib.hid (set_line5 (v := .int .i64 M) HL6.out); have HB7 := Lib.hid (HB6.out.setCell (p := ⟨w1.heap.size, 5, none⟩) ms (.int .i64 M)); have HC7 := Lib.hid ((HC5.out.trans (hb.mono HC5.out.size)).setCell (p := ⟨w1.heap.size, 5, none⟩) (Nat.le_refl _) (.int .i64 M)); have hc7 := cell_far (j := 5) (u := .int .i64 M) hc6 nb; have g5 := Lib.frozen_of_heap HL6.out 5; clear d0 d1 d2 d3 d4 d5 f0 f1 f2 f3 f4 f5 l0 l1 l2 l3 l4 l5; obtain ⟨l0, l1, l2, l3, l4, l5⟩ := line_cells HL6.out; obtain ⟨t0, t1, t2, t3, t4, t5⟩ := line_cells HL7.out; clear hb))
      generalize w6.setCell ⟨w1.heap.size, 5, none⟩ (.int .i64 M) = w7 at *
      clear l0 l1 l2 l3 l4 l5 hc6 g5
      obtain ⟨d0, d1, d2, d3, d4, d5⟩ := line_cells HZ7.out
      obtain ⟨f0, f1, f2, f3, f4, f5⟩ := line_frozen HZ7.out
      obtain ⟨q5, q6⟩ := HK5.out
      go_upto_region 15 with fail
      clear hM0 heq hc7 HMn HT HY HD HPp
      go_region_held3 (fun w' => w'.cell? ⟨w1.heap.size, 0, none⟩ = some (.string (mk X.proc)) ∧ w'.cell? ⟨w1.heap.size, 1, none⟩ = some (.slice ma X.mods.length mc) ∧ w'.cell? ⟨w1.heap.size, 2, none⟩ = some (.int .i64 DV) ∧ w'.cell? ⟨w1.heap.size, 3, none⟩ = some (.int .i64 X.units) ∧ w'.cell? ⟨w1.heap.size, 4, none⟩ = some (.int .i64 X.billed) ∧ w'.cell? ⟨w1.heap.size, 5, none⟩ = some (.int .i64 M)) (first | go_keep | exact ⟨put6_cell (by assumption) nz', put6_cell (by assumption) nz', put6_cell (by assumption) nz', put6_cell (by assumption) nz', put6_cell (by assumption) nz', put6_cell (by assumption) nz'⟩) (fail)
      rename_i hKont hHeld
      refine hKont _ _ ?_
      clear hHeld hKont d0 d1 d2 d3 d4 d5 f0 f1 f2 f3 f4 f5 t0 t1 t2 t3 t4 t5
      go_wp2
      have HBF : Hid (Below w.heap.size w ((((((w7.setCell ⟨w.heap.size, 0, none⟩ (.string (mk X.proc))).setCell ⟨w.heap.size, 1, none⟩ (.slice ma X.mods.length mc)).setCell ⟨w.heap.size, 2, none⟩ (.int .i64 DV)).setCell ⟨w.heap.size, 3, none⟩ (.int .i64 X.units)).setCell ⟨w.heap.size, 4, none⟩ (.int .i64 X.billed)).setCell ⟨w.heap.size, 5, none⟩ (.int .i64 M))) := put6_below HB7.out w.heap.size (Nat.le_refl _) _ _ _ _ _ _
      have HZF : Hid (((((((w7.setCell ⟨w.heap.size, 0, none⟩ (.string (mk X.proc))).setCell ⟨w.heap.size, 1, none⟩ (.slice ma X.mods.length mc)).setCell ⟨w.heap.size, 2, none⟩ (.int .i64 DV)).setCell ⟨w.heap.size, 3, none⟩ (.int .i64 X.units)).setCell ⟨w.heap.size, 4, none⟩ (.int .i64 X.billed)).setCell ⟨w.heap.size, 5, none⟩ (.int .i64 M)).heap[w.heap.size]? = some (.cells #[.string (mk X.proc), .slice ma X.mods.length mc, .int .i64 DV, .int .i64 X.units, .int .i64 X.billed, .int .i64 M] 47 (0, 0))) := put6_heap HZ7.out
      have HMF : Hid (TxAt (fun b => w.heap.size < b) ((((((w7.setCell ⟨w.heap.size, 0, none⟩ (.string (mk X.proc))).setCell ⟨w.heap.size, 1, none⟩ (.slice ma X.mods.length mc)).setCell ⟨w.heap.size, 2, none⟩ (.int .i64 DV)).setCell ⟨w.heap.size, 3, none⟩ (.int .i64 X.units)).setCell ⟨w.heap.size, 4, none⟩ (.int .i64 X.billed)).setCell ⟨w.heap.size, 5, none⟩ (.int .i64 M)) (.slice ma X.mods.length mc) X.mods) := TxAt.move (TxAt.move HT1.out (K' := fun b => w.heap.size < b) ⟨HC7.out.size, fun b hb hk => ⟨by simp at hk; omega, HC7.out.block b hb⟩⟩) (put6_moves _ _ _ _ _ _ _ _)
      generalize ((((((w7.setCell ⟨w.heap.size, 0, none⟩ (.string (mk X.proc))).setCell ⟨w.heap.size, 1, none⟩ (.slice ma X.mods.length mc)).setCell ⟨w.heap.size, 2, none⟩ (.int .i64 DV)).setCell ⟨w.heap.size, 3, none⟩ (.int .i64 X.units)).setCell ⟨w.heap.size, 4, none⟩ (.int .i64 X.billed)).setCell ⟨w.heap.size, 5, none⟩ (.int .i64 M)) = wz at *
      obtain ⟨e0, e1, e2, e3, e4, e5⟩ := line_cells HZF.out
      refine bodyPost_ret (v := .tuple #[lnv ⟨X.proc, X.mods, DV, X.units, X.billed, M⟩ (.slice ma X.mods.length mc), .slice (some ⟨b, o + 1 + 1, none⟩) 0 0, .int .i64 0]) (by simp [results, Tryz.results128, go_sem, e0, e1, e2, e3, e4, e5]) rfl ?_
      refine ⟨⟨.slice ma X.mods.length mc, .slice (some ⟨b, o + 1 + 1, none⟩) 0 0, by rw [HX.out.1, HX.out.2.1], by rw [HX.out.2.1]; exact HMF.out, by rw [HX.out.2.2]; exact HSf.out _ (Below.drew HBF.out)⟩, Below.drew HBF.out⟩
    · have HSf := HS3
      have HK5 : Hid (¬ c - 1 - 1 = 1 ∧ r2.length + 1 ≤ c - 1 - 1) := ⟨hc5, by have := HK.out.2.1; omega⟩
      clear hc5 HS3
      have HPp := Lib.hid p2
      clear p2
      go_enter Tryz.func128, Tryz.ntmps128
      go_upto_if 15 with (first | (go_at_call 144; refine HD.out.mono ?_; rintro x w1 ⟨⟨m, rfl, ht⟩, hb⟩; have HT1 := Lib.hid ht; obtain ⟨ma, mc, rfl, q1, q1'⟩ := Cm.TxAt.form ht; have HB1 := Lib.hid (below_trans (below_alloc w _) hb); have HZ1 := Lib.hid (keepB (heap_alloc_new w (.cells #[.string ByteArray.empty, .slice none 0 0, .int .i64 0, .int .i64 0, .int .i64 0, .int .i64 0] 47)) hb); have HB2 := Lib.hid (below_trans HB1.out (below_alloc w1 (.cells #[.string (mk X.proc), .slice ma X.mods.length mc, .int .i64 X.date, .int .i64 X.units, .int .i64 X.billed, .int .i64 X.prior] 47))); have HZ2 := Lib.hid (keepB HZ1.out (below_alloc w1 (.cells #[.string (mk X.proc), .slice ma X.mods.length mc, .int .i64 X.date, .int .i64 X.units, .int .i64 X.billed, .int .i64 X.prior] 47))); have HL2 := Lib.hid (heap_alloc_new w1 (.cells #[.string (mk X.proc), .slice ma X.mods.length mc, .int .i64 X.date, .int .i64 X.units, .int .i64 X.billed, .int .i64 X.prior] 47)); have ms := HB1.out.size; have mz : w.heap.size < w1.heap.size := (Array.getElem?_eq_some_iff.1 HZ1.out).1; obtain ⟨d0, d1, d2, d3, d4, d5⟩ := line_cells HZ2.out; obtain ⟨f0, f1, f2, f3, f4, f5⟩ := line_frozen HZ2.out; have nz : w.heap.size ≠ w1.heap.size := (by omega); have nz' : w1.heap.size ≠ w.heap.size := (by omega); have HC2 := Lib.hid (below_alloc w1 (.cells #[.string (mk X.proc), .slice ma X.mods.length mc, .int .i64 X.date, .int .i64 X.units, .int .i64 X.billed, .int .i64 X.prior] 47)); clear hb ht))
      generalize w1.alloc (.cells #[.string (mk X.proc), .slice ma X.mods.length mc, .int .i64 X.date, .int .i64 X.units, .int .i64 X.billed, .int .i64 X.prior] 47) = w2 at *
      obtain ⟨-, -, hcc, hlen⟩ := HK.out
      have p2 := HPp.out
      go_upto_if 27 with (first | (go_at_call 145; refine (HY.out _ HB2.out).mono ?_; rintro x w3 ⟨rfl, hb⟩; have HC3 := Lib.hid hb; have HB3 := Lib.hid (below_trans HB2.out hb); have HZ3 := Lib.hid (keepB HZ2.out hb); have HL3 := Lib.hid (keepB HL2.out hb); clear d0 d1 d2 d3 d4 d5 f0 f1 f2 f3 f4 f5; obtain ⟨d0, d1, d2, d3, d4, d5⟩ := line_cells HZ3.out; obtain ⟨f0, f1, f2, f3, f4, f5⟩ := line_frozen HZ3.out; obtain ⟨l0, l1, l2, l3, l4, l5⟩ := line_cells HL3.out; have g2 := Lib.frozen_of_heap HL3.out 2; have m3 := HB3.out.size; have m4 : w1.heap.size < w3.heap.size := (Array.getElem?_eq_some_iff.1 HL3.out).1; have HZ4 := Lib.hid (heap_far (j := 2) (u := .int .i64 DV) HZ3.out nz); have HL4 := Lib.hid (set_line2 (v := .int .i64 DV) HL3.out); have HB4 := Lib.hid (HB3.out.setCell (p := ⟨w1.heap.size, 2, none⟩) ms (.int .i64 DV)); have HC4 := Lib.hid ((below_trans HC2.out hb).setCell (p := ⟨w1.heap.size, 2, none⟩) (Nat.le_refl _) (.int .i64 DV)); clear hb))
      generalize w3.setCell ⟨w1.heap.size, 2, none⟩ (.int .i64 DV) = w4 at *
      clear d0 d1 d2 d3 d4 d5 f0 f1 f2 f3 f4 f5 l0 l1 l2 l3 l4 l5 g2
      clear hcc hlen
      obtain ⟨hc3, hlen3, -, -⟩ := HK.out
      have m5 : w1.heap.size < w4.heap.size := (Array.getElem?_eq_some_iff.1 HL4.out).1
      go_upto_if 61 with (first | (go_at_call 63; refine (HT.out _ HB4.out).mono ?_; rintro x w5 ⟨⟨u5, rfl, ht5⟩, hb⟩; have HB5 := Lib.hid (below_trans HB4.out hb); have HZ5 := Lib.hid (keepB HZ4.out hb); have HL5 := Lib.hid (keepB HL4.out hb); have HC5 := Lib.hid (HC4.out.trans (hb.mono HC4.out.size)); obtain ⟨d0, d1, d2, d3, d4, d5⟩ := line_cells HZ5.out; obtain ⟨f0, f1, f2, f3, f4, f5⟩ := line_frozen HZ5.out; obtain ⟨l0, l1, l2, l3, l4, l5⟩ := line_cells HL5.out; obtain ⟨bp, op, cp, rfl, hKb, g1, g3, hcc5⟩ := tx_opnK ht5 (by simp); have hc0 := hcc5 0 a1 rfl; have hc1 := hcc5 1 a2 rfl; rw [Nat.add_zero] at hc0; have nb : bp ≠ w1.heap.size := (by omega); clear ht5 hcc5; clear hb) | (go_at_call 127; refine (HMn.out _).mono ?_; rintro x w6 ⟨rfl, hb⟩; have hc6 := keepC hc0 hb; have HZ6 := Lib.hid (keepB HZ5.out hb); have HL6 := Lib.hid (keepB HL5.out hb); have HB6 := Lib.hid (below_trans HB5.out hb); have HZ7 := Lib.hid (heap_far (j := 5) (u := .int .i64 M) HZ6.out nz); have HL7 := Lib.hid (set_line5 (v := .int .i64 M) HL6.out); have HB7 := Lib.hid (HB6.out.setCell (p := ⟨w1.heap.size, 5, none⟩) ms (.int .i64 M)); have HC7 := Lib.hid ((HC5.out.trans (hb.mono HC5.out.size)).setCell (p := ⟨w1.heap.size, 5, none⟩) (Nat.le_refl _) (.int .i64 M)); have hc7 := cell_far (j := 5) (u := .int .i64 M) hc6 nb; have g5 := Lib.frozen_of_heap HL6.out 5; clear d0 d1 d2 d3 d4 d5 f0 f1 f2 f3 f4 f5 l0 l1 l2 l3 l4 l5; obtain ⟨l0, l1, l2, l3, l4, l5⟩ := line_cells HL6.out; obtain ⟨t0, t1, t2, t3, t4, t5⟩ := line_cells HL7.out; clear hb))
      generalize w6.setCell ⟨w1.heap.size, 5, none⟩ (.int .i64 M) = w7 at *
      clear l0 l1 l2 l3 l4 l5 hc6 g5
      obtain ⟨d0, d1, d2, d3, d4, d5⟩ := line_cells HZ7.out
      obtain ⟨f0, f1, f2, f3, f4, f5⟩ := line_frozen HZ7.out
      obtain ⟨q5, q6⟩ := HK5.out
      have q7 : (1 : Int) ≤ (r2.length : Int) + 1 := by omega
      have q8 : (r2.length : Int) + 1 ≤ ((c - 1 - 1 : Nat) : Int) := by omega
      have q9 : (1 : Int) ≤ ((c - 1 - 1 : Nat) : Int) := by omega
      have q10 : 1 ≤ c - 1 - 1 := by omega
      go_upto_region 15 with fail
      clear hM0 heq hc7 HMn HT HY HD HPp
      go_region_held3 (fun w' => w'.cell? ⟨w1.heap.size, 0, none⟩ = some (.string (mk X.proc)) ∧ w'.cell? ⟨w1.heap.size, 1, none⟩ = some (.slice ma X.mods.length mc) ∧ w'.cell? ⟨w1.heap.size, 2, none⟩ = some (.int .i64 DV) ∧ w'.cell? ⟨w1.heap.size, 3, none⟩ = some (.int .i64 X.units) ∧ w'.cell? ⟨w1.heap.size, 4, none⟩ = some (.int .i64 X.billed) ∧ w'.cell? ⟨w1.heap.size, 5, none⟩ = some (.int .i64 M)) (first | go_keep | exact ⟨put6_cell (by assumption) nz', put6_cell (by assumption) nz', put6_cell (by assumption) nz', put6_cell (by assumption) nz', put6_cell (by assumption) nz', put6_cell (by assumption) nz'⟩) (fail)
      rename_i hKont hHeld
      refine hKont _ _ ?_
      clear hHeld hKont d0 d1 d2 d3 d4 d5 f0 f1 f2 f3 f4 f5 t0 t1 t2 t3 t4 t5
      go_wp2
      have HBF : Hid (Below w.heap.size w ((((((w7.setCell ⟨w.heap.size, 0, none⟩ (.string (mk X.proc))).setCell ⟨w.heap.size, 1, none⟩ (.slice ma X.mods.length mc)).setCell ⟨w.heap.size, 2, none⟩ (.int .i64 DV)).setCell ⟨w.heap.size, 3, none⟩ (.int .i64 X.units)).setCell ⟨w.heap.size, 4, none⟩ (.int .i64 X.billed)).setCell ⟨w.heap.size, 5, none⟩ (.int .i64 M))) := put6_below HB7.out w.heap.size (Nat.le_refl _) _ _ _ _ _ _
      have HZF : Hid (((((((w7.setCell ⟨w.heap.size, 0, none⟩ (.string (mk X.proc))).setCell ⟨w.heap.size, 1, none⟩ (.slice ma X.mods.length mc)).setCell ⟨w.heap.size, 2, none⟩ (.int .i64 DV)).setCell ⟨w.heap.size, 3, none⟩ (.int .i64 X.units)).setCell ⟨w.heap.size, 4, none⟩ (.int .i64 X.billed)).setCell ⟨w.heap.size, 5, none⟩ (.int .i64 M)).heap[w.heap.size]? = some (.cells #[.string (mk X.proc), .slice ma X.mods.length mc, .int .i64 DV, .int .i64 X.units, .int .i64 X.billed, .int .i64 M] 47 (0, 0))) := put6_heap HZ7.out
      have HMF : Hid (TxAt (fun b => w.heap.size < b) ((((((w7.setCell ⟨w.heap.size, 0, none⟩ (.string (mk X.proc))).setCell ⟨w.heap.size, 1, none⟩ (.slice ma X.mods.length mc)).setCell ⟨w.heap.size, 2, none⟩ (.int .i64 DV)).setCell ⟨w.heap.size, 3, none⟩ (.int .i64 X.units)).setCell ⟨w.heap.size, 4, none⟩ (.int .i64 X.billed)).setCell ⟨w.heap.size, 5, none⟩ (.int .i64 M)) (.slice ma X.mods.length mc) X.mods) := TxAt.move (TxAt.move HT1.out (K' := fun b => w.heap.size < b) ⟨HC7.out.size, fun b hb hk => ⟨by simp at hk; omega, HC7.out.block b hb⟩⟩) (put6_moves _ _ _ _ _ _ _ _)
      generalize ((((((w7.setCell ⟨w.heap.size, 0, none⟩ (.string (mk X.proc))).setCell ⟨w.heap.size, 1, none⟩ (.slice ma X.mods.length mc)).setCell ⟨w.heap.size, 2, none⟩ (.int .i64 DV)).setCell ⟨w.heap.size, 3, none⟩ (.int .i64 X.units)).setCell ⟨w.heap.size, 4, none⟩ (.int .i64 X.billed)).setCell ⟨w.heap.size, 5, none⟩ (.int .i64 M)) = wz at *
      obtain ⟨e0, e1, e2, e3, e4, e5⟩ := line_cells HZF.out
      refine bodyPost_ret (v := .tuple #[lnv ⟨X.proc, X.mods, DV, X.units, X.billed, M⟩ (.slice ma X.mods.length mc), .slice (some ⟨b, o + 1 + 1 + 1, none⟩) r2.length (c - 1 - 1 - 1), .int .i64 0]) (by simp [results, Tryz.results128, go_sem, e0, e1, e2, e3, e4, e5]) rfl ?_
      refine ⟨⟨.slice ma X.mods.length mc, .slice (some ⟨b, o + 1 + 1 + 1, none⟩) r2.length (c - 1 - 1 - 1), by rw [HX.out.1, HX.out.2.1], by rw [HX.out.2.1]; exact HMF.out, by rw [HX.out.2.2]; exact HSf.out _ (Below.drew HBF.out)⟩, Below.drew HBF.out⟩
end Go.Proofs.YtpmnepihaljamaaGreatDoor
end
