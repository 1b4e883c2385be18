/-
  Texts put together (merge.py): XTake.
-/
import Derived.Test.YtgloihilnbjmeaaDoorMc15
import Derived.Test.YtgloihilnbjmeaaDoorMc24
import Derived.Test.YtgloihilnbjmeaaDoorMc25
/-
  What the reader's fail and take do, as contracts: the reader goes on, and keeps the first fault.
-/
section
set_option linter.unusedSimpArgs false
set_option linter.unusedVariables false
set_option maxRecDepth 100000
namespace Go.Proofs.YtgloihilnbjmeaaDoor.Ex
open Go.RowKit
open Wo (Wd WdsAt box_cell box_two keepB heap_far below_alloc below_trans)

/-- Words that are not too long, and not too many. -/
def Wb (l : List Wd) : Prop := (∀ x ∈ l, x.1.length ≤ 65536) ∧ l.length ≤ 65536
theorem Wb.tail {l : List Wd} (h : Wb l) : Wb l.tail := ⟨fun x hx => h.1 x (List.mem_of_mem_tail hx), by have := h.2; simp; omega⟩
/-- The reader in its box: what is left, where the text ends, the fault. -/
def RdAt (q E : Nat) (l : List Wd) (f : Int × Nat) (w : World) : Prop := ∃ v, w.heap[q]? = some (.cells #[v, .int .i64 (E : Nat), .int .i64 f.1, .int .i64 (f.2 : Nat)] 58 (0, 0)) ∧ WdsAt (fun b => b < q) w v l ∧ Wb l
theorem RdAt.lt {q E : Nat} {l : List Wd} {f : Int × Nat} {w : World} (h : RdAt q E l f w) : q < w.heap.size := by obtain ⟨v, h, -⟩ := h; exact (Array.getElem?_eq_some_iff.1 h).1
theorem RdAt.wb {q E : Nat} {l : List Wd} {f : Int × Nat} {w : World} (h : RdAt q E l f w) : Wb l := by obtain ⟨v, _, _, h⟩ := h; exact h
theorem RdAt.grw {q E : Nat} {l : List Wd} {f : Int × Nat} {w w' : World} (h : RdAt q E l f w) (hb : Below w.heap.size w w') : RdAt q E l f w' := by
  obtain ⟨v, h1, h2, h3⟩ := h
  exact ⟨v, keepB h1 hb, h2.move ⟨hb.size, fun b hb' hk => ⟨hk, hb.block b hb'⟩⟩, h3⟩
theorem grown_tr {w W W' : World} {p : Option Nat} (h : w.grownBy W p) (h' : W.grownBy W' p) : w.grownBy W' p :=
  ⟨h'.os.trans h.os, h'.tape.trans h.tape, h'.output.trans h.output, Nat.le_trans h.size h'.size, fun k hk hne => (h'.block k (Nat.lt_of_lt_of_le hk h.size) hne).trans (h.block k hk hne)⟩
theorem grown_of {w w' : World} {p : Option Nat} (hb : Below w.heap.size w w') : w.grownBy w' p := ⟨hb.os, hb.tape, hb.output, hb.size, fun k hk _ => hb.block k hk⟩
theorem grown_heap {W W' : World} {p q : Nat} {o : Obj} (h : W.heap[q]? = some o) (hG : W.grownBy W' (some p)) (hne : q ≠ p) : W'.heap[q]? = some o := by
  rw [hG.block q (Array.getElem?_eq_some_iff.1 h).1 (fun e => hne (Option.some.inj e))]; exact h
theorem grown_set {w W : World} {p : Nat} (h : w.grownBy W (some p)) (j : Nat) (v : Value) : w.grownBy (W.setCell ⟨p, j, none⟩ v) (some p) :=
  ⟨h.os, h.tape, h.output, by simp [World.setCell]; exact h.size, fun k hk hne => by rw [Below.heap_setCell _ _ _ _ (fun e => hne (by rw [show k = p from e]))]; exact h.block k hk hne⟩
theorem grown_new {w W : World} {p : Option Nat} (h : w.grownBy W p) {q : Nat} (hq : w.heap.size ≤ q) (j : Nat) (v : Value) : w.grownBy (W.setCell ⟨q, j, none⟩ v) p :=
  ⟨h.os, h.tape, h.output, by simp [World.setCell]; exact h.size, fun k hk hne => by rw [Below.heap_setCell _ _ _ _ (by show k ≠ q; omega)]; exact h.block k hk hne⟩
theorem grown_alloc {w W : World} {p : Option Nat} (h : w.grownBy W p) (o : Obj) : w.grownBy (W.alloc o) p := grown_tr h (grown_of (below_alloc W o))
abbrev wdv (x : Wd) : Value := .agg #[.string (mk x.1), .int .i64 (x.2 : Nat)]
theorem frz4 {w : World} {q : Nat} {cs : Array Value} {T : TypeId} (h : w.heap[q]? = some (.cells cs T (0, 0))) : w.frozen? ⟨q, 0, none⟩ = false ∧ w.frozen? ⟨q, 1, none⟩ = false ∧ w.frozen? ⟨q, 2, none⟩ = false ∧ w.frozen? ⟨q, 3, none⟩ = false := ⟨Lib.frozen_of_heap h 0, Lib.frozen_of_heap h 1, Lib.frozen_of_heap h 2, Lib.frozen_of_heap h 3⟩

set_option maxHeartbeats 4000000 in
theorem fail_any (q E : Nat) (l : List Wd) (f : Int × Nat) (e : Int) (a : Nat) (w : World) (h : RdAt q E l f w) :
    Calls Tryd.prog 45 #[.pointer (some ⟨q, 0, none⟩), .int .i64 e, .int .i64 (a : Nat)] w fun r w' => r = .returned (.tuple #[]) ∧ RdAt q E l (kp f e a) w' ∧ w.grownBy w' (some q) := by
  obtain ⟨v, hq, hW, hX⟩ := h
  obtain ⟨c0, c1, c2, c3⟩ := cells4 hq
  obtain ⟨z0, z1, z2, z3⟩ := frz4 hq
  have HQ := Lib.hid hq
  have HW := Lib.hid hW
  have HX := Lib.hid hX
  obtain ⟨f1, f2⟩ := f
  simp only at c2 c3
  clear hq hW hX
  by_cases h0 : f1 = 0
  · subst h0
    have HK : Hid (kp (0, f2) e a = (e, a)) := kp_yes rfl e a
    rw [HK.out]
    clear HK
    go_enter Tryd.func45, Tryd.ntmps45
    go_wp2
    go_end0
    have h2 : (w.setCell ⟨q, 2, none⟩ (.int .i64 e)).heap[q]? = some (.cells #[v, .int .i64 (E : Nat), .int .i64 e, .int .i64 (f2 : Nat)] 58 (0, 0)) := heap_setCell_same w q 2 _ _ _ HQ.out
    have h3 : ((w.setCell ⟨q, 2, none⟩ (.int .i64 e)).setCell ⟨q, 3, none⟩ (.int .i64 (a : Nat))).heap[q]? = some (.cells #[v, .int .i64 (E : Nat), .int .i64 e, .int .i64 (a : Nat)] 58 (0, 0)) := heap_setCell_same _ q 3 _ _ _ h2
    refine ⟨rfl, ⟨v, h3, WdsAt.move HW.out ⟨by simp [World.setCell], fun b _ hk => ⟨hk, ?_⟩⟩, HX.out⟩, grown_set (grown_set (grown_of (Below.refl _ w)) 2 _) 3 _⟩
    rw [Below.heap_setCell _ _ _ _ (Nat.ne_of_lt hk), Below.heap_setCell _ _ _ _ (Nat.ne_of_lt hk)]
  · have HK : Hid (kp (f1, f2) e a = (f1, f2)) := kp_no h0 e a
    rw [HK.out]
    have q0 : (f1 == 0) = false := by rw [beq_eq_false_iff_ne]; exact h0
    clear HK h0
    go_enter Tryd.func45, Tryd.ntmps45
    go_wp2
    go_end0
    exact ⟨rfl, ⟨v, HQ.out, HW.out, HX.out⟩, grown_of (Below.refl _ _)⟩

set_option maxHeartbeats 4000000 in
theorem take_any (q E : Nat) (l : List Wd) (f : Int × Nat) (w : World) (h : RdAt q E l f w) :
    Calls Tryd.prog 44 #[.pointer (some ⟨q, 0, none⟩)] w fun e w' => e = .returned (wdv (tkW E l)) ∧ RdAt q E l.tail (tkF E l f) w' ∧ w.grownBy w' (some q) := by
  have hb1 := below_alloc w (.cells #[.string ⟨#[]⟩, .int .i64 0] 61)
  have hr1 := h.grw hb1
  have hlt : q < w.heap.size := h.lt
  have HWB := Lib.hid h.wb
  obtain ⟨v, hq, hW, -⟩ := h
  have hq1 := keepB hq hb1
  obtain ⟨c0, c1, c2, c3⟩ := cells4 hq1
  have hW1 : WdsAt (fun b => b < q) _ v l := hW.move ⟨hb1.size, fun b hb' hk => ⟨hk, hb1.block b hb'⟩⟩
  obtain ⟨a, c, rfl, hl1, hl2⟩ := hW.form
  have HN := Lib.hid (heap_alloc_new w (.cells #[.string ⟨#[]⟩, .int .i64 0] 61))
  cases l with
  | nil =>
    simp only [List.length_nil] at c0 hl1
    have HFl := Lib.hid (fail_any q E [] f 4 E _ hr1)
    have HG1 := Lib.hid (grown_of (p := some q) hb1)
    have hne : w.heap.size ≠ q := by omega
    clear hq hW hq1 hW1 hb1 hr1
    go_enter Tryd.func44, Tryd.ntmps44
    go_upto_region 1 with fail
    generalize w.alloc (.cells #[.string ⟨#[]⟩, .int .i64 0] 61) = W at *
    generalize hp : w.heap.size = p at *
    go_wp2_with fail
    go_at_call 45
    refine HFl.out.mono ?_
    rintro e w2 ⟨rfl, hr2, hg2⟩
    have HR2 := Lib.hid hr2
    have HN2 := Lib.hid (grown_heap HN.out hg2 hne)
    have HG2 := Lib.hid (grown_tr HG1.out hg2)
    obtain ⟨v2, hq2, -, -⟩ := hr2
    clear c0 c1 c2 c3 hg2 HN HFl
    obtain ⟨c0, c1, c2, c3⟩ := cells4 hq2
    obtain ⟨d0, d1, d2, d3⟩ := box_two HN2.out
    clear hq2
    go_wp2
    have hn3 := hp2_same HN2.out (.string ⟨#[]⟩) (.int .i64 (E : Nat))
    have hg3 := grown_tr HG2.out (grown_of (p := some q) (Below.refl _ w2))
    obtain ⟨FW, hFW⟩ : ∃ z, z = put2 w2 p (.string ⟨#[]⟩) (.int .i64 (E : Nat)) := ⟨_, rfl⟩
    have hgF : w.grownBy FW (some q) := by rw [hFW]; exact grown_new (grown_new HG2.out (by omega) 0 _) (by omega) 1 _
    have hrF : RdAt q E [] (kp f 4 E) FW := by
      rw [hFW]
      obtain ⟨v', k1, k2, k3⟩ := HR2.out
      refine ⟨v', hp2_far k1 (Ne.symm hne) _ _, k2.move ⟨by simp [put2, World.setCell], fun b _ hk => ⟨hk, ?_⟩⟩, k3⟩
      have : b ≠ p := by omega
      unfold put2
      rw [Below.heap_setCell _ _ _ _ this, Below.heap_setCell _ _ _ _ this]
    rw [← hFW] at hn3
    simp only [put2] at hFW
    rw [← hFW]
    clear hFW c0 c1 c2 c3 d0 d1 d2 d3
    obtain ⟨r0, r1, -, -⟩ := box_two hn3
    refine bodyPost_ret (v := wdv ([], E)) (by simp [results, Tryd.results44, go_sem, r0, r1]; rfl) rfl ?_
    exact ⟨rfl, hrF, hgF⟩
  | cons x r =>
    have hpos : 0 < (x :: r).length := by simp
    obtain ⟨b, o, rfl, hb, -, x0, x1⟩ := WdsAt.get hW1 0 hpos
    simp only [List.length_cons, List.getElem_cons_zero, Nat.zero_mul, Nat.add_zero] at c0 hl1 x0 x1
    have hz : ((r.length : Int) + 1 == 0) = false := by simp; omega
    have HQ := Lib.hid hq
    have HWW := Lib.hid hW
    have hb2 := below_alloc (w.alloc (.cells #[.string ⟨#[]⟩, .int .i64 0] 61)) (.cells #[.string (mk x.1), .int .i64 (x.2 : Nat)] 61)
    have HQ2 := Lib.hid (keepB hq1 hb2)
    have HN2 := Lib.hid (keepB HN.out hb2)
    have HM2 := Lib.hid (heap_alloc_new (w.alloc (.cells #[.string ⟨#[]⟩, .int .i64 0] 61)) (.cells #[.string (mk x.1), .int .i64 (x.2 : Nat)] 61))
    have HB2 := Lib.hid (below_trans hb1 hb2)
    have HS2 : Hid ((w.alloc (.cells #[.string ⟨#[]⟩, .int .i64 0] 61)).heap.size = w.heap.size + 1) := by show _ = _; simp
    rw [HS2.out] at HM2
    clear hq hW hq1 hW1 hb1 hb2 hr1
    have hne : w.heap.size ≠ q := by omega
    have hne1 : w.heap.size + 1 ≠ q := by omega
    go_enter Tryd.func44, Tryd.ntmps44
    go_upto_region 5 with fail
    generalize (w.alloc (.cells #[.string ⟨#[]⟩, .int .i64 0] 61)).alloc (.cells #[.string (mk x.1), .int .i64 (x.2 : Nat)] 61) = W at *
    generalize hp : w.heap.size = p at *
    obtain ⟨p1, hp1⟩ : ∃ z, z = p + 1 := ⟨_, rfl⟩
    rw [← hp1] at HM2 hne1 ⊢
    have HP1 := Lib.hid hp1
    clear c0 c1 c2 c3 x0 x1 HS2 HN hb hp1
    obtain ⟨c0, c1, c2, c3⟩ := cells4 HQ2.out
    obtain ⟨g0, g1, g2, g3⟩ := frz4 HQ2.out
    simp only [List.length_cons] at c0
    have HFin : Hid (∀ v', WdsAt (fun b => b < q) w v' r → RdAt q E r f (put2 (W.setCell ⟨q, 0, none⟩ v') p (.string (mk x.1)) (.int .i64 (x.2 : Nat))) ∧ w.grownBy (put2 (W.setCell ⟨q, 0, none⟩ v') p (.string (mk x.1)) (.int .i64 (x.2 : Nat))) (some q) ∧ (put2 (W.setCell ⟨q, 0, none⟩ v') p (.string (mk x.1)) (.int .i64 (x.2 : Nat))).heap[p]? = some (.cells #[.string (mk x.1), .int .i64 (x.2 : Nat)] 61 (0, 0))) := fun v' hv' => by
      have hs := heap_setCell_same W q 0 _ _ v' HQ2.out
      refine ⟨⟨v', hp2_far hs (Ne.symm hne) _ _, ?_, HWB.out.tail⟩, grown_new (grown_new (grown_set (grown_of (by subst hp; exact HB2.out)) 0 v') (by omega) 0 _) (by omega) 1 _, hp2_same (heap_far HN2.out hne) _ _⟩
      refine WdsAt.move hv' ⟨by simp [put2, World.setCell]; exact (by subst hp; exact HB2.out.size), fun b hbb hk => ⟨hk, ?_⟩⟩
      have h1 : b ≠ p := by omega
      have h2 : b ≠ q := Nat.ne_of_lt hk
      unfold put2
      rw [Below.heap_setCell _ _ _ _ h1, Below.heap_setCell _ _ _ _ h1, Below.heap_setCell _ _ _ _ h2]
      exact HB2.out.block b (by omega)
    have HMM : Hid (∀ v', (W.setCell ⟨q, 0, none⟩ v').heap[p1]? = some (.cells #[.string (mk x.1), .int .i64 (x.2 : Nat)] 61 (0, 0)) ∧ (W.setCell ⟨q, 0, none⟩ v').heap[p]? = some (.cells #[.string ⟨#[]⟩, .int .i64 0] 61 (0, 0))) := fun v' => ⟨heap_far HM2.out hne1, heap_far HN2.out hne⟩
    clear HM2 HN2 HQ2 HB2 HQ
    by_cases hc : c = 1
    · subst hc
      obtain rfl : r = [] := List.length_eq_zero_iff.1 (by omega)
      simp only [List.length_nil] at *
      go_upto_region 6 with fail
      clear c0 c1 c2 c3 g0 g1 g2 g3
      have HF2 := Lib.hid (HFin.out (.slice (some ⟨b, o, none⟩) 0 0) ⟨_, 0, rfl, by simp, by simp [maxLen], Or.inl rfl⟩)
      obtain ⟨hm, hn⟩ := HMM.out (.slice (some ⟨b, o, none⟩) 0 0)
      clear HFin HMM
      generalize W.setCell ⟨q, 0, none⟩ (.slice (some ⟨b, o, none⟩) 0 0) = W3 at *
      obtain ⟨m0, m1, -, -⟩ := box_two hm
      obtain ⟨n0, n1, n2, n3⟩ := box_two hn
      clear hm hn
      go_wp2
      simp only [put2] at HF2
      generalize (W3.setCell ⟨p, 0, none⟩ (.string (mk x.1))).setCell ⟨p, 1, none⟩ (.int .i64 (x.2 : Nat)) = FW at *
      clear m0 m1 n0 n1 n2 n3
      obtain ⟨r0, r1, -, -⟩ := box_two HF2.out.2.2
      refine bodyPost_ret (v := wdv x) (by simp [results, Tryd.results44, go_sem, r0, r1]) rfl ?_
      exact ⟨rfl, HF2.out.1, HF2.out.2.1⟩
    · have hv' : WdsAt (fun b => b < q) w (.slice (some ⟨b, o + 2, none⟩) r.length (c - 1)) r := by
        obtain ⟨a', c', he, k1, k2, h3⟩ := HWW.out
        injection he with he1 he2 he3
        subst he1 he3
        refine ⟨_, c - 1, rfl, by simp at k1; omega, by unfold maxLen at *; omega, ?_⟩
        rcases h3 with h | ⟨b', o', ha, hk, hb', hcc⟩
        · cases h
        · simp only [Option.some.injEq, Addr.mk.injEq, and_true] at ha
          obtain ⟨rfl, rfl⟩ := ha
          refine Or.inr ⟨b, o + 2, rfl, hk, hb', fun j y hj => ?_⟩
          have := hcc (j + 1) y (by simpa using hj)
          rw [show o + 2 + j * 2 = o + (j + 1) * 2 by omega]
          exact this
      have HF2 := Lib.hid (HFin.out _ hv')
      clear hv' HFin HWW
      go_upto_region 6 with fail
      clear c0 c1 c2 c3 g0 g1 g2 g3
      obtain ⟨hm, hn⟩ := HMM.out (.slice (some ⟨b, o + 2, none⟩) r.length (c - 1))
      clear HMM
      generalize W.setCell ⟨q, 0, none⟩ (.slice (some ⟨b, o + 2, none⟩) r.length (c - 1)) = W3 at *
      obtain ⟨m0, m1, -, -⟩ := box_two hm
      obtain ⟨n0, n1, n2, n3⟩ := box_two hn
      clear hm hn
      go_wp2
      simp only [put2] at HF2
      generalize (W3.setCell ⟨p, 0, none⟩ (.string (mk x.1))).setCell ⟨p, 1, none⟩ (.int .i64 (x.2 : Nat)) = FW at *
      clear m0 m1 n0 n1 n2 n3
      obtain ⟨r0, r1, -, -⟩ := box_two HF2.out.2.2
      refine bodyPost_ret (v := wdv x) (by simp [results, Tryd.results44, go_sem, r0, r1]) rfl ?_
      exact ⟨rfl, HF2.out.1, HF2.out.2.1⟩
end Go.Proofs.YtgloihilnbjmeaaDoor.Ex
end
