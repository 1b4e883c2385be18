/-
  What cover.segment answers, as a contract: a segment of so many elements, each of one part, in new memory.
-/
import Derived.Test.YtjidoificijcfaaDoorKEq
import Derived.Test.YtjidoificijcfaaDoorQRSplit
set_option linter.unusedSimpArgs false
namespace Go.Proofs.YtjidoificijcfaaDoor
open Go.RowKit

def ones (ts : List Tx) : Sg := ts.map fun t => [t]
theorem ones_snoc (ts : List Tx) (k : Nat) (x : Tx) (h : ts[k]? = some x) : ones (ts.take (k + 1)) = ones (ts.take k) ++ [[x]] := by
  unfold ones
  rw [List.take_add_one, h, List.map_append]
  rfl
/-- The next element's one part, laid. -/
theorem St.lay {B gb : Nat} {G : List Sg} {E : Sg} {ov gv : Value} {ocs gcs pcs : List Value} {w : World} (h : St B gb G E [] ov gv (.slice none 0 0) ocs gcs pcs w) (x : Tx) (hB : B ≤ w.heap.size) :
    St B gb G E [x] ov gv (.slice (some ⟨w.heap.size, 0, none⟩) 1 1) ocs gcs [.string (_root_.Go.Proofs.YtjidoificijcfaaDoor.mk x)] (w.alloc (.cells #[.string (_root_.Go.Proofs.YtjidoificijcfaaDoor.mk x)] 9)) := by
  have hp : pcs = [] := List.length_eq_zero_iff.1 (by simpa using h.oP.1)
  subst hp
  have hb := below_alloc w (.cells #[.string (_root_.Go.Proofs.YtjidoificijcfaaDoor.mk x)] 9)
  refine St.part (x := x) h (w' := w.alloc (.cells #[.string (_root_.Go.Proofs.YtjidoificijcfaaDoor.mk x)] 9)) ?_ ⟨hb.os, hb.tape, hb.output, hb.size, fun k hk _ => hb.block k hk⟩ (Or.inr rfl)
  exact ⟨rfl, Or.inr ⟨w.heap.size, 1, #[.string (_root_.Go.Proofs.YtjidoificijcfaaDoor.mk x)], rfl, hB, heap_alloc_new w _, Nat.le_refl _, by simp only [maxLen]; omega, rfl, rfl⟩⟩
theorem St.els_apart {B gb : Nat} {G : List Sg} {E : Sg} {Ps : List Tx} {ov gv pv : Value} {ocs gcs pcs : List Value} {w : World} (h : St B gb G E Ps ov gv pv ocs gcs pcs w) : ElAt (fun b => ov.ownBlock ≠ some b) w gv E := by
  refine row_of_own h.oE (fun b hb => own_apart h.oE h.oG (by decide) hb) fun j u y hu hy => ?_
  obtain ⟨u', hu', he⟩ := h.fE j y hy
  rw [hu] at hu'
  obtain rfl := Option.some.inj hu'
  exact TxAt.move he (moves_weak w fun _ _ hk => hk.1)

theorem St.start (w : World) (n : Nat) (hn : n ≤ maxLen) :
    St w.heap.size (w.heap.size + 2) [] [] [] (.slice (some ⟨w.heap.size, 0, none⟩) 0 1) (.slice (some ⟨w.heap.size + 1, 0, none⟩) 0 n) (.slice none 0 0) [] [] [] (((w.alloc (.cells #[.slice none 0 0] 40)).alloc (.cells (madeCells #[.slice none 0 0] n) 41)).alloc (.cells #[.slice (some ⟨w.heap.size + 1, 0, none⟩) 0 n] 40)) := by
  have e1 : (w.alloc (.cells #[.slice none 0 0] 40)).heap.size = w.heap.size + 1 := by simp
  have hE := World.ownsRow_made (base := w.heap.size) (size := 1) (e := 41) (w.alloc (.cells #[.slice none 0 0] 40)) (madeCells #[.slice none 0 0] n) n (by rw [e1]; omega) hn (by rw [size_madeCells, Nat.mul_one])
  rw [e1] at hE
  have hG := World.ownsRow_made (base := w.heap.size) (size := 1) (e := 40) w #[.slice none 0 0] 1 (Nat.le_refl _) (by simp only [maxLen]; omega) rfl
  refine ⟨?_, ?_, by omega, (hG.alloc _).alloc _, hE.alloc _, World.ownsRow_nil _ _ _ _, fun j g hj => by simp at hj, fun j g hj => by simp at hj, fun j g hj => by simp at hj⟩
  · have := heap_alloc_new ((w.alloc (.cells #[.slice none 0 0] 40)).alloc (.cells (madeCells #[.slice none 0 0] n) 41)) (.cells #[.slice (some ⟨w.heap.size + 1, 0, none⟩) 0 n] 40)
    rwa [show ((w.alloc (.cells #[.slice none 0 0] 40)).alloc (.cells (madeCells #[.slice none 0 0] n) 41)).heap.size = w.heap.size + 2 from by simp] at this
  · simp [Value.ownBlock]

set_option maxHeartbeats 2000000 in
theorem segment_any (v : Value) (ts : List Tx) (w : World) (h : TxAt All w v ts) (hn : ts.length ≤ 1000) :
    Calls Tryd.prog 47 #[v] w fun x w' => (∃ u, x = .returned (.agg #[u]) ∧ ElAt All w' u (ones ts)) ∧ Below w.heap.size w w' := by
  have hv := h
  obtain ⟨a, c, rfl, h1, h2, -⟩ := h
  unfold maxLen at h2
  have HV : Hid (TxAt All w (.slice a ts.length c) ts) := hv
  clear hv
  obtain ⟨i48, t1, t2, t3, t4⟩ := info48
  have hmk : ∀ w : World, (Instr.makeSlice 38 (.int .i64 0) (.int .i64 (ts.length : Int))).run Tryd.prog w = .ok (.slice (some ⟨w.heap.size, 0, none⟩) 0 ts.length) (w.alloc (.cells (madeCells (Value.slice none 0 0).cells ts.length) 41)) := fun w => by
    have := run_make (P := Tryd.prog) w 38 41 i48 _ Tryd.underlying38 t1 t2 .i64 .i64 0 ts.length (by omega) (by omega) (by rw [t4]; omega) (by omega)
    rw [t3, Nat.mul_one] at this
    simpa using this
  go_enter Tryd.func47, Tryd.ntmps47
  go_wp2
  go_loopg [12] (ts.length) (fun gg i wr => ∃ (k : Nat) (gv : Value) (gcs : List Value), k ≤ ts.length ∧ gg = ts.length - k ∧ i = .int .i64 k ∧ w.heap.size ≤ wr.heap.size ∧ Hid (St w.heap.size (w.heap.size + 2) [] (ones (ts.take k)) [] (.slice (some ⟨w.heap.size, 0, none⟩) 0 1) gv (.slice none 0 0) [] gcs [] wr) ∧ Hid (Below w.heap.size w wr))
  case atStart =>
    refine ⟨0, _, _, Nat.zero_le _, rfl, rfl, by simp; omega, St.start w ts.length (by simp only [maxLen]; omega), below_trans (below_trans (below_alloc w _) (below_alloc _ _)) (below_alloc _ _)⟩
  case round =>
    clear hmk
    obtain ⟨k, gv, gcs, hk, hgk, rfl, hBw, HSt, HB⟩ := hrel
    have HX : Hid (wr.heap[w.heap.size + 2]? = some (.cells #[gv] 40 (0, 0))) := HSt.out.box
    have hbx : wr.cell? ⟨w.heap.size + 2, 0, none⟩ = some gv := by rw [cell_of_row wr _ 0 _ 40 (0, 0) HX.out]; rfl
    have hlx := HSt.out.lt
    obtain ⟨ga0, gc0, rfl⟩ := own_form HSt.out.oE
    by_cases hlt : k < ts.length
    · obtain ⟨b, o, u, rfl, hx, hu, rfl⟩ := RowAt.get (TxAt.move HV.out (Below.moves HB.out)) k hlt
      have HO := Lib.hid (ones_snoc ts k _ hx)
      clear hx
      generalize ts[k] = x at *
      have hlen : (ones (ts.take k)).length ≤ 1000 := by unfold ones; rw [List.length_map, List.length_take]; omega
      have HS1 := Lib.hid (St.lay HSt.out x hBw)
      have HS2 := Lib.hid (St.grw HS1.out (below_alloc _ (.cells #[.slice (some ⟨wr.heap.size, 0, none⟩) 1 1] 41)))
      have HOE : Hid (((wr.alloc (.cells #[.string (_root_.Go.Proofs.YtjidoificijcfaaDoor.mk x)] 9)).alloc (.cells #[.slice (some ⟨wr.heap.size, 0, none⟩) 1 1] 41)).ownsRow w.heap.size 41 1 (.slice ga0 (ones (ts.take k)).length gc0) (ones (ts.take k)).length gcs) := HS2.out.oE
      have HB2 := Lib.hid (below_trans HB.out (below_trans (below_alloc wr (.cells #[.string (_root_.Go.Proofs.YtjidoificijcfaaDoor.mk x)] 9)) (below_alloc _ (.cells #[.slice (some ⟨wr.heap.size, 0, none⟩) 1 1] 41))))
      have hcl := cell_one_new (wr.alloc (.cells #[.string (_root_.Go.Proofs.YtjidoificijcfaaDoor.mk x)] 9)) (.slice (some ⟨wr.heap.size, 0, none⟩) 1 1) 41
      rw [show (wr.alloc (.cells #[.string (_root_.Go.Proofs.YtjidoificijcfaaDoor.mk x)] 9)).heap.size = wr.heap.size + 1 from by simp] at hcl
      have HCL := Lib.hid hcl
      clear hcl
      go_wp2_with (at_builtin; refine wpList_append_own_at _ (by rfl) _ _ 38 (by rfl) w.heap.size 41 i48 (.slice none 0 0) 1 24 Tryd.underlying38 t1 t2 t3 t4 (by rfl) (by omega) (.slice ga0 (ones (ts.take k)).length gc0) (ones (ts.take k)).length gcs (by rfl) HOE.out ⟨wr.heap.size + 1, 0, none⟩ 1 1 [.slice (some ⟨wr.heap.size, 0, none⟩) 1 1] (by rfl) (by rfl) HCL.out ?c2 ?c3 ?c4 ?c5 ?_)
      case c2 => intro u hu; simp at hu; subst hu; rfl
      case c3 => simp only [maxLen]; omega
      case c4 => omega
      case c5 => simp; omega
      intro gv8 w8 hown hgrow hnil hat
      obtain ⟨ga, gc, rfl⟩ := own_form hown
      have hsz2 : w.heap.size ≤ ((wr.alloc (.cells #[.string (_root_.Go.Proofs.YtjidoificijcfaaDoor.mk x)] 9)).alloc (.cells #[.slice (some ⟨wr.heap.size, 0, none⟩) 1 1] 41)).heap.size := HB2.out.size
      have HB8 := Lib.hid (HB2.out.grown hgrow hsz2 fun k hk => (HOE.out.lt k hk).1)
      have hbox8 : w8.heap[w.heap.size + 2]? = some (.cells #[.slice ga0 (ones (ts.take k)).length gc0] 40 (0, 0)) := by
        rw [hgrow.block (w.heap.size + 2) HS2.out.lt (Ne.symm (own_box HS2.out.oE HS2.out.box (by decide)))]
        exact HS2.out.box
      have hcx8 : w8.cell? ⟨w.heap.size + 2, 0, none⟩ = some (.slice ga0 (ones (ts.take k)).length gc0) := by rw [cell_of_row w8 _ 0 _ 40 (0, 0) hbox8]; rfl
      have hfx8 : w8.frozen? ⟨w.heap.size + 2, 0, none⟩ = false := Lib.frozen_of_heap hbox8 0
      have HS9 := Lib.hid (St.elem HS2.out hown hgrow (by simpa using hat))
      have HB9 := Lib.hid (HB8.out.setCell (p := ⟨w.heap.size + 2, 0, none⟩) (by show w.heap.size ≤ w.heap.size + 2; omega) (.slice ga ((ones (ts.take k)).length + 1) gc))
      clear hown hgrow hnil hat hbox8 hsz2 HB8 HOE HCL
      go_wp2
      go_roundg (ts.length - (k + 1))
      case rel => exact ⟨k + 1, _, _, by omega, rfl, by go_num, HB9.out.size, by show St _ _ _ _ _ _ _ _ _ _ _ _; rw [HO.out]; exact HS9.out, HB9.out⟩
      case measure => omega
    · have HO : Hid (ones (ts.take k) = ones ts) := by show _ = _; rw [List.take_of_length_le (by omega)]
      have HEl := Lib.hid (St.els_apart HSt.out)
      obtain ⟨cur, hcr, hcs⟩ : ∃ cur : Value, wr.heap[w.heap.size]? = some (.cells #[cur] 40 (0, 0)) ∧ wr.cell? ⟨w.heap.size, 0, none⟩ = some cur := by
        rcases HSt.out.oG.2 with ⟨h, _⟩ | ⟨g, cap, cur, h, _, hg, _, _, hs, _⟩
        · cases h
        · simp only [Value.slice.injEq, Option.some.injEq, Addr.mk.injEq] at h
          obtain ⟨⟨rfl, _, _⟩, _, rfl⟩ := h
          obtain ⟨cv, rfl⟩ : ∃ cv, cur = #[cv] := by
            rcases cur with ⟨_ | ⟨cv, _ | ⟨c2, r⟩⟩⟩
            · simp at hs
            · exact ⟨cv, rfl⟩
            · simp at hs
          exact ⟨cv, hg, by rw [cell_of_row wr _ 0 _ 40 (0, 0) hg]; rfl⟩
      have hfr : wr.frozen? ⟨w.heap.size, 0, none⟩ = false := Lib.frozen_of_heap hcr 0
      have HE9 : Hid (ElAt All (wr.setCell ⟨w.heap.size, 0, none⟩ (.slice ga0 (ones (ts.take k)).length gc0)) (.slice ga0 (ones (ts.take k)).length gc0) (ones ts)) := by
        rw [← HO.out]
        refine ElAt.move HEl.out ⟨by simp [World.setCell], fun b hb hk => ⟨trivial, Below.heap_setCell _ _ _ _ (fun e => hk (by rw [show b = w.heap.size from e]; rfl))⟩⟩
      have HB9 := Lib.hid (HB.out.setCell (p := ⟨w.heap.size, 0, none⟩) (Nat.le_refl _) (.slice ga0 (ones (ts.take k)).length gc0))
      clear hcr
      go_wp2
      refine bodyPost_ret (v := .agg #[.slice ga0 (ones (ts.take k)).length gc0]) (by simp [results, Tryd.results47, go_sem, hcs]) rfl ?_
      exact ⟨⟨_, rfl, HE9.out⟩, HB9.out⟩
end Go.Proofs.YtjidoificijcfaaDoor
