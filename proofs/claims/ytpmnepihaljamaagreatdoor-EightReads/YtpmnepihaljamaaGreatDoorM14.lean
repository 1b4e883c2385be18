/-
  Texts put together (merge.py): KSeg, KKind, KEnds.
-/
import Derived.Test.YtpmnepihaljamaaGreatDoorM9
import Derived.Test.YtpmnepihaljamaaGreatDoorM13
import Derived.Test.YtpmnepihaljamaaGreatDoorM7
/-
  What cover.segment answers, as a contract: a segment of so many elements, each of one part, in new memory.
-/
section
set_option linter.unusedSimpArgs false
namespace Go.Proofs.YtpmnepihaljamaaGreatDoor
open Go.RowKit

def ones (ts : List Tx) : Sg := ts.map fun t => [t]
theorem ones_snoc (ts : List Tx) (k : Nat) (x : Tx) (h : ts[k]? = some x) : ones (ts.take (k + 1)) = ones (ts.take k) ++ [[x]] := by
  unfold ones
  rw [List.take_add_one, h, List.map_append]
  rfl
/-- The next element's one part, laid. -/
theorem St.lay {B gb : Nat} {G : List Sg} {E : Sg} {ov gv : Value} {ocs gcs pcs : List Value} {w : World} (h : St B gb G E [] ov gv (.slice none 0 0) ocs gcs pcs w) (x : Tx) (hB : B ≤ w.heap.size) :
    St B gb G E [x] ov gv (.slice (some ⟨w.heap.size, 0, none⟩) 1 1) ocs gcs [.string (_root_.Go.Proofs.YtpmnepihaljamaaGreatDoor.mk x)] (w.alloc (.cells #[.string (_root_.Go.Proofs.YtpmnepihaljamaaGreatDoor.mk x)] 9)) := by
  have hp : pcs = [] := List.length_eq_zero_iff.1 (by simpa using h.oP.1)
  subst hp
  have hb := below_alloc w (.cells #[.string (_root_.Go.Proofs.YtpmnepihaljamaaGreatDoor.mk x)] 9)
  refine St.part (x := x) h (w' := w.alloc (.cells #[.string (_root_.Go.Proofs.YtpmnepihaljamaaGreatDoor.mk x)] 9)) ?_ ⟨hb.os, hb.tape, hb.output, hb.size, fun k hk _ => hb.block k hk⟩ (Or.inr rfl)
  exact ⟨rfl, Or.inr ⟨w.heap.size, 1, #[.string (_root_.Go.Proofs.YtpmnepihaljamaaGreatDoor.mk x)], rfl, hB, heap_alloc_new w _, Nat.le_refl _, by simp only [maxLen]; omega, rfl, rfl⟩⟩
theorem St.els_apart {B gb : Nat} {G : List Sg} {E : Sg} {Ps : List Tx} {ov gv pv : Value} {ocs gcs pcs : List Value} {w : World} (h : St B gb G E Ps ov gv pv ocs gcs pcs w) : ElAt (fun b => ov.ownBlock ≠ some b) w gv E := by
  refine row_of_own h.oE (fun b hb => own_apart h.oE h.oG (by decide) hb) fun j u y hu hy => ?_
  obtain ⟨u', hu', he⟩ := h.fE j y hy
  rw [hu] at hu'
  obtain rfl := Option.some.inj hu'
  exact TxAt.move he (moves_weak w fun _ _ hk => hk.1)

theorem St.start (w : World) (n : Nat) (hn : n ≤ maxLen) :
    St w.heap.size (w.heap.size + 2) [] [] [] (.slice (some ⟨w.heap.size, 0, none⟩) 0 1) (.slice (some ⟨w.heap.size + 1, 0, none⟩) 0 n) (.slice none 0 0) [] [] [] (((w.alloc (.cells #[.slice none 0 0] 50)).alloc (.cells (madeCells #[.slice none 0 0] n) 45)).alloc (.cells #[.slice (some ⟨w.heap.size + 1, 0, none⟩) 0 n] 50)) := by
  have e1 : (w.alloc (.cells #[.slice none 0 0] 50)).heap.size = w.heap.size + 1 := by simp
  have hE := World.ownsRow_made (base := w.heap.size) (size := 1) (e := 45) (w.alloc (.cells #[.slice none 0 0] 50)) (madeCells #[.slice none 0 0] n) n (by rw [e1]; omega) hn (by rw [size_madeCells, Nat.mul_one])
  rw [e1] at hE
  have hG := World.ownsRow_made (base := w.heap.size) (size := 1) (e := 50) w #[.slice none 0 0] 1 (Nat.le_refl _) (by simp only [maxLen]; omega) rfl
  refine ⟨?_, ?_, by omega, (hG.alloc _).alloc _, hE.alloc _, World.ownsRow_nil _ _ _ _, fun j g hj => by simp at hj, fun j g hj => by simp at hj, fun j g hj => by simp at hj⟩
  · have := heap_alloc_new ((w.alloc (.cells #[.slice none 0 0] 50)).alloc (.cells (madeCells #[.slice none 0 0] n) 45)) (.cells #[.slice (some ⟨w.heap.size + 1, 0, none⟩) 0 n] 50)
    rwa [show ((w.alloc (.cells #[.slice none 0 0] 50)).alloc (.cells (madeCells #[.slice none 0 0] n) 45)).heap.size = w.heap.size + 2 from by simp] at this
  · simp [Value.ownBlock]

set_option maxHeartbeats 2000000 in
theorem segment_any (v : Value) (ts : List Tx) (w : World) (h : TxAt All w v ts) (hn : ts.length ≤ 1000) :
    Calls Tryz.prog 88 #[v] w fun x w' => (∃ u, x = .returned (.agg #[u]) ∧ ElAt All w' u (ones ts)) ∧ Below w.heap.size w w' := by
  have hv := h
  obtain ⟨a, c, rfl, h1, h2, -⟩ := h
  unfold maxLen at h2
  have HV : Hid (TxAt All w (.slice a ts.length c) ts) := hv
  clear hv
  obtain ⟨i48, t1, t2, t3, t4⟩ := info48
  have hmk : ∀ w : World, (Instr.makeSlice 48 (.int .i64 0) (.int .i64 (ts.length : Int))).run Tryz.prog w = .ok (.slice (some ⟨w.heap.size, 0, none⟩) 0 ts.length) (w.alloc (.cells (madeCells (Value.slice none 0 0).cells ts.length) 45)) := fun w => by
    have := run_make (P := Tryz.prog) w 48 45 i48 _ Tryz.underlying48 t1 t2 .i64 .i64 0 ts.length (by omega) (by omega) (by rw [t4]; omega) (by omega)
    rw [t3, Nat.mul_one] at this
    simpa using this
  go_enter Tryz.func88, Tryz.ntmps88
  go_wp2
  go_loopg [12] (ts.length) (fun gg i wr => ∃ (k : Nat) (gv : Value) (gcs : List Value), k ≤ ts.length ∧ gg = ts.length - k ∧ i = .int .i64 k ∧ w.heap.size ≤ wr.heap.size ∧ Hid (St w.heap.size (w.heap.size + 2) [] (ones (ts.take k)) [] (.slice (some ⟨w.heap.size, 0, none⟩) 0 1) gv (.slice none 0 0) [] gcs [] wr) ∧ Hid (Below w.heap.size w wr))
  case atStart =>
    refine ⟨0, _, _, Nat.zero_le _, rfl, rfl, by simp; omega, St.start w ts.length (by simp only [maxLen]; omega), below_trans (below_trans (below_alloc w _) (below_alloc _ _)) (below_alloc _ _)⟩
  case round =>
    clear hmk
    obtain ⟨k, gv, gcs, hk, hgk, rfl, hBw, HSt, HB⟩ := hrel
    have HX : Hid (wr.heap[w.heap.size + 2]? = some (.cells #[gv] 50 (0, 0))) := HSt.out.box
    have hbx : wr.cell? ⟨w.heap.size + 2, 0, none⟩ = some gv := by rw [cell_of_row wr _ 0 _ 50 (0, 0) HX.out]; rfl
    have hlx := HSt.out.lt
    obtain ⟨ga0, gc0, rfl⟩ := own_form HSt.out.oE
    by_cases hlt : k < ts.length
    · obtain ⟨b, o, u, rfl, hx, hu, rfl⟩ := RowAt.get (TxAt.move HV.out (Below.moves HB.out)) k hlt
      have HO := Lib.hid (ones_snoc ts k _ hx)
      clear hx
      generalize ts[k] = x at *
      have hlen : (ones (ts.take k)).length ≤ 1000 := by unfold ones; rw [List.length_map, List.length_take]; omega
      have HS1 := Lib.hid (St.lay HSt.out x hBw)
      have HS2 := Lib.hid (St.grw HS1.out (below_alloc _ (.cells #[.slice (some ⟨wr.heap.size, 0, none⟩) 1 1] 45)))
      have HOE : Hid (((wr.alloc (.cells #[.string (_root_.Go.Proofs.YtpmnepihaljamaaGreatDoor.mk x)] 9)).alloc (.cells #[.slice (some ⟨wr.heap.size, 0, none⟩) 1 1] 45)).ownsRow w.heap.size 45 1 (.slice ga0 (ones (ts.take k)).length gc0) (ones (ts.take k)).length gcs) := HS2.out.oE
      have HB2 := Lib.hid (below_trans HB.out (below_trans (below_alloc wr (.cells #[.string (_root_.Go.Proofs.YtpmnepihaljamaaGreatDoor.mk x)] 9)) (below_alloc _ (.cells #[.slice (some ⟨wr.heap.size, 0, none⟩) 1 1] 45))))
      have hcl := cell_one_new (wr.alloc (.cells #[.string (_root_.Go.Proofs.YtpmnepihaljamaaGreatDoor.mk x)] 9)) (.slice (some ⟨wr.heap.size, 0, none⟩) 1 1) 45
      rw [show (wr.alloc (.cells #[.string (_root_.Go.Proofs.YtpmnepihaljamaaGreatDoor.mk x)] 9)).heap.size = wr.heap.size + 1 from by simp] at hcl
      have HCL := Lib.hid hcl
      clear hcl
      go_wp2_with (at_builtin; refine wpList_append_own_at _ (by rfl) _ _ 48 (by rfl) w.heap.size 45 i48 (.slice none 0 0) 1 24 Tryz.underlying48 t1 t2 t3 t4 (by rfl) (by omega) (.slice ga0 (ones (ts.take k)).length gc0) (ones (ts.take k)).length gcs (by rfl) HOE.out ⟨wr.heap.size + 1, 0, none⟩ 1 1 [.slice (some ⟨wr.heap.size, 0, none⟩) 1 1] (by rfl) (by rfl) HCL.out ?c2 ?c3 ?c4 ?c5 ?_)
      case c2 => intro u hu; simp at hu; subst hu; rfl
      case c3 => simp only [maxLen]; omega
      case c4 => omega
      case c5 => simp; omega
      intro gv8 w8 hown hgrow hnil hat
      obtain ⟨ga, gc, rfl⟩ := own_form hown
      have hsz2 : w.heap.size ≤ ((wr.alloc (.cells #[.string (_root_.Go.Proofs.YtpmnepihaljamaaGreatDoor.mk x)] 9)).alloc (.cells #[.slice (some ⟨wr.heap.size, 0, none⟩) 1 1] 45)).heap.size := HB2.out.size
      have HB8 := Lib.hid (HB2.out.grown hgrow hsz2 fun k hk => (HOE.out.lt k hk).1)
      have hbox8 : w8.heap[w.heap.size + 2]? = some (.cells #[.slice ga0 (ones (ts.take k)).length gc0] 50 (0, 0)) := by
        rw [hgrow.block (w.heap.size + 2) HS2.out.lt (Ne.symm (own_box HS2.out.oE HS2.out.box (by decide)))]
        exact HS2.out.box
      have hcx8 : w8.cell? ⟨w.heap.size + 2, 0, none⟩ = some (.slice ga0 (ones (ts.take k)).length gc0) := by rw [cell_of_row w8 _ 0 _ 50 (0, 0) hbox8]; rfl
      have hfx8 : w8.frozen? ⟨w.heap.size + 2, 0, none⟩ = false := Lib.frozen_of_heap hbox8 0
      have HS9 := Lib.hid (St.elem HS2.out hown hgrow (by simpa using hat))
      have HB9 := Lib.hid (HB8.out.setCell (p := ⟨w.heap.size + 2, 0, none⟩) (by show w.heap.size ≤ w.heap.size + 2; omega) (.slice ga ((ones (ts.take k)).length + 1) gc))
      clear hown hgrow hnil hat hbox8 hsz2 HB8 HOE HCL
      go_wp2
      go_roundg (ts.length - (k + 1))
      case rel => exact ⟨k + 1, _, _, by omega, rfl, by go_num, HB9.out.size, by show St _ _ _ _ _ _ _ _ _ _ _ _; rw [HO.out]; exact HS9.out, HB9.out⟩
      case measure => omega
    · have HO : Hid (ones (ts.take k) = ones ts) := by show _ = _; rw [List.take_of_length_le (by omega)]
      have HEl := Lib.hid (St.els_apart HSt.out)
      obtain ⟨cur, hcr, hcs⟩ : ∃ cur : Value, wr.heap[w.heap.size]? = some (.cells #[cur] 50 (0, 0)) ∧ wr.cell? ⟨w.heap.size, 0, none⟩ = some cur := by
        rcases HSt.out.oG.2 with ⟨h, _⟩ | ⟨g, cap, cur, h, _, hg, _, _, hs, _⟩
        · cases h
        · simp only [Value.slice.injEq, Option.some.injEq, Addr.mk.injEq] at h
          obtain ⟨⟨rfl, _, _⟩, _, rfl⟩ := h
          obtain ⟨cv, rfl⟩ : ∃ cv, cur = #[cv] := by
            rcases cur with ⟨_ | ⟨cv, _ | ⟨c2, r⟩⟩⟩
            · simp at hs
            · exact ⟨cv, rfl⟩
            · simp at hs
          exact ⟨cv, hg, by rw [cell_of_row wr _ 0 _ 50 (0, 0) hg]; rfl⟩
      have hfr : wr.frozen? ⟨w.heap.size, 0, none⟩ = false := Lib.frozen_of_heap hcr 0
      have HE9 : Hid (ElAt All (wr.setCell ⟨w.heap.size, 0, none⟩ (.slice ga0 (ones (ts.take k)).length gc0)) (.slice ga0 (ones (ts.take k)).length gc0) (ones ts)) := by
        rw [← HO.out]
        refine ElAt.move HEl.out ⟨by simp [World.setCell], fun b hb hk => ⟨trivial, Below.heap_setCell _ _ _ _ (fun e => hk (by rw [show b = w.heap.size from e]; rfl))⟩⟩
      have HB9 := Lib.hid (HB.out.setCell (p := ⟨w.heap.size, 0, none⟩) (Nat.le_refl _) (.slice ga0 (ones (ts.take k)).length gc0))
      clear hcr
      go_wp2
      refine bodyPost_ret (v := .agg #[.slice ga0 (ones (ts.take k)).length gc0]) (by simp [results, Tryz.results88, go_sem, hcs]) rfl ?_
      exact ⟨⟨_, rfl, HE9.out⟩, HB9.out⟩
end Go.Proofs.YtpmnepihaljamaaGreatDoor
end

/-
  What cover.Kind and its reference answer, as contracts: for every text.
-/
section
set_option linter.unusedSimpArgs false
namespace Go.Proofs.YtpmnepihaljamaaGreatDoor
open Go.RowKit

set_option maxHeartbeats 800000 in
theorem kind_any (s : ByteArray) (w : World) :
    Calls Tryz.prog 46 #[.string s] w fun e w' => e = .returned (.bool (kindB s.data.toList)) ∧ w' = w := by
  by_cases h3 : s.size = 3
  · have h3b : ((s.size : Int) != 3) = false := by simp [h3]
    have HK : Hid (kindB s.data.toList = Nu.allD s.data.toList) := by
      show (decide (s.data.toList.length = 3) && _) = _
      rw [← Lib.size_eq, h3]; exact Bool.true_and _
    go_enter Tryz.func46, Tryz.ntmps46
    go_wp2
    go_loop [9] (fun i => ∃ k : Nat, k ≤ s.size ∧ i = .int .i64 k ∧ Nu.allD (s.data.toList.take k) = true) (fun i => s.size - (intOf i).toNat)
    case atStart => exact ⟨0, Nat.zero_le _, rfl, rfl⟩
    case round =>
      obtain ⟨k, hk, rfl, ha⟩ := hrel
      have HA : Hid (Nu.allD (s.data.toList.take k) = true) := ha
      clear ha
      by_cases hlt : k < s.size
      · have HS : Hid (Nu.allD (s.data.toList.take (k + 1)) = Nu.isD s[k]) := by
          show Nu.allD (s.data.toList.take (k + 1)) = Nu.isD s[k]
          rw [Nu.take_snoc s k hlt, Nu.allD_snoc, HA.out]; simp
        by_cases h1 : (s[k].toNat : Int) < 48
        · have HF : Hid (Nu.allD s.data.toList = false) := by
            cases e : Nu.allD s.data.toList
            · rfl
            · have := (Nu.isD_iff _).1 (Nu.isD_mem s k hlt e); omega
          go_wp2
          go_ret
          exact ⟨by rw [HK.out, HF.out]; rfl, rfl⟩
        · by_cases h2 : 57 < (s[k].toNat : Int)
          · have HF : Hid (Nu.allD s.data.toList = false) := by
              cases e : Nu.allD s.data.toList
              · rfl
              · have := (Nu.isD_iff _).1 (Nu.isD_mem s k hlt e); omega
            go_wp2
            go_ret
            exact ⟨by rw [HK.out, HF.out]; rfl, rfl⟩
          · go_wp2
            go_round
            case rel => exact ⟨k + 1, by omega, by go_num, by rw [HS.out, Nu.isD_iff]; omega⟩
            case measure => simp [intOf]; omega
      · go_wp2
        go_ret
        exact ⟨by rw [HK.out, ← Nu.take_all s k (by omega), HA.out]; rfl, rfl⟩
  · have h3b : ((s.size : Int) != 3) = true := by simp; omega
    have HK : Hid (kindB s.data.toList = false) := by
      show (decide (s.data.toList.length = 3) && _) = _
      rw [← Lib.size_eq, decide_eq_false h3]; rfl
    clear h3
    go_enter Tryz.func46, Tryz.ntmps46
    go_wp2
    go_ret
    exact ⟨by rw [HK.out]; rfl, rfl⟩

set_option maxHeartbeats 800000 in
theorem rkind_any (s : ByteArray) (w : World) :
    Calls Tryz.prog 56 #[.string s] w fun e w' => e = .returned (.bool (kindB s.data.toList)) ∧ w' = w := by
  by_cases h3 : s.size = 3
  · have h3b : ((s.size : Int) != 3) = false := by simp [h3]
    have HK : Hid (kindB s.data.toList = Nu.allD s.data.toList) := by
      show (decide (s.data.toList.length = 3) && _) = _
      rw [← Lib.size_eq, h3]; exact Bool.true_and _
    go_enter Tryz.func56, Tryz.ntmps56
    go_wp2
    go_loop [3] (fun i => ∃ k : Nat, k ≤ s.size ∧ i = .int .i64 k ∧ Nu.allD (s.data.toList.take k) = true) (fun i => s.size - (intOf i).toNat)
    case atStart => exact ⟨0, Nat.zero_le _, rfl, rfl⟩
    case round =>
      obtain ⟨k, hk, rfl, ha⟩ := hrel
      have HA : Hid (Nu.allD (s.data.toList.take k) = true) := ha
      clear ha
      by_cases hlt : k < s.size
      · have HS : Hid (Nu.allD (s.data.toList.take (k + 1)) = Nu.isD s[k]) := by
          show Nu.allD (s.data.toList.take (k + 1)) = Nu.isD s[k]
          rw [Nu.take_snoc s k hlt, Nu.allD_snoc, HA.out]; simp
        by_cases h1 : (s[k].toNat : Int) < 48
        · have HF : Hid (Nu.allD s.data.toList = false) := by
            cases e : Nu.allD s.data.toList
            · rfl
            · have := (Nu.isD_iff _).1 (Nu.isD_mem s k hlt e); omega
          go_wp2
          go_ret
          exact ⟨by rw [HK.out, HF.out]; rfl, rfl⟩
        · by_cases h2 : 57 < (s[k].toNat : Int)
          · have HF : Hid (Nu.allD s.data.toList = false) := by
              cases e : Nu.allD s.data.toList
              · rfl
              · have := (Nu.isD_iff _).1 (Nu.isD_mem s k hlt e); omega
            go_wp2
            go_ret
            exact ⟨by rw [HK.out, HF.out]; rfl, rfl⟩
          · go_wp2
            go_round
            case rel => exact ⟨k + 1, by omega, by go_num, by rw [HS.out, Nu.isD_iff]; omega⟩
            case measure => simp [intOf]; omega
      · go_wp2
        go_ret
        exact ⟨by rw [HK.out, ← Nu.take_all s k (by omega), HA.out]; rfl, rfl⟩
  · have h3b : ((s.size : Int) != 3) = true := by simp; omega
    have HK : Hid (kindB s.data.toList = false) := by
      show (decide (s.data.toList.length = 3) && _) = _
      rw [← Lib.size_eq, decide_eq_false h3]; rfl
    clear h3
    go_enter Tryz.func56, Tryz.ntmps56
    go_wp2
    go_ret
    exact ⟨by rw [HK.out]; rfl, rfl⟩
end Go.Proofs.YtpmnepihaljamaaGreatDoor
end

/-
  What cover.ahead and cover.behind answer, as contracts: the segments of an envelope, in new memory.
-/
section
set_option linter.unusedSimpArgs false
namespace Go.Proofs.YtpmnepihaljamaaGreatDoor
open Go.RowKit

/-- A row in a block that was just laid. -/
theorem row_new {α : Type} {R : World → Value → α → Prop} (w : World) (us : List Value) (xs : List α) (t : TypeId) (hl : us.length = xs.length) (hm : xs.length ≤ maxLen) (hR : ∀ (j : Nat) u x, us[j]? = some u → xs[j]? = some x → R (w.alloc (.cells us.toArray t)) u x) :
    RowAt All R (w.alloc (.cells us.toArray t)) (.slice (some ⟨w.heap.size, 0, none⟩) xs.length xs.length) xs := by
  refine ⟨_, _, rfl, Nat.le_refl _, hm, Or.inr ⟨w.heap.size, 0, rfl, trivial, by simp, fun j x hj => ?_⟩⟩
  have hjl : j < us.length := by rw [hl]; exact (List.getElem?_eq_some_iff.1 hj).1
  refine ⟨us[j], ?_, hR j _ x (List.getElem?_eq_getElem hjl) hj⟩
  rw [Nat.zero_add, World.cell?_alloc_new]
  simp [hjl]
theorem tx_three (w : World) (a b c : Tx) : TxAt All (w.alloc (.cells #[.string (mk a), .string (mk b), .string (mk c)] 9)) (.slice (some ⟨w.heap.size, 0, none⟩) 3 3) [a, b, c] := by
  refine row_new (R := StrAt) w [.string (mk a), .string (mk b), .string (mk c)] [a, b, c] 9 rfl (by simp only [maxLen]; simp) fun j u x hu hx => ?_
  match j, hu, hx with
  | 0, hu, hx => simp at hu hx; subst hu hx; rfl
  | 1, hu, hx => simp at hu hx; subst hu hx; rfl
  | 2, hu, hx => simp at hu hx; subst hu hx; rfl
theorem sg_two {w : World} {u1 u2 : Value} {g1 g2 : Sg} (h1 : ElAt All w u1 g1) (h2 : ElAt All w u2 g2) : SgAt All (w.alloc (.cells #[u1, u2] 50)) (.slice (some ⟨w.heap.size, 0, none⟩) 2 2) [g1, g2] := by
  refine row_new (R := ElAt All) w [u1, u2] [g1, g2] 50 rfl (by simp only [maxLen]; simp) fun j u x hu hx => ?_
  have hm := Below.moves (below_alloc w (.cells #[u1, u2] 50))
  match j, hu, hx with
  | 0, hu, hx => simp at hu hx; subst hu hx; exact ElAt.move h1 hm
  | 1, hu, hx => simp at hu hx; subst hu hx; exact ElAt.move h2 hm
theorem sg_three {w : World} {u1 u2 u3 : Value} {g1 g2 g3 : Sg} (h1 : ElAt All w u1 g1) (h2 : ElAt All w u2 g2) (h3 : ElAt All w u3 g3) : SgAt All (w.alloc (.cells #[u1, u2, u3] 50)) (.slice (some ⟨w.heap.size, 0, none⟩) 3 3) [g1, g2, g3] := by
  refine row_new (R := ElAt All) w [u1, u2, u3] [g1, g2, g3] 50 rfl (by simp only [maxLen]; simp) fun j u x hu hx => ?_
  have hm := Below.moves (below_alloc w (.cells #[u1, u2, u3] 50))
  match j, hu, hx with
  | 0, hu, hx => simp at hu hx; subst hu hx; exact ElAt.move h1 hm
  | 1, hu, hx => simp at hu hx; subst hu hx; exact ElAt.move h2 hm
  | 2, hu, hx => simp at hu hx; subst hu hx; exact ElAt.move h3 hm
theorem el_form {w : World} {u : Value} {g : Sg} (h : ElAt All w u g) : ∃ a c, u = .slice a g.length c := by
  obtain ⟨a, c, rfl, -⟩ := h
  exact ⟨a, c, rfl⟩
/-- A segment of three, called for where its texts were just laid. -/
theorem segment_three (w : World) (a b c : Tx) : Calls Tryz.prog 88 #[.slice (some ⟨w.heap.size, 0, none⟩) 3 3] (w.alloc (.cells #[.string (mk a), .string (mk b), .string (mk c)] 9)) fun x w' => (∃ sa sc, x = .returned (.agg #[.slice sa 3 sc]) ∧ ElAt All w' (.slice sa 3 sc) (seg3 a b c)) ∧ Below w.heap.size w w' :=
  (segment_any _ [a, b, c] _ (tx_three w a b c) (by simp)).mono fun _ _ ⟨⟨u, hx, he⟩, hb⟩ => by
    obtain ⟨sa, sc, rfl⟩ := el_form he
    exact ⟨⟨sa, sc, hx, he⟩, below_trans (below_alloc w _) hb⟩

set_option maxHeartbeats 1000000 in
theorem ahead_any (k t : Tx) (w : World) :
    Calls Tryz.prog 49 #[.string (mk k), .string (mk t)] w fun x w' => (∃ b, x = .returned (.slice (some ⟨b, 0, none⟩) 2 2) ∧ SgAt All w' (.slice (some ⟨b, 0, none⟩) 2 2) (fore k t)) ∧ Below w.heap.size w w' := by
  have H1 : Hid (∀ W : World, Calls Tryz.prog 88 #[.slice (some ⟨W.heap.size, 0, none⟩) 3 3] (W.alloc (.cells #[.string ⟨#[71, 83]⟩, .string (mk k), .string (mk t)] 9)) fun x w' => (∃ sa sc, x = .returned (.agg #[.slice sa 3 sc]) ∧ ElAt All w' (.slice sa 3 sc) (seg3 tGS k t)) ∧ Below W.heap.size W w') := fun W => segment_three W tGS k t
  have H2 : Hid (∀ W : World, Calls Tryz.prog 88 #[.slice (some ⟨W.heap.size, 0, none⟩) 3 3] (W.alloc (.cells #[.string ⟨#[83, 84]⟩, .string (mk k), .string (mk t)] 9)) fun x w' => (∃ sa sc, x = .returned (.agg #[.slice sa 3 sc]) ∧ ElAt All w' (.slice sa 3 sc) (seg3 tST k t)) ∧ Below W.heap.size W w') := fun W => segment_three W tST k t
  have HF : Hid (fore k t = [seg3 tGS k t, seg3 tST k t]) := rfl
  generalize seg3 tGS k t = g1 at *
  generalize seg3 tST k t = g2 at *
  generalize mk k = X at *
  generalize mk t = Y at *
  go_enter Tryz.func49, Tryz.ntmps49
  go_wp2_with fail
  go_at_call 88
  refine (H1.out _).mono ?_
  rintro x w1 ⟨⟨sa, sc, rfl, he⟩, hb⟩
  have HE1 := Lib.hid he
  have HB1 := Lib.hid hb
  clear hb he
  go_wp2_with fail
  go_at_call 88
  refine (H2.out _).mono ?_
  rintro x w2 ⟨⟨sa2, sc2, rfl, he⟩, hb⟩
  have HE2 := Lib.hid he
  have HB2 := Lib.hid hb
  clear hb he
  go_wp2
  go_ret
  refine ⟨⟨_, rfl, ?_⟩, below_trans HB1.out (below_trans HB2.out (below_alloc _ _))⟩
  rw [HF.out]
  exact sg_two (ElAt.move HE1.out (Below.moves HB2.out)) HE2.out

set_option maxHeartbeats 1000000 in
theorem behind_any (m : Nat) (t : Tx) (w : World) (hT : Tab w) (hm : m ≤ 4611686018427387904) :
    Calls Tryz.prog 50 #[.int .i64 m, .string (mk t)] w fun x w' => (∃ b, x = .returned (.slice (some ⟨b, 0, none⟩) 3 3) ∧ SgAt All w' (.slice (some ⟨b, 0, none⟩) 3 3) (aft m t)) ∧ Below w.heap.size w w' := by
  have HI : Hid (Calls Tryz.prog 41 #[.int .i64 ((m : Int) + 2)] w fun e w' => e = .returned (.string (mk (Lib.itoa ((m : Int) + 2)))) ∧ Below w.heap.size w w') := Nu.int_any _ (by omega) (by omega) w hT.2.2
  have HF : Hid (aft m t = [seg3 tSE (Lib.itoa ((m : Int) + 2)) t, seg3 tGE t1 t, seg3 tIEA t1 t]) := rfl
  generalize Lib.itoa ((m : Int) + 2) = q at *
  have H1 : Hid (∀ W : World, Calls Tryz.prog 88 #[.slice (some ⟨W.heap.size, 0, none⟩) 3 3] (W.alloc (.cells #[.string ⟨#[83, 69]⟩, .string (mk q), .string (mk t)] 9)) fun x w' => (∃ sa sc, x = .returned (.agg #[.slice sa 3 sc]) ∧ ElAt All w' (.slice sa 3 sc) (seg3 tSE q t)) ∧ Below W.heap.size W w') := fun W => segment_three W tSE q t
  have H2 : Hid (∀ W : World, Calls Tryz.prog 88 #[.slice (some ⟨W.heap.size, 0, none⟩) 3 3] (W.alloc (.cells #[.string ⟨#[71, 69]⟩, .string ⟨#[49]⟩, .string (mk t)] 9)) fun x w' => (∃ sa sc, x = .returned (.agg #[.slice sa 3 sc]) ∧ ElAt All w' (.slice sa 3 sc) (seg3 tGE t1 t)) ∧ Below W.heap.size W w') := fun W => segment_three W tGE t1 t
  have H3 : Hid (∀ W : World, Calls Tryz.prog 88 #[.slice (some ⟨W.heap.size, 0, none⟩) 3 3] (W.alloc (.cells #[.string ⟨#[73, 69, 65]⟩, .string ⟨#[49]⟩, .string (mk t)] 9)) fun x w' => (∃ sa sc, x = .returned (.agg #[.slice sa 3 sc]) ∧ ElAt All w' (.slice sa 3 sc) (seg3 tIEA t1 t)) ∧ Below W.heap.size W w') := fun W => segment_three W tIEA t1 t
  generalize seg3 tSE q t = g1 at *
  generalize seg3 tGE t1 t = g2 at *
  generalize seg3 tIEA t1 t = g3 at *
  generalize mk q = X at *
  generalize mk t = Y at *
  clear hT
  go_enter Tryz.func50, Tryz.ntmps50
  go_wp2_with fail
  go_at_call 41
  refine HI.out.mono ?_
  rintro x w0 ⟨rfl, hb⟩
  have HB0 := Lib.hid hb
  clear hb
  go_wp2_with fail
  go_at_call 88
  refine (H1.out _).mono ?_
  rintro x w1 ⟨⟨sa, sc, rfl, he⟩, hb⟩
  have HE1 := Lib.hid he
  have HB1 := Lib.hid hb
  clear hb he
  go_wp2_with fail
  go_at_call 88
  refine (H2.out _).mono ?_
  rintro x w2 ⟨⟨sa2, sc2, rfl, he⟩, hb⟩
  have HE2 := Lib.hid he
  have HB2 := Lib.hid hb
  clear hb he
  go_wp2_with fail
  go_at_call 88
  refine (H3.out _).mono ?_
  rintro x w3 ⟨⟨sa3, sc3, rfl, he⟩, hb⟩
  have HE3 := Lib.hid he
  have HB3 := Lib.hid hb
  clear hb he
  go_wp2
  go_ret
  refine ⟨⟨_, rfl, ?_⟩, below_trans HB0.out (below_trans HB1.out (below_trans HB2.out (below_trans HB3.out (below_alloc _ _))))⟩
  rw [HF.out]
  exact sg_three (ElAt.move HE1.out (Below.moves (below_trans HB2.out HB3.out))) (ElAt.move HE2.out (Below.moves HB3.out)) HE3.out
end Go.Proofs.YtpmnepihaljamaaGreatDoor
end
