/-
  Texts put together (merge.py): PPlan.
-/
import Derived.Test.YtoibhgoaibjopaaGreatDoorMj26
/-
  What the reader's plan does, as a contract.
-/
section
set_option linter.unusedSimpArgs false
set_option linter.unusedVariables false
set_option maxRecDepth 100000
namespace Go.Proofs.YtoibhgoaibjopaaGreatDoor.Pl
open Go.RowKit
open Wo (Wd WdsAt box_cell box_two keepB heap_far)

/-- A plan, before it is checked. -/
def pPlanB (E : Nat) (l : List Wd) : R Pn :=
  match pTake E tPlan l with
  | .error e => .error e
  | .ok l => match pMode E l with
    | .error e => .error e
    | .ok (m, l) => match pTake E tMem l with
      | .error e => .error e
      | .ok l => match pMoney E l with
        | .error e => .error e
        | .ok (a, l) => match pMoney E l with
          | .error e => .error e
          | .ok (b, l) => match pTake E tFam l with
            | .error e => .error e
            | .ok l => match pMoney E l with
              | .error e => .error e
              | .ok (c, l) => match pMoney E l with
                | .error e => .error e
                | .ok (d, l) => match rsR (pRules E 64 [] l) with
                  | .error e => .error e
                  | .ok (rs, l) => .ok (⟨m, a, c, b, d, rs⟩, l)
theorem plan_eq (E : Nat) (l : List Wd) : pPlan E l = match pPlanB E l with | .error e => .error e | .ok (p, _) => if planB p = true then .ok p else .error (15, 0) := by
  unfold pPlan pPlanB pHead
  cases h1 : pTake E tPlan l with
  | error e => rfl
  | ok l1 =>
    dsimp only
    cases h2 : pMode E l1 with
    | error e => rfl
    | ok z2 =>
      dsimp only
      cases h3 : pTake E tMem z2.2 with
      | error e => rfl
      | ok l3 =>
        dsimp only
        cases h4 : pMoney E l3 with
        | error e => rfl
        | ok z4 =>
          dsimp only
          cases h5 : pMoney E z4.2 with
          | error e => rfl
          | ok z5 =>
            dsimp only
            cases h6 : pTake E tFam z5.2 with
            | error e => rfl
            | ok l6 =>
              dsimp only
              cases h7 : pMoney E l6 with
              | error e => rfl
              | ok z7 =>
                dsimp only
                cases h8 : pMoney E z7.2 with
                | error e => rfl
                | ok z8 =>
                  dsimp only
                  cases h9 : pRules E 64 [] z8.2 <;> rfl
theorem mode_none {E : Nat} {l : List Wd} (h : ∀ x, l.head? = some x → x.1 ≠ tEmb ∧ x.1 ≠ tAgg) : pMode E l = .error (4, pos E l) := by
  cases l with
  | nil => rfl
  | cons x r =>
    obtain ⟨x, a⟩ := x
    obtain ⟨h1, h2⟩ := h (x, a) rfl
    simp only [pMode]
    rw [if_neg h1, if_neg h2]; rfl
theorem mode_emb (E a : Nat) (r : List Wd) : pMode E ((tEmb, a) :: r) = .ok (0, r) := by simp [pMode]
theorem mode_agg (E a : Nat) (r : List Wd) : pMode E ((tAgg, a) :: r) = .ok (1, r) := by simp [pMode, tAgg, tEmb]
def Pnv (B : Nat) (p : Pn) (v : Value) (w : World) : Prop := ∃ (a : Option Addr) (n c : Nat), v = pnv p (.slice a n c) ∧ RusAt (fun b => B ≤ b) w (.slice a n c) p.rules ∧ PnOk p
abbrev put6 (w : World) (p : Nat) (a0 a1 a2 a3 a4 a5 : Value) : World := ((((((w.setCell ⟨p, 0, none⟩ a0).setCell ⟨p, 1, none⟩ a1).setCell ⟨p, 2, none⟩ a2).setCell ⟨p, 3, none⟩ a3).setCell ⟨p, 4, none⟩ a4).setCell ⟨p, 5, none⟩ a5)
theorem grown_put6 {w W : World} {q : Option Nat} (h : w.grownBy W q) {p : Nat} (hp : w.heap.size ≤ p) (a0 a1 a2 a3 a4 a5 : Value) : w.grownBy (put6 W p a0 a1 a2 a3 a4 a5) q := grown_new (grown_new (grown_new (grown_new (grown_new (grown_new (h) hp 0 a0) hp 1 a1) hp 2 a2) hp 3 a3) hp 4 a4) hp 5 a5
theorem rd_put6 {q E p : Nat} {l : List Wd} {w : World} (h : RdAt q E l w) (hp : q < p) (a0 a1 a2 a3 a4 a5 : Value) : RdAt q E l (put6 w p a0 a1 a2 a3 a4 a5) := rd_set (rd_set (rd_set (rd_set (rd_set (rd_set (h) hp 0 a0) hp 1 a1) hp 2 a2) hp 3 a3) hp 4 a4) hp 5 a5
theorem moves_put6 {B p : Nat} (w : World) (a0 a1 a2 a3 a4 a5 : Value) (hp : p < B) : Moves (fun b => B ≤ b) (fun b => B ≤ b) w (put6 w p a0 a1 a2 a3 a4 a5) := (((((moves_set w a0 hp).trans (moves_set _ a1 hp)).trans (moves_set _ a2 hp)).trans (moves_set _ a3 hp)).trans (moves_set _ a4 hp)).trans (moves_set _ a5 hp)
set_option maxHeartbeats 16000000 in
theorem plan_any (q E : Nat) (l : List Wd) (w : World) (h : RdAt q E l w) :
    Calls Tryz.prog 24 #[.pointer (some ⟨q, 0, none⟩)] w fun e w' => Ans q E w (Pnv w.heap.size) (pPlanB E l) e w' := by
  have hq := h.lt
  have hb0 := below_trans (below_alloc w (.cells #[.int .i64 0, .int .i64 0, .int .i64 0, .int .i64 0, .int .i64 0, .slice none 0 0] 24)) (below_alloc _ (.cells #[.int .i64 0, .int .i64 0, .int .i64 0, .int .i64 0, .int .i64 0, .slice none 0 0] 24))
  have HR0 := Lib.hid (h.grw hb0)
  have HG0 := Lib.hid (grown_of (p := some q) hb0)
  have HB0 := Lib.hid (keepB (heap_alloc_new w (.cells #[.int .i64 0, .int .i64 0, .int .i64 0, .int .i64 0, .int .i64 0, .slice none 0 0] 24)) (below_alloc _ (.cells #[.int .i64 0, .int .i64 0, .int .i64 0, .int .i64 0, .int .i64 0, .slice none 0 0] 24)))
  have hzz : (w.alloc (.cells #[.int .i64 0, .int .i64 0, .int .i64 0, .int .i64 0, .int .i64 0, .slice none 0 0] 24)).heap.size = w.heap.size + 1 := by simp
  have HM0 := Lib.hid (heap_alloc_new (w.alloc (.cells #[.int .i64 0, .int .i64 0, .int .i64 0, .int .i64 0, .int .i64 0, .slice none 0 0] 24)) (.cells #[.int .i64 0, .int .i64 0, .int .i64 0, .int .i64 0, .int .i64 0, .slice none 0 0] 24))
  rw [hzz] at HM0
  have hz0 : w.heap.size + 2 ≤ ((w.alloc (.cells #[.int .i64 0, .int .i64 0, .int .i64 0, .int .i64 0, .int .i64 0, .slice none 0 0] 24)).alloc (.cells #[.int .i64 0, .int .i64 0, .int .i64 0, .int .i64 0, .int .i64 0, .slice none 0 0] 24)).heap.size := by simp
  clear h hb0 hzz
  go_enter Tryz.func24, Tryz.ntmps24
  go_upto_region 2 with fail
  generalize (w.alloc (.cells #[.int .i64 0, .int .i64 0, .int .i64 0, .int .i64 0, .int .i64 0, .slice none 0 0] 24)).alloc (.cells #[.int .i64 0, .int .i64 0, .int .i64 0, .int .i64 0, .int .i64 0, .slice none 0 0] 24) = v0 at *
  go_wp2_with fail
  go_at_call 46
  refine (must_any q E l tPlan v0 HR0.out (by decide)).mono ?_
  rintro e v1 ⟨hg1, ha1⟩
  have hs1 := hg1.size
  have HG1 := Lib.hid (grown_tr HG0.out hg1)
  have HB1 := Lib.hid (grown_heap HB0.out hg1 (by omega))
  have HM1 := Lib.hid (grown_heap HM0.out hg1 (by omega))
  have hz1 : w.heap.size + 2 ≤ v1.heap.size := by omega
  clear hg1
  cases hc1 : pTake E tPlan l with
  | error fl =>
    rw [hc1] at ha1
    obtain rfl := ha1
    refine thrown rfl ⟨HG1.out, ?_⟩
    unfold pPlanB
    simp only [hc1]
  | ok z1 =>
    rw [hc1] at ha1
    have HC1 := Lib.hid hc1
    obtain ⟨rfl, hr1⟩ := ha1
    have HR1 := Lib.hid hr1
    clear hr1
    clear hc1 HG0 HB0 HM0 HR0 
    obtain ⟨la, hla⟩ : ∃ la, la = z1 := ⟨_, rfl⟩
    rw [← hla] at HC1 HR1
    clear hla
    have hr1' := HR1.out
    have hG1' := HG1.out
    have hB1' := HB1.out
    have hM1' := HM1.out
    have hMc1 := fun k => cell_of_row _ (w.heap.size + 1) k _ _ (0, 0) hM1'
    have hMf1 := fun k => box_froz hM1' k
    have mc0 := hMc1 0
    have mf0 := hMf1 0
    have mc1 := hMc1 1
    have mf1 := hMf1 1
    have mc2 := hMc1 2
    have mf2 := hMf1 2
    have mc3 := hMc1 3
    have mf3 := hMf1 3
    have mc4 := hMc1 4
    have mf4 := hMf1 4
    have mc5 := hMc1 5
    have mf5 := hMf1 5
    simp only [List.getElem?_toArray, List.getElem?_cons_zero, List.getElem?_cons_succ] at mc0 mc1 mc2 mc3 mc4 mc5
    have hr1' := rd_set hr1' (p := w.heap.size + 1) (by omega) 0 (.int .i64 0)
    have hG1' := grown_new hG1' (q := w.heap.size + 1) (by omega) 0 (.int .i64 0)
    have hB1' := heap_far (q := w.heap.size + 1) (j := 0) (u := .int .i64 0) hB1' (by omega)
    have hM1' : ((v1).setCell ⟨w.heap.size + 1, 0, none⟩ (.int .i64 0)).heap[w.heap.size + 1]? = some (.cells #[.int .i64 0, .int .i64 0, .int .i64 0, .int .i64 0, .int .i64 0, .slice none 0 0] 24 (0, 0)) := heap_setCell_same _ (w.heap.size + 1) 0 _ _ (.int .i64 0) hM1'
    have hz2 : w.heap.size + 2 ≤ ((v1).setCell ⟨w.heap.size + 1, 0, none⟩ (.int .i64 0)).heap.size := by simp [World.setCell]; omega
    have HR2 := Lib.hid hr1'
    have HG2 := Lib.hid hG1'
    have HB2 := Lib.hid hB1'
    have HM2 := Lib.hid hM1'
    clear hr1' hG1' hB1' hM1' hMc1 hMf1 HR1 HG1 HB1 HM1  
    go_upto_region 4 with fail
    generalize hW2 : (v1).setCell ⟨w.heap.size + 1, 0, none⟩ (.int .i64 0) = v2 at *
    clear hW2 mc0 mf0 mc1 mf1 mc2 mf2 mc3 mf3 mc4 mf4 mc5 mf5
    go_wp2_with fail
    go_at_call 46
    refine (one_any q E la tEmb tAgg v2 HR2.out (by decide) (by decide) (by decide)).mono ?_
    rintro e v3 ⟨hg3, ha3⟩
    have hs3 := hg3.size
    have HG3 := Lib.hid (grown_tr HG2.out hg3)
    have HB3 := Lib.hid (grown_heap HB2.out hg3 (by omega))
    have HM3 := Lib.hid (grown_heap HM2.out hg3 (by omega))
    have hz3 : w.heap.size + 2 ≤ v3.heap.size := by omega
    clear hg3 HG2 HB2 HM2 HR2
    rcases ha3 with ⟨lb, ⟨pa, rfl⟩, rfl, hr3⟩ | ⟨lb, ⟨pa, rfl⟩, rfl, hr3⟩ | ⟨hno, rfl⟩
    case inr.inr =>
      refine thrown rfl ⟨HG3.out, ?_⟩
      unfold pPlanB
      simp only [HC1.out, mode_none hno]
    case inl =>
      have HMo := Lib.hid (mode_emb E pa lb)
      have HR3 := Lib.hid hr3
      clear hr3
      go_upto_region 6 with fail
      go_wp2_with fail
      go_at_call 46
      refine (must_any q E lb tMem v3 HR3.out (by decide)).mono ?_
      rintro e v4 ⟨hg4, ha4⟩
      have hs4 := hg4.size
      have HG4 := Lib.hid (grown_tr HG3.out hg4)
      have HB4 := Lib.hid (grown_heap HB3.out hg4 (by omega))
      have HM4 := Lib.hid (grown_heap HM3.out hg4 (by omega))
      have hz4 : w.heap.size + 2 ≤ v4.heap.size := by omega
      clear hg4
      cases hc4 : pTake E tMem lb with
      | error fl =>
        rw [hc4] at ha4
        obtain rfl := ha4
        refine thrown rfl ⟨HG4.out, ?_⟩
        unfold pPlanB
        simp only [HC1.out, HMo.out, hc4]
      | ok z4 =>
        rw [hc4] at ha4
        have HC4 := Lib.hid hc4
        obtain ⟨rfl, hr4⟩ := ha4
        have HR4 := Lib.hid hr4
        clear hr4
        clear hc4 HG3 HB3 HM3 HR3 
        obtain ⟨lc, hlc⟩ : ∃ lc, lc = z4 := ⟨_, rfl⟩
        rw [← hlc] at HC4 HR4
        clear hlc
        go_upto_region 7 with fail
        go_wp2_with fail
        go_at_call 47
        refine (amount_any q E lc v4 HR4.out).mono ?_
        rintro e v5 ⟨hg5, ha5⟩
        have hs5 := hg5.size
        have HG5 := Lib.hid (grown_tr HG4.out hg5)
        have HB5 := Lib.hid (grown_heap HB4.out hg5 (by omega))
        have HM5 := Lib.hid (grown_heap HM4.out hg5 (by omega))
        have hz5 : w.heap.size + 2 ≤ v5.heap.size := by omega
        clear hg5
        cases hc5 : pMoney E lc with
        | error fl =>
          rw [hc5] at ha5
          obtain rfl := ha5
          refine thrown rfl ⟨HG5.out, ?_⟩
          unfold pPlanB
          simp only [HC1.out, HMo.out, HC4.out, hc5]
        | ok z5 =>
          rw [hc5] at ha5
          have HC5 := Lib.hid hc5
          obtain ⟨m1, ld⟩ := z5
          obtain ⟨⟨v, rfl, hv⟩, hr5⟩ := ha5
          obtain rfl : v = .int .i64 m1 := hv
          obtain ⟨_, _, -, -, hgb⟩ := money_inv hc5
          simp only [goodB, Bool.and_eq_true, decide_eq_true_eq] at hgb
          obtain ⟨hm11, hm12⟩ := hgb
          have HR5 := Lib.hid hr5
          clear hr5
          clear hc5 HG4 HB4 HM4 HR4 
          have hr5' := HR5.out
          have hG5' := HG5.out
          have hB5' := HB5.out
          have hM5' := HM5.out
          have hMc5 := fun k => cell_of_row _ (w.heap.size + 1) k _ _ (0, 0) hM5'
          have hMf5 := fun k => box_froz hM5' k
          have mc0 := hMc5 0
          have mf0 := hMf5 0
          have mc1 := hMc5 1
          have mf1 := hMf5 1
          have mc2 := hMc5 2
          have mf2 := hMf5 2
          have mc3 := hMc5 3
          have mf3 := hMf5 3
          have mc4 := hMc5 4
          have mf4 := hMf5 4
          have mc5 := hMc5 5
          have mf5 := hMf5 5
          simp only [List.getElem?_toArray, List.getElem?_cons_zero, List.getElem?_cons_succ] at mc0 mc1 mc2 mc3 mc4 mc5
          have hr5' := rd_set hr5' (p := w.heap.size + 1) (by omega) 1 (.int .i64 m1)
          have hG5' := grown_new hG5' (q := w.heap.size + 1) (by omega) 1 (.int .i64 m1)
          have hB5' := heap_far (q := w.heap.size + 1) (j := 1) (u := .int .i64 m1) hB5' (by omega)
          have hM5' : ((v5).setCell ⟨w.heap.size + 1, 1, none⟩ (.int .i64 m1)).heap[w.heap.size + 1]? = some (.cells #[.int .i64 0, .int .i64 m1, .int .i64 0, .int .i64 0, .int .i64 0, .slice none 0 0] 24 (0, 0)) := heap_setCell_same _ (w.heap.size + 1) 1 _ _ (.int .i64 m1) hM5'
          have hz6 : w.heap.size + 2 ≤ ((v5).setCell ⟨w.heap.size + 1, 1, none⟩ (.int .i64 m1)).heap.size := by simp [World.setCell]; omega
          have HR6 := Lib.hid hr5'
          have HG6 := Lib.hid hG5'
          have HB6 := Lib.hid hB5'
          have HM6 := Lib.hid hM5'
          clear hr5' hG5' hB5' hM5' hMc5 hMf5 HR5 HG5 HB5 HM5  
          go_upto_region 8 with fail
          generalize hW6 : (v5).setCell ⟨w.heap.size + 1, 1, none⟩ (.int .i64 m1) = v6 at *
          clear hW6 mc0 mf0 mc1 mf1 mc2 mf2 mc3 mf3 mc4 mf4 mc5 mf5
          go_wp2_with fail
          go_at_call 47
          refine (amount_any q E ld v6 HR6.out).mono ?_
          rintro e v7 ⟨hg7, ha7⟩
          have hs7 := hg7.size
          have HG7 := Lib.hid (grown_tr HG6.out hg7)
          have HB7 := Lib.hid (grown_heap HB6.out hg7 (by omega))
          have HM7 := Lib.hid (grown_heap HM6.out hg7 (by omega))
          have hz7 : w.heap.size + 2 ≤ v7.heap.size := by omega
          clear hg7
          cases hc7 : pMoney E ld with
          | error fl =>
            rw [hc7] at ha7
            obtain rfl := ha7
            refine thrown rfl ⟨HG7.out, ?_⟩
            unfold pPlanB
            simp only [HC1.out, HMo.out, HC4.out, HC5.out, hc7]
          | ok z7 =>
            rw [hc7] at ha7
            have HC7 := Lib.hid hc7
            obtain ⟨m3, le⟩ := z7
            obtain ⟨⟨v, rfl, hv⟩, hr7⟩ := ha7
            obtain rfl : v = .int .i64 m3 := hv
            obtain ⟨_, _, -, -, hgb⟩ := money_inv hc7
            simp only [goodB, Bool.and_eq_true, decide_eq_true_eq] at hgb
            obtain ⟨hm31, hm32⟩ := hgb
            have HR7 := Lib.hid hr7
            clear hr7
            clear hc7 HG6 HB6 HM6 HR6 
            have hr7' := HR7.out
            have hG7' := HG7.out
            have hB7' := HB7.out
            have hM7' := HM7.out
            have hMc7 := fun k => cell_of_row _ (w.heap.size + 1) k _ _ (0, 0) hM7'
            have hMf7 := fun k => box_froz hM7' k
            have mc0 := hMc7 0
            have mf0 := hMf7 0
            have mc1 := hMc7 1
            have mf1 := hMf7 1
            have mc2 := hMc7 2
            have mf2 := hMf7 2
            have mc3 := hMc7 3
            have mf3 := hMf7 3
            have mc4 := hMc7 4
            have mf4 := hMf7 4
            have mc5 := hMc7 5
            have mf5 := hMf7 5
            simp only [List.getElem?_toArray, List.getElem?_cons_zero, List.getElem?_cons_succ] at mc0 mc1 mc2 mc3 mc4 mc5
            have hr7' := rd_set hr7' (p := w.heap.size + 1) (by omega) 3 (.int .i64 m3)
            have hG7' := grown_new hG7' (q := w.heap.size + 1) (by omega) 3 (.int .i64 m3)
            have hB7' := heap_far (q := w.heap.size + 1) (j := 3) (u := .int .i64 m3) hB7' (by omega)
            have hM7' : ((v7).setCell ⟨w.heap.size + 1, 3, none⟩ (.int .i64 m3)).heap[w.heap.size + 1]? = some (.cells #[.int .i64 0, .int .i64 m1, .int .i64 0, .int .i64 m3, .int .i64 0, .slice none 0 0] 24 (0, 0)) := heap_setCell_same _ (w.heap.size + 1) 3 _ _ (.int .i64 m3) hM7'
            have hz8 : w.heap.size + 2 ≤ ((v7).setCell ⟨w.heap.size + 1, 3, none⟩ (.int .i64 m3)).heap.size := by simp [World.setCell]; omega
            have HR8 := Lib.hid hr7'
            have HG8 := Lib.hid hG7'
            have HB8 := Lib.hid hB7'
            have HM8 := Lib.hid hM7'
            clear hr7' hG7' hB7' hM7' hMc7 hMf7 HR7 HG7 HB7 HM7  
            go_upto_region 9 with fail
            generalize hW8 : (v7).setCell ⟨w.heap.size + 1, 3, none⟩ (.int .i64 m3) = v8 at *
            clear hW8 mc0 mf0 mc1 mf1 mc2 mf2 mc3 mf3 mc4 mf4 mc5 mf5
            go_wp2_with fail
            go_at_call 46
            refine (must_any q E le tFam v8 HR8.out (by decide)).mono ?_
            rintro e v9 ⟨hg9, ha9⟩
            have hs9 := hg9.size
            have HG9 := Lib.hid (grown_tr HG8.out hg9)
            have HB9 := Lib.hid (grown_heap HB8.out hg9 (by omega))
            have HM9 := Lib.hid (grown_heap HM8.out hg9 (by omega))
            have hz9 : w.heap.size + 2 ≤ v9.heap.size := by omega
            clear hg9
            cases hc9 : pTake E tFam le with
            | error fl =>
              rw [hc9] at ha9
              obtain rfl := ha9
              refine thrown rfl ⟨HG9.out, ?_⟩
              unfold pPlanB
              simp only [HC1.out, HMo.out, HC4.out, HC5.out, HC7.out, hc9]
            | ok z9 =>
              rw [hc9] at ha9
              have HC9 := Lib.hid hc9
              obtain ⟨rfl, hr9⟩ := ha9
              have HR9 := Lib.hid hr9
              clear hr9
              clear hc9 HG8 HB8 HM8 HR8 
              obtain ⟨lf, hlf⟩ : ∃ lf, lf = z9 := ⟨_, rfl⟩
              rw [← hlf] at HC9 HR9
              clear hlf
              go_upto_region 10 with fail
              go_wp2_with fail
              go_at_call 47
              refine (amount_any q E lf v9 HR9.out).mono ?_
              rintro e v10 ⟨hg10, ha10⟩
              have hs10 := hg10.size
              have HG10 := Lib.hid (grown_tr HG9.out hg10)
              have HB10 := Lib.hid (grown_heap HB9.out hg10 (by omega))
              have HM10 := Lib.hid (grown_heap HM9.out hg10 (by omega))
              have hz10 : w.heap.size + 2 ≤ v10.heap.size := by omega
              clear hg10
              cases hc10 : pMoney E lf with
              | error fl =>
                rw [hc10] at ha10
                obtain rfl := ha10
                refine thrown rfl ⟨HG10.out, ?_⟩
                unfold pPlanB
                simp only [HC1.out, HMo.out, HC4.out, HC5.out, HC7.out, HC9.out, hc10]
              | ok z10 =>
                rw [hc10] at ha10
                have HC10 := Lib.hid hc10
                obtain ⟨m2, lg⟩ := z10
                obtain ⟨⟨v, rfl, hv⟩, hr10⟩ := ha10
                obtain rfl : v = .int .i64 m2 := hv
                obtain ⟨_, _, -, -, hgb⟩ := money_inv hc10
                simp only [goodB, Bool.and_eq_true, decide_eq_true_eq] at hgb
                obtain ⟨hm21, hm22⟩ := hgb
                have HR10 := Lib.hid hr10
                clear hr10
                clear hc10 HG9 HB9 HM9 HR9 
                have hr10' := HR10.out
                have hG10' := HG10.out
                have hB10' := HB10.out
                have hM10' := HM10.out
                have hMc10 := fun k => cell_of_row _ (w.heap.size + 1) k _ _ (0, 0) hM10'
                have hMf10 := fun k => box_froz hM10' k
                have mc0 := hMc10 0
                have mf0 := hMf10 0
                have mc1 := hMc10 1
                have mf1 := hMf10 1
                have mc2 := hMc10 2
                have mf2 := hMf10 2
                have mc3 := hMc10 3
                have mf3 := hMf10 3
                have mc4 := hMc10 4
                have mf4 := hMf10 4
                have mc5 := hMc10 5
                have mf5 := hMf10 5
                simp only [List.getElem?_toArray, List.getElem?_cons_zero, List.getElem?_cons_succ] at mc0 mc1 mc2 mc3 mc4 mc5
                have hr10' := rd_set hr10' (p := w.heap.size + 1) (by omega) 2 (.int .i64 m2)
                have hG10' := grown_new hG10' (q := w.heap.size + 1) (by omega) 2 (.int .i64 m2)
                have hB10' := heap_far (q := w.heap.size + 1) (j := 2) (u := .int .i64 m2) hB10' (by omega)
                have hM10' : ((v10).setCell ⟨w.heap.size + 1, 2, none⟩ (.int .i64 m2)).heap[w.heap.size + 1]? = some (.cells #[.int .i64 0, .int .i64 m1, .int .i64 m2, .int .i64 m3, .int .i64 0, .slice none 0 0] 24 (0, 0)) := heap_setCell_same _ (w.heap.size + 1) 2 _ _ (.int .i64 m2) hM10'
                have hz11 : w.heap.size + 2 ≤ ((v10).setCell ⟨w.heap.size + 1, 2, none⟩ (.int .i64 m2)).heap.size := by simp [World.setCell]; omega
                have HR11 := Lib.hid hr10'
                have HG11 := Lib.hid hG10'
                have HB11 := Lib.hid hB10'
                have HM11 := Lib.hid hM10'
                clear hr10' hG10' hB10' hM10' hMc10 hMf10 HR10 HG10 HB10 HM10  
                go_upto_region 11 with fail
                generalize hW11 : (v10).setCell ⟨w.heap.size + 1, 2, none⟩ (.int .i64 m2) = v11 at *
                clear hW11 mc0 mf0 mc1 mf1 mc2 mf2 mc3 mf3 mc4 mf4 mc5 mf5
                go_wp2_with fail
                go_at_call 47
                refine (amount_any q E lg v11 HR11.out).mono ?_
                rintro e v12 ⟨hg12, ha12⟩
                have hs12 := hg12.size
                have HG12 := Lib.hid (grown_tr HG11.out hg12)
                have HB12 := Lib.hid (grown_heap HB11.out hg12 (by omega))
                have HM12 := Lib.hid (grown_heap HM11.out hg12 (by omega))
                have hz12 : w.heap.size + 2 ≤ v12.heap.size := by omega
                clear hg12
                cases hc12 : pMoney E lg with
                | error fl =>
                  rw [hc12] at ha12
                  obtain rfl := ha12
                  refine thrown rfl ⟨HG12.out, ?_⟩
                  unfold pPlanB
                  simp only [HC1.out, HMo.out, HC4.out, HC5.out, HC7.out, HC9.out, HC10.out, hc12]
                | ok z12 =>
                  rw [hc12] at ha12
                  have HC12 := Lib.hid hc12
                  obtain ⟨m4, lh⟩ := z12
                  obtain ⟨⟨v, rfl, hv⟩, hr12⟩ := ha12
                  obtain rfl : v = .int .i64 m4 := hv
                  obtain ⟨_, _, -, -, hgb⟩ := money_inv hc12
                  simp only [goodB, Bool.and_eq_true, decide_eq_true_eq] at hgb
                  obtain ⟨hm41, hm42⟩ := hgb
                  have HR12 := Lib.hid hr12
                  clear hr12
                  clear hc12 HG11 HB11 HM11 HR11 
                  have hr12' := HR12.out
                  have hG12' := HG12.out
                  have hB12' := HB12.out
                  have hM12' := HM12.out
                  have hMc12 := fun k => cell_of_row _ (w.heap.size + 1) k _ _ (0, 0) hM12'
                  have hMf12 := fun k => box_froz hM12' k
                  have mc0 := hMc12 0
                  have mf0 := hMf12 0
                  have mc1 := hMc12 1
                  have mf1 := hMf12 1
                  have mc2 := hMc12 2
                  have mf2 := hMf12 2
                  have mc3 := hMc12 3
                  have mf3 := hMf12 3
                  have mc4 := hMc12 4
                  have mf4 := hMf12 4
                  have mc5 := hMc12 5
                  have mf5 := hMf12 5
                  simp only [List.getElem?_toArray, List.getElem?_cons_zero, List.getElem?_cons_succ] at mc0 mc1 mc2 mc3 mc4 mc5
                  have hr12' := rd_set hr12' (p := w.heap.size + 1) (by omega) 4 (.int .i64 m4)
                  have hG12' := grown_new hG12' (q := w.heap.size + 1) (by omega) 4 (.int .i64 m4)
                  have hB12' := heap_far (q := w.heap.size + 1) (j := 4) (u := .int .i64 m4) hB12' (by omega)
                  have hM12' : ((v12).setCell ⟨w.heap.size + 1, 4, none⟩ (.int .i64 m4)).heap[w.heap.size + 1]? = some (.cells #[.int .i64 0, .int .i64 m1, .int .i64 m2, .int .i64 m3, .int .i64 m4, .slice none 0 0] 24 (0, 0)) := heap_setCell_same _ (w.heap.size + 1) 4 _ _ (.int .i64 m4) hM12'
                  have hz13 : w.heap.size + 2 ≤ ((v12).setCell ⟨w.heap.size + 1, 4, none⟩ (.int .i64 m4)).heap.size := by simp [World.setCell]; omega
                  have HR13 := Lib.hid hr12'
                  have HG13 := Lib.hid hG12'
                  have HB13 := Lib.hid hB12'
                  have HM13 := Lib.hid hM12'
                  clear hr12' hG12' hB12' hM12' hMc12 hMf12 HR12 HG12 HB12 HM12  
                  go_upto_region 12 with fail
                  generalize hW13 : (v12).setCell ⟨w.heap.size + 1, 4, none⟩ (.int .i64 m4) = v13 at *
                  clear hW13 mc0 mf0 mc1 mf1 mc2 mf2 mc3 mf3 mc4 mf4 mc5 mf5
                  go_wp2_with fail
                  go_at_call 48
                  refine (rules_any q E lh v13 HR13.out).mono ?_
                  rintro e v14 ⟨hg14, ha14⟩
                  have hs14 := hg14.size
                  have HG14 := Lib.hid (grown_tr HG13.out hg14)
                  have HB14 := Lib.hid (grown_heap HB13.out hg14 (by omega))
                  have HM14 := Lib.hid (grown_heap HM13.out hg14 (by omega))
                  have hz14 : w.heap.size + 2 ≤ v14.heap.size := by omega
                  clear hg14
                  cases hc14 : rsR (pRules E 64 [] lh) with
                  | error fl =>
                    rw [hc14] at ha14
                    obtain rfl := ha14
                    refine thrown rfl ⟨HG14.out, ?_⟩
                    unfold pPlanB
                    simp only [HC1.out, HMo.out, HC4.out, HC5.out, HC7.out, HC9.out, HC10.out, HC12.out, hc14]
                  | ok z14 =>
                    rw [hc14] at ha14
                    have HC14 := Lib.hid hc14
                    obtain ⟨rs, lz⟩ := z14
                    obtain ⟨⟨v, rfl, hv14, ra, rc, rfl⟩, hr14⟩ := ha14
                    have HR14 := Lib.hid hr14
                    have FR14 := Lib.hid (RusAt.move hv14 (moves_low _ (show w.heap.size + 2 ≤ _ by omega)))
                    clear hr14 hv14
                    clear hc14 HG13 HB13 HM13 HR13 
                    have hr14' := HR14.out
                    have hG14' := HG14.out
                    have hB14' := HB14.out
                    have hM14' := HM14.out
                    have hFR14' := FR14.out
                    have hMc14 := fun k => cell_of_row _ (w.heap.size + 1) k _ _ (0, 0) hM14'
                    have hMf14 := fun k => box_froz hM14' k
                    have mc0 := hMc14 0
                    have mf0 := hMf14 0
                    have mc1 := hMc14 1
                    have mf1 := hMf14 1
                    have mc2 := hMc14 2
                    have mf2 := hMf14 2
                    have mc3 := hMc14 3
                    have mf3 := hMf14 3
                    have mc4 := hMc14 4
                    have mf4 := hMf14 4
                    have mc5 := hMc14 5
                    have mf5 := hMf14 5
                    simp only [List.getElem?_toArray, List.getElem?_cons_zero, List.getElem?_cons_succ] at mc0 mc1 mc2 mc3 mc4 mc5
                    have hr14' := rd_set hr14' (p := w.heap.size + 1) (by omega) 5 (.slice ra rs.length rc)
                    have hG14' := grown_new hG14' (q := w.heap.size + 1) (by omega) 5 (.slice ra rs.length rc)
                    have hB14' := heap_far (q := w.heap.size + 1) (j := 5) (u := .slice ra rs.length rc) hB14' (by omega)
                    have hM14' : ((v14).setCell ⟨w.heap.size + 1, 5, none⟩ (.slice ra rs.length rc)).heap[w.heap.size + 1]? = some (.cells #[.int .i64 0, .int .i64 m1, .int .i64 m2, .int .i64 m3, .int .i64 m4, .slice ra rs.length rc] 24 (0, 0)) := heap_setCell_same _ (w.heap.size + 1) 5 _ _ (.slice ra rs.length rc) hM14'
                    have hFR14' := hFR14'.move (moves_set (p := w.heap.size + 1) (j := 5) _ (.slice ra rs.length rc) (by omega))
                    have hz15 : w.heap.size + 2 ≤ ((v14).setCell ⟨w.heap.size + 1, 5, none⟩ (.slice ra rs.length rc)).heap.size := by simp [World.setCell]; omega
                    have HR15 := Lib.hid hr14'
                    have HG15 := Lib.hid hG14'
                    have HB15 := Lib.hid hB14'
                    have HM15 := Lib.hid hM14'
                    have FR15 := Lib.hid hFR14'
                    clear hr14' hG14' hB14' hM14' hMc14 hMf14 HR14 HG14 HB14 HM14 hFR14' FR14
                    go_upto_region 13 with fail
                    generalize hW15 : (v14).setCell ⟨w.heap.size + 1, 5, none⟩ (.slice ra rs.length rc) = v15 at *
                    clear hW15 mc0 mf0 mc1 mf1 mc2 mf2 mc3 mf3 mc4 mf4 mc5 mf5
                    have hBc := fun k => cell_of_row _ w.heap.size k _ _ (0, 0) HB15.out
                    have hBf := fun k => box_froz HB15.out k
                    have hMc := fun k => cell_of_row _ (w.heap.size + 1) k _ _ (0, 0) HM15.out
                    have bc0 := hBc 0
                    have bf0 := hBf 0
                    have mc0 := hMc 0
                    have bc1 := hBc 1
                    have bf1 := hBf 1
                    have mc1 := hMc 1
                    have bc2 := hBc 2
                    have bf2 := hBf 2
                    have mc2 := hMc 2
                    have bc3 := hBc 3
                    have bf3 := hBf 3
                    have mc3 := hMc 3
                    have bc4 := hBc 4
                    have bf4 := hBf 4
                    have mc4 := hMc 4
                    have bc5 := hBc 5
                    have bf5 := hBf 5
                    have mc5 := hMc 5
                    simp only [List.getElem?_toArray, List.getElem?_cons_zero, List.getElem?_cons_succ] at mc0 bc0 mc1 bc1 mc2 bc2 mc3 bc3 mc4 bc4 mc5 bc5
                    clear hBc hBf hMc
                    go_wp2
                    refine bodyPost_ret (v := .agg #[.int .i64 0, .int .i64 m1, .int .i64 m2, .int .i64 m3, .int .i64 m4, .slice ra rs.length rc]) (by simp [results, Tryz.results24, go_sem, bc0, bc1, bc2, bc3, bc4, bc5]) rfl ?_
                    refine ⟨grown_put6 HG15.out (Nat.le_refl _) _ _ _ _ _ _, ?_⟩
                    have hres : pPlanB E l = .ok (⟨0, m1, m2, m3, m4, rs⟩, lz) := by
                      unfold pPlanB
                      simp only [HC1.out, HMo.out, HC4.out, HC5.out, HC7.out, HC9.out, HC10.out, HC12.out, HC14.out]
                    rw [hres]
                    have mv : Moves (fun b => w.heap.size + 2 ≤ b) (fun b => w.heap.size ≤ b) v15 (put6 v15 w.heap.size (.int .i64 0) (.int .i64 m1) (.int .i64 m2) (.int .i64 m3) (.int .i64 m4) (.slice ra rs.length rc)) := (moves_put6 v15 (.int .i64 0) (.int .i64 m1) (.int .i64 m2) (.int .i64 m3) (.int .i64 m4) (.slice ra rs.length rc) (by omega)).trans (moves_low _ (by omega))
                    exact ⟨⟨_, rfl, _, _, _, rfl, FR15.out.move mv, ⟨by show (-9223372036854775808 : Int) ≤ 0; omega, by show 0 ≤ (9223372036854775807 : Int); omega⟩, ⟨by show (-9223372036854775808 : Int) ≤ m1; omega, by show m1 ≤ (9223372036854775807 : Int); omega⟩, ⟨by show (-9223372036854775808 : Int) ≤ m2; omega, by show m2 ≤ (9223372036854775807 : Int); omega⟩, ⟨by show (-9223372036854775808 : Int) ≤ m3; omega, by show m3 ≤ (9223372036854775807 : Int); omega⟩, ⟨by show (-9223372036854775808 : Int) ≤ m4; omega, by show m4 ≤ (9223372036854775807 : Int); omega⟩⟩, rd_put6 HR15.out hq _ _ _ _ _ _⟩
    case inr.inl =>
      have HMo := Lib.hid (mode_agg E pa lb)
      have HR3 := Lib.hid hr3
      clear hr3
      have hr3' := HR3.out
      have hG3' := HG3.out
      have hB3' := HB3.out
      have hM3' := HM3.out
      have hMc3 := fun k => cell_of_row _ (w.heap.size + 1) k _ _ (0, 0) hM3'
      have hMf3 := fun k => box_froz hM3' k
      have mc0 := hMc3 0
      have mf0 := hMf3 0
      have mc1 := hMc3 1
      have mf1 := hMf3 1
      have mc2 := hMc3 2
      have mf2 := hMf3 2
      have mc3 := hMc3 3
      have mf3 := hMf3 3
      have mc4 := hMc3 4
      have mf4 := hMf3 4
      have mc5 := hMc3 5
      have mf5 := hMf3 5
      simp only [List.getElem?_toArray, List.getElem?_cons_zero, List.getElem?_cons_succ] at mc0 mc1 mc2 mc3 mc4 mc5
      have hr3' := rd_set hr3' (p := w.heap.size + 1) (by omega) 0 (.int .i64 1)
      have hG3' := grown_new hG3' (q := w.heap.size + 1) (by omega) 0 (.int .i64 1)
      have hB3' := heap_far (q := w.heap.size + 1) (j := 0) (u := .int .i64 1) hB3' (by omega)
      have hM3' : ((v3).setCell ⟨w.heap.size + 1, 0, none⟩ (.int .i64 1)).heap[w.heap.size + 1]? = some (.cells #[.int .i64 1, .int .i64 0, .int .i64 0, .int .i64 0, .int .i64 0, .slice none 0 0] 24 (0, 0)) := heap_setCell_same _ (w.heap.size + 1) 0 _ _ (.int .i64 1) hM3'
      have hz4 : w.heap.size + 2 ≤ ((v3).setCell ⟨w.heap.size + 1, 0, none⟩ (.int .i64 1)).heap.size := by simp [World.setCell]; omega
      have HR4 := Lib.hid hr3'
      have HG4 := Lib.hid hG3'
      have HB4 := Lib.hid hB3'
      have HM4 := Lib.hid hM3'
      clear hr3' hG3' hB3' hM3' hMc3 hMf3 HR3 HG3 HB3 HM3  
      go_upto_region 6 with fail
      generalize hW4 : (v3).setCell ⟨w.heap.size + 1, 0, none⟩ (.int .i64 1) = v4 at *
      clear hW4 mc0 mf0 mc1 mf1 mc2 mf2 mc3 mf3 mc4 mf4 mc5 mf5
      go_wp2_with fail
      go_at_call 46
      refine (must_any q E lb tMem v4 HR4.out (by decide)).mono ?_
      rintro e v5 ⟨hg5, ha5⟩
      have hs5 := hg5.size
      have HG5 := Lib.hid (grown_tr HG4.out hg5)
      have HB5 := Lib.hid (grown_heap HB4.out hg5 (by omega))
      have HM5 := Lib.hid (grown_heap HM4.out hg5 (by omega))
      have hz5 : w.heap.size + 2 ≤ v5.heap.size := by omega
      clear hg5
      cases hc5 : pTake E tMem lb with
      | error fl =>
        rw [hc5] at ha5
        obtain rfl := ha5
        refine thrown rfl ⟨HG5.out, ?_⟩
        unfold pPlanB
        simp only [HC1.out, HMo.out, hc5]
      | ok z5 =>
        rw [hc5] at ha5
        have HC5 := Lib.hid hc5
        obtain ⟨rfl, hr5⟩ := ha5
        have HR5 := Lib.hid hr5
        clear hr5
        clear hc5 HG4 HB4 HM4 HR4 
        obtain ⟨lc, hlc⟩ : ∃ lc, lc = z5 := ⟨_, rfl⟩
        rw [← hlc] at HC5 HR5
        clear hlc
        go_upto_region 7 with fail
        go_wp2_with fail
        go_at_call 47
        refine (amount_any q E lc v5 HR5.out).mono ?_
        rintro e v6 ⟨hg6, ha6⟩
        have hs6 := hg6.size
        have HG6 := Lib.hid (grown_tr HG5.out hg6)
        have HB6 := Lib.hid (grown_heap HB5.out hg6 (by omega))
        have HM6 := Lib.hid (grown_heap HM5.out hg6 (by omega))
        have hz6 : w.heap.size + 2 ≤ v6.heap.size := by omega
        clear hg6
        cases hc6 : pMoney E lc with
        | error fl =>
          rw [hc6] at ha6
          obtain rfl := ha6
          refine thrown rfl ⟨HG6.out, ?_⟩
          unfold pPlanB
          simp only [HC1.out, HMo.out, HC5.out, hc6]
        | ok z6 =>
          rw [hc6] at ha6
          have HC6 := Lib.hid hc6
          obtain ⟨m1, ld⟩ := z6
          obtain ⟨⟨v, rfl, hv⟩, hr6⟩ := ha6
          obtain rfl : v = .int .i64 m1 := hv
          obtain ⟨_, _, -, -, hgb⟩ := money_inv hc6
          simp only [goodB, Bool.and_eq_true, decide_eq_true_eq] at hgb
          obtain ⟨hm11, hm12⟩ := hgb
          have HR6 := Lib.hid hr6
          clear hr6
          clear hc6 HG5 HB5 HM5 HR5 
          have hr6' := HR6.out
          have hG6' := HG6.out
          have hB6' := HB6.out
          have hM6' := HM6.out
          have hMc6 := fun k => cell_of_row _ (w.heap.size + 1) k _ _ (0, 0) hM6'
          have hMf6 := fun k => box_froz hM6' k
          have mc0 := hMc6 0
          have mf0 := hMf6 0
          have mc1 := hMc6 1
          have mf1 := hMf6 1
          have mc2 := hMc6 2
          have mf2 := hMf6 2
          have mc3 := hMc6 3
          have mf3 := hMf6 3
          have mc4 := hMc6 4
          have mf4 := hMf6 4
          have mc5 := hMc6 5
          have mf5 := hMf6 5
          simp only [List.getElem?_toArray, List.getElem?_cons_zero, List.getElem?_cons_succ] at mc0 mc1 mc2 mc3 mc4 mc5
          have hr6' := rd_set hr6' (p := w.heap.size + 1) (by omega) 1 (.int .i64 m1)
          have hG6' := grown_new hG6' (q := w.heap.size + 1) (by omega) 1 (.int .i64 m1)
          have hB6' := heap_far (q := w.heap.size + 1) (j := 1) (u := .int .i64 m1) hB6' (by omega)
          have hM6' : ((v6).setCell ⟨w.heap.size + 1, 1, none⟩ (.int .i64 m1)).heap[w.heap.size + 1]? = some (.cells #[.int .i64 1, .int .i64 m1, .int .i64 0, .int .i64 0, .int .i64 0, .slice none 0 0] 24 (0, 0)) := heap_setCell_same _ (w.heap.size + 1) 1 _ _ (.int .i64 m1) hM6'
          have hz7 : w.heap.size + 2 ≤ ((v6).setCell ⟨w.heap.size + 1, 1, none⟩ (.int .i64 m1)).heap.size := by simp [World.setCell]; omega
          have HR7 := Lib.hid hr6'
          have HG7 := Lib.hid hG6'
          have HB7 := Lib.hid hB6'
          have HM7 := Lib.hid hM6'
          clear hr6' hG6' hB6' hM6' hMc6 hMf6 HR6 HG6 HB6 HM6  
          go_upto_region 8 with fail
          generalize hW7 : (v6).setCell ⟨w.heap.size + 1, 1, none⟩ (.int .i64 m1) = v7 at *
          clear hW7 mc0 mf0 mc1 mf1 mc2 mf2 mc3 mf3 mc4 mf4 mc5 mf5
          go_wp2_with fail
          go_at_call 47
          refine (amount_any q E ld v7 HR7.out).mono ?_
          rintro e v8 ⟨hg8, ha8⟩
          have hs8 := hg8.size
          have HG8 := Lib.hid (grown_tr HG7.out hg8)
          have HB8 := Lib.hid (grown_heap HB7.out hg8 (by omega))
          have HM8 := Lib.hid (grown_heap HM7.out hg8 (by omega))
          have hz8 : w.heap.size + 2 ≤ v8.heap.size := by omega
          clear hg8
          cases hc8 : pMoney E ld with
          | error fl =>
            rw [hc8] at ha8
            obtain rfl := ha8
            refine thrown rfl ⟨HG8.out, ?_⟩
            unfold pPlanB
            simp only [HC1.out, HMo.out, HC5.out, HC6.out, hc8]
          | ok z8 =>
            rw [hc8] at ha8
            have HC8 := Lib.hid hc8
            obtain ⟨m3, le⟩ := z8
            obtain ⟨⟨v, rfl, hv⟩, hr8⟩ := ha8
            obtain rfl : v = .int .i64 m3 := hv
            obtain ⟨_, _, -, -, hgb⟩ := money_inv hc8
            simp only [goodB, Bool.and_eq_true, decide_eq_true_eq] at hgb
            obtain ⟨hm31, hm32⟩ := hgb
            have HR8 := Lib.hid hr8
            clear hr8
            clear hc8 HG7 HB7 HM7 HR7 
            have hr8' := HR8.out
            have hG8' := HG8.out
            have hB8' := HB8.out
            have hM8' := HM8.out
            have hMc8 := fun k => cell_of_row _ (w.heap.size + 1) k _ _ (0, 0) hM8'
            have hMf8 := fun k => box_froz hM8' k
            have mc0 := hMc8 0
            have mf0 := hMf8 0
            have mc1 := hMc8 1
            have mf1 := hMf8 1
            have mc2 := hMc8 2
            have mf2 := hMf8 2
            have mc3 := hMc8 3
            have mf3 := hMf8 3
            have mc4 := hMc8 4
            have mf4 := hMf8 4
            have mc5 := hMc8 5
            have mf5 := hMf8 5
            simp only [List.getElem?_toArray, List.getElem?_cons_zero, List.getElem?_cons_succ] at mc0 mc1 mc2 mc3 mc4 mc5
            have hr8' := rd_set hr8' (p := w.heap.size + 1) (by omega) 3 (.int .i64 m3)
            have hG8' := grown_new hG8' (q := w.heap.size + 1) (by omega) 3 (.int .i64 m3)
            have hB8' := heap_far (q := w.heap.size + 1) (j := 3) (u := .int .i64 m3) hB8' (by omega)
            have hM8' : ((v8).setCell ⟨w.heap.size + 1, 3, none⟩ (.int .i64 m3)).heap[w.heap.size + 1]? = some (.cells #[.int .i64 1, .int .i64 m1, .int .i64 0, .int .i64 m3, .int .i64 0, .slice none 0 0] 24 (0, 0)) := heap_setCell_same _ (w.heap.size + 1) 3 _ _ (.int .i64 m3) hM8'
            have hz9 : w.heap.size + 2 ≤ ((v8).setCell ⟨w.heap.size + 1, 3, none⟩ (.int .i64 m3)).heap.size := by simp [World.setCell]; omega
            have HR9 := Lib.hid hr8'
            have HG9 := Lib.hid hG8'
            have HB9 := Lib.hid hB8'
            have HM9 := Lib.hid hM8'
            clear hr8' hG8' hB8' hM8' hMc8 hMf8 HR8 HG8 HB8 HM8  
            go_upto_region 9 with fail
            generalize hW9 : (v8).setCell ⟨w.heap.size + 1, 3, none⟩ (.int .i64 m3) = v9 at *
            clear hW9 mc0 mf0 mc1 mf1 mc2 mf2 mc3 mf3 mc4 mf4 mc5 mf5
            go_wp2_with fail
            go_at_call 46
            refine (must_any q E le tFam v9 HR9.out (by decide)).mono ?_
            rintro e v10 ⟨hg10, ha10⟩
            have hs10 := hg10.size
            have HG10 := Lib.hid (grown_tr HG9.out hg10)
            have HB10 := Lib.hid (grown_heap HB9.out hg10 (by omega))
            have HM10 := Lib.hid (grown_heap HM9.out hg10 (by omega))
            have hz10 : w.heap.size + 2 ≤ v10.heap.size := by omega
            clear hg10
            cases hc10 : pTake E tFam le with
            | error fl =>
              rw [hc10] at ha10
              obtain rfl := ha10
              refine thrown rfl ⟨HG10.out, ?_⟩
              unfold pPlanB
              simp only [HC1.out, HMo.out, HC5.out, HC6.out, HC8.out, hc10]
            | ok z10 =>
              rw [hc10] at ha10
              have HC10 := Lib.hid hc10
              obtain ⟨rfl, hr10⟩ := ha10
              have HR10 := Lib.hid hr10
              clear hr10
              clear hc10 HG9 HB9 HM9 HR9 
              obtain ⟨lf, hlf⟩ : ∃ lf, lf = z10 := ⟨_, rfl⟩
              rw [← hlf] at HC10 HR10
              clear hlf
              go_upto_region 10 with fail
              go_wp2_with fail
              go_at_call 47
              refine (amount_any q E lf v10 HR10.out).mono ?_
              rintro e v11 ⟨hg11, ha11⟩
              have hs11 := hg11.size
              have HG11 := Lib.hid (grown_tr HG10.out hg11)
              have HB11 := Lib.hid (grown_heap HB10.out hg11 (by omega))
              have HM11 := Lib.hid (grown_heap HM10.out hg11 (by omega))
              have hz11 : w.heap.size + 2 ≤ v11.heap.size := by omega
              clear hg11
              cases hc11 : pMoney E lf with
              | error fl =>
                rw [hc11] at ha11
                obtain rfl := ha11
                refine thrown rfl ⟨HG11.out, ?_⟩
                unfold pPlanB
                simp only [HC1.out, HMo.out, HC5.out, HC6.out, HC8.out, HC10.out, hc11]
              | ok z11 =>
                rw [hc11] at ha11
                have HC11 := Lib.hid hc11
                obtain ⟨m2, lg⟩ := z11
                obtain ⟨⟨v, rfl, hv⟩, hr11⟩ := ha11
                obtain rfl : v = .int .i64 m2 := hv
                obtain ⟨_, _, -, -, hgb⟩ := money_inv hc11
                simp only [goodB, Bool.and_eq_true, decide_eq_true_eq] at hgb
                obtain ⟨hm21, hm22⟩ := hgb
                have HR11 := Lib.hid hr11
                clear hr11
                clear hc11 HG10 HB10 HM10 HR10 
                have hr11' := HR11.out
                have hG11' := HG11.out
                have hB11' := HB11.out
                have hM11' := HM11.out
                have hMc11 := fun k => cell_of_row _ (w.heap.size + 1) k _ _ (0, 0) hM11'
                have hMf11 := fun k => box_froz hM11' k
                have mc0 := hMc11 0
                have mf0 := hMf11 0
                have mc1 := hMc11 1
                have mf1 := hMf11 1
                have mc2 := hMc11 2
                have mf2 := hMf11 2
                have mc3 := hMc11 3
                have mf3 := hMf11 3
                have mc4 := hMc11 4
                have mf4 := hMf11 4
                have mc5 := hMc11 5
                have mf5 := hMf11 5
                simp only [List.getElem?_toArray, List.getElem?_cons_zero, List.getElem?_cons_succ] at mc0 mc1 mc2 mc3 mc4 mc5
                have hr11' := rd_set hr11' (p := w.heap.size + 1) (by omega) 2 (.int .i64 m2)
                have hG11' := grown_new hG11' (q := w.heap.size + 1) (by omega) 2 (.int .i64 m2)
                have hB11' := heap_far (q := w.heap.size + 1) (j := 2) (u := .int .i64 m2) hB11' (by omega)
                have hM11' : ((v11).setCell ⟨w.heap.size + 1, 2, none⟩ (.int .i64 m2)).heap[w.heap.size + 1]? = some (.cells #[.int .i64 1, .int .i64 m1, .int .i64 m2, .int .i64 m3, .int .i64 0, .slice none 0 0] 24 (0, 0)) := heap_setCell_same _ (w.heap.size + 1) 2 _ _ (.int .i64 m2) hM11'
                have hz12 : w.heap.size + 2 ≤ ((v11).setCell ⟨w.heap.size + 1, 2, none⟩ (.int .i64 m2)).heap.size := by simp [World.setCell]; omega
                have HR12 := Lib.hid hr11'
                have HG12 := Lib.hid hG11'
                have HB12 := Lib.hid hB11'
                have HM12 := Lib.hid hM11'
                clear hr11' hG11' hB11' hM11' hMc11 hMf11 HR11 HG11 HB11 HM11  
                go_upto_region 11 with fail
                generalize hW12 : (v11).setCell ⟨w.heap.size + 1, 2, none⟩ (.int .i64 m2) = v12 at *
                clear hW12 mc0 mf0 mc1 mf1 mc2 mf2 mc3 mf3 mc4 mf4 mc5 mf5
                go_wp2_with fail
                go_at_call 47
                refine (amount_any q E lg v12 HR12.out).mono ?_
                rintro e v13 ⟨hg13, ha13⟩
                have hs13 := hg13.size
                have HG13 := Lib.hid (grown_tr HG12.out hg13)
                have HB13 := Lib.hid (grown_heap HB12.out hg13 (by omega))
                have HM13 := Lib.hid (grown_heap HM12.out hg13 (by omega))
                have hz13 : w.heap.size + 2 ≤ v13.heap.size := by omega
                clear hg13
                cases hc13 : pMoney E lg with
                | error fl =>
                  rw [hc13] at ha13
                  obtain rfl := ha13
                  refine thrown rfl ⟨HG13.out, ?_⟩
                  unfold pPlanB
                  simp only [HC1.out, HMo.out, HC5.out, HC6.out, HC8.out, HC10.out, HC11.out, hc13]
                | ok z13 =>
                  rw [hc13] at ha13
                  have HC13 := Lib.hid hc13
                  obtain ⟨m4, lh⟩ := z13
                  obtain ⟨⟨v, rfl, hv⟩, hr13⟩ := ha13
                  obtain rfl : v = .int .i64 m4 := hv
                  obtain ⟨_, _, -, -, hgb⟩ := money_inv hc13
                  simp only [goodB, Bool.and_eq_true, decide_eq_true_eq] at hgb
                  obtain ⟨hm41, hm42⟩ := hgb
                  have HR13 := Lib.hid hr13
                  clear hr13
                  clear hc13 HG12 HB12 HM12 HR12 
                  have hr13' := HR13.out
                  have hG13' := HG13.out
                  have hB13' := HB13.out
                  have hM13' := HM13.out
                  have hMc13 := fun k => cell_of_row _ (w.heap.size + 1) k _ _ (0, 0) hM13'
                  have hMf13 := fun k => box_froz hM13' k
                  have mc0 := hMc13 0
                  have mf0 := hMf13 0
                  have mc1 := hMc13 1
                  have mf1 := hMf13 1
                  have mc2 := hMc13 2
                  have mf2 := hMf13 2
                  have mc3 := hMc13 3
                  have mf3 := hMf13 3
                  have mc4 := hMc13 4
                  have mf4 := hMf13 4
                  have mc5 := hMc13 5
                  have mf5 := hMf13 5
                  simp only [List.getElem?_toArray, List.getElem?_cons_zero, List.getElem?_cons_succ] at mc0 mc1 mc2 mc3 mc4 mc5
                  have hr13' := rd_set hr13' (p := w.heap.size + 1) (by omega) 4 (.int .i64 m4)
                  have hG13' := grown_new hG13' (q := w.heap.size + 1) (by omega) 4 (.int .i64 m4)
                  have hB13' := heap_far (q := w.heap.size + 1) (j := 4) (u := .int .i64 m4) hB13' (by omega)
                  have hM13' : ((v13).setCell ⟨w.heap.size + 1, 4, none⟩ (.int .i64 m4)).heap[w.heap.size + 1]? = some (.cells #[.int .i64 1, .int .i64 m1, .int .i64 m2, .int .i64 m3, .int .i64 m4, .slice none 0 0] 24 (0, 0)) := heap_setCell_same _ (w.heap.size + 1) 4 _ _ (.int .i64 m4) hM13'
                  have hz14 : w.heap.size + 2 ≤ ((v13).setCell ⟨w.heap.size + 1, 4, none⟩ (.int .i64 m4)).heap.size := by simp [World.setCell]; omega
                  have HR14 := Lib.hid hr13'
                  have HG14 := Lib.hid hG13'
                  have HB14 := Lib.hid hB13'
                  have HM14 := Lib.hid hM13'
                  clear hr13' hG13' hB13' hM13' hMc13 hMf13 HR13 HG13 HB13 HM13  
                  go_upto_region 12 with fail
                  generalize hW14 : (v13).setCell ⟨w.heap.size + 1, 4, none⟩ (.int .i64 m4) = v14 at *
                  clear hW14 mc0 mf0 mc1 mf1 mc2 mf2 mc3 mf3 mc4 mf4 mc5 mf5
                  go_wp2_with fail
                  go_at_call 48
                  refine (rules_any q E lh v14 HR14.out).mono ?_
                  rintro e v15 ⟨hg15, ha15⟩
                  have hs15 := hg15.size
                  have HG15 := Lib.hid (grown_tr HG14.out hg15)
                  have HB15 := Lib.hid (grown_heap HB14.out hg15 (by omega))
                  have HM15 := Lib.hid (grown_heap HM14.out hg15 (by omega))
                  have hz15 : w.heap.size + 2 ≤ v15.heap.size := by omega
                  clear hg15
                  cases hc15 : rsR (pRules E 64 [] lh) with
                  | error fl =>
                    rw [hc15] at ha15
                    obtain rfl := ha15
                    refine thrown rfl ⟨HG15.out, ?_⟩
                    unfold pPlanB
                    simp only [HC1.out, HMo.out, HC5.out, HC6.out, HC8.out, HC10.out, HC11.out, HC13.out, hc15]
                  | ok z15 =>
                    rw [hc15] at ha15
                    have HC15 := Lib.hid hc15
                    obtain ⟨rs, lz⟩ := z15
                    obtain ⟨⟨v, rfl, hv15, ra, rc, rfl⟩, hr15⟩ := ha15
                    have HR15 := Lib.hid hr15
                    have FR15 := Lib.hid (RusAt.move hv15 (moves_low _ (show w.heap.size + 2 ≤ _ by omega)))
                    clear hr15 hv15
                    clear hc15 HG14 HB14 HM14 HR14 
                    have hr15' := HR15.out
                    have hG15' := HG15.out
                    have hB15' := HB15.out
                    have hM15' := HM15.out
                    have hFR15' := FR15.out
                    have hMc15 := fun k => cell_of_row _ (w.heap.size + 1) k _ _ (0, 0) hM15'
                    have hMf15 := fun k => box_froz hM15' k
                    have mc0 := hMc15 0
                    have mf0 := hMf15 0
                    have mc1 := hMc15 1
                    have mf1 := hMf15 1
                    have mc2 := hMc15 2
                    have mf2 := hMf15 2
                    have mc3 := hMc15 3
                    have mf3 := hMf15 3
                    have mc4 := hMc15 4
                    have mf4 := hMf15 4
                    have mc5 := hMc15 5
                    have mf5 := hMf15 5
                    simp only [List.getElem?_toArray, List.getElem?_cons_zero, List.getElem?_cons_succ] at mc0 mc1 mc2 mc3 mc4 mc5
                    have hr15' := rd_set hr15' (p := w.heap.size + 1) (by omega) 5 (.slice ra rs.length rc)
                    have hG15' := grown_new hG15' (q := w.heap.size + 1) (by omega) 5 (.slice ra rs.length rc)
                    have hB15' := heap_far (q := w.heap.size + 1) (j := 5) (u := .slice ra rs.length rc) hB15' (by omega)
                    have hM15' : ((v15).setCell ⟨w.heap.size + 1, 5, none⟩ (.slice ra rs.length rc)).heap[w.heap.size + 1]? = some (.cells #[.int .i64 1, .int .i64 m1, .int .i64 m2, .int .i64 m3, .int .i64 m4, .slice ra rs.length rc] 24 (0, 0)) := heap_setCell_same _ (w.heap.size + 1) 5 _ _ (.slice ra rs.length rc) hM15'
                    have hFR15' := hFR15'.move (moves_set (p := w.heap.size + 1) (j := 5) _ (.slice ra rs.length rc) (by omega))
                    have hz16 : w.heap.size + 2 ≤ ((v15).setCell ⟨w.heap.size + 1, 5, none⟩ (.slice ra rs.length rc)).heap.size := by simp [World.setCell]; omega
                    have HR16 := Lib.hid hr15'
                    have HG16 := Lib.hid hG15'
                    have HB16 := Lib.hid hB15'
                    have HM16 := Lib.hid hM15'
                    have FR16 := Lib.hid hFR15'
                    clear hr15' hG15' hB15' hM15' hMc15 hMf15 HR15 HG15 HB15 HM15 hFR15' FR15
                    go_upto_region 13 with fail
                    generalize hW16 : (v15).setCell ⟨w.heap.size + 1, 5, none⟩ (.slice ra rs.length rc) = v16 at *
                    clear hW16 mc0 mf0 mc1 mf1 mc2 mf2 mc3 mf3 mc4 mf4 mc5 mf5
                    have hBc := fun k => cell_of_row _ w.heap.size k _ _ (0, 0) HB16.out
                    have hBf := fun k => box_froz HB16.out k
                    have hMc := fun k => cell_of_row _ (w.heap.size + 1) k _ _ (0, 0) HM16.out
                    have bc0 := hBc 0
                    have bf0 := hBf 0
                    have mc0 := hMc 0
                    have bc1 := hBc 1
                    have bf1 := hBf 1
                    have mc1 := hMc 1
                    have bc2 := hBc 2
                    have bf2 := hBf 2
                    have mc2 := hMc 2
                    have bc3 := hBc 3
                    have bf3 := hBf 3
                    have mc3 := hMc 3
                    have bc4 := hBc 4
                    have bf4 := hBf 4
                    have mc4 := hMc 4
                    have bc5 := hBc 5
                    have bf5 := hBf 5
                    have mc5 := hMc 5
                    simp only [List.getElem?_toArray, List.getElem?_cons_zero, List.getElem?_cons_succ] at mc0 bc0 mc1 bc1 mc2 bc2 mc3 bc3 mc4 bc4 mc5 bc5
                    clear hBc hBf hMc
                    go_wp2
                    refine bodyPost_ret (v := .agg #[.int .i64 1, .int .i64 m1, .int .i64 m2, .int .i64 m3, .int .i64 m4, .slice ra rs.length rc]) (by simp [results, Tryz.results24, go_sem, bc0, bc1, bc2, bc3, bc4, bc5]) rfl ?_
                    refine ⟨grown_put6 HG16.out (Nat.le_refl _) _ _ _ _ _ _, ?_⟩
                    have hres : pPlanB E l = .ok (⟨1, m1, m2, m3, m4, rs⟩, lz) := by
                      unfold pPlanB
                      simp only [HC1.out, HMo.out, HC5.out, HC6.out, HC8.out, HC10.out, HC11.out, HC13.out, HC15.out]
                    rw [hres]
                    have mv : Moves (fun b => w.heap.size + 2 ≤ b) (fun b => w.heap.size ≤ b) v16 (put6 v16 w.heap.size (.int .i64 1) (.int .i64 m1) (.int .i64 m2) (.int .i64 m3) (.int .i64 m4) (.slice ra rs.length rc)) := (moves_put6 v16 (.int .i64 1) (.int .i64 m1) (.int .i64 m2) (.int .i64 m3) (.int .i64 m4) (.slice ra rs.length rc) (by omega)).trans (moves_low _ (by omega))
                    exact ⟨⟨_, rfl, _, _, _, rfl, FR16.out.move mv, ⟨by show (-9223372036854775808 : Int) ≤ 1; omega, by show 1 ≤ (9223372036854775807 : Int); omega⟩, ⟨by show (-9223372036854775808 : Int) ≤ m1; omega, by show m1 ≤ (9223372036854775807 : Int); omega⟩, ⟨by show (-9223372036854775808 : Int) ≤ m2; omega, by show m2 ≤ (9223372036854775807 : Int); omega⟩, ⟨by show (-9223372036854775808 : Int) ≤ m3; omega, by show m3 ≤ (9223372036854775807 : Int); omega⟩, ⟨by show (-9223372036854775808 : Int) ≤ m4; omega, by show m4 ≤ (9223372036854775807 : Int); omega⟩⟩, rd_put6 HR16.out hq _ _ _ _ _ _⟩
end Go.Proofs.YtoibhgoaibjopaaGreatDoor.Pl
end
