/-
  Texts put together (merge.py): PRule.
-/
import Derived.Test.YtoibhgoaibjopaaGreatDoorMj19
/-
  What the reader's rule does, as a contract.
-/
section
set_option linter.unusedSimpArgs false
set_option linter.unusedVariables false
set_option maxRecDepth 100000
namespace Go.Proofs.YtoibhgoaibjopaaGreatDoor.Pl
open Go.RowKit
open Wo (Wd WdsAt box_cell box_two keepB heap_far)

/-- A rule behind its first word. -/
def pRuleB (E : Nat) (l : List Wd) : R Ru :=
  match pNum E 9999 l with
  | .error e => .error e
  | .ok (k, l) => match pTake E tIf l with
    | .error e => .error e
    | .ok l => match pC E 16 l with
      | .error e => .error e
      | .ok (c, l) => match pUnl E l with
        | .error e => .error e
        | .ok (u, l) => match pTake E tSet l with
          | .error e => .error e
          | .ok l => match pSets E (l.length + 1) [] l with
            | .error e => .error e
            | .ok (s, l) => .ok (⟨k, c, u, s⟩, l)
def Ruv (B : Nat) (r : Ru) (v : Value) (w : World) : Prop := ∃ (ka : Option Addr) (kn kc : Nat) (ua : Option Addr) (un uc : Nat) (sa : Option Addr) (sn sc : Nat), v = ruv r (.slice ka kn kc) (.slice ua un uc) (.slice sa sn sc) ∧ RuIn (fun b => B ≤ b) w r (.slice ka kn kc) (.slice ua un uc) (.slice sa sn sc)
theorem unl_none {E : Nat} {l : List Wd} (h : ∀ x, l.head? = some x → x.1 ≠ tUnl ∧ x.1 ≠ tSet) : pUnl E l = .ok ([], l) ∧ pTake E tSet l = .error (4, pos E l) := by
  cases l with
  | nil => exact ⟨rfl, rfl⟩
  | cons x r =>
    obtain ⟨x, a⟩ := x
    obtain ⟨h1, h2⟩ := h (x, a) rfl
    exact ⟨by simp only [pUnl]; rw [if_neg h1], by simp only [pTake]; rw [if_neg h2]; rfl⟩
theorem unl_set (E a : Nat) (r : List Wd) : pUnl E ((tSet, a) :: r) = .ok ([], (tSet, a) :: r) ∧ pTake E tSet ((tSet, a) :: r) = .ok r := ⟨rfl, by simp [pTake]⟩
theorem unl_unl (E a : Nat) (r : List Wd) : pUnl E ((tUnl, a) :: r) = match pC E 16 r with | .error e => .error e | .ok (c, r) => .ok ([c], r) := rfl
abbrev put8 (w : World) (p : Nat) (a0 a1 a2 a3 a4 a5 a6 a7 : Value) : World := ((((((((w.setCell ⟨p, 0, none⟩ a0).setCell ⟨p, 1, none⟩ a1).setCell ⟨p, 2, none⟩ a2).setCell ⟨p, 3, none⟩ a3).setCell ⟨p, 4, none⟩ a4).setCell ⟨p, 5, none⟩ a5).setCell ⟨p, 6, none⟩ a6).setCell ⟨p, 7, none⟩ a7)
theorem grown_put8 {w W : World} {q : Option Nat} (h : w.grownBy W q) {p : Nat} (hp : w.heap.size ≤ p) (a0 a1 a2 a3 a4 a5 a6 a7 : Value) : w.grownBy (put8 W p a0 a1 a2 a3 a4 a5 a6 a7) q := grown_new (grown_new (grown_new (grown_new (grown_new (grown_new (grown_new (grown_new (h) hp 0 a0) hp 1 a1) hp 2 a2) hp 3 a3) hp 4 a4) hp 5 a5) hp 6 a6) hp 7 a7
theorem rd_put8 {q E p : Nat} {l : List Wd} {w : World} (h : RdAt q E l w) (hp : q < p) (a0 a1 a2 a3 a4 a5 a6 a7 : Value) : RdAt q E l (put8 w p a0 a1 a2 a3 a4 a5 a6 a7) := rd_set (rd_set (rd_set (rd_set (rd_set (rd_set (rd_set (rd_set (h) hp 0 a0) hp 1 a1) hp 2 a2) hp 3 a3) hp 4 a4) hp 5 a5) hp 6 a6) hp 7 a7
theorem moves_put8 {B p : Nat} (w : World) (a0 a1 a2 a3 a4 a5 a6 a7 : Value) (hp : p < B) : Moves (fun b => B ≤ b) (fun b => B ≤ b) w (put8 w p a0 a1 a2 a3 a4 a5 a6 a7) := (((((((moves_set w a0 hp).trans (moves_set _ a1 hp)).trans (moves_set _ a2 hp)).trans (moves_set _ a3 hp)).trans (moves_set _ a4 hp)).trans (moves_set _ a5 hp)).trans (moves_set _ a6 hp)).trans (moves_set _ a7 hp)
set_option maxHeartbeats 16000000 in
theorem rule_any (q E : Nat) (l : List Wd) (w : World) (h : RdAt q E l w) :
    Calls Tryz.prog 67 #[.pointer (some ⟨q, 0, none⟩)] w fun e w' => Ans q E w (Ruv w.heap.size) (pRuleB E l) e w' := by
  have hq := h.lt
  have hb0 := below_trans (below_alloc w (.cells #[.int .i64 0, .int .i64 0, .string ⟨#[]⟩, .string ⟨#[]⟩, .int .i64 0, .slice none 0 0, .slice none 0 0, .slice none 0 0] 35)) (below_alloc _ (.cells #[.int .i64 0, .int .i64 0, .string ⟨#[]⟩, .string ⟨#[]⟩, .int .i64 0, .slice none 0 0, .slice none 0 0, .slice none 0 0] 35))
  have HR0 := Lib.hid (h.grw hb0)
  have HG0 := Lib.hid (grown_of (p := some q) hb0)
  have HB0 := Lib.hid (keepB (heap_alloc_new w (.cells #[.int .i64 0, .int .i64 0, .string ⟨#[]⟩, .string ⟨#[]⟩, .int .i64 0, .slice none 0 0, .slice none 0 0, .slice none 0 0] 35)) (below_alloc _ (.cells #[.int .i64 0, .int .i64 0, .string ⟨#[]⟩, .string ⟨#[]⟩, .int .i64 0, .slice none 0 0, .slice none 0 0, .slice none 0 0] 35)))
  have hzz : (w.alloc (.cells #[.int .i64 0, .int .i64 0, .string ⟨#[]⟩, .string ⟨#[]⟩, .int .i64 0, .slice none 0 0, .slice none 0 0, .slice none 0 0] 35)).heap.size = w.heap.size + 1 := by simp
  have HM0 := Lib.hid (heap_alloc_new (w.alloc (.cells #[.int .i64 0, .int .i64 0, .string ⟨#[]⟩, .string ⟨#[]⟩, .int .i64 0, .slice none 0 0, .slice none 0 0, .slice none 0 0] 35)) (.cells #[.int .i64 0, .int .i64 0, .string ⟨#[]⟩, .string ⟨#[]⟩, .int .i64 0, .slice none 0 0, .slice none 0 0, .slice none 0 0] 35))
  rw [hzz] at HM0
  have hz0 : w.heap.size + 2 ≤ ((w.alloc (.cells #[.int .i64 0, .int .i64 0, .string ⟨#[]⟩, .string ⟨#[]⟩, .int .i64 0, .slice none 0 0, .slice none 0 0, .slice none 0 0] 35)).alloc (.cells #[.int .i64 0, .int .i64 0, .string ⟨#[]⟩, .string ⟨#[]⟩, .int .i64 0, .slice none 0 0, .slice none 0 0, .slice none 0 0] 35)).heap.size := by simp
  clear h hb0 hzz
  go_enter Tryz.func67, Tryz.ntmps67
  go_upto_region 2 with fail
  generalize (w.alloc (.cells #[.int .i64 0, .int .i64 0, .string ⟨#[]⟩, .string ⟨#[]⟩, .int .i64 0, .slice none 0 0, .slice none 0 0, .slice none 0 0] 35)).alloc (.cells #[.int .i64 0, .int .i64 0, .string ⟨#[]⟩, .string ⟨#[]⟩, .int .i64 0, .slice none 0 0, .slice none 0 0, .slice none 0 0] 35) = v0 at *
  go_wp2_with fail
  go_at_call 79
  refine (number_any q E 9999 l v0 HR0.out).mono ?_
  rintro e v1 ⟨hg1, ha1⟩
  have hs1 := hg1.size
  have HG1 := Lib.hid (grown_tr HG0.out hg1)
  have HB1 := Lib.hid (grown_heap HB0.out hg1 (by omega))
  have HM1 := Lib.hid (grown_heap HM0.out hg1 (by omega))
  have hz1 : w.heap.size + 2 ≤ v1.heap.size := by omega
  clear hg1
  cases hc1 : pNum E 9999 l with
  | error fl =>
    rw [hc1] at ha1
    obtain rfl := ha1
    refine thrown rfl ⟨HG1.out, ?_⟩
    unfold pRuleB
    simp only [hc1]
  | ok z1 =>
    rw [hc1] at ha1
    have HC1 := Lib.hid hc1
    obtain ⟨rk, l1⟩ := z1
    obtain ⟨⟨v, rfl, hv⟩, hr1⟩ := ha1
    obtain rfl : v = .int .i64 rk := hv
    obtain ⟨_, _, -, hrk1, hrk2, -⟩ := num_inv hc1
    have HR1 := Lib.hid hr1
    clear hr1
    clear hc1 HG0 HB0 HM0 HR0 
    have hr1' := HR1.out
    have hG1' := HG1.out
    have hB1' := HB1.out
    have hM1' := HM1.out
    have hMc1 := fun k => cell_of_row _ (w.heap.size + 1) k _ _ (0, 0) hM1'
    have hMf1 := fun k => box_froz hM1' k
    have mc0 := hMc1 0
    have mf0 := hMf1 0
    have mc1 := hMc1 1
    have mf1 := hMf1 1
    have mc2 := hMc1 2
    have mf2 := hMf1 2
    have mc3 := hMc1 3
    have mf3 := hMf1 3
    have mc4 := hMc1 4
    have mf4 := hMf1 4
    have mc5 := hMc1 5
    have mf5 := hMf1 5
    have mc6 := hMc1 6
    have mf6 := hMf1 6
    have mc7 := hMc1 7
    have mf7 := hMf1 7
    simp only [List.getElem?_toArray, List.getElem?_cons_zero, List.getElem?_cons_succ] at mc0 mc1 mc2 mc3 mc4 mc5 mc6 mc7
    have hr1' := rd_set hr1' (p := w.heap.size + 1) (by omega) 0 (.int .i64 rk)
    have hG1' := grown_new hG1' (q := w.heap.size + 1) (by omega) 0 (.int .i64 rk)
    have hB1' := heap_far (q := w.heap.size + 1) (j := 0) (u := .int .i64 rk) hB1' (by omega)
    have hM1' : ((v1).setCell ⟨w.heap.size + 1, 0, none⟩ (.int .i64 rk)).heap[w.heap.size + 1]? = some (.cells #[.int .i64 rk, .int .i64 0, .string ⟨#[]⟩, .string ⟨#[]⟩, .int .i64 0, .slice none 0 0, .slice none 0 0, .slice none 0 0] 35 (0, 0)) := heap_setCell_same _ (w.heap.size + 1) 0 _ _ (.int .i64 rk) hM1'
    have hz2 : w.heap.size + 2 ≤ ((v1).setCell ⟨w.heap.size + 1, 0, none⟩ (.int .i64 rk)).heap.size := by simp [World.setCell]; omega
    have HR2 := Lib.hid hr1'
    have HG2 := Lib.hid hG1'
    have HB2 := Lib.hid hB1'
    have HM2 := Lib.hid hM1'
    clear hr1' hG1' hB1' hM1' hMc1 hMf1 HR1 HG1 HB1 HM1  
    go_upto_region 3 with fail
    generalize hW2 : (v1).setCell ⟨w.heap.size + 1, 0, none⟩ (.int .i64 rk) = v2 at *
    clear hW2 mc0 mf0 mc1 mf1 mc2 mf2 mc3 mf3 mc4 mf4 mc5 mf5 mc6 mf6 mc7 mf7
    go_wp2_with fail
    go_at_call 46
    refine (must_any q E l1 tIf v2 HR2.out (by decide)).mono ?_
    rintro e v3 ⟨hg3, ha3⟩
    have hs3 := hg3.size
    have HG3 := Lib.hid (grown_tr HG2.out hg3)
    have HB3 := Lib.hid (grown_heap HB2.out hg3 (by omega))
    have HM3 := Lib.hid (grown_heap HM2.out hg3 (by omega))
    have hz3 : w.heap.size + 2 ≤ v3.heap.size := by omega
    clear hg3
    cases hc3 : pTake E tIf l1 with
    | error fl =>
      rw [hc3] at ha3
      obtain rfl := ha3
      refine thrown rfl ⟨HG3.out, ?_⟩
      unfold pRuleB
      simp only [HC1.out, hc3]
    | ok z3 =>
      rw [hc3] at ha3
      have HC3 := Lib.hid hc3
      obtain ⟨rfl, hr3⟩ := ha3
      have HR3 := Lib.hid hr3
      clear hr3
      clear hc3 HG2 HB2 HM2 HR2 
      obtain ⟨l3, hl3⟩ : ∃ l3, l3 = z3 := ⟨_, rfl⟩
      rw [← hl3] at HC3 HR3
      clear hl3
      go_upto_region 4 with fail
      go_wp2_with fail
      go_at_call 80
      refine (cond_any 16 1 (by decide) (by decide) q E l3 v3 HR3.out).mono ?_
      rintro e v4 ⟨hg4, ha4⟩
      have hs4 := hg4.size
      have HG4 := Lib.hid (grown_tr HG3.out hg4)
      have HB4 := Lib.hid (grown_heap HB3.out hg4 (by omega))
      have HM4 := Lib.hid (grown_heap HM3.out hg4 (by omega))
      have hz4 : w.heap.size + 2 ≤ v4.heap.size := by omega
      clear hg4
      cases hc4 : pC E 16 l3 with
      | error fl =>
        rw [hc4] at ha4
        obtain rfl := ha4
        refine thrown rfl ⟨HG4.out, ?_⟩
        unfold pRuleB
        simp only [HC1.out, HC3.out, hc4]
      | ok z4 =>
        rw [hc4] at ha4
        have HC4 := Lib.hid hc4
        obtain ⟨c, l4⟩ := z4
        obtain ⟨⟨v, rfl, ka, kn, kc, rfl, hK4, hO4⟩, hr4⟩ := ha4
        have HR4 := Lib.hid hr4
        have HOC := Lib.hid hO4
        have FK4 := Lib.hid (hK4.move (moves_low _ (show w.heap.size + 2 ≤ _ by omega)))
        clear hr4 hK4 hO4
        clear hc4 HG3 HB3 HM3 HR3 
        have hr4' := HR4.out
        have hG4' := HG4.out
        have hB4' := HB4.out
        have hM4' := HM4.out
        have hFK4' := FK4.out
        have hMc4 := fun k => cell_of_row _ (w.heap.size + 1) k _ _ (0, 0) hM4'
        have hMf4 := fun k => box_froz hM4' k
        have mc0 := hMc4 0
        have mf0 := hMf4 0
        have mc1 := hMc4 1
        have mf1 := hMf4 1
        have mc2 := hMc4 2
        have mf2 := hMf4 2
        have mc3 := hMc4 3
        have mf3 := hMf4 3
        have mc4 := hMc4 4
        have mf4 := hMf4 4
        have mc5 := hMc4 5
        have mf5 := hMf4 5
        have mc6 := hMc4 6
        have mf6 := hMf4 6
        have mc7 := hMc4 7
        have mf7 := hMf4 7
        simp only [List.getElem?_toArray, List.getElem?_cons_zero, List.getElem?_cons_succ] at mc0 mc1 mc2 mc3 mc4 mc5 mc6 mc7
        have hr4' := rd_set hr4' (p := w.heap.size + 1) (by omega) 1 (.int .i64 c.kind)
        have hG4' := grown_new hG4' (q := w.heap.size + 1) (by omega) 1 (.int .i64 c.kind)
        have hB4' := heap_far (q := w.heap.size + 1) (j := 1) (u := .int .i64 c.kind) hB4' (by omega)
        have hM4' : ((v4).setCell ⟨w.heap.size + 1, 1, none⟩ (.int .i64 c.kind)).heap[w.heap.size + 1]? = some (.cells #[.int .i64 rk, .int .i64 c.kind, .string ⟨#[]⟩, .string ⟨#[]⟩, .int .i64 0, .slice none 0 0, .slice none 0 0, .slice none 0 0] 35 (0, 0)) := heap_setCell_same _ (w.heap.size + 1) 1 _ _ (.int .i64 c.kind) hM4'
        have hFK4' := hFK4'.move (moves_set (p := w.heap.size + 1) (j := 1) _ (.int .i64 c.kind) (by omega))
        have hr4' := rd_set hr4' (p := w.heap.size + 1) (by omega) 2 (.string (mk c.lo))
        have hG4' := grown_new hG4' (q := w.heap.size + 1) (by omega) 2 (.string (mk c.lo))
        have hB4' := heap_far (q := w.heap.size + 1) (j := 2) (u := .string (mk c.lo)) hB4' (by omega)
        have hM4' : (((v4).setCell ⟨w.heap.size + 1, 1, none⟩ (.int .i64 c.kind)).setCell ⟨w.heap.size + 1, 2, none⟩ (.string (mk c.lo))).heap[w.heap.size + 1]? = some (.cells #[.int .i64 rk, .int .i64 c.kind, .string (mk c.lo), .string ⟨#[]⟩, .int .i64 0, .slice none 0 0, .slice none 0 0, .slice none 0 0] 35 (0, 0)) := heap_setCell_same _ (w.heap.size + 1) 2 _ _ (.string (mk c.lo)) hM4'
        have hFK4' := hFK4'.move (moves_set (p := w.heap.size + 1) (j := 2) _ (.string (mk c.lo)) (by omega))
        have hr4' := rd_set hr4' (p := w.heap.size + 1) (by omega) 3 (.string (mk c.hi))
        have hG4' := grown_new hG4' (q := w.heap.size + 1) (by omega) 3 (.string (mk c.hi))
        have hB4' := heap_far (q := w.heap.size + 1) (j := 3) (u := .string (mk c.hi)) hB4' (by omega)
        have hM4' : ((((v4).setCell ⟨w.heap.size + 1, 1, none⟩ (.int .i64 c.kind)).setCell ⟨w.heap.size + 1, 2, none⟩ (.string (mk c.lo))).setCell ⟨w.heap.size + 1, 3, none⟩ (.string (mk c.hi))).heap[w.heap.size + 1]? = some (.cells #[.int .i64 rk, .int .i64 c.kind, .string (mk c.lo), .string (mk c.hi), .int .i64 0, .slice none 0 0, .slice none 0 0, .slice none 0 0] 35 (0, 0)) := heap_setCell_same _ (w.heap.size + 1) 3 _ _ (.string (mk c.hi)) hM4'
        have hFK4' := hFK4'.move (moves_set (p := w.heap.size + 1) (j := 3) _ (.string (mk c.hi)) (by omega))
        have hr4' := rd_set hr4' (p := w.heap.size + 1) (by omega) 4 (.int .i64 c.n)
        have hG4' := grown_new hG4' (q := w.heap.size + 1) (by omega) 4 (.int .i64 c.n)
        have hB4' := heap_far (q := w.heap.size + 1) (j := 4) (u := .int .i64 c.n) hB4' (by omega)
        have hM4' : (((((v4).setCell ⟨w.heap.size + 1, 1, none⟩ (.int .i64 c.kind)).setCell ⟨w.heap.size + 1, 2, none⟩ (.string (mk c.lo))).setCell ⟨w.heap.size + 1, 3, none⟩ (.string (mk c.hi))).setCell ⟨w.heap.size + 1, 4, none⟩ (.int .i64 c.n)).heap[w.heap.size + 1]? = some (.cells #[.int .i64 rk, .int .i64 c.kind, .string (mk c.lo), .string (mk c.hi), .int .i64 c.n, .slice none 0 0, .slice none 0 0, .slice none 0 0] 35 (0, 0)) := heap_setCell_same _ (w.heap.size + 1) 4 _ _ (.int .i64 c.n) hM4'
        have hFK4' := hFK4'.move (moves_set (p := w.heap.size + 1) (j := 4) _ (.int .i64 c.n) (by omega))
        have hr4' := rd_set hr4' (p := w.heap.size + 1) (by omega) 5 (.slice ka kn kc)
        have hG4' := grown_new hG4' (q := w.heap.size + 1) (by omega) 5 (.slice ka kn kc)
        have hB4' := heap_far (q := w.heap.size + 1) (j := 5) (u := .slice ka kn kc) hB4' (by omega)
        have hM4' : ((((((v4).setCell ⟨w.heap.size + 1, 1, none⟩ (.int .i64 c.kind)).setCell ⟨w.heap.size + 1, 2, none⟩ (.string (mk c.lo))).setCell ⟨w.heap.size + 1, 3, none⟩ (.string (mk c.hi))).setCell ⟨w.heap.size + 1, 4, none⟩ (.int .i64 c.n)).setCell ⟨w.heap.size + 1, 5, none⟩ (.slice ka kn kc)).heap[w.heap.size + 1]? = some (.cells #[.int .i64 rk, .int .i64 c.kind, .string (mk c.lo), .string (mk c.hi), .int .i64 c.n, .slice ka kn kc, .slice none 0 0, .slice none 0 0] 35 (0, 0)) := heap_setCell_same _ (w.heap.size + 1) 5 _ _ (.slice ka kn kc) hM4'
        have hFK4' := hFK4'.move (moves_set (p := w.heap.size + 1) (j := 5) _ (.slice ka kn kc) (by omega))
        have hz5 : w.heap.size + 2 ≤ ((((((v4).setCell ⟨w.heap.size + 1, 1, none⟩ (.int .i64 c.kind)).setCell ⟨w.heap.size + 1, 2, none⟩ (.string (mk c.lo))).setCell ⟨w.heap.size + 1, 3, none⟩ (.string (mk c.hi))).setCell ⟨w.heap.size + 1, 4, none⟩ (.int .i64 c.n)).setCell ⟨w.heap.size + 1, 5, none⟩ (.slice ka kn kc)).heap.size := by simp [World.setCell]; omega
        have HR5 := Lib.hid hr4'
        have HG5 := Lib.hid hG4'
        have HB5 := Lib.hid hB4'
        have HM5 := Lib.hid hM4'
        have FK5 := Lib.hid hFK4'
        clear hr4' hG4' hB4' hM4' hMc4 hMf4 HR4 HG4 HB4 HM4 hFK4' FK4
        go_upto_region 5 with fail
        generalize hW5 : (((((v4).setCell ⟨w.heap.size + 1, 1, none⟩ (.int .i64 c.kind)).setCell ⟨w.heap.size + 1, 2, none⟩ (.string (mk c.lo))).setCell ⟨w.heap.size + 1, 3, none⟩ (.string (mk c.hi))).setCell ⟨w.heap.size + 1, 4, none⟩ (.int .i64 c.n)).setCell ⟨w.heap.size + 1, 5, none⟩ (.slice ka kn kc) = v5 at *
        clear hW5 mc0 mf0 mc1 mf1 mc2 mf2 mc3 mf3 mc4 mf4 mc5 mf5 mc6 mf6 mc7 mf7
        go_wp2_with fail
        go_at_call 46
        refine (one_any q E l4 tUnl tSet v5 HR5.out (by decide) (by decide) (by decide)).mono ?_
        rintro e v6 ⟨hg6, ha6⟩
        have hs6 := hg6.size
        have HG6 := Lib.hid (grown_tr HG5.out hg6)
        have HB6 := Lib.hid (grown_heap HB5.out hg6 (by omega))
        have HM6 := Lib.hid (grown_heap HM5.out hg6 (by omega))
        have FK6 := Lib.hid (FK5.out.move (moves_rd hg6 (by omega)))
        have hz6 : w.heap.size + 2 ≤ v6.heap.size := by omega
        clear hg6 HG5 HB5 HM5 HR5 FK5
        rcases ha6 with ⟨lu, ⟨pa, rfl⟩, rfl, hr6⟩ | ⟨lu, ⟨pa, rfl⟩, rfl, hr6⟩ | ⟨hno, rfl⟩
        case inr.inr =>
          obtain ⟨u1, u2⟩ := unl_none (E := E) hno
          refine thrown rfl ⟨HG6.out, ?_⟩
          unfold pRuleB
          simp only [HC1.out, HC3.out, HC4.out, u1, u2]
        case inr.inl =>
          obtain ⟨u1, u2⟩ := unl_set E pa lu
          have HU1 := Lib.hid u1
          have HU2 := Lib.hid u2
          have HR6 := Lib.hid hr6
          clear hr6 u1 u2
          go_upto_region 8 with fail
          go_wp2_with fail
          go_at_call 81
          refine (sets_any q E lu v6 HR6.out).mono ?_
          rintro e v7 ⟨hg7, ha7⟩
          have hs7 := hg7.size
          have HG7 := Lib.hid (grown_tr HG6.out hg7)
          have HB7 := Lib.hid (grown_heap HB6.out hg7 (by omega))
          have HM7 := Lib.hid (grown_heap HM6.out hg7 (by omega))
          have FK7 := Lib.hid (FK6.out.move (moves_rd hg7 (by omega)))
          have hz7 : w.heap.size + 2 ≤ v7.heap.size := by omega
          clear hg7
          cases hc7 : pSets E (lu.length + 1) [] lu with
          | error fl =>
            rw [hc7] at ha7
            obtain rfl := ha7
            refine thrown rfl ⟨HG7.out, ?_⟩
            unfold pRuleB
            simp only [HC1.out, HC3.out, HC4.out, HU1.out, HU2.out, hc7]
          | ok z7 =>
            rw [hc7] at ha7
            have HC7 := Lib.hid hc7
            obtain ⟨ss, l7⟩ := z7
            obtain ⟨⟨v, rfl, hv7⟩, hr7⟩ := ha7
            obtain ⟨sa, sc, rfl, -, -, -⟩ := StsAt.form hv7
            have HR7 := Lib.hid hr7
            have FS7 := Lib.hid (StsAt.move hv7 (moves_low _ (show w.heap.size + 2 ≤ _ by omega)))
            clear hr7 hv7
            clear hc7 HG6 HB6 HM6 HR6 FK6
            have hr7' := HR7.out
            have hG7' := HG7.out
            have hB7' := HB7.out
            have hM7' := HM7.out
            have hFK7' := FK7.out
            have hFS7' := FS7.out
            have hMc7 := fun k => cell_of_row _ (w.heap.size + 1) k _ _ (0, 0) hM7'
            have hMf7 := fun k => box_froz hM7' k
            have mc0 := hMc7 0
            have mf0 := hMf7 0
            have mc1 := hMc7 1
            have mf1 := hMf7 1
            have mc2 := hMc7 2
            have mf2 := hMf7 2
            have mc3 := hMc7 3
            have mf3 := hMf7 3
            have mc4 := hMc7 4
            have mf4 := hMf7 4
            have mc5 := hMc7 5
            have mf5 := hMf7 5
            have mc6 := hMc7 6
            have mf6 := hMf7 6
            have mc7 := hMc7 7
            have mf7 := hMf7 7
            simp only [List.getElem?_toArray, List.getElem?_cons_zero, List.getElem?_cons_succ] at mc0 mc1 mc2 mc3 mc4 mc5 mc6 mc7
            have hr7' := rd_set hr7' (p := w.heap.size + 1) (by omega) 7 (.slice sa ss.length sc)
            have hG7' := grown_new hG7' (q := w.heap.size + 1) (by omega) 7 (.slice sa ss.length sc)
            have hB7' := heap_far (q := w.heap.size + 1) (j := 7) (u := .slice sa ss.length sc) hB7' (by omega)
            have hM7' : ((v7).setCell ⟨w.heap.size + 1, 7, none⟩ (.slice sa ss.length sc)).heap[w.heap.size + 1]? = some (.cells #[.int .i64 rk, .int .i64 c.kind, .string (mk c.lo), .string (mk c.hi), .int .i64 c.n, .slice ka kn kc, .slice none 0 0, .slice sa ss.length sc] 35 (0, 0)) := heap_setCell_same _ (w.heap.size + 1) 7 _ _ (.slice sa ss.length sc) hM7'
            have hFK7' := hFK7'.move (moves_set (p := w.heap.size + 1) (j := 7) _ (.slice sa ss.length sc) (by omega))
            have hFS7' := hFS7'.move (moves_set (p := w.heap.size + 1) (j := 7) _ (.slice sa ss.length sc) (by omega))
            have hz8 : w.heap.size + 2 ≤ ((v7).setCell ⟨w.heap.size + 1, 7, none⟩ (.slice sa ss.length sc)).heap.size := by simp [World.setCell]; omega
            have HR8 := Lib.hid hr7'
            have HG8 := Lib.hid hG7'
            have HB8 := Lib.hid hB7'
            have HM8 := Lib.hid hM7'
            have FK8 := Lib.hid hFK7'
            have FS8 := Lib.hid hFS7'
            clear hr7' hG7' hB7' hM7' hMc7 hMf7 HR7 HG7 HB7 HM7 hFK7' hFS7' FK7 FS7
            go_upto_region 9 with fail
            generalize hW8 : (v7).setCell ⟨w.heap.size + 1, 7, none⟩ (.slice sa ss.length sc) = v8 at *
            clear hW8 mc0 mf0 mc1 mf1 mc2 mf2 mc3 mf3 mc4 mf4 mc5 mf5 mc6 mf6 mc7 mf7
            have hBc := fun k => cell_of_row _ w.heap.size k _ _ (0, 0) HB8.out
            have hBf := fun k => box_froz HB8.out k
            have hMc := fun k => cell_of_row _ (w.heap.size + 1) k _ _ (0, 0) HM8.out
            have bc0 := hBc 0
            have bf0 := hBf 0
            have mc0 := hMc 0
            have bc1 := hBc 1
            have bf1 := hBf 1
            have mc1 := hMc 1
            have bc2 := hBc 2
            have bf2 := hBf 2
            have mc2 := hMc 2
            have bc3 := hBc 3
            have bf3 := hBf 3
            have mc3 := hMc 3
            have bc4 := hBc 4
            have bf4 := hBf 4
            have mc4 := hMc 4
            have bc5 := hBc 5
            have bf5 := hBf 5
            have mc5 := hMc 5
            have bc6 := hBc 6
            have bf6 := hBf 6
            have mc6 := hMc 6
            have bc7 := hBc 7
            have bf7 := hBf 7
            have mc7 := hMc 7
            simp only [List.getElem?_toArray, List.getElem?_cons_zero, List.getElem?_cons_succ] at mc0 bc0 mc1 bc1 mc2 bc2 mc3 bc3 mc4 bc4 mc5 bc5 mc6 bc6 mc7 bc7
            clear hBc hBf hMc
            go_wp2
            refine bodyPost_ret (v := .agg #[.int .i64 rk, .int .i64 c.kind, .string (mk c.lo), .string (mk c.hi), .int .i64 c.n, .slice ka kn kc, .slice none 0 0, .slice sa ss.length sc]) (by simp [results, Tryz.results67, go_sem, bc0, bc1, bc2, bc3, bc4, bc5, bc6, bc7]) rfl ?_
            refine ⟨grown_put8 HG8.out (Nat.le_refl _) _ _ _ _ _ _ _ _, ?_⟩
            have hres : pRuleB E l = .ok (⟨rk, c, [], ss⟩, l7) := by
              unfold pRuleB
              simp only [HC1.out, HC3.out, HC4.out, HU1.out, HU2.out, HC7.out]
            rw [hres]
            have mv : Moves (fun b => w.heap.size + 2 ≤ b) (fun b => w.heap.size ≤ b) v8 (put8 v8 w.heap.size (.int .i64 rk) (.int .i64 c.kind) (.string (mk c.lo)) (.string (mk c.hi)) (.int .i64 c.n) (.slice ka kn kc) (.slice none 0 0) (.slice sa ss.length sc)) := (moves_put8 v8 (.int .i64 rk) (.int .i64 c.kind) (.string (mk c.lo)) (.string (mk c.hi)) (.int .i64 c.n) (.slice ka kn kc) (.slice none 0 0) (.slice sa ss.length sc) (by omega)).trans (moves_low _ (by omega))
            exact ⟨⟨_, rfl, _, _, _, _, _, _, _, _, _, rfl, ⟨by show (-9223372036854775808 : Int) ≤ rk; omega, by show rk ≤ 9223372036854775807; omega⟩, HOC.out, by show _ ≤ 281474976710656; simp, FK8.out.move mv, KsAt.nil _ _, FS8.out.move mv⟩, rd_put8 HR8.out hq _ _ _ _ _ _ _ _⟩
        case inl =>
          have HUU := Lib.hid (unl_unl E pa lu)
          have HR6 := Lib.hid hr6
          clear hr6
          go_upto_region 6 with fail
          go_wp2_with fail
          go_at_call 80
          refine (cond_any 16 1 (by decide) (by decide) q E lu v6 HR6.out).mono ?_
          rintro e v7 ⟨hg7, ha7⟩
          have hs7 := hg7.size
          have HG7 := Lib.hid (grown_tr HG6.out hg7)
          have HB7 := Lib.hid (grown_heap HB6.out hg7 (by omega))
          have HM7 := Lib.hid (grown_heap HM6.out hg7 (by omega))
          have FK7 := Lib.hid (FK6.out.move (moves_rd hg7 (by omega)))
          have hz7 : w.heap.size + 2 ≤ v7.heap.size := by omega
          clear hg7
          cases hc7 : pC E 16 lu with
          | error fl =>
            rw [hc7] at ha7
            obtain rfl := ha7
            refine thrown rfl ⟨HG7.out, ?_⟩
            unfold pRuleB
            simp only [HC1.out, HC3.out, HC4.out, HUU.out, hc7]
          | ok z7 =>
            rw [hc7] at ha7
            have HC7 := Lib.hid hc7
            obtain ⟨d, l7⟩ := z7
            obtain ⟨⟨v, rfl, ua, un, uc, rfl, hK7, hO7⟩, hr7⟩ := ha7
            have HR7 := Lib.hid hr7
            have HOD := Lib.hid hO7
            have HKD := Lib.hid (hK7.move (moves_low _ (show w.heap.size + 2 ≤ _ by omega)))
            clear hr7 hK7 hO7
            clear hc7 HG6 HB6 HM6 HR6 FK6
            have hr7' := HR7.out
            have hG7' := HG7.out
            have hB7' := HB7.out
            have hM7' := HM7.out
            have hFK7' := FK7.out
            have hbx7 := below_alloc v7 (.cells #[.int .i64 d.kind, .string (mk d.lo), .string (mk d.hi), .int .i64 d.n, .slice ua un uc] 32)
            have hr7' := hr7'.grw hbx7
            have hG7' := grown_tr hG7' (grown_of hbx7)
            have hB7' := keepB hB7' hbx7
            have hM7' := keepB hM7' hbx7
            have hFK7' := hFK7'.move (moves_new hbx7)
            have hFU7' := ks_one (K := fun b => w.heap.size + 2 ≤ b) (heap_alloc_new v7 (.cells #[.int .i64 d.kind, .string (mk d.lo), .string (mk d.hi), .int .i64 d.n, .slice ua un uc] 32)) (by omega) (HKD.out.move (moves_new hbx7)) HOD.out
            have hMc7 := fun k => cell_of_row _ (w.heap.size + 1) k _ _ (0, 0) hM7'
            have hMf7 := fun k => box_froz hM7' k
            have mc0 := hMc7 0
            have mf0 := hMf7 0
            have mc1 := hMc7 1
            have mf1 := hMf7 1
            have mc2 := hMc7 2
            have mf2 := hMf7 2
            have mc3 := hMc7 3
            have mf3 := hMf7 3
            have mc4 := hMc7 4
            have mf4 := hMf7 4
            have mc5 := hMc7 5
            have mf5 := hMf7 5
            have mc6 := hMc7 6
            have mf6 := hMf7 6
            have mc7 := hMc7 7
            have mf7 := hMf7 7
            simp only [List.getElem?_toArray, List.getElem?_cons_zero, List.getElem?_cons_succ] at mc0 mc1 mc2 mc3 mc4 mc5 mc6 mc7
            have hr7' := rd_set hr7' (p := w.heap.size + 1) (by omega) 6 (.slice (some ⟨v7.heap.size, 0, none⟩) 1 1)
            have hG7' := grown_new hG7' (q := w.heap.size + 1) (by omega) 6 (.slice (some ⟨v7.heap.size, 0, none⟩) 1 1)
            have hB7' := heap_far (q := w.heap.size + 1) (j := 6) (u := .slice (some ⟨v7.heap.size, 0, none⟩) 1 1) hB7' (by omega)
            have hM7' : (((v7.alloc (.cells #[.int .i64 d.kind, .string (mk d.lo), .string (mk d.hi), .int .i64 d.n, .slice ua un uc] 32))).setCell ⟨w.heap.size + 1, 6, none⟩ (.slice (some ⟨v7.heap.size, 0, none⟩) 1 1)).heap[w.heap.size + 1]? = some (.cells #[.int .i64 rk, .int .i64 c.kind, .string (mk c.lo), .string (mk c.hi), .int .i64 c.n, .slice ka kn kc, .slice (some ⟨v7.heap.size, 0, none⟩) 1 1, .slice none 0 0] 35 (0, 0)) := heap_setCell_same _ (w.heap.size + 1) 6 _ _ (.slice (some ⟨v7.heap.size, 0, none⟩) 1 1) hM7'
            have hFK7' := hFK7'.move (moves_set (p := w.heap.size + 1) (j := 6) _ (.slice (some ⟨v7.heap.size, 0, none⟩) 1 1) (by omega))
            have hFU7' := hFU7'.move (moves_set (p := w.heap.size + 1) (j := 6) _ (.slice (some ⟨v7.heap.size, 0, none⟩) 1 1) (by omega))
            have hz8 : w.heap.size + 2 ≤ (((v7.alloc (.cells #[.int .i64 d.kind, .string (mk d.lo), .string (mk d.hi), .int .i64 d.n, .slice ua un uc] 32))).setCell ⟨w.heap.size + 1, 6, none⟩ (.slice (some ⟨v7.heap.size, 0, none⟩) 1 1)).heap.size := by simp [World.setCell]; omega
            have HR8 := Lib.hid hr7'
            have HG8 := Lib.hid hG7'
            have HB8 := Lib.hid hB7'
            have HM8 := Lib.hid hM7'
            have FK8 := Lib.hid hFK7'
            have FU8 := Lib.hid hFU7'
            clear hr7' hG7' hB7' hM7' hMc7 hMf7 HR7 HG7 HB7 HM7 hFK7' hFU7' FK7 hbx7
            go_upto_region 7 with fail
            generalize hW8 : ((v7.alloc (.cells #[.int .i64 d.kind, .string (mk d.lo), .string (mk d.hi), .int .i64 d.n, .slice ua un uc] 32))).setCell ⟨w.heap.size + 1, 6, none⟩ (.slice (some ⟨v7.heap.size, 0, none⟩) 1 1) = v8 at *
            clear hW8 mc0 mf0 mc1 mf1 mc2 mf2 mc3 mf3 mc4 mf4 mc5 mf5 mc6 mf6 mc7 mf7
            go_wp2_with fail
            go_at_call 46
            refine (must_any q E l7 tSet v8 HR8.out (by decide)).mono ?_
            rintro e v9 ⟨hg9, ha9⟩
            have hs9 := hg9.size
            have HG9 := Lib.hid (grown_tr HG8.out hg9)
            have HB9 := Lib.hid (grown_heap HB8.out hg9 (by omega))
            have HM9 := Lib.hid (grown_heap HM8.out hg9 (by omega))
            have FK9 := Lib.hid (FK8.out.move (moves_rd hg9 (by omega)))
            have FU9 := Lib.hid (FU8.out.move (moves_rd hg9 (by omega)))
            have hz9 : w.heap.size + 2 ≤ v9.heap.size := by omega
            clear hg9
            cases hc9 : pTake E tSet l7 with
            | error fl =>
              rw [hc9] at ha9
              obtain rfl := ha9
              refine thrown rfl ⟨HG9.out, ?_⟩
              unfold pRuleB
              simp only [HC1.out, HC3.out, HC4.out, HUU.out, HC7.out, hc9]
            | ok z9 =>
              rw [hc9] at ha9
              have HC9 := Lib.hid hc9
              obtain ⟨rfl, hr9⟩ := ha9
              have HR9 := Lib.hid hr9
              clear hr9
              clear hc9 HG8 HB8 HM8 HR8 FK8 FU8
              obtain ⟨lv, hlv⟩ : ∃ lv, lv = z9 := ⟨_, rfl⟩
              rw [← hlv] at HC9 HR9
              clear hlv
              go_upto_region 8 with fail
              go_wp2_with fail
              go_at_call 81
              refine (sets_any q E lv v9 HR9.out).mono ?_
              rintro e v10 ⟨hg10, ha10⟩
              have hs10 := hg10.size
              have HG10 := Lib.hid (grown_tr HG9.out hg10)
              have HB10 := Lib.hid (grown_heap HB9.out hg10 (by omega))
              have HM10 := Lib.hid (grown_heap HM9.out hg10 (by omega))
              have FK10 := Lib.hid (FK9.out.move (moves_rd hg10 (by omega)))
              have FU10 := Lib.hid (FU9.out.move (moves_rd hg10 (by omega)))
              have hz10 : w.heap.size + 2 ≤ v10.heap.size := by omega
              clear hg10
              cases hc10 : pSets E (lv.length + 1) [] lv with
              | error fl =>
                rw [hc10] at ha10
                obtain rfl := ha10
                refine thrown rfl ⟨HG10.out, ?_⟩
                unfold pRuleB
                simp only [HC1.out, HC3.out, HC4.out, HUU.out, HC7.out, HC9.out, hc10]
              | ok z10 =>
                rw [hc10] at ha10
                have HC10 := Lib.hid hc10
                obtain ⟨ss, l10⟩ := z10
                obtain ⟨⟨v, rfl, hv10⟩, hr10⟩ := ha10
                obtain ⟨sa, sc, rfl, -, -, -⟩ := StsAt.form hv10
                have HR10 := Lib.hid hr10
                have FS10 := Lib.hid (StsAt.move hv10 (moves_low _ (show w.heap.size + 2 ≤ _ by omega)))
                clear hr10 hv10
                clear hc10 HG9 HB9 HM9 HR9 FK9 FU9
                have hr10' := HR10.out
                have hG10' := HG10.out
                have hB10' := HB10.out
                have hM10' := HM10.out
                have hFK10' := FK10.out
                have hFU10' := FU10.out
                have hFS10' := FS10.out
                have hMc10 := fun k => cell_of_row _ (w.heap.size + 1) k _ _ (0, 0) hM10'
                have hMf10 := fun k => box_froz hM10' k
                have mc0 := hMc10 0
                have mf0 := hMf10 0
                have mc1 := hMc10 1
                have mf1 := hMf10 1
                have mc2 := hMc10 2
                have mf2 := hMf10 2
                have mc3 := hMc10 3
                have mf3 := hMf10 3
                have mc4 := hMc10 4
                have mf4 := hMf10 4
                have mc5 := hMc10 5
                have mf5 := hMf10 5
                have mc6 := hMc10 6
                have mf6 := hMf10 6
                have mc7 := hMc10 7
                have mf7 := hMf10 7
                simp only [List.getElem?_toArray, List.getElem?_cons_zero, List.getElem?_cons_succ] at mc0 mc1 mc2 mc3 mc4 mc5 mc6 mc7
                have hr10' := rd_set hr10' (p := w.heap.size + 1) (by omega) 7 (.slice sa ss.length sc)
                have hG10' := grown_new hG10' (q := w.heap.size + 1) (by omega) 7 (.slice sa ss.length sc)
                have hB10' := heap_far (q := w.heap.size + 1) (j := 7) (u := .slice sa ss.length sc) hB10' (by omega)
                have hM10' : ((v10).setCell ⟨w.heap.size + 1, 7, none⟩ (.slice sa ss.length sc)).heap[w.heap.size + 1]? = some (.cells #[.int .i64 rk, .int .i64 c.kind, .string (mk c.lo), .string (mk c.hi), .int .i64 c.n, .slice ka kn kc, .slice (some ⟨v7.heap.size, 0, none⟩) 1 1, .slice sa ss.length sc] 35 (0, 0)) := heap_setCell_same _ (w.heap.size + 1) 7 _ _ (.slice sa ss.length sc) hM10'
                have hFK10' := hFK10'.move (moves_set (p := w.heap.size + 1) (j := 7) _ (.slice sa ss.length sc) (by omega))
                have hFU10' := hFU10'.move (moves_set (p := w.heap.size + 1) (j := 7) _ (.slice sa ss.length sc) (by omega))
                have hFS10' := hFS10'.move (moves_set (p := w.heap.size + 1) (j := 7) _ (.slice sa ss.length sc) (by omega))
                have hz11 : w.heap.size + 2 ≤ ((v10).setCell ⟨w.heap.size + 1, 7, none⟩ (.slice sa ss.length sc)).heap.size := by simp [World.setCell]; omega
                have HR11 := Lib.hid hr10'
                have HG11 := Lib.hid hG10'
                have HB11 := Lib.hid hB10'
                have HM11 := Lib.hid hM10'
                have FK11 := Lib.hid hFK10'
                have FU11 := Lib.hid hFU10'
                have FS11 := Lib.hid hFS10'
                clear hr10' hG10' hB10' hM10' hMc10 hMf10 HR10 HG10 HB10 HM10 hFK10' hFU10' hFS10' FK10 FU10 FS10
                go_upto_region 9 with fail
                generalize hW11 : (v10).setCell ⟨w.heap.size + 1, 7, none⟩ (.slice sa ss.length sc) = v11 at *
                clear hW11 mc0 mf0 mc1 mf1 mc2 mf2 mc3 mf3 mc4 mf4 mc5 mf5 mc6 mf6 mc7 mf7
                have hBc := fun k => cell_of_row _ w.heap.size k _ _ (0, 0) HB11.out
                have hBf := fun k => box_froz HB11.out k
                have hMc := fun k => cell_of_row _ (w.heap.size + 1) k _ _ (0, 0) HM11.out
                have bc0 := hBc 0
                have bf0 := hBf 0
                have mc0 := hMc 0
                have bc1 := hBc 1
                have bf1 := hBf 1
                have mc1 := hMc 1
                have bc2 := hBc 2
                have bf2 := hBf 2
                have mc2 := hMc 2
                have bc3 := hBc 3
                have bf3 := hBf 3
                have mc3 := hMc 3
                have bc4 := hBc 4
                have bf4 := hBf 4
                have mc4 := hMc 4
                have bc5 := hBc 5
                have bf5 := hBf 5
                have mc5 := hMc 5
                have bc6 := hBc 6
                have bf6 := hBf 6
                have mc6 := hMc 6
                have bc7 := hBc 7
                have bf7 := hBf 7
                have mc7 := hMc 7
                simp only [List.getElem?_toArray, List.getElem?_cons_zero, List.getElem?_cons_succ] at mc0 bc0 mc1 bc1 mc2 bc2 mc3 bc3 mc4 bc4 mc5 bc5 mc6 bc6 mc7 bc7
                clear hBc hBf hMc
                go_wp2
                refine bodyPost_ret (v := .agg #[.int .i64 rk, .int .i64 c.kind, .string (mk c.lo), .string (mk c.hi), .int .i64 c.n, .slice ka kn kc, .slice (some ⟨v7.heap.size, 0, none⟩) 1 1, .slice sa ss.length sc]) (by simp [results, Tryz.results67, go_sem, bc0, bc1, bc2, bc3, bc4, bc5, bc6, bc7]) rfl ?_
                refine ⟨grown_put8 HG11.out (Nat.le_refl _) _ _ _ _ _ _ _ _, ?_⟩
                have hres : pRuleB E l = .ok (⟨rk, c, [d], ss⟩, l10) := by
                  unfold pRuleB
                  simp only [HC1.out, HC3.out, HC4.out, HUU.out, HC7.out, HC9.out, HC10.out]
                rw [hres]
                have mv : Moves (fun b => w.heap.size + 2 ≤ b) (fun b => w.heap.size ≤ b) v11 (put8 v11 w.heap.size (.int .i64 rk) (.int .i64 c.kind) (.string (mk c.lo)) (.string (mk c.hi)) (.int .i64 c.n) (.slice ka kn kc) (.slice (some ⟨v7.heap.size, 0, none⟩) 1 1) (.slice sa ss.length sc)) := (moves_put8 v11 (.int .i64 rk) (.int .i64 c.kind) (.string (mk c.lo)) (.string (mk c.hi)) (.int .i64 c.n) (.slice ka kn kc) (.slice (some ⟨v7.heap.size, 0, none⟩) 1 1) (.slice sa ss.length sc) (by omega)).trans (moves_low _ (by omega))
                exact ⟨⟨_, rfl, _, _, _, _, _, _, _, _, _, rfl, ⟨by show (-9223372036854775808 : Int) ≤ rk; omega, by show rk ≤ 9223372036854775807; omega⟩, HOC.out, by show _ ≤ 281474976710656; simp, FK11.out.move mv, FU11.out.move mv, FS11.out.move mv⟩, rd_put8 HR11.out hq _ _ _ _ _ _ _ _⟩
end Go.Proofs.YtoibhgoaibjopaaGreatDoor.Pl
end
