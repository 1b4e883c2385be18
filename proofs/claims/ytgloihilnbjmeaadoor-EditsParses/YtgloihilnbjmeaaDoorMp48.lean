/-
  Texts put together (merge.py): XRRow.
-/
import Derived.Test.YtgloihilnbjmeaaDoorMp47
/-
  What the reference's row answers, as a contract: a row from a word on, or at which word it is wrong, and how.
-/
section
set_option linter.unusedSimpArgs false
set_option linter.unusedVariables false
set_option maxRecDepth 100000
namespace Go.Proofs.YtgloihilnbjmeaaDoor.Ex
open Go.RowKit
open Wo (Wd WdsAt box_cell box_two keepB heap_far below_alloc below_trans)

theorem kindI_val (t : Tx) : (kindI t = 0 ∧ ¬ t = tBun ∧ ¬ t = tEit ∧ ¬ t = tUni) ∨ Kd t (kindI t) := by
  unfold kindI
  by_cases h1 : t = tBun
  · rw [if_pos h1]; exact Or.inr (Or.inl ⟨h1, rfl⟩)
  rw [if_neg h1]
  by_cases h2 : t = tEit
  · rw [if_pos h2]; exact Or.inr (Or.inr (Or.inl ⟨h2, rfl⟩))
  rw [if_neg h2]
  by_cases h3 : t = tUni
  · rw [if_pos h3]; exact Or.inr (Or.inr (Or.inr ⟨h3, rfl⟩))
  rw [if_neg h3]
  exact Or.inl ⟨rfl, h1, h2, h3⟩
theorem wds_set {w : World} {v : Value} {l : List Wd} {q : Nat} {cs : Array Value} (h : WdsAt All w v l) (hq : w.heap[q]? = some (.cells cs 49 (0, 0))) (hne : ∀ b o c n, v = .slice (some ⟨b, o, none⟩) n c → b ≠ q) (j : Nat) (u : Value) : WdsAt All (w.setCell ⟨q, j, none⟩ u) v l := by
  obtain ⟨a, c, rfl, h1, h2, h3⟩ := h
  refine ⟨a, c, rfl, h1, h2, h3.imp id ?_⟩
  rintro ⟨b, o, rfl, hk, hb, hc⟩
  have hbq := hne b o c _ rfl
  refine ⟨b, o, rfl, hk, by simpa [World.setCell] using hb, fun j' x' hj => ?_⟩
  have := hc j' x' hj
  rw [World.cell?_of_block (w := w) (Below.heap_setCell _ _ _ _ hbq), World.cell?_of_block (w := w) (Below.heap_setCell _ _ _ _ hbq)]
  exact this
set_option maxHeartbeats 16000000 in
theorem rrow_any (E : Nat) (ws : List Wd) (v : Value) (i : Nat) (w : World) (h : WdsAt All w v ws) (hwb : Wb ws) (hi : i < ws.length) : Calls Tryd.prog 29 #[v, .int .i64 (i : Nat)] w fun r w' => RowV E ws i r ∧ Below w.heap.size w w' := by
  have hiz : (i : Int) ≤ 65536 := by have := hwb.2; omega
  have HW0 := Lib.hid fun W (hW : WdsAt All W v ws) => word_any ws v i W hW
  have HW1 : Hid (∀ W, WdsAt All W v ws → Calls Tryd.prog 51 #[v, .int .i64 ((i : Int) + 1)] W fun e w' => e = .returned (.string (mk (wt ws (i + 1)))) ∧ w' = W) := fun W hW => by have := word_any ws v (i + 1) W hW; rw [Int.natCast_add] at this; exact this
  have HW2 : Hid (∀ W, WdsAt All W v ws → Calls Tryd.prog 51 #[v, .int .i64 ((i : Int) + 2)] W fun e w' => e = .returned (.string (mk (wt ws (i + 2)))) ∧ w' = W) := fun W hW => by have := word_any ws v (i + 2) W hW; rw [Int.natCast_add] at this; exact this
  have HW3 : Hid (∀ W, WdsAt All W v ws → Calls Tryd.prog 51 #[v, .int .i64 ((i : Int) + 3)] W fun e w' => e = .returned (.string (mk (wt ws (i + 3)))) ∧ w' = W) := fun W hW => by have := word_any ws v (i + 3) W hW; rw [Int.natCast_add] at this; exact this
  have l1 := wt_len hwb (i + 1)
  have l2 := wt_len hwb (i + 2)
  have HC1 := Lib.hid fun W => Cm.rcode_any (wt ws (i + 1)) 5 5 W (by omega)
  have HC2 := Lib.hid fun W => Cm.rcode_any (wt ws (i + 2)) 5 5 W (by omega)
  have HRI : Hid (∀ W : World, Calls Tryd.prog 52 #[.string (mk (wt ws (i + 2))), .int .i64 4] W fun e w' => e = .returned (.tuple #[.int .i64 (Nu.riV (wt ws (i + 2)) 4), .int .i64 (Nu.riE (wt ws (i + 2)) 4)]) ∧ Below W.heap.size W w') := fun W => by have := Nu.rreadInt_any (mk (wt ws (i + 2))) 4 W; rw [mk_list] at this; exact this
  have HL0 := Lib.hid (fun x => leaf_0 (E := E) hi x)
  have HL1 := Lib.hid (fun k x => leaf_1 (E := E) (k := k) hi x)
  have HLu := Lib.hid (fun x => leaf_u (E := E) hi x)
  have HLv := Lib.hid (leaf_uok (E := E) hi)
  have HLb := Lib.hid (fun x => leaf_b (E := E) hi x)
  have HLe := Lib.hid (leaf_eok (E := E) hi)
  have HLt := Lib.hid (fun x => leaf_t (E := E) hi x)
  have HLs := Lib.hid (leaf_tok (E := E) hi)
  have hkd := kindI_val (wt ws i)
  have HKi := Lib.hid fun W => kind_any (wt ws i) W
  generalize kindI (wt ws i) = k at *
  generalize wt ws i = t0 at *
  generalize wt ws (i + 1) = t1 at *
  generalize wt ws (i + 2) = t2 at *
  generalize wt ws (i + 3) = t3 at *
  have HKD := Lib.hid hkd
  obtain ⟨nv, HNV⟩ : ∃ z, Hid (Nu.riV t2 4 = z) := ⟨_, rfl⟩
  obtain ⟨ne, HNE⟩ : ∃ z, Hid (Nu.riE t2 4 = z) := ⟨_, rfl⟩
  rw [HNV.out, HNE.out] at HRI
  rw [HNV.out, HNE.out] at HLu HLv
  have hb0 := below_alloc w (.cells #[.int .i64 0, .string ⟨#[]⟩, .string ⟨#[]⟩, .bool false, .int .i64 0] 49)
  have hb1 := below_alloc (w.alloc (.cells #[.int .i64 0, .string ⟨#[]⟩, .string ⟨#[]⟩, .bool false, .int .i64 0] 49)) (.cells #[.int .i64 k, .string (mk t1), .string ⟨#[]⟩, .bool false, .int .i64 0] 49)
  have HP := Lib.hid (keepB (heap_alloc_new w (.cells #[.int .i64 0, .string ⟨#[]⟩, .string ⟨#[]⟩, .bool false, .int .i64 0] 49)) hb1)
  have hz := heap_alloc_new (w.alloc (.cells #[.int .i64 0, .string ⟨#[]⟩, .string ⟨#[]⟩, .bool false, .int .i64 0] 49)) (.cells #[.int .i64 k, .string (mk t1), .string ⟨#[]⟩, .bool false, .int .i64 0] 49)
  rw [show (w.alloc (.cells #[.int .i64 0, .string ⟨#[]⟩, .string ⟨#[]⟩, .bool false, .int .i64 0] 49)).heap.size = w.heap.size + 1 by simp] at hz
  have HQ := Lib.hid hz
  have HV0 := Lib.hid (h.move (Below.moves hb0))
  have HV : Hid (WdsAt All ((w.alloc (.cells #[.int .i64 0, .string ⟨#[]⟩, .string ⟨#[]⟩, .bool false, .int .i64 0] 49)).alloc (.cells #[.int .i64 k, .string (mk t1), .string ⟨#[]⟩, .bool false, .int .i64 0] 49)) v ws) := h.move (Below.moves (below_trans hb0 hb1))
  have HB := Lib.hid (below_trans hb0 hb1)
  have HNE1 : Hid (∀ b o c n, v = .slice (some ⟨b, o, none⟩) n c → b ≠ w.heap.size + 1) := fun b o c n e => by
    obtain ⟨b', o', e', hb', -⟩ := WdsAt.get (e ▸ h) 0 (by omega)
    simp only [Option.some.injEq, Addr.mk.injEq, and_true] at e'
    omega
  obtain ⟨va, vc, rfl, -, -⟩ := WdsAt.form h
  clear h hb0 hb1 hz hwb hi hkd l1 l2
  go_enter Tryd.func29, Tryd.ntmps29
  go_upto_region 1 with fail
  go_wp2_with fail
  go_at_call 51
  refine (HW0.out _ HV0.out).mono ?_
  rintro e w9 ⟨rfl, hw9⟩
  rw [hw9]
  clear hw9 w9
  go_wp2_with fail
  go_at_call 50
  refine (HKi.out _).mono ?_
  rintro e w9 ⟨rfl, hw9⟩
  rw [hw9]
  clear hw9 w9
  go_wp2_with fail
  go_at_call 51
  refine (HW1.out _ HV0.out).mono ?_
  rintro e w9 ⟨rfl, hw9⟩
  rw [hw9]
  clear hw9 w9
  go_upto_region 2 with fail
  generalize (w.alloc (.cells #[.int .i64 0, .string ⟨#[]⟩, .string ⟨#[]⟩, .bool false, .int .i64 0] 49)).alloc (.cells #[.int .i64 k, .string (mk t1), .string ⟨#[]⟩, .bool false, .int .i64 0] 49) = W at *
  generalize hp : w.heap.size = p at *
  obtain ⟨q, hq⟩ : ∃ q, q = p + 1 := ⟨_, rfl⟩
  rw [← hq] at HQ HNE1 ⊢
  have hpq : p ≠ q := by omega
  have hpq' : p ≤ q := by omega
  clear hq HW0 HW1 HV0 HKi
  obtain ⟨x0, x1, x2, x3, x4⟩ := cells5 HQ.out
  have u2 := Lib.frozen_of_heap HQ.out 2
  have u3 := Lib.frozen_of_heap HQ.out 3
  have u4 := Lib.frozen_of_heap HQ.out 4
  rcases HKD.out with ⟨rfl, n1, n2, n3⟩ | hK
  · have HR := Lib.hid (HL0.out ⟨0, t1, [], false, 0⟩ n1 n2 n3)
    clear HL0 HL1 HLu HLv HLb HLe HLt HLs n1 n2 n3
    obtain ⟨z0, z1, z2, z3, z4⟩ := cells5 HP.out
    have y0 := Lib.frozen_of_heap HP.out 0
    have y1 := Lib.frozen_of_heap HP.out 1
    have y2 := Lib.frozen_of_heap HP.out 2
    have y3 := Lib.frozen_of_heap HP.out 3
    have y4 := Lib.frozen_of_heap HP.out 4
    go_wp2
    clear x0 x1 x2 x3 x4 u2 u3 u4
    clear z0 z1 z2 z3 z4 y0 y1 y2 y3 y4
    have hn5 := hp5_same HP.out (.int .i64 0) (.string (mk t1)) (.string ⟨#[]⟩) (.bool false) (.int .i64 0)
    have hb5 := below_p5 HB.out (Nat.le_refl p) (.int .i64 0) (.string (mk t1)) (.string ⟨#[]⟩) (.bool false) (.int .i64 0)
    simp only [put5] at hn5 hb5
    generalize ((((W.setCell ⟨p, 0, none⟩ (.int .i64 0)).setCell ⟨p, 1, none⟩ (.string (mk t1))).setCell ⟨p, 2, none⟩ (.string ⟨#[]⟩)).setCell ⟨p, 3, none⟩ (.bool false)).setCell ⟨p, 4, none⟩ (.int .i64 0) = FW at *
    obtain ⟨r0, r1, r2, r3, r4⟩ := cells5 hn5
    refine bodyPost_ret (v := .tuple #[.agg #[.int .i64 0, .string (mk t1), .string ⟨#[]⟩, .bool false, .int .i64 0], .int .i64 0, .int .i64 ((i : Nat) : Int), .int .i64 4]) (by simp [results, Tryd.results29, go_sem, r0, r1, r2, r3, r4]) rfl ?_
    exact ⟨⟨⟨0, t1, [], false, 0⟩, 0, ((i : Nat) : Int), 4, rfl, HR.out⟩, by first | exact hb5 | (rw [hp]; exact hb5)⟩
  have HKd := Lib.hid hK
  have hk0 : (k == 0) = false := by rw [beq_eq_false_iff_ne]; rcases hK with ⟨-, rfl⟩ | ⟨-, rfl⟩ | ⟨-, rfl⟩ <;> decide
  clear hK HKD HL0
  cases hc1 : Cm.codeB t1 5 5
  · have HR := Lib.hid (HL1.out k ⟨k, t1, [], false, 0⟩ HKd.out hc1)
    rw [hc1] at HC1
    clear HL1 HLu HLv HLb HLe HLt HLs hc1
    obtain ⟨z0, z1, z2, z3, z4⟩ := cells5 HP.out
    have y0 := Lib.frozen_of_heap HP.out 0
    have y1 := Lib.frozen_of_heap HP.out 1
    have y2 := Lib.frozen_of_heap HP.out 2
    have y3 := Lib.frozen_of_heap HP.out 3
    have y4 := Lib.frozen_of_heap HP.out 4
    go_wp2_with (first | (go_at_call 38; refine (HC1.out _).mono ?_; rintro e w9 ⟨rfl, hw9⟩; rw [hw9]; clear hw9 w9))
    clear x0 x1 x2 x3 x4 u2 u3 u4
    clear z0 z1 z2 z3 z4 y0 y1 y2 y3 y4
    have hn5 := hp5_same HP.out (.int .i64 k) (.string (mk t1)) (.string ⟨#[]⟩) (.bool false) (.int .i64 0)
    have hb5 := below_p5 HB.out (Nat.le_refl p) (.int .i64 k) (.string (mk t1)) (.string ⟨#[]⟩) (.bool false) (.int .i64 0)
    simp only [put5] at hn5 hb5
    generalize ((((W.setCell ⟨p, 0, none⟩ (.int .i64 k)).setCell ⟨p, 1, none⟩ (.string (mk t1))).setCell ⟨p, 2, none⟩ (.string ⟨#[]⟩)).setCell ⟨p, 3, none⟩ (.bool false)).setCell ⟨p, 4, none⟩ (.int .i64 0) = FW at *
    obtain ⟨r0, r1, r2, r3, r4⟩ := cells5 hn5
    refine bodyPost_ret (v := .tuple #[.agg #[.int .i64 k, .string (mk t1), .string ⟨#[]⟩, .bool false, .int .i64 0], .int .i64 0, .int .i64 ((i : Int) + 1), .int .i64 9]) (by simp [results, Tryd.results29, go_sem, r0, r1, r2, r3, r4]) rfl ?_
    exact ⟨⟨⟨k, t1, [], false, 0⟩, 0, ((i : Int) + 1), 9, rfl, HR.out⟩, by first | exact hb5 | (rw [hp]; exact hb5)⟩
  rw [hc1] at HC1
  clear HL1
  go_wp2_with (first | (go_at_call 38; refine (HC1.out _).mono ?_; rintro e w9 ⟨rfl, hw9⟩; rw [hw9]; clear hw9 w9) | fail)
  go_at_call 51
  refine (HW2.out _ HV.out).mono ?_
  rintro e w9 ⟨rfl, hw9⟩
  rw [hw9]
  clear hw9 w9
  by_cases h3 : k = 3
  · have ht0 : t0 = tUni := by
      rcases HKd.out with ⟨-, e⟩ | ⟨-, e⟩ | ⟨e, -⟩
      · omega
      · omega
      · exact e
    subst h3
    clear HLb HLe HLt HLs hk0 HKd
    go_wp2_with fail
    go_at_call 52
    refine (HRI.out _).mono ?_
    rintro e w4 ⟨rfl, hb4⟩
    have HP4 := Lib.hid (keepB HP.out hb4)
    have HQ4 := Lib.hid (keepB HQ.out hb4)
    have HB4 := Lib.hid (show Below p w w4 by subst hp; exact below_trans HB.out hb4)
    clear hb4 HP HQ HB HV x0 x1 x2 x3 x4 u2 u3 u4
    have HP := HP4
    have HQ := HQ4
    have HB := HB4
    clear HP4 HQ4 HB4
    obtain ⟨x0, x1, x2, x3, x4⟩ := cells5 HQ.out
    have u2 := Lib.frozen_of_heap HQ.out 2
    have u3 := Lib.frozen_of_heap HQ.out 3
    have u4 := Lib.frozen_of_heap HQ.out 4
    by_cases he : ne = 0
    rotate_left
    · have HR := Lib.hid (HLu.out ⟨3, t1, [], false, 0⟩ ht0 hc1 (fun h => he h.1))
      have q1 : (ne != 0) = true := by simpa using he
      clear HLu HLv he hc1
      obtain ⟨z0, z1, z2, z3, z4⟩ := cells5 HP.out
      have y0 := Lib.frozen_of_heap HP.out 0
      have y1 := Lib.frozen_of_heap HP.out 1
      have y2 := Lib.frozen_of_heap HP.out 2
      have y3 := Lib.frozen_of_heap HP.out 3
      have y4 := Lib.frozen_of_heap HP.out 4
      go_wp2
      clear x0 x1 x2 x3 x4 u2 u3 u4
      clear z0 z1 z2 z3 z4 y0 y1 y2 y3 y4
      have hn5 := hp5_same HP.out (.int .i64 3) (.string (mk t1)) (.string ⟨#[]⟩) (.bool false) (.int .i64 0)
      have hb5 := below_p5 HB.out (Nat.le_refl p) (.int .i64 3) (.string (mk t1)) (.string ⟨#[]⟩) (.bool false) (.int .i64 0)
      simp only [put5] at hn5 hb5
      generalize ((((w4.setCell ⟨p, 0, none⟩ (.int .i64 3)).setCell ⟨p, 1, none⟩ (.string (mk t1))).setCell ⟨p, 2, none⟩ (.string ⟨#[]⟩)).setCell ⟨p, 3, none⟩ (.bool false)).setCell ⟨p, 4, none⟩ (.int .i64 0) = FW at *
      obtain ⟨r0, r1, r2, r3, r4⟩ := cells5 hn5
      refine bodyPost_ret (v := .tuple #[.agg #[.int .i64 3, .string (mk t1), .string ⟨#[]⟩, .bool false, .int .i64 0], .int .i64 0, .int .i64 ((i : Int) + 2), .int .i64 4]) (by simp [results, Tryd.results29, go_sem, r0, r1, r2, r3, r4]) rfl ?_
      exact ⟨⟨⟨3, t1, [], false, 0⟩, 0, ((i : Int) + 2), 4, rfl, HR.out⟩, by first | exact hb5 | (rw [hp]; exact hb5)⟩
    have q1 : (ne != 0) = false := by rw [he]; rfl
    by_cases hn : nv = 0
    · have HR := Lib.hid (HLu.out ⟨3, t1, [], false, 0⟩ ht0 hc1 (fun h => h.2 hn))
      obtain ⟨V, hV, q2⟩ : ∃ V : Bool, V = true ∧ (nv == 0) = V := ⟨_, by rw [beq_iff_eq]; exact hn, rfl⟩
      clear HLu HLv he hn hc1
      obtain ⟨z0, z1, z2, z3, z4⟩ := cells5 HP.out
      have y0 := Lib.frozen_of_heap HP.out 0
      have y1 := Lib.frozen_of_heap HP.out 1
      have y2 := Lib.frozen_of_heap HP.out 2
      have y3 := Lib.frozen_of_heap HP.out 3
      have y4 := Lib.frozen_of_heap HP.out 4
      go_wp2
      clear x0 x1 x2 x3 x4 u2 u3 u4
      clear z0 z1 z2 z3 z4 y0 y1 y2 y3 y4
      have hn5 := hp5_same HP.out (.int .i64 3) (.string (mk t1)) (.string ⟨#[]⟩) (.bool false) (.int .i64 0)
      have hb5 := below_p5 HB.out (Nat.le_refl p) (.int .i64 3) (.string (mk t1)) (.string ⟨#[]⟩) (.bool false) (.int .i64 0)
      simp only [put5] at hn5 hb5
      generalize ((((w4.setCell ⟨p, 0, none⟩ (.int .i64 3)).setCell ⟨p, 1, none⟩ (.string (mk t1))).setCell ⟨p, 2, none⟩ (.string ⟨#[]⟩)).setCell ⟨p, 3, none⟩ (.bool false)).setCell ⟨p, 4, none⟩ (.int .i64 0) = FW at *
      obtain ⟨r0, r1, r2, r3, r4⟩ := cells5 hn5
      refine bodyPost_ret (v := .tuple #[.agg #[.int .i64 3, .string (mk t1), .string ⟨#[]⟩, .bool false, .int .i64 0], .int .i64 0, .int .i64 ((i : Int) + 2), .int .i64 4]) (by simp [results, Tryd.results29, go_sem, r0, r1, r2, r3, r4]) rfl ?_
      exact ⟨⟨⟨3, t1, [], false, 0⟩, 0, ((i : Int) + 2), 4, rfl, HR.out⟩, by first | exact hb5 | (rw [hp]; exact hb5)⟩
    have HR := Lib.hid (HLv.out ht0 hc1 he hn)
    have q2 : (nv == 0) = false := by rw [beq_eq_false_iff_ne]; exact hn
    clear HLu HLv he hn hc1
    go_upto_region 12 with fail
    clear x0 x1 x2 x3 x4 u2 u3 u4
    have HQ5 : Hid ((w4.setCell ⟨q, 4, none⟩ (.int .i64 nv)).heap[q]? = some (.cells #[.int .i64 3, .string (mk t1), .string ⟨#[]⟩, .bool false, .int .i64 nv] 49 (0, 0))) := heap_setCell_same w4 q 4 _ _ _ HQ.out
    have HP5 : Hid ((w4.setCell ⟨q, 4, none⟩ (.int .i64 nv)).heap[p]? = _) := heap_far HP.out hpq
    have HB5 : Hid (Below p w (w4.setCell ⟨q, 4, none⟩ (.int .i64 nv))) := HB.out.setCell (p := ⟨q, 4, none⟩) hpq' _
    generalize w4.setCell ⟨q, 4, none⟩ (.int .i64 nv) = W5 at *
    clear HP HQ HB
    have HP := HP5
    have HQ := HQ5
    have HB := HB5
    clear HP5 HQ5 HB5
    obtain ⟨x0, x1, x2, x3, x4⟩ := cells5 HQ.out
    have u2 := Lib.frozen_of_heap HQ.out 2
    have u3 := Lib.frozen_of_heap HQ.out 3
    have u4 := Lib.frozen_of_heap HQ.out 4
    obtain ⟨z0, z1, z2, z3, z4⟩ := cells5 HP.out
    have y0 := Lib.frozen_of_heap HP.out 0
    have y1 := Lib.frozen_of_heap HP.out 1
    have y2 := Lib.frozen_of_heap HP.out 2
    have y3 := Lib.frozen_of_heap HP.out 3
    have y4 := Lib.frozen_of_heap HP.out 4
    go_wp2
    clear x0 x1 x2 x3 x4 u2 u3 u4
    clear z0 z1 z2 z3 z4 y0 y1 y2 y3 y4
    have hn5 := hp5_same HP.out (.int .i64 3) (.string (mk t1)) (.string ⟨#[]⟩) (.bool false) (.int .i64 nv)
    have hb5 := below_p5 HB.out (Nat.le_refl p) (.int .i64 3) (.string (mk t1)) (.string ⟨#[]⟩) (.bool false) (.int .i64 nv)
    simp only [put5] at hn5 hb5
    generalize ((((W5.setCell ⟨p, 0, none⟩ (.int .i64 3)).setCell ⟨p, 1, none⟩ (.string (mk t1))).setCell ⟨p, 2, none⟩ (.string ⟨#[]⟩)).setCell ⟨p, 3, none⟩ (.bool false)).setCell ⟨p, 4, none⟩ (.int .i64 nv) = FW at *
    obtain ⟨r0, r1, r2, r3, r4⟩ := cells5 hn5
    refine bodyPost_ret (v := .tuple #[.agg #[.int .i64 3, .string (mk t1), .string ⟨#[]⟩, .bool false, .int .i64 nv], .int .i64 3, .int .i64 (-1), .int .i64 0]) (by simp [results, Tryd.results29, go_sem, r0, r1, r2, r3, r4]) rfl ?_
    exact ⟨⟨⟨3, t1, [], false, nv⟩, 3, (-1), 0, rfl, HR.out⟩, by first | exact hb5 | (rw [hp]; exact hb5)⟩
  have hk3 : (k == 3) = false := by rw [beq_eq_false_iff_ne]; exact h3
  clear HLu HLv HRI
  go_upto_region 14 with fail
  clear x0 x1 x2 x3 x4 u2 u3 u4
  have HQ5 : Hid ((W.setCell ⟨q, 2, none⟩ (.string (mk t2))).heap[q]? = some (.cells #[.int .i64 k, .string (mk t1), .string (mk t2), .bool false, .int .i64 0] 49 (0, 0))) := heap_setCell_same W q 2 _ _ _ HQ.out
  have HP5 : Hid ((W.setCell ⟨q, 2, none⟩ (.string (mk t2))).heap[p]? = _) := heap_far HP.out hpq
  have HB5 : Hid (Below p w (W.setCell ⟨q, 2, none⟩ (.string (mk t2)))) := HB.out.setCell (p := ⟨q, 2, none⟩) hpq' _
  have HV5 : Hid (WdsAt All (W.setCell ⟨q, 2, none⟩ (.string (mk t2))) (.slice va ws.length vc) ws) := wds_set HV.out HQ.out HNE1.out 2 _
  generalize W.setCell ⟨q, 2, none⟩ (.string (mk t2)) = W5 at *
  clear HP HQ HB HV
  have HP := HP5
  have HQ := HQ5
  have HB := HB5
  have HV := HV5
  clear HP5 HQ5 HB5 HV5
  obtain ⟨x0, x1, x2, x3, x4⟩ := cells5 HQ.out
  have u2 := Lib.frozen_of_heap HQ.out 2
  have u3 := Lib.frozen_of_heap HQ.out 3
  have u4 := Lib.frozen_of_heap HQ.out 4
  have hbe : t0 = tBun ∨ t0 = tEit := by
    rcases HKd.out with ⟨e, -⟩ | ⟨e, -⟩ | ⟨-, e⟩
    · exact Or.inl e
    · exact Or.inr e
    · exact absurd e h3
  cases hc2 : Cm.codeB t2 5 5
  · have HR := Lib.hid (HLb.out ⟨k, t1, t2, false, 0⟩ hbe hc1 (fun h => by rw [hc2] at h; cases h.1))
    rw [hc2] at HC2
    clear HLb HLe HLt HLs hc1 hc2 hbe h3 HKd
    obtain ⟨z0, z1, z2, z3, z4⟩ := cells5 HP.out
    have y0 := Lib.frozen_of_heap HP.out 0
    have y1 := Lib.frozen_of_heap HP.out 1
    have y2 := Lib.frozen_of_heap HP.out 2
    have y3 := Lib.frozen_of_heap HP.out 3
    have y4 := Lib.frozen_of_heap HP.out 4
    go_wp2_with (first | (go_at_call 38; refine (HC2.out _).mono ?_; rintro e w9 ⟨rfl, hw9⟩; rw [hw9]; clear hw9 w9))
    clear x0 x1 x2 x3 x4 u2 u3 u4
    clear z0 z1 z2 z3 z4 y0 y1 y2 y3 y4
    have hn5 := hp5_same HP.out (.int .i64 k) (.string (mk t1)) (.string (mk t2)) (.bool false) (.int .i64 0)
    have hb5 := below_p5 HB.out (Nat.le_refl p) (.int .i64 k) (.string (mk t1)) (.string (mk t2)) (.bool false) (.int .i64 0)
    simp only [put5] at hn5 hb5
    generalize ((((W5.setCell ⟨p, 0, none⟩ (.int .i64 k)).setCell ⟨p, 1, none⟩ (.string (mk t1))).setCell ⟨p, 2, none⟩ (.string (mk t2))).setCell ⟨p, 3, none⟩ (.bool false)).setCell ⟨p, 4, none⟩ (.int .i64 0) = FW at *
    obtain ⟨r0, r1, r2, r3, r4⟩ := cells5 hn5
    refine bodyPost_ret (v := .tuple #[.agg #[.int .i64 k, .string (mk t1), .string (mk t2), .bool false, .int .i64 0], .int .i64 0, .int .i64 ((i : Int) + 2), .int .i64 9]) (by simp [results, Tryd.results29, go_sem, r0, r1, r2, r3, r4]) rfl ?_
    exact ⟨⟨⟨k, t1, t2, false, 0⟩, 0, ((i : Int) + 2), 9, rfl, HR.out⟩, by first | exact hb5 | (rw [hp]; exact hb5)⟩
  rw [hc2] at HC2
  by_cases h12 : t2 = t1
  · have HR := Lib.hid (HLb.out ⟨k, t1, t2, false, 0⟩ hbe hc1 (fun h => h.2 h12))
    have q3 : ((mk t1).toList == (mk t2).toList) = true := by rw [mk_eqs']; exact decide_eq_true h12.symm
    clear HLb HLe HLt HLs hc1 hc2 hbe h3 HKd h12
    obtain ⟨z0, z1, z2, z3, z4⟩ := cells5 HP.out
    have y0 := Lib.frozen_of_heap HP.out 0
    have y1 := Lib.frozen_of_heap HP.out 1
    have y2 := Lib.frozen_of_heap HP.out 2
    have y3 := Lib.frozen_of_heap HP.out 3
    have y4 := Lib.frozen_of_heap HP.out 4
    go_wp2_with (first | (go_at_call 38; refine (HC2.out _).mono ?_; rintro e w9 ⟨rfl, hw9⟩; rw [hw9]; clear hw9 w9))
    clear x0 x1 x2 x3 x4 u2 u3 u4
    clear z0 z1 z2 z3 z4 y0 y1 y2 y3 y4
    have hn5 := hp5_same HP.out (.int .i64 k) (.string (mk t1)) (.string (mk t2)) (.bool false) (.int .i64 0)
    have hb5 := below_p5 HB.out (Nat.le_refl p) (.int .i64 k) (.string (mk t1)) (.string (mk t2)) (.bool false) (.int .i64 0)
    simp only [put5] at hn5 hb5
    generalize ((((W5.setCell ⟨p, 0, none⟩ (.int .i64 k)).setCell ⟨p, 1, none⟩ (.string (mk t1))).setCell ⟨p, 2, none⟩ (.string (mk t2))).setCell ⟨p, 3, none⟩ (.bool false)).setCell ⟨p, 4, none⟩ (.int .i64 0) = FW at *
    obtain ⟨r0, r1, r2, r3, r4⟩ := cells5 hn5
    refine bodyPost_ret (v := .tuple #[.agg #[.int .i64 k, .string (mk t1), .string (mk t2), .bool false, .int .i64 0], .int .i64 0, .int .i64 ((i : Int) + 2), .int .i64 9]) (by simp [results, Tryd.results29, go_sem, r0, r1, r2, r3, r4]) rfl ?_
    exact ⟨⟨⟨k, t1, t2, false, 0⟩, 0, ((i : Int) + 2), 9, rfl, HR.out⟩, by first | exact hb5 | (rw [hp]; exact hb5)⟩
  have q3 : ((mk t1).toList == (mk t2).toList) = false := by rw [mk_eqs']; exact decide_eq_false (fun e => h12 e.symm)
  clear HLb hbe
  by_cases h2 : k = 2
  · have ht0 : t0 = tEit := by
      rcases HKd.out with ⟨-, e⟩ | ⟨e, -⟩ | ⟨-, e⟩
      · omega
      · exact e
      · omega
    have HR := Lib.hid (HLe.out ht0 hc1 hc2 h12)
    subst h2
    clear HLe HLt HLs hc1 hc2 h12 h3 hk3 hk0 HKd
    obtain ⟨z0, z1, z2, z3, z4⟩ := cells5 HP.out
    have y0 := Lib.frozen_of_heap HP.out 0
    have y1 := Lib.frozen_of_heap HP.out 1
    have y2 := Lib.frozen_of_heap HP.out 2
    have y3 := Lib.frozen_of_heap HP.out 3
    have y4 := Lib.frozen_of_heap HP.out 4
    go_wp2_with (first | (go_at_call 38; refine (HC2.out _).mono ?_; rintro e w9 ⟨rfl, hw9⟩; rw [hw9]; clear hw9 w9))
    clear x0 x1 x2 x3 x4 u2 u3 u4
    clear z0 z1 z2 z3 z4 y0 y1 y2 y3 y4
    have hn5 := hp5_same HP.out (.int .i64 2) (.string (mk t1)) (.string (mk t2)) (.bool false) (.int .i64 0)
    have hb5 := below_p5 HB.out (Nat.le_refl p) (.int .i64 2) (.string (mk t1)) (.string (mk t2)) (.bool false) (.int .i64 0)
    simp only [put5] at hn5 hb5
    generalize ((((W5.setCell ⟨p, 0, none⟩ (.int .i64 2)).setCell ⟨p, 1, none⟩ (.string (mk t1))).setCell ⟨p, 2, none⟩ (.string (mk t2))).setCell ⟨p, 3, none⟩ (.bool false)).setCell ⟨p, 4, none⟩ (.int .i64 0) = FW at *
    obtain ⟨r0, r1, r2, r3, r4⟩ := cells5 hn5
    refine bodyPost_ret (v := .tuple #[.agg #[.int .i64 2, .string (mk t1), .string (mk t2), .bool false, .int .i64 0], .int .i64 3, .int .i64 (-1), .int .i64 0]) (by simp [results, Tryd.results29, go_sem, r0, r1, r2, r3, r4]) rfl ?_
    exact ⟨⟨⟨2, t1, t2, false, 0⟩, 3, (-1), 0, rfl, HR.out⟩, by first | exact hb5 | (rw [hp]; exact hb5)⟩
  have hk2 : (k == 2) = false := by rw [beq_eq_false_iff_ne]; exact h2
  obtain ⟨ht0, hk1⟩ : t0 = tBun ∧ k = 1 := by
    rcases HKd.out with h | ⟨-, e⟩ | ⟨-, e⟩
    · exact h
    · exact absurd e h2
    · exact absurd e h3
  subst hk1
  clear HLe h2 h3 hk0 hk2 hk3 HKd
  go_wp2_with (first | (go_at_call 38; refine (HC2.out _).mono ?_; rintro e w9 ⟨rfl, hw9⟩; rw [hw9]; clear hw9 w9) | fail)
  go_at_call 51
  refine (HW3.out _ HV.out).mono ?_
  rintro e w9 ⟨rfl, hw9⟩
  rw [hw9]
  clear hw9 w9
  by_cases hy : t3 = Pl.tYes
  · have HR := Lib.hid (HLs.out ht0 hc1 hc2 h12 true (Or.inl ⟨hy, rfl⟩))
    have q4 : ((mk t3).toList == [121, 101, 115]) = true := lit_t hy
    clear HLs HLt hc1 hc2 h12 hy
    go_upto_region 19 with fail
    clear x0 x1 x2 x3 x4 u2 u3 u4
    have HQ6 : Hid ((W5.setCell ⟨q, 3, none⟩ (.bool true)).heap[q]? = some (.cells #[.int .i64 1, .string (mk t1), .string (mk t2), .bool true, .int .i64 0] 49 (0, 0))) := heap_setCell_same W5 q 3 _ _ _ HQ.out
    have HP6 : Hid ((W5.setCell ⟨q, 3, none⟩ (.bool true)).heap[p]? = _) := heap_far HP.out hpq
    have HB6 : Hid (Below p w (W5.setCell ⟨q, 3, none⟩ (.bool true))) := HB.out.setCell (p := ⟨q, 3, none⟩) hpq' _
    have HV6 : Hid (WdsAt All (W5.setCell ⟨q, 3, none⟩ (.bool true)) (.slice va ws.length vc) ws) := wds_set HV.out HQ.out HNE1.out 3 _
    generalize W5.setCell ⟨q, 3, none⟩ (.bool true) = W6 at *
    clear HP HQ HB HV
    have HP := HP6
    have HQ := HQ6
    have HB := HB6
    have HV := HV6
    clear HP6 HQ6 HB6 HV6
    obtain ⟨x0, x1, x2, x3, x4⟩ := cells5 HQ.out
    have u2 := Lib.frozen_of_heap HQ.out 2
    have u3 := Lib.frozen_of_heap HQ.out 3
    have u4 := Lib.frozen_of_heap HQ.out 4
    obtain ⟨z0, z1, z2, z3, z4⟩ := cells5 HP.out
    have y0 := Lib.frozen_of_heap HP.out 0
    have y1 := Lib.frozen_of_heap HP.out 1
    have y2 := Lib.frozen_of_heap HP.out 2
    have y3 := Lib.frozen_of_heap HP.out 3
    have y4 := Lib.frozen_of_heap HP.out 4
    go_wp2
    clear x0 x1 x2 x3 x4 u2 u3 u4
    clear z0 z1 z2 z3 z4 y0 y1 y2 y3 y4
    have hn5 := hp5_same HP.out (.int .i64 1) (.string (mk t1)) (.string (mk t2)) (.bool true) (.int .i64 0)
    have hb5 := below_p5 HB.out (Nat.le_refl p) (.int .i64 1) (.string (mk t1)) (.string (mk t2)) (.bool true) (.int .i64 0)
    simp only [put5] at hn5 hb5
    generalize ((((W6.setCell ⟨p, 0, none⟩ (.int .i64 1)).setCell ⟨p, 1, none⟩ (.string (mk t1))).setCell ⟨p, 2, none⟩ (.string (mk t2))).setCell ⟨p, 3, none⟩ (.bool true)).setCell ⟨p, 4, none⟩ (.int .i64 0) = FW at *
    obtain ⟨r0, r1, r2, r3, r4⟩ := cells5 hn5
    refine bodyPost_ret (v := .tuple #[.agg #[.int .i64 1, .string (mk t1), .string (mk t2), .bool true, .int .i64 0], .int .i64 4, .int .i64 (-1), .int .i64 0]) (by simp [results, Tryd.results29, go_sem, r0, r1, r2, r3, r4]) rfl ?_
    exact ⟨⟨⟨1, t1, t2, true, 0⟩, 4, (-1), 0, rfl, HR.out⟩, by first | exact hb5 | (rw [hp]; exact hb5)⟩
  have q4 : ((mk t3).toList == [121, 101, 115]) = false := lit_f hy
  by_cases hn : t3 = Pl.tNo
  · have HR := Lib.hid (HLs.out ht0 hc1 hc2 h12 false (Or.inr ⟨hn, rfl⟩))
    have q5 : ((mk t3).toList == [110, 111]) = true := lit_t hn
    have q6 : ((mk t3).toList != [110, 111]) = false := by rw [bne, q5]; rfl
    clear HLs HLt hc1 hc2 h12 hy hn
    go_upto_region 19 with fail
    clear x0 x1 x2 x3 x4 u2 u3 u4
    have HQ6 : Hid ((W5.setCell ⟨q, 3, none⟩ (.bool false)).heap[q]? = some (.cells #[.int .i64 1, .string (mk t1), .string (mk t2), .bool false, .int .i64 0] 49 (0, 0))) := heap_setCell_same W5 q 3 _ _ _ HQ.out
    have HP6 : Hid ((W5.setCell ⟨q, 3, none⟩ (.bool false)).heap[p]? = _) := heap_far HP.out hpq
    have HB6 : Hid (Below p w (W5.setCell ⟨q, 3, none⟩ (.bool false))) := HB.out.setCell (p := ⟨q, 3, none⟩) hpq' _
    have HV6 : Hid (WdsAt All (W5.setCell ⟨q, 3, none⟩ (.bool false)) (.slice va ws.length vc) ws) := wds_set HV.out HQ.out HNE1.out 3 _
    generalize W5.setCell ⟨q, 3, none⟩ (.bool false) = W6 at *
    clear HP HQ HB HV
    have HP := HP6
    have HQ := HQ6
    have HB := HB6
    have HV := HV6
    clear HP6 HQ6 HB6 HV6
    obtain ⟨x0, x1, x2, x3, x4⟩ := cells5 HQ.out
    have u2 := Lib.frozen_of_heap HQ.out 2
    have u3 := Lib.frozen_of_heap HQ.out 3
    have u4 := Lib.frozen_of_heap HQ.out 4
    obtain ⟨z0, z1, z2, z3, z4⟩ := cells5 HP.out
    have y0 := Lib.frozen_of_heap HP.out 0
    have y1 := Lib.frozen_of_heap HP.out 1
    have y2 := Lib.frozen_of_heap HP.out 2
    have y3 := Lib.frozen_of_heap HP.out 3
    have y4 := Lib.frozen_of_heap HP.out 4
    go_wp2_with (first | (go_at_call 51; refine (HW3.out _ HV.out).mono ?_; rintro e w9 ⟨rfl, hw9⟩; rw [hw9]; clear hw9 w9))
    clear x0 x1 x2 x3 x4 u2 u3 u4
    clear z0 z1 z2 z3 z4 y0 y1 y2 y3 y4
    have hn5 := hp5_same HP.out (.int .i64 1) (.string (mk t1)) (.string (mk t2)) (.bool false) (.int .i64 0)
    have hb5 := below_p5 HB.out (Nat.le_refl p) (.int .i64 1) (.string (mk t1)) (.string (mk t2)) (.bool false) (.int .i64 0)
    simp only [put5] at hn5 hb5
    generalize ((((W6.setCell ⟨p, 0, none⟩ (.int .i64 1)).setCell ⟨p, 1, none⟩ (.string (mk t1))).setCell ⟨p, 2, none⟩ (.string (mk t2))).setCell ⟨p, 3, none⟩ (.bool false)).setCell ⟨p, 4, none⟩ (.int .i64 0) = FW at *
    obtain ⟨r0, r1, r2, r3, r4⟩ := cells5 hn5
    refine bodyPost_ret (v := .tuple #[.agg #[.int .i64 1, .string (mk t1), .string (mk t2), .bool false, .int .i64 0], .int .i64 4, .int .i64 (-1), .int .i64 0]) (by simp [results, Tryd.results29, go_sem, r0, r1, r2, r3, r4]) rfl ?_
    exact ⟨⟨⟨1, t1, t2, false, 0⟩, 4, (-1), 0, rfl, HR.out⟩, by first | exact hb5 | (rw [hp]; exact hb5)⟩
  have HR := Lib.hid (HLt.out ⟨1, t1, t2, false, 0⟩ ht0 hc1 hc2 h12 hy hn)
  have q5 : ((mk t3).toList == [110, 111]) = false := lit_f hn
  have q6 : ((mk t3).toList != [110, 111]) = true := by rw [bne, q5]; rfl
  clear HLs HLt hc1 hc2 h12 hy hn
  go_upto_region 19 with fail
  clear x0 x1 x2 x3 x4 u2 u3 u4
  have HQ6 : Hid ((W5.setCell ⟨q, 3, none⟩ (.bool false)).heap[q]? = some (.cells #[.int .i64 1, .string (mk t1), .string (mk t2), .bool false, .int .i64 0] 49 (0, 0))) := heap_setCell_same W5 q 3 _ _ _ HQ.out
  have HP6 : Hid ((W5.setCell ⟨q, 3, none⟩ (.bool false)).heap[p]? = _) := heap_far HP.out hpq
  have HB6 : Hid (Below p w (W5.setCell ⟨q, 3, none⟩ (.bool false))) := HB.out.setCell (p := ⟨q, 3, none⟩) hpq' _
  have HV6 : Hid (WdsAt All (W5.setCell ⟨q, 3, none⟩ (.bool false)) (.slice va ws.length vc) ws) := wds_set HV.out HQ.out HNE1.out 3 _
  generalize W5.setCell ⟨q, 3, none⟩ (.bool false) = W6 at *
  clear HP HQ HB HV
  have HP := HP6
  have HQ := HQ6
  have HB := HB6
  have HV := HV6
  clear HP6 HQ6 HB6 HV6
  obtain ⟨x0, x1, x2, x3, x4⟩ := cells5 HQ.out
  have u2 := Lib.frozen_of_heap HQ.out 2
  have u3 := Lib.frozen_of_heap HQ.out 3
  have u4 := Lib.frozen_of_heap HQ.out 4
  obtain ⟨z0, z1, z2, z3, z4⟩ := cells5 HP.out
  have y0 := Lib.frozen_of_heap HP.out 0
  have y1 := Lib.frozen_of_heap HP.out 1
  have y2 := Lib.frozen_of_heap HP.out 2
  have y3 := Lib.frozen_of_heap HP.out 3
  have y4 := Lib.frozen_of_heap HP.out 4
  go_wp2_with (first | (go_at_call 51; refine (HW3.out _ HV.out).mono ?_; rintro e w9 ⟨rfl, hw9⟩; rw [hw9]; clear hw9 w9))
  clear x0 x1 x2 x3 x4 u2 u3 u4
  clear z0 z1 z2 z3 z4 y0 y1 y2 y3 y4
  have hn5 := hp5_same HP.out (.int .i64 1) (.string (mk t1)) (.string (mk t2)) (.bool false) (.int .i64 0)
  have hb5 := below_p5 HB.out (Nat.le_refl p) (.int .i64 1) (.string (mk t1)) (.string (mk t2)) (.bool false) (.int .i64 0)
  simp only [put5] at hn5 hb5
  generalize ((((W6.setCell ⟨p, 0, none⟩ (.int .i64 1)).setCell ⟨p, 1, none⟩ (.string (mk t1))).setCell ⟨p, 2, none⟩ (.string (mk t2))).setCell ⟨p, 3, none⟩ (.bool false)).setCell ⟨p, 4, none⟩ (.int .i64 0) = FW at *
  obtain ⟨r0, r1, r2, r3, r4⟩ := cells5 hn5
  refine bodyPost_ret (v := .tuple #[.agg #[.int .i64 1, .string (mk t1), .string (mk t2), .bool false, .int .i64 0], .int .i64 0, .int .i64 ((i : Int) + 3), .int .i64 4]) (by simp [results, Tryd.results29, go_sem, r0, r1, r2, r3, r4]) rfl ?_
  exact ⟨⟨⟨1, t1, t2, false, 0⟩, 0, ((i : Int) + 3), 4, rfl, HR.out⟩, by first | exact hb5 | (rw [hp]; exact hb5)⟩
end Go.Proofs.YtgloihilnbjmeaaDoor.Ex
end
