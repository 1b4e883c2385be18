/-
  Texts put together (merge.py): KAbout, QHeadX, QRFind.
-/
import Derived.Deep.RegionWith
import Derived.Test.YtpmnepihaljamaaGreatDoorM15
import Derived.Test.YtpmnepihaljamaaGreatDoorM32
import Derived.Test.YtpmnepihaljamaaGreatDoorM30
import Derived.Test.YtpmnepihaljamaaGreatDoorM27
/-
  What the reference's About and Wrap answer, as contracts. (Written by gen_about.py.)
-/
section
set_option linter.unusedSimpArgs false
namespace Go.Proofs.YtpmnepihaljamaaGreatDoor
open Go.RowKit

/-- New memory is not the row's. -/
theorem of_apart {B : Nat} {gs : List Sg} {lv u : Value} {w w' : World} {g : Sg} (h : DoneAt B gs lv w) (he : ElAt (fun b => w.heap.size ≤ b) w' u g) (o : Obj) : ElAt (fun b => lv.ownBlock ≠ some b) (w'.alloc o) u g := by
  obtain ⟨cs, h1, _⟩ := h
  refine ElAt.move he ⟨by simp, fun b hb' hk => ⟨fun e => ?_, Below.heap_alloc w' o b hb'⟩⟩
  have := (h1.lt b e).2
  omega

set_option maxHeartbeats 4000000 in
set_option maxRecDepth 100000 in
theorem about_any (kk : ByteArray) (n : Int) (v : Value) (l : List Sg) (w : World) (h : SgAt All w v l) (n0 : -9223372036854775808 ≤ n) (n1 : n ≤ 9223372036854775807) (hl : l.length ≤ 100000) :
    Calls Tryz.prog 58 #[.string kk, .int .i64 n, v] w fun x w' => (∃ u, x = .returned u ∧ SgAt All w' u (abt kk.data.toList n l)) ∧ Below w.heap.size w w' := by
  have HSg : Hid (SgAt All w v l) := h
  obtain ⟨av, cv, rfl, hc1, hc2, hc3⟩ := h
  unfold maxLen at hc2
  obtain ⟨i47, q1, q2, q3, q4⟩ := info47
  have HI1 : Hid (∀ W : World, Calls Tryz.prog 52 #[.int .i64 n] W fun e w' => e = .returned (.string (mk (Lib.itoa n))) ∧ Below W.heap.size W w') := fun W => Nu.rint_any n n0 n1 W
  have HI2 : Hid (∀ W : World, Calls Tryz.prog 52 #[.int .i64 ((l.length : Int) + 2)] W fun e w' => e = .returned (.string (mk (Lib.itoa ((l.length : Int) + 2)))) ∧ Below W.heap.size W w') := fun W => Nu.rint_any _ (by omega) (by omega) W
  have h1 := fun W => of_new tGS kk.data.toList (Lib.itoa n) W
  have h2 := fun W => of_new tST kk.data.toList (Lib.itoa n) W
  rw [mk_of] at h1 h2
  have HOf1 : Hid (∀ W : World, Calls Tryz.prog 91 #[.string ⟨#[71, 83]⟩, .string kk, .string (mk (Lib.itoa n))] W fun x w' => (∃ q, x = .returned (.agg #[.slice (some ⟨q, 0, none⟩) 3 3]) ∧ ElAt (fun b => W.heap.size ≤ b) w' (.slice (some ⟨q, 0, none⟩) 3 3) (seg3 tGS kk.data.toList (Lib.itoa n))) ∧ Below W.heap.size W w') := h1
  have HOf2 : Hid (∀ W : World, Calls Tryz.prog 91 #[.string ⟨#[83, 84]⟩, .string kk, .string (mk (Lib.itoa n))] W fun x w' => (∃ q, x = .returned (.agg #[.slice (some ⟨q, 0, none⟩) 3 3]) ∧ ElAt (fun b => W.heap.size ≤ b) w' (.slice (some ⟨q, 0, none⟩) 3 3) (seg3 tST kk.data.toList (Lib.itoa n))) ∧ Below W.heap.size W w') := h2
  have HOf4 : Hid (∀ W : World, Calls Tryz.prog 91 #[.string ⟨#[83, 69]⟩, .string (mk (Lib.itoa ((l.length : Int) + 2))), .string (mk (Lib.itoa n))] W fun x w' => (∃ q, x = .returned (.agg #[.slice (some ⟨q, 0, none⟩) 3 3]) ∧ ElAt (fun b => W.heap.size ≤ b) w' (.slice (some ⟨q, 0, none⟩) 3 3) (seg3 tSE (Lib.itoa ((l.length : Int) + 2)) (Lib.itoa n))) ∧ Below W.heap.size W w') := fun W => of_new tSE (Lib.itoa ((l.length : Int) + 2)) (Lib.itoa n) W
  have HOf5 : Hid (∀ W : World, Calls Tryz.prog 91 #[.string ⟨#[71, 69]⟩, .string ⟨#[49]⟩, .string (mk (Lib.itoa n))] W fun x w' => (∃ q, x = .returned (.agg #[.slice (some ⟨q, 0, none⟩) 3 3]) ∧ ElAt (fun b => W.heap.size ≤ b) w' (.slice (some ⟨q, 0, none⟩) 3 3) (seg3 tGE t1 (Lib.itoa n))) ∧ Below W.heap.size W w') := fun W => of_new tGE t1 (Lib.itoa n) W
  have HOf6 : Hid (∀ W : World, Calls Tryz.prog 91 #[.string ⟨#[73, 69, 65]⟩, .string ⟨#[49]⟩, .string (mk (Lib.itoa n))] W fun x w' => (∃ q, x = .returned (.agg #[.slice (some ⟨q, 0, none⟩) 3 3]) ∧ ElAt (fun b => W.heap.size ≤ b) w' (.slice (some ⟨q, 0, none⟩) 3 3) (seg3 tIEA t1 (Lib.itoa n))) ∧ Below W.heap.size W w') := fun W => of_new tIEA t1 (Lib.itoa n) W
  clear h1 h2
  have HF : Hid (abt kk.data.toList n l = ((((([] ++ [seg3 tGS kk.data.toList (Lib.itoa n)]) ++ [seg3 tST kk.data.toList (Lib.itoa n)]) ++ l) ++ [seg3 tSE (Lib.itoa ((l.length : Int) + 2)) (Lib.itoa n)]) ++ [seg3 tGE t1 (Lib.itoa n)]) ++ [seg3 tIEA t1 (Lib.itoa n)]) := by show _ = _; simp [abt, fore, aft]
  generalize seg3 tGS kk.data.toList (Lib.itoa n) = g1 at *
  generalize seg3 tST kk.data.toList (Lib.itoa n) = g2 at *
  generalize seg3 tSE (Lib.itoa ((l.length : Int) + 2)) (Lib.itoa n) = g4 at *
  generalize seg3 tGE t1 (Lib.itoa n) = g5 at *
  generalize seg3 tIEA t1 (Lib.itoa n) = g6 at *
  generalize mk (Lib.itoa n) = X at *
  generalize mk (Lib.itoa ((l.length : Int) + 2)) = Y at *
  go_enter Tryz.func58, Tryz.ntmps58
  go_wp2_with fail
  go_at_call 52
  refine (HI1.out _).mono ?_
  rintro x w0 ⟨rfl, hb⟩
  have HB0 := Lib.hid hb
  clear hb
  have HD0 : Hid (DoneAt w.heap.size [] (.slice none 0 0) w0) := ⟨[], World.ownsRow_nil _ _ _ _, fun i g hi => by simp at hi⟩
  go_wp2_with fail
  go_at_call 91
  refine (HOf1.out _).mono ?_
  rintro x y1 ⟨⟨bq1, rfl, he⟩, hb⟩
  have HNw1 := Lib.hid (of_apart HD0.out he (.cells #[.slice (some ⟨bq1, 0, none⟩) 3 3] 50))
  have HDa1 := Lib.hid (DoneAt.grw HD0.out (below_trans hb (below_alloc y1 (.cells #[.slice (some ⟨bq1, 0, none⟩) 3 3] 50))))
  have HBa1 := Lib.hid (below_trans HB0.out (below_trans hb (below_alloc y1 (.cells #[.slice (some ⟨bq1, 0, none⟩) 3 3] 50))))
  clear hb he
  obtain ⟨cs1, d1, d2⟩ := HDa1.out
  have HO1 := Lib.hid d1
  have HP1 := Lib.hid d2
  clear d1 d2
  have hz1 := HBa1.out.size
  go_wp2_with (at_builtin; refine wpList_append_own_at _ (by rfl) _ _ 53 (by rfl) w.heap.size 50 i47 (.agg #[.slice none 0 0]) 1 24 Tryz.underlying53 q1 q2 q3 q4 (by rfl) (by omega) _ _ cs1 (by rfl) HO1.out ⟨y1.heap.size, 0, none⟩ 1 1 [.slice (some ⟨bq1, 0, none⟩) 3 3] (by rfl) (by rfl) (cell_one_new y1 _ 50) ?c2 ?c3 ?c4 ?c5 ?_)
  case c2 => intro u hu; simp at hu; subst hu; rfl
  case c3 => simp only [maxLen, List.length_append, List.length_cons, List.length_nil]; omega
  case c4 => simp only [List.length_append, List.length_cons, List.length_nil]; omega
  case c5 => exact hz1
  intro lv1 w1 hown hgrow hnil hat
  have HD1 := Lib.hid (DoneAt.snoc HO1.out HP1.out HNw1.out hown hgrow (by simpa using hat))
  have HB1 := Lib.hid (HBa1.out.grown hgrow hz1 fun k hk => (HO1.out.lt k hk).1)
  obtain ⟨la1, lc1, rfl⟩ := own_form hown
  clear hown hgrow hnil hat HDa1 HBa1 HO1 HP1 HNw1 hz1
  go_wp2_with fail
  go_at_call 91
  refine (HOf2.out _).mono ?_
  rintro x y2 ⟨⟨bq2, rfl, he⟩, hb⟩
  have HNw2 := Lib.hid (of_apart HD1.out he (.cells #[.slice (some ⟨bq2, 0, none⟩) 3 3] 50))
  have HDa2 := Lib.hid (DoneAt.grw HD1.out (below_trans hb (below_alloc y2 (.cells #[.slice (some ⟨bq2, 0, none⟩) 3 3] 50))))
  have HBa2 := Lib.hid (below_trans HB1.out (below_trans hb (below_alloc y2 (.cells #[.slice (some ⟨bq2, 0, none⟩) 3 3] 50))))
  clear hb he
  obtain ⟨cs2, d1, d2⟩ := HDa2.out
  have HO2 := Lib.hid d1
  have HP2 := Lib.hid d2
  clear d1 d2
  have hz2 := HBa2.out.size
  go_wp2_with (at_builtin; refine wpList_append_own_at _ (by rfl) _ _ 53 (by rfl) w.heap.size 50 i47 (.agg #[.slice none 0 0]) 1 24 Tryz.underlying53 q1 q2 q3 q4 (by rfl) (by omega) _ _ cs2 (by rfl) HO2.out ⟨y2.heap.size, 0, none⟩ 1 1 [.slice (some ⟨bq2, 0, none⟩) 3 3] (by rfl) (by rfl) (cell_one_new y2 _ 50) ?c2 ?c3 ?c4 ?c5 ?_)
  case c2 => intro u hu; simp at hu; subst hu; rfl
  case c3 => simp only [maxLen, List.length_append, List.length_cons, List.length_nil]; omega
  case c4 => simp only [List.length_append, List.length_cons, List.length_nil]; omega
  case c5 => exact hz2
  intro lv2 w2 hown hgrow hnil hat
  have HD2 := Lib.hid (DoneAt.snoc HO2.out HP2.out HNw2.out hown hgrow (by simpa using hat))
  have HB2 := Lib.hid (HBa2.out.grown hgrow hz2 fun k hk => (HO2.out.lt k hk).1)
  obtain ⟨la2, lc2, rfl⟩ := own_form hown
  clear hown hgrow hnil hat HDa2 HBa2 HO2 HP2 HNw2 hz2
  have HL := Lib.hid (sgs_low HSg.out HB2.out)
  have hz3 := HB2.out.size
  obtain ⟨cs3, d1, d2⟩ := HD2.out
  have HO3 := Lib.hid d1
  have HP3 := Lib.hid d2
  clear d1 d2
  go_upto_region 5 with fail
  go_cut [8] (fun s8 wx => ∃ la3 lc3, s8 = .slice la3 ((([] ++ [g1]) ++ [g2]) ++ l).length lc3 ∧ Hid (DoneAt w.heap.size ((([] ++ [g1]) ++ [g2]) ++ l) (.slice la3 ((([] ++ [g1]) ++ [g2]) ++ l).length lc3) wx) ∧ Hid (Below w.heap.size w wx))
  case first =>
    cases av with
    | none =>
      obtain rfl : l = [] := by
        rcases hc3 with h | ⟨b2, o2, h, _⟩
        · exact h
        · cases h
      have HA := Lib.hid fun ty => app_none ty cv _ _ _ HO3.out
      clear hc3 HL
      go_wp2_with (at_builtin; refine Lib.wpList_append_run _ rfl _ _ _ _ rfl _ _ rfl rfl _ _ (HA.out _) ?_)
      go_meet
      exact ⟨_, _, rfl, by rw [List.append_nil]; exact HD2.out, HB2⟩
    | some ad =>
      obtain ⟨news, e1, e2, e3, e4⟩ := sg_cells HL.out
      have N1 := Lib.hid e1
      have N2 := Lib.hid e2
      have N3 := Lib.hid e3
      have N4 := Lib.hid e4
      clear hc3 e1 e2 e3 e4
      go_wp2_with (at_builtin; refine wpList_append_own_at _ (by rfl) _ _ 53 (by rfl) w.heap.size 50 i47 (.agg #[.slice none 0 0]) 1 24 Tryz.underlying53 q1 q2 q3 q4 (by rfl) (by omega) _ _ cs3 (by rfl) HO3.out ad l.length cv news (by rfl) ?c1 N2.out N4.out ?c3 ?c4 ?c5 ?_)
      case c1 => rw [N1.out, Nat.mul_one]
      case c3 => simp only [maxLen, List.length_append, List.length_cons, List.length_nil]; omega
      case c4 => simp only [List.length_append, List.length_cons, List.length_nil]; omega
      case c5 => exact hz3
      intro lv3 w3 hown hgrow hnil hat
      have HD3 := Lib.hid (DoneAt.app HO3.out HP3.out N1.out N3.out hown hgrow hat)
      have HB3 := Lib.hid (HB2.out.grown hgrow hz3 fun k hk => (HO3.out.lt k hk).1)
      obtain ⟨la3, lc3, rfl⟩ := own_form hown
      clear hown hgrow hnil hat
      go_wp2
      go_meet
      exact ⟨la3, lc3, by rw [List.length_append]; rfl, by rw [List.length_append]; exact HD3.out, HB3⟩
  case rest =>
    obtain ⟨la3, lc3, rfl, HD3, HB3⟩ := hcut
    have hG : ([] ++ [g1] ++ [g2] ++ l).length = l.length + 2 := by simp
    generalize [] ++ [g1] ++ [g2] ++ l = G3 at *
    have HG := Lib.hid hG
    clear hG
    clear HD2 HB2 HL HO3 HP3 hz3 HOf1 HOf2 hc3 HSg
    go_wp2_with fail
    go_at_call 52
    refine (HI2.out _).mono ?_
    rintro x w7 ⟨rfl, hb⟩
    have HB7 := Lib.hid (below_trans HB3.out hb)
    have HD7 := Lib.hid (DoneAt.grw HD3.out hb)
    clear hb HB3 HD3
    go_wp2_with fail
    go_at_call 91
    refine (HOf4.out _).mono ?_
    rintro x y4 ⟨⟨bq4, rfl, he⟩, hb⟩
    have HNw4 := Lib.hid (of_apart HD7.out he (.cells #[.slice (some ⟨bq4, 0, none⟩) 3 3] 50))
    have HDa4 := Lib.hid (DoneAt.grw HD7.out (below_trans hb (below_alloc y4 (.cells #[.slice (some ⟨bq4, 0, none⟩) 3 3] 50))))
    have HBa4 := Lib.hid (below_trans HB7.out (below_trans hb (below_alloc y4 (.cells #[.slice (some ⟨bq4, 0, none⟩) 3 3] 50))))
    clear hb he
    obtain ⟨cs4, d1, d2⟩ := HDa4.out
    have HO4 := Lib.hid d1
    have HP4 := Lib.hid d2
    clear d1 d2
    have hz4 := HBa4.out.size
    go_wp2_with (at_builtin; refine wpList_append_own_at _ (by rfl) _ _ 53 (by rfl) w.heap.size 50 i47 (.agg #[.slice none 0 0]) 1 24 Tryz.underlying53 q1 q2 q3 q4 (by rfl) (by omega) _ _ cs4 (by rfl) HO4.out ⟨y4.heap.size, 0, none⟩ 1 1 [.slice (some ⟨bq4, 0, none⟩) 3 3] (by rfl) (by rfl) (cell_one_new y4 _ 50) ?c2 ?c3 ?c4 ?c5 ?_)
    case c2 => intro u hu; simp at hu; subst hu; rfl
    case c3 => have := HG.out; simp only [maxLen]; omega
    case c4 => have := HG.out; omega
    case c5 => exact hz4
    intro lv4 w4 hown hgrow hnil hat
    have HD4 := Lib.hid (DoneAt.snoc HO4.out HP4.out HNw4.out hown hgrow (by simpa using hat))
    have HB4 := Lib.hid (HBa4.out.grown hgrow hz4 fun k hk => (HO4.out.lt k hk).1)
    obtain ⟨la4, lc4, rfl⟩ := own_form hown
    clear hown hgrow hnil hat HDa4 HBa4 HO4 HP4 HNw4 hz4
    have hG4 : (G3 ++ [g4]).length = G3.length + 1 := by simp
    have HG4 : Hid ((G3 ++ [g4]).length = l.length + 3) := by show _ = _; rw [hG4, HG.out]
    rw [← hG4] at HD4 ⊢
    clear hG4
    generalize G3 ++ [g4] = G4 at *
    go_wp2_with fail
    go_at_call 91
    refine (HOf5.out _).mono ?_
    rintro x y5 ⟨⟨bq5, rfl, he⟩, hb⟩
    have HNw5 := Lib.hid (of_apart HD4.out he (.cells #[.slice (some ⟨bq5, 0, none⟩) 3 3] 50))
    have HDa5 := Lib.hid (DoneAt.grw HD4.out (below_trans hb (below_alloc y5 (.cells #[.slice (some ⟨bq5, 0, none⟩) 3 3] 50))))
    have HBa5 := Lib.hid (below_trans HB4.out (below_trans hb (below_alloc y5 (.cells #[.slice (some ⟨bq5, 0, none⟩) 3 3] 50))))
    clear hb he
    obtain ⟨cs5, d1, d2⟩ := HDa5.out
    have HO5 := Lib.hid d1
    have HP5 := Lib.hid d2
    clear d1 d2
    have hz5 := HBa5.out.size
    go_wp2_with (at_builtin; refine wpList_append_own_at _ (by rfl) _ _ 53 (by rfl) w.heap.size 50 i47 (.agg #[.slice none 0 0]) 1 24 Tryz.underlying53 q1 q2 q3 q4 (by rfl) (by omega) _ _ cs5 (by rfl) HO5.out ⟨y5.heap.size, 0, none⟩ 1 1 [.slice (some ⟨bq5, 0, none⟩) 3 3] (by rfl) (by rfl) (cell_one_new y5 _ 50) ?c2 ?c3 ?c4 ?c5 ?_)
    case c2 => intro u hu; simp at hu; subst hu; rfl
    case c3 => have := HG4.out; simp only [maxLen]; omega
    case c4 => have := HG4.out; omega
    case c5 => exact hz5
    intro lv5 w5 hown hgrow hnil hat
    have HD5 := Lib.hid (DoneAt.snoc HO5.out HP5.out HNw5.out hown hgrow (by simpa using hat))
    have HB5 := Lib.hid (HBa5.out.grown hgrow hz5 fun k hk => (HO5.out.lt k hk).1)
    obtain ⟨la5, lc5, rfl⟩ := own_form hown
    clear hown hgrow hnil hat HDa5 HBa5 HO5 HP5 HNw5 hz5
    have hG5 : (G4 ++ [g5]).length = G4.length + 1 := by simp
    have HG5 : Hid ((G4 ++ [g5]).length = l.length + 4) := by show _ = _; rw [hG5, HG4.out]
    rw [← hG5] at HD5 ⊢
    clear hG5
    generalize G4 ++ [g5] = G5 at *
    go_wp2_with fail
    go_at_call 91
    refine (HOf6.out _).mono ?_
    rintro x y6 ⟨⟨bq6, rfl, he⟩, hb⟩
    have HNw6 := Lib.hid (of_apart HD5.out he (.cells #[.slice (some ⟨bq6, 0, none⟩) 3 3] 50))
    have HDa6 := Lib.hid (DoneAt.grw HD5.out (below_trans hb (below_alloc y6 (.cells #[.slice (some ⟨bq6, 0, none⟩) 3 3] 50))))
    have HBa6 := Lib.hid (below_trans HB5.out (below_trans hb (below_alloc y6 (.cells #[.slice (some ⟨bq6, 0, none⟩) 3 3] 50))))
    clear hb he
    obtain ⟨cs6, d1, d2⟩ := HDa6.out
    have HO6 := Lib.hid d1
    have HP6 := Lib.hid d2
    clear d1 d2
    have hz6 := HBa6.out.size
    go_wp2_with (at_builtin; refine wpList_append_own_at _ (by rfl) _ _ 53 (by rfl) w.heap.size 50 i47 (.agg #[.slice none 0 0]) 1 24 Tryz.underlying53 q1 q2 q3 q4 (by rfl) (by omega) _ _ cs6 (by rfl) HO6.out ⟨y6.heap.size, 0, none⟩ 1 1 [.slice (some ⟨bq6, 0, none⟩) 3 3] (by rfl) (by rfl) (cell_one_new y6 _ 50) ?c2 ?c3 ?c4 ?c5 ?_)
    case c2 => intro u hu; simp at hu; subst hu; rfl
    case c3 => have := HG5.out; simp only [maxLen]; omega
    case c4 => have := HG5.out; omega
    case c5 => exact hz6
    intro lv6 w6 hown hgrow hnil hat
    have HD6 := Lib.hid (DoneAt.snoc HO6.out HP6.out HNw6.out hown hgrow (by simpa using hat))
    have HB6 := Lib.hid (HBa6.out.grown hgrow hz6 fun k hk => (HO6.out.lt k hk).1)
    obtain ⟨la6, lc6, rfl⟩ := own_form hown
    clear hown hgrow hnil hat HDa6 HBa6 HO6 HP6 HNw6 hz6
    go_wp2
    go_ret
    refine ⟨⟨_, rfl, ?_⟩, HB6.out⟩
    rw [HF.out]
    exact DoneAt.segs HD6.out
end Go.Proofs.YtpmnepihaljamaaGreatDoor
end

/-
  What seg.Head answers, and the world behind it, to the cell; a found head's value, written out.
-/
section
set_option linter.unusedSimpArgs false
namespace Go.Proofs.YtpmnepihaljamaaGreatDoor
open Go.RowKit

set_option maxHeartbeats 800000 in
theorem head_ex (e p s : UInt8) (w : World) :
    Calls Tryz.prog 51 #[dv e p s] w fun x w' => x = .returned (.string (mk (headL e p s))) ∧ w' = (w.alloc (.cells #[.int .u8 e.toNat, .int .u8 p.toNat, .int .u8 s.toNat] 23)).alloc (.cells #[.int .u8 e.toNat, .int .u8 p.toNat, .int .u8 s.toNat] 5) := by
  have hc := convL (w.alloc (.cells #[.int .u8 e.toNat, .int .u8 p.toNat, .int .u8 s.toNat] 23)) [e, p, s] #[.int .u8 e.toNat, .int .u8 p.toNat, .int .u8 s.toNat] rfl 3 rfl
  have hm := mk_app [73, 83, 65] [e, p, s]
  have hz := mk_size [e, p, s]
  have HM : Hid ((⟨#[73, 83, 65]⟩ : ByteArray) ++ mk [e, p, s] = mk (headL e p s)) := hm
  clear hm
  generalize mk [e, p, s] = m at hc hz HM
  have hz3 : m.size = 3 := hz
  clear hz
  rw [show (w.alloc (.cells #[.int .u8 e.toNat, .int .u8 p.toNat, .int .u8 s.toNat] 23)).heap.size = w.heap.size + 1 from by simp] at hc
  go_enter Tryz.func51, Tryz.ntmps51
  go_wp2
  go_ret
  exact ⟨by rw [← HM.out]; rfl, rfl⟩


theorem fdV_form (o : Option (UInt8 × UInt8 × UInt8)) : ∃ x y z : Int, fdV o = .agg #[.int .u8 x, .int .u8 y, .int .u8 z] := by
  match o with
  | none => exact ⟨_, _, _, rfl⟩
  | some (e, p, s) => exact ⟨_, _, _, rfl⟩
end Go.Proofs.YtpmnepihaljamaaGreatDoor
end

/-
  What the reference's Find answers, as a contract: for every text.
-/
section
set_option linter.unusedSimpArgs false
namespace Go.Proofs.YtpmnepihaljamaaGreatDoor
open Go.RowKit
attribute [local go_sem ↓] Go.wp_at_zero Go.wp_at_succ

set_option maxHeartbeats 1000000 in
theorem rfind_any (t : ByteArray) (w : World) (hs : t.size ≤ maxLen) :
    Calls Tryz.prog 66 #[.string t] w fun x w' => x = .returned (.tuple #[fdV (findO t.data.toList), .int .i64 (fdE (findO t.data.toList))]) ∧ Below w.heap.size w w' := by
  unfold maxLen at hs
  have HB := Lib.hid fun o1 => below_alloc w o1
  by_cases h6 : t.size < 6
  · have HN := Lib.hid (find_short t.data.toList (by rw [← Lib.size_eq]; exact h6))
    have h6' : (t.size : Int) < 6 := by omega
    clear h6
    go_enter Tryz.func66, Tryz.ntmps66
    go_wp2
    refine bodyPost_ret (v := .tuple #[.agg #[.int .u8 0, .int .u8 0, .int .u8 0], .int .i64 5]) (by simp [results, Tryz.results66, go_sem]) rfl ?_
    exact ⟨by rw [HN.out]; rfl, HB.out _⟩
  have h6' : ¬ (t.size : Int) < 6 := by omega
  have h3 : 3 < t.size := by omega
  have h4 : 4 < t.size := by omega
  have h5 : 5 < t.size := by omega
  have i3 : (3 : Int) < (t.size : Int) := by omega
  have i4 : (4 : Int) < (t.size : Int) := by omega
  have i5 : (5 : Int) < (t.size : Int) := by omega
  have i6 : (6 : Int) ≤ (t.size : Int) := by omega
  obtain ⟨f1, f2, f3, f4⟩ := find_at t h3 h4 h5
  have HH := Lib.hid fun W => rhead_any t[3] t[4] t[5] W
  have hne : ((mk (headL t[3] t[4] t[5])).toList == (t.extract 0 6).toList) = Lib.hasPrefix t.data.toList [73, 83, 65] := by
    rw [Lib.toList_data, Lib.toList_data, mk_list, Bool.eq_iff_iff, ← f4, beq_iff_eq]
    exact eq_comm
  have HB4 := Lib.hid fun o1 o2 o3 o4 => below_trans (below_trans (below_trans (below_alloc w o1) (below_alloc _ o2)) (below_alloc _ o3)) (below_alloc _ o4)
  have HB4d := Lib.hid fun o1 o2 o3 o4 => Below.drew (Below.drew (HB4.out o1 o2 o3 o4))
  have HB5 := Lib.hid fun o1 o2 o3 o4 o5 => below_trans (HB4.out o1 o2 o3 o4) (below_alloc _ o5)
  have HB5d := Lib.hid fun o1 o2 o3 o4 o5 => Below.drew (Below.drew (HB5.out o1 o2 o3 o4 o5))
  generalize mk (headL t[3] t[4] t[5]) = M at *
  generalize hX : t.extract 0 6 = X at hne
  have HG := Lib.hid fun W => rgood_ex t[3] t[4] t[5] W
  clear h6 f4
  cases hp : Lib.hasPrefix t.data.toList [73, 83, 65]
  · have HN := Lib.hid (f1 hp)
    rw [hp] at hne
    clear f1 f2 f3 hp
    go_enter Tryz.func66, Tryz.ntmps66
    go_wp2
    go_region
    go_wp2_with fail
    go_region_with (first | (go_at_call 59; refine (HH.out _).mono ?_; rintro x w1 ⟨rfl, rfl⟩) | (go_at_call 17; refine (HG.out _).mono ?_; rintro x w1 ⟨rfl, rfl⟩))
    all_goals
      go_wp2
      refine bodyPost_ret (v := .tuple #[.agg #[.int .u8 0, .int .u8 0, .int .u8 0], .int .i64 5]) (by simp [results, Tryz.results66, go_sem]) rfl ?_
      exact ⟨by rw [HN.out]; rfl, HB4d.out _ _ _ _⟩
  rw [hp] at hne
  cases hg : goodB t[3] t[4] t[5]
  · have HN := Lib.hid (f2 hg)
    rw [hg] at HG
    clear f1 f2 f3 hp hg
    go_enter Tryz.func66, Tryz.ntmps66
    go_wp2
    go_region
    go_wp2_with fail
    go_region_with (first | (go_at_call 59; refine (HH.out _).mono ?_; rintro x w1 ⟨rfl, rfl⟩) | (go_at_call 17; refine (HG.out _).mono ?_; rintro x w1 ⟨rfl, rfl⟩))
    all_goals
      go_wp2
      refine bodyPost_ret (v := .tuple #[.agg #[.int .u8 0, .int .u8 0, .int .u8 0], .int .i64 5]) (by simp [results, Tryz.results66, go_sem]) rfl ?_
      exact ⟨by rw [HN.out]; rfl, HB5d.out _ _ _ _ _⟩
  · have HN := Lib.hid (f3 hp hg)
    rw [hg] at HG
    clear f1 f2 f3 hp hg
    go_enter Tryz.func66, Tryz.ntmps66
    go_wp2
    go_region
    go_wp2_with fail
    go_region_with (first | (go_at_call 59; refine (HH.out _).mono ?_; rintro x w1 ⟨rfl, rfl⟩) | (go_at_call 17; refine (HG.out _).mono ?_; rintro x w1 ⟨rfl, rfl⟩))
    all_goals
      go_wp2
      refine bodyPost_ret (v := .tuple #[dv t[3] t[4] t[5], .int .i64 0]) (by simp [results, Tryz.results66, go_sem]) rfl ?_
      exact ⟨by rw [HN.out]; rfl, HB5d.out _ _ _ _ _⟩
end Go.Proofs.YtpmnepihaljamaaGreatDoor
end
