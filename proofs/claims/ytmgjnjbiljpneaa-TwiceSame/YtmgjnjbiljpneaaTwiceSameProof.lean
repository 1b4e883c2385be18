/-
  TwiceSame holds for any two services: that may be they are the same one just if code, modifiers and day are.
-/
import Derived.Test.YtmgjnjbiljpneaaRows
import Derived.WalkKit
import Derived.ProofKit
import Derived.OpenShut
import Derived.ShutString
import Derived.Below
import Derived.Carry
import Derived.Laws.Cover2
import Derived.HandedShaped
import Derived.Test.YtmgjnjbiljpneaaIWorks
import Derived.Test.YtmgjnjbiljpneaaIRMarks
import Derived.Test.YtmgjnjbiljpneaaIRow
import Derived.Test.YtmgjnjbiljpneaaRInv
import Derived.Test.YtmgjnjbiljpneaaLRLine
import Derived.Test.YtmgjnjbiljpneaaLTexts
import Derived.Test.YtmgjnjbiljpneaaIOpen
namespace Go.Proofs.Ytmgjnjbiljpneaa.twiceSame
open Go.ChangeShapes Go.WideShapes Go.ChangeAt Go.RowKit
open Io
open Cm (Ln LnsAt lnv LnOk below_alloc below_trans)
open Tw
set_option linter.unusedVariables false
set_option linter.unusedSimpArgs false
set_option maxRecDepth 100000

theorem own : ownKnob Try.prog.godebug = none := by kernel_rfl

/-! ### the walk: the law returns true -/
set_option maxHeartbeats 16000000 in
theorem walk (w : World) (x0 : Ln) (m0 : Value) (h0 : TxAt All w m0 x0.mods) (z0 : LnOk x0) (x1 : Ln) (m1 : Value) (h1 : TxAt All w m1 x1.mods) (z1 : LnOk x1) :
    Calls Try.prog 5 #[lnv x0 m0, lnv x1 m1] w fun e w' => e = .returned (.bool true) ∧ Below w.heap.size w w' := by
  obtain ⟨la0, lk0, rfl, f1, f2⟩ := Cm.TxAt.form h0
  obtain ⟨la1, lk1, rfl, f3, f4⟩ := Cm.TxAt.form h1
  have hbw := below_trans (below_alloc w (.cells #[.string (mk x0.proc), .slice la0 x0.mods.length lk0, .int .i64 x0.date, .int .i64 x0.units, .int .i64 x0.billed, .int .i64 x0.prior] 24)) (below_alloc (w.alloc (.cells #[.string (mk x0.proc), .slice la0 x0.mods.length lk0, .int .i64 x0.date, .int .i64 x0.units, .int .i64 x0.billed, .int .i64 x0.prior] 24)) (.cells #[.string (mk x1.proc), .slice la1 x1.mods.length lk1, .int .i64 x1.date, .int .i64 x1.units, .int .i64 x1.billed, .int .i64 x1.prior] 24))
  have HB := Lib.hid hbw
  have HX0 := Lib.hid (Cm.LnBox.grw (Cm.LnBox.new w x0 (.slice la0 x0.mods.length lk0) 24) (below_alloc (w.alloc (.cells #[.string (mk x0.proc), .slice la0 x0.mods.length lk0, .int .i64 x0.date, .int .i64 x0.units, .int .i64 x0.billed, .int .i64 x0.prior] 24)) (.cells #[.string (mk x1.proc), .slice la1 x1.mods.length lk1, .int .i64 x1.date, .int .i64 x1.units, .int .i64 x1.billed, .int .i64 x1.prior] 24)))
  have HX1 := Lib.hid (Cm.LnBox.new (w.alloc (.cells #[.string (mk x0.proc), .slice la0 x0.mods.length lk0, .int .i64 x0.date, .int .i64 x0.units, .int .i64 x0.billed, .int .i64 x0.prior] 24)) x1 (.slice la1 x1.mods.length lk1) 24)
  rw [World.size_alloc] at HX1
  have HM0 := Lib.hid fun W' (hW : Below ((w.alloc (.cells #[.string (mk x0.proc), .slice la0 x0.mods.length lk0, .int .i64 x0.date, .int .i64 x0.units, .int .i64 x0.billed, .int .i64 x0.prior] 24)).alloc (.cells #[.string (mk x1.proc), .slice la1 x1.mods.length lk1, .int .i64 x1.date, .int .i64 x1.units, .int .i64 x1.billed, .int .i64 x1.prior] 24)).heap.size ((w.alloc (.cells #[.string (mk x0.proc), .slice la0 x0.mods.length lk0, .int .i64 x0.date, .int .i64 x0.units, .int .i64 x0.billed, .int .i64 x0.prior] 24)).alloc (.cells #[.string (mk x1.proc), .slice la1 x1.mods.length lk1, .int .i64 x1.date, .int .i64 x1.units, .int .i64 x1.billed, .int .i64 x1.prior] 24)) W') => TxAt.move h0 (Below.moves (below_trans hbw hW))
  have HM1 := Lib.hid fun W' (hW : Below ((w.alloc (.cells #[.string (mk x0.proc), .slice la0 x0.mods.length lk0, .int .i64 x0.date, .int .i64 x0.units, .int .i64 x0.billed, .int .i64 x0.prior] 24)).alloc (.cells #[.string (mk x1.proc), .slice la1 x1.mods.length lk1, .int .i64 x1.date, .int .i64 x1.units, .int .i64 x1.billed, .int .i64 x1.prior] 24)).heap.size ((w.alloc (.cells #[.string (mk x0.proc), .slice la0 x0.mods.length lk0, .int .i64 x0.date, .int .i64 x0.units, .int .i64 x0.billed, .int .i64 x0.prior] 24)).alloc (.cells #[.string (mk x1.proc), .slice la1 x1.mods.length lk1, .int .i64 x1.date, .int .i64 x1.units, .int .i64 x1.billed, .int .i64 x1.prior] 24)) W') => TxAt.move h1 (Below.moves (below_trans hbw hW))
  clear h0 h1 hbw
  go_enter Try.func5, Try.ntmps5
  go_upto_region 1 with fail
  generalize (w.alloc (.cells #[.string (mk x0.proc), .slice la0 x0.mods.length lk0, .int .i64 x0.date, .int .i64 x0.units, .int .i64 x0.billed, .int .i64 x0.prior] 24)).alloc (.cells #[.string (mk x1.proc), .slice la1 x1.mods.length lk1, .int .i64 x1.date, .int .i64 x1.units, .int .i64 x1.billed, .int .i64 x1.prior] 24) = W at *
  obtain ⟨q1, hq1⟩ : ∃ q1, q1 = w.heap.size + 1 := ⟨_, rfl⟩
  rw [← hq1] at HX1 ⊢
  clear hq1
  have HXK := Lib.hid fun W' (hW : Below W.heap.size W W') => And.intro (Cm.LnBox.grw HX0.out hW) (Cm.LnBox.grw HX1.out hW)
  have HLi0 := Lib.hid fun W' (hW : Below W.heap.size W W') => Cm.rline_any x0 _ W' (HM0.out W' hW) z0
  have HLi1 := Lib.hid fun W' (hW : Below W.heap.size W W') => Cm.rline_any x1 _ W' (HM1.out W' hW) z1
  have HTx := Lib.hid fun W' (hW : Below W.heap.size W W') => Cm.texts_any _ _ x0.mods x1.mods W' (HM0.out W' hW) (HM1.out W' hW)
  have HKs := Lib.hid (key_same x0 x1)
  obtain ⟨c0, c1, c2, c3, c4, c5⟩ := HX0.out
  obtain ⟨d0, d1, d2, d3, d4, d5⟩ := HX1.out
  have HBa := Lib.hid (below_alloc W (.cells #[.string (mk x0.proc), .slice la0 x0.mods.length lk0, .int .i64 x0.date, .int .i64 x0.units, .int .i64 x0.billed, .int .i64 x0.prior, .string (mk x1.proc), .slice la1 x1.mods.length lk1, .int .i64 x1.date, .int .i64 x1.units, .int .i64 x1.billed, .int .i64 x1.prior] 24))
  have HLt := Lib.hid (light_any (.slice (some ⟨W.heap.size, 0, none⟩) 2 2) [x0, x1] (W.alloc (.cells #[.string (mk x0.proc), .slice la0 x0.mods.length lk0, .int .i64 x0.date, .int .i64 x0.units, .int .i64 x0.billed, .int .i64 x0.prior, .string (mk x1.proc), .slice la1 x1.mods.length lk1, .int .i64 x1.date, .int .i64 x1.units, .int .i64 x1.billed, .int .i64 x1.prior] 24)) (lns_of (L := [(x0, .slice la0 x0.mods.length lk0), (x1, .slice la1 x1.mods.length lk1)]) (cs_two (alloc_new W #[.string (mk x0.proc), .slice la0 x0.mods.length lk0, .int .i64 x0.date, .int .i64 x0.units, .int .i64 x0.billed, .int .i64 x0.prior, .string (mk x1.proc), .slice la1 x1.mods.length lk1, .int .i64 x1.date, .int .i64 x1.units, .int .i64 x1.billed, .int .i64 x1.prior] 24)) (fun t ht => by simp at ht; rcases ht with ht | ht <;> rw [ht]; exact HM0.out _ HBa.out; exact HM1.out _ HBa.out) rfl (by simp)) (fun x hx => by simp at hx; rcases hx with hx | hx <;> rw [hx] <;> assumption) (by simp))
  go_wp2_with fail
  go_at_call 9
  refine HLt.out.mono ?_
  rintro e w1 ⟨⟨bl, rfl, hbl⟩, hb1⟩
  have HW1 := Lib.hid (below_trans HBa.out hb1)
  clear hb1 HX0 HX1 HLt HBa c0 c1 c2 c3 c4 c5 d0 d1 d2 d3 d4 d5
  obtain ⟨⟨c0, c1, c2, c3, c4, c5⟩, ⟨d0, d1, d2, d3, d4, d5⟩⟩ := HXK.out w1 HW1.out
  cases bl with
  | false =>
    clear hbl
    have HB1 := Lib.hid (below_trans HB.out HW1.out)
    go_wp2_with (go_at_call 10; refine (works_any _).mono ?_; rintro e w9 ⟨rfl, hb9⟩; have HB9 := Lib.hid (below_trans HB1.out hb9); clear hb9)
    go_ret
    exact ⟨rfl, HB9.out⟩
  | true =>
  have hk0 := (hbl rfl).2 x0 (by simp)
  have hk1 := (hbl rfl).2 x1 (by simp)
  clear hbl
  have HKa := Lib.hid fun W' (hW : Below W.heap.size W W') => key_any x0 _ W' (HM0.out W' hW) hk0
  have HKb := Lib.hid fun W' (hW : Below W.heap.size W W') => key_any x1 _ W' (HM1.out W' hW) hk1
  clear hk0 hk1 z0 z1 HM0 HM1
  generalize Cm.lineE x0 = E0 at *
  generalize Cm.lineE x1 = E1 at *
  generalize keyV x0 = K0 at *
  generalize keyV x1 = K1 at *
  go_wp2_with fail
  go_at_call 16
  refine (HLi0.out w1 HW1.out).mono ?_
  clear c0 c1 c2 c3 c4 c5 d0 d1 d2 d3 d4 d5
  rintro e w2 ⟨rfl, hb2⟩
  have HW2 := Lib.hid (below_trans HW1.out hb2)
  obtain ⟨⟨c0, c1, c2, c3, c4, c5⟩, ⟨d0, d1, d2, d3, d4, d5⟩⟩ := HXK.out w2 HW2.out
  clear hb2
  by_cases he0 : E0 = 0
  case neg =>
    have hn0 : (E0 != 0) = true := by simpa using he0
    have HB2 := Lib.hid (below_trans HB.out HW2.out)
    go_wp2_with (go_at_call 10; refine (works_any _).mono ?_; rintro e w9 ⟨rfl, hb9⟩; have HB9 := Lib.hid (below_trans HB2.out hb9); clear hb9)
    go_ret
    exact ⟨rfl, HB9.out⟩
  subst he0
  go_wp2_with fail
  go_at_call 16
  refine (HLi1.out w2 HW2.out).mono ?_
  clear c0 c1 c2 c3 c4 c5 d0 d1 d2 d3 d4 d5
  rintro e w3 ⟨rfl, hb3⟩
  have HW3 := Lib.hid (below_trans HW2.out hb3)
  obtain ⟨⟨c0, c1, c2, c3, c4, c5⟩, ⟨d0, d1, d2, d3, d4, d5⟩⟩ := HXK.out w3 HW3.out
  clear hb3
  by_cases he1 : E1 = 0
  case neg =>
    have hn1 : (E1 != 0) = true := by simpa using he1
    have HB3 := Lib.hid (below_trans HB.out HW3.out)
    go_wp2_with (go_at_call 10; refine (works_any _).mono ?_; rintro e w9 ⟨rfl, hb9⟩; have HB9 := Lib.hid (below_trans HB3.out hb9); clear hb9)
    go_ret
    exact ⟨rfl, HB9.out⟩
  subst he1
  have HKs := Lib.hid (HKs.out (by first | rfl | trivial) (by first | rfl | trivial))
  have hpe := Cm.mk_ne x0.proc x1.proc
  by_cases hp : x0.proc = x1.proc
  case neg =>
    rw [decide_eq_false hp] at hpe
    have HSm : Hid (decide (K0 = K1) = false) := decide_eq_false fun h => hp (HKs.out.1 h).1
    have HWn := HW3
    clear hp
    have HD := Lib.hid (Below.drew (Below.refl w3.heap.size w3))
    have hSame : ((mk K0).toList == (mk K1).toList) = false := by rw [Cm.mk_ne]; exact HSm.out
    go_upto_region 4 with fail
    refine Ri.wp_region_lasting_g (by kernel_rfl) (by kernel_rfl) (by kernel_rfl) (fun Wx => Below w3.heap.size w3 Wx) (fun kz vs wz => (fun kx vx wx => match kx with | 0 => vx = lnv x0 (.slice la0 x0.mods.length lk0) | 1 => vx = .string (mk K0) | 2 => vx = lnv x1 (.slice la1 x1.mods.length lk1) | 3 => vx = .string (mk K1) | 4 => vx = .bool false | 5 => vx = .bool false | 6 => vx = .bool true | 7 => vx = .bool true | 8 => vx = .bool true | 9 => vx = .bool true | 10 => vx = .bool true | _ => True : Nat → Value → World → Prop) kz (vs kz) wz) (fun kz => [kz]) (by kernel_rfl) (fun jz vs iz vz wz hiz hz => Ri.loc_own (F := (fun kx vx wx => match kx with | 0 => vx = lnv x0 (.slice la0 x0.mods.length lk0) | 1 => vx = .string (mk K0) | 2 => vx = lnv x1 (.slice la1 x1.mods.length lk1) | 3 => vx = .string (mk K1) | 4 => vx = .bool false | 5 => vx = .bool false | 6 => vx = .bool true | 7 => vx = .bool true | 8 => vx = .bool true | 9 => vx = .bool true | 10 => vx = .bool true | _ => True : Nat → Value → World → Prop)) jz vs iz vz wz hiz hz) HD.out ⟨Or.inl ⟨rfl, ?_⟩, Or.inl ⟨rfl, ?_⟩, Or.inl ⟨rfl, ?_⟩, Or.inl ⟨rfl, ?_⟩, Or.inl ⟨rfl, ?_⟩, Or.inl ⟨rfl, ?_⟩, Or.inl ⟨rfl, ?_⟩, Or.inl ⟨rfl, ?_⟩, Or.inr ⟨7, true, 48, rfl, rfl, ?_⟩, Or.inl ⟨rfl, ?_⟩, Or.inl ⟨rfl, ?_⟩, trivial⟩ ?_
    · intro vs Wx A hA hB hpre K hK
      have e2 := (hA 2).trans (show _ = Value.pointer (some ⟨w.heap.size, 0, none⟩) by kernel_rfl)
      obtain ⟨⟨c0, c1, c2, c3, c4, c5⟩, ⟨d0, d1, d2, d3, d4, d5⟩⟩ := HXK.out Wx (below_trans HWn.out hB)
      clear hA hpre
      go_simp
      first | exact hK _ _ hB rfl (fun _ _ h => h) | exact hK _ _ hB trivial (fun _ _ h => h) | (rw [if_neg (by omega)]; go_simp; exact hK _ _ hB rfl (fun _ _ h => h))
    · intro vs Wx A hA hB hpre K hK
      have e41 := ((hA 41).trans (show _ = vs 0 by kernel_rfl)).trans (by first | exact hpre.1 rfl | exact hpre.2.1 rfl | exact hpre.2.2.1 rfl | exact hpre.2.2.2.1 rfl | exact hpre.2.2.2.2.1 rfl | exact hpre.2.2.2.2.2.1 rfl | exact hpre.2.2.2.2.2.2.1 rfl | exact hpre.2.2.2.2.2.2.2.1 rfl | exact hpre.2.2.2.2.2.2.2.2.1 rfl | exact hpre.2.2.2.2.2.2.2.2.2.1 rfl)
      clear hA hpre
      go_simp
      go_at_call 11
      refine (HKa.out _ (below_trans HWn.out hB)).mono ?_
      rintro e w3 ⟨rfl, hb3⟩
      exact hK _ _ (below_trans hB hb3) rfl (fun _ _ h => h)
    · intro vs Wx A hA hB hpre K hK
      have e3 := (hA 3).trans (show _ = Value.pointer (some ⟨q1, 0, none⟩) by kernel_rfl)
      obtain ⟨⟨c0, c1, c2, c3, c4, c5⟩, ⟨d0, d1, d2, d3, d4, d5⟩⟩ := HXK.out Wx (below_trans HWn.out hB)
      clear hA hpre
      go_simp
      first | exact hK _ _ hB rfl (fun _ _ h => h) | exact hK _ _ hB trivial (fun _ _ h => h) | (rw [if_neg (by omega)]; go_simp; exact hK _ _ hB rfl (fun _ _ h => h))
    · intro vs Wx A hA hB hpre K hK
      have e43 := ((hA 43).trans (show _ = vs 2 by kernel_rfl)).trans (by first | exact hpre.1 rfl | exact hpre.2.1 rfl | exact hpre.2.2.1 rfl | exact hpre.2.2.2.1 rfl | exact hpre.2.2.2.2.1 rfl | exact hpre.2.2.2.2.2.1 rfl | exact hpre.2.2.2.2.2.2.1 rfl | exact hpre.2.2.2.2.2.2.2.1 rfl | exact hpre.2.2.2.2.2.2.2.2.1 rfl | exact hpre.2.2.2.2.2.2.2.2.2.1 rfl)
      clear hA hpre
      go_simp
      go_at_call 11
      refine (HKb.out _ (below_trans HWn.out hB)).mono ?_
      rintro e w3 ⟨rfl, hb3⟩
      exact hK _ _ (below_trans hB hb3) rfl (fun _ _ h => h)
    · intro vs Wx A hA hB hpre K hK
      have e42 := ((hA 42).trans (show _ = vs 1 by kernel_rfl)).trans (by first | exact hpre.1 rfl | exact hpre.2.1 rfl | exact hpre.2.2.1 rfl | exact hpre.2.2.2.1 rfl | exact hpre.2.2.2.2.1 rfl | exact hpre.2.2.2.2.2.1 rfl | exact hpre.2.2.2.2.2.2.1 rfl | exact hpre.2.2.2.2.2.2.2.1 rfl | exact hpre.2.2.2.2.2.2.2.2.1 rfl | exact hpre.2.2.2.2.2.2.2.2.2.1 rfl)
      have e44 := ((hA 44).trans (show _ = vs 3 by kernel_rfl)).trans (by first | exact hpre.1 rfl | exact hpre.2.1 rfl | exact hpre.2.2.1 rfl | exact hpre.2.2.2.1 rfl | exact hpre.2.2.2.2.1 rfl | exact hpre.2.2.2.2.2.1 rfl | exact hpre.2.2.2.2.2.2.1 rfl | exact hpre.2.2.2.2.2.2.2.1 rfl | exact hpre.2.2.2.2.2.2.2.2.1 rfl | exact hpre.2.2.2.2.2.2.2.2.2.1 rfl)
      clear hA hpre
      go_simp
      first | exact hK _ _ hB rfl (fun _ _ h => h) | exact hK _ _ hB trivial (fun _ _ h => h) | (rw [if_neg (by omega)]; go_simp; exact hK _ _ hB rfl (fun _ _ h => h))
    · intro vs Wx A hA hB hpre K hK
      have e5 := (hA 5).trans (show _ = Value.bool false by kernel_rfl)
      clear hA hpre
      go_simp
      first | exact hK _ _ hB rfl (fun _ _ h => h) | exact hK _ _ hB trivial (fun _ _ h => h) | (rw [if_neg (by omega)]; go_simp; exact hK _ _ hB rfl (fun _ _ h => h))
    · intro vs Wx A hA hB hpre K hK
      have e45 := ((hA 45).trans (show _ = vs 4 by kernel_rfl)).trans (by first | exact hpre.1 rfl | exact hpre.2.1 rfl | exact hpre.2.2.1 rfl | exact hpre.2.2.2.1 rfl | exact hpre.2.2.2.2.1 rfl | exact hpre.2.2.2.2.2.1 rfl | exact hpre.2.2.2.2.2.2.1 rfl | exact hpre.2.2.2.2.2.2.2.1 rfl | exact hpre.2.2.2.2.2.2.2.2.1 rfl | exact hpre.2.2.2.2.2.2.2.2.2.1 rfl)
      have e46 := ((hA 46).trans (show _ = vs 5 by kernel_rfl)).trans (by first | exact hpre.1 rfl | exact hpre.2.1 rfl | exact hpre.2.2.1 rfl | exact hpre.2.2.2.1 rfl | exact hpre.2.2.2.2.1 rfl | exact hpre.2.2.2.2.2.1 rfl | exact hpre.2.2.2.2.2.2.1 rfl | exact hpre.2.2.2.2.2.2.2.1 rfl | exact hpre.2.2.2.2.2.2.2.2.1 rfl | exact hpre.2.2.2.2.2.2.2.2.2.1 rfl)
      clear hA hpre
      go_simp
      first | exact hK _ _ hB rfl (fun _ _ h => h) | exact hK _ _ hB trivial (fun _ _ h => h) | (rw [if_neg (by omega)]; go_simp; exact hK _ _ hB rfl (fun _ _ h => h))
    · intro vs Wx A hA hB hpre K hK
      have e47 := ((hA 47).trans (show _ = vs 6 by kernel_rfl)).trans (by first | exact hpre.1 rfl | exact hpre.2.1 rfl | exact hpre.2.2.1 rfl | exact hpre.2.2.2.1 rfl | exact hpre.2.2.2.2.1 rfl | exact hpre.2.2.2.2.2.1 rfl | exact hpre.2.2.2.2.2.2.1 rfl | exact hpre.2.2.2.2.2.2.2.1 rfl | exact hpre.2.2.2.2.2.2.2.2.1 rfl | exact hpre.2.2.2.2.2.2.2.2.2.1 rfl)
      clear hA hpre
      go_simp
      first | exact hK _ _ hB rfl (fun _ _ h => h) | exact hK _ _ hB trivial (fun _ _ h => h) | (rw [if_neg (by omega)]; go_simp; exact hK _ _ hB rfl (fun _ _ h => h))
    · intro vs Wx A hA hB hpre
      have eg := ((hA 48).trans (show _ = vs 7 by kernel_rfl)).trans (by first | exact hpre.1 rfl | exact hpre.2.1 rfl | exact hpre.2.2.1 rfl | exact hpre.2.2.2.1 rfl | exact hpre.2.2.2.2.1 rfl | exact hpre.2.2.2.2.2.1 rfl | exact hpre.2.2.2.2.2.2.1 rfl | exact hpre.2.2.2.2.2.2.2.1 rfl | exact hpre.2.2.2.2.2.2.2.2.1 rfl | exact hpre.2.2.2.2.2.2.2.2.2.1 rfl)
      refine ⟨true, eg, fun _ K hK => ?_, fun h => absurd rfl h⟩
      clear hA hpre
      go_simp
      go_at_call 10
      refine (works_any _).mono ?_
      rintro e w3 ⟨rfl, hb3⟩
      exact hK _ _ (below_trans hB hb3) rfl (fun _ _ h => h)
    · intro vs Wx A hA hB hpre K hK
      have e48 := ((hA 48).trans (show _ = vs 7 by kernel_rfl)).trans (by first | exact hpre.1 rfl | exact hpre.2.1 rfl | exact hpre.2.2.1 rfl | exact hpre.2.2.2.1 rfl | exact hpre.2.2.2.2.1 rfl | exact hpre.2.2.2.2.2.1 rfl | exact hpre.2.2.2.2.2.2.1 rfl | exact hpre.2.2.2.2.2.2.2.1 rfl | exact hpre.2.2.2.2.2.2.2.2.1 rfl | exact hpre.2.2.2.2.2.2.2.2.2.1 rfl)
      have e49 := ((hA 49).trans (show _ = vs 8 by kernel_rfl)).trans (by first | exact hpre.1 rfl | exact hpre.2.1 rfl | exact hpre.2.2.1 rfl | exact hpre.2.2.2.1 rfl | exact hpre.2.2.2.2.1 rfl | exact hpre.2.2.2.2.2.1 rfl | exact hpre.2.2.2.2.2.2.1 rfl | exact hpre.2.2.2.2.2.2.2.1 rfl | exact hpre.2.2.2.2.2.2.2.2.1 rfl | exact hpre.2.2.2.2.2.2.2.2.2.1 rfl)
      clear hA hpre
      go_simp
      first | exact hK _ _ hB rfl (fun _ _ h => h) | exact hK _ _ hB trivial (fun _ _ h => h) | (rw [if_neg (by omega)]; go_simp; exact hK _ _ hB rfl (fun _ _ h => h))
    · intro vs Wx A hA hB hpre K hK
      have e50 := ((hA 50).trans (show _ = vs 9 by kernel_rfl)).trans (by first | exact hpre.1 rfl | exact hpre.2.1 rfl | exact hpre.2.2.1 rfl | exact hpre.2.2.2.1 rfl | exact hpre.2.2.2.2.1 rfl | exact hpre.2.2.2.2.2.1 rfl | exact hpre.2.2.2.2.2.2.1 rfl | exact hpre.2.2.2.2.2.2.2.1 rfl | exact hpre.2.2.2.2.2.2.2.2.1 rfl | exact hpre.2.2.2.2.2.2.2.2.2.1 rfl)
      clear hA hpre
      go_simp
      first | exact hK _ _ hB rfl (fun _ _ h => h) | exact hK _ _ hB trivial (fun _ _ h => h) | (rw [if_neg (by omega)]; go_simp; exact hK _ _ hB rfl (fun _ _ h => h))
    · intro vs Wx hB hF
      have hL : vs 10 = .bool true := hF 10 (by decide)
      have HBW := Lib.hid (below_trans (below_trans HB.out HWn.out) hB)
      clear hF hB
      simp only [Ri.puts]
      go_simp
      go_wp2_with fail
      go_ret
      exact ⟨by first | rfl | (rw [hL]; rfl) | simp [hL], HBW.out⟩
  rw [decide_eq_true hp] at hpe
  have HP := Lib.hid hp
  clear hp
  by_cases hd : x0.date = x1.date
  case neg =>
    have hde : (x0.date == x1.date) = false := by rw [beq_eq_false_iff_ne]; exact hd
    have HSm : Hid (decide (K0 = K1) = false) := decide_eq_false fun h => hd (HKs.out.1 h).2.1
    have HWn := HW3
    clear hd
    have HD := Lib.hid (Below.drew (Below.refl w3.heap.size w3))
    have hSame : ((mk K0).toList == (mk K1).toList) = false := by rw [Cm.mk_ne]; exact HSm.out
    go_upto_region 4 with fail
    refine Ri.wp_region_lasting_g (by kernel_rfl) (by kernel_rfl) (by kernel_rfl) (fun Wx => Below w3.heap.size w3 Wx) (fun kz vs wz => (fun kx vx wx => match kx with | 0 => vx = lnv x0 (.slice la0 x0.mods.length lk0) | 1 => vx = .string (mk K0) | 2 => vx = lnv x1 (.slice la1 x1.mods.length lk1) | 3 => vx = .string (mk K1) | 4 => vx = .bool false | 5 => vx = .bool false | 6 => vx = .bool true | 7 => vx = .bool true | 8 => vx = .bool true | 9 => vx = .bool true | 10 => vx = .bool true | _ => True : Nat → Value → World → Prop) kz (vs kz) wz) (fun kz => [kz]) (by kernel_rfl) (fun jz vs iz vz wz hiz hz => Ri.loc_own (F := (fun kx vx wx => match kx with | 0 => vx = lnv x0 (.slice la0 x0.mods.length lk0) | 1 => vx = .string (mk K0) | 2 => vx = lnv x1 (.slice la1 x1.mods.length lk1) | 3 => vx = .string (mk K1) | 4 => vx = .bool false | 5 => vx = .bool false | 6 => vx = .bool true | 7 => vx = .bool true | 8 => vx = .bool true | 9 => vx = .bool true | 10 => vx = .bool true | _ => True : Nat → Value → World → Prop)) jz vs iz vz wz hiz hz) HD.out ⟨Or.inl ⟨rfl, ?_⟩, Or.inl ⟨rfl, ?_⟩, Or.inl ⟨rfl, ?_⟩, Or.inl ⟨rfl, ?_⟩, Or.inl ⟨rfl, ?_⟩, Or.inl ⟨rfl, ?_⟩, Or.inl ⟨rfl, ?_⟩, Or.inl ⟨rfl, ?_⟩, Or.inr ⟨7, true, 48, rfl, rfl, ?_⟩, Or.inl ⟨rfl, ?_⟩, Or.inl ⟨rfl, ?_⟩, trivial⟩ ?_
    · intro vs Wx A hA hB hpre K hK
      have e2 := (hA 2).trans (show _ = Value.pointer (some ⟨w.heap.size, 0, none⟩) by kernel_rfl)
      obtain ⟨⟨c0, c1, c2, c3, c4, c5⟩, ⟨d0, d1, d2, d3, d4, d5⟩⟩ := HXK.out Wx (below_trans HWn.out hB)
      clear hA hpre
      go_simp
      first | exact hK _ _ hB rfl (fun _ _ h => h) | exact hK _ _ hB trivial (fun _ _ h => h) | (rw [if_neg (by omega)]; go_simp; exact hK _ _ hB rfl (fun _ _ h => h))
    · intro vs Wx A hA hB hpre K hK
      have e41 := ((hA 41).trans (show _ = vs 0 by kernel_rfl)).trans (by first | exact hpre.1 rfl | exact hpre.2.1 rfl | exact hpre.2.2.1 rfl | exact hpre.2.2.2.1 rfl | exact hpre.2.2.2.2.1 rfl | exact hpre.2.2.2.2.2.1 rfl | exact hpre.2.2.2.2.2.2.1 rfl | exact hpre.2.2.2.2.2.2.2.1 rfl | exact hpre.2.2.2.2.2.2.2.2.1 rfl | exact hpre.2.2.2.2.2.2.2.2.2.1 rfl)
      clear hA hpre
      go_simp
      go_at_call 11
      refine (HKa.out _ (below_trans HWn.out hB)).mono ?_
      rintro e w3 ⟨rfl, hb3⟩
      exact hK _ _ (below_trans hB hb3) rfl (fun _ _ h => h)
    · intro vs Wx A hA hB hpre K hK
      have e3 := (hA 3).trans (show _ = Value.pointer (some ⟨q1, 0, none⟩) by kernel_rfl)
      obtain ⟨⟨c0, c1, c2, c3, c4, c5⟩, ⟨d0, d1, d2, d3, d4, d5⟩⟩ := HXK.out Wx (below_trans HWn.out hB)
      clear hA hpre
      go_simp
      first | exact hK _ _ hB rfl (fun _ _ h => h) | exact hK _ _ hB trivial (fun _ _ h => h) | (rw [if_neg (by omega)]; go_simp; exact hK _ _ hB rfl (fun _ _ h => h))
    · intro vs Wx A hA hB hpre K hK
      have e43 := ((hA 43).trans (show _ = vs 2 by kernel_rfl)).trans (by first | exact hpre.1 rfl | exact hpre.2.1 rfl | exact hpre.2.2.1 rfl | exact hpre.2.2.2.1 rfl | exact hpre.2.2.2.2.1 rfl | exact hpre.2.2.2.2.2.1 rfl | exact hpre.2.2.2.2.2.2.1 rfl | exact hpre.2.2.2.2.2.2.2.1 rfl | exact hpre.2.2.2.2.2.2.2.2.1 rfl | exact hpre.2.2.2.2.2.2.2.2.2.1 rfl)
      clear hA hpre
      go_simp
      go_at_call 11
      refine (HKb.out _ (below_trans HWn.out hB)).mono ?_
      rintro e w3 ⟨rfl, hb3⟩
      exact hK _ _ (below_trans hB hb3) rfl (fun _ _ h => h)
    · intro vs Wx A hA hB hpre K hK
      have e42 := ((hA 42).trans (show _ = vs 1 by kernel_rfl)).trans (by first | exact hpre.1 rfl | exact hpre.2.1 rfl | exact hpre.2.2.1 rfl | exact hpre.2.2.2.1 rfl | exact hpre.2.2.2.2.1 rfl | exact hpre.2.2.2.2.2.1 rfl | exact hpre.2.2.2.2.2.2.1 rfl | exact hpre.2.2.2.2.2.2.2.1 rfl | exact hpre.2.2.2.2.2.2.2.2.1 rfl | exact hpre.2.2.2.2.2.2.2.2.2.1 rfl)
      have e44 := ((hA 44).trans (show _ = vs 3 by kernel_rfl)).trans (by first | exact hpre.1 rfl | exact hpre.2.1 rfl | exact hpre.2.2.1 rfl | exact hpre.2.2.2.1 rfl | exact hpre.2.2.2.2.1 rfl | exact hpre.2.2.2.2.2.1 rfl | exact hpre.2.2.2.2.2.2.1 rfl | exact hpre.2.2.2.2.2.2.2.1 rfl | exact hpre.2.2.2.2.2.2.2.2.1 rfl | exact hpre.2.2.2.2.2.2.2.2.2.1 rfl)
      clear hA hpre
      go_simp
      first | exact hK _ _ hB rfl (fun _ _ h => h) | exact hK _ _ hB trivial (fun _ _ h => h) | (rw [if_neg (by omega)]; go_simp; exact hK _ _ hB rfl (fun _ _ h => h))
    · intro vs Wx A hA hB hpre K hK
      have e5 := (hA 5).trans (show _ = Value.bool false by kernel_rfl)
      clear hA hpre
      go_simp
      first | exact hK _ _ hB rfl (fun _ _ h => h) | exact hK _ _ hB trivial (fun _ _ h => h) | (rw [if_neg (by omega)]; go_simp; exact hK _ _ hB rfl (fun _ _ h => h))
    · intro vs Wx A hA hB hpre K hK
      have e45 := ((hA 45).trans (show _ = vs 4 by kernel_rfl)).trans (by first | exact hpre.1 rfl | exact hpre.2.1 rfl | exact hpre.2.2.1 rfl | exact hpre.2.2.2.1 rfl | exact hpre.2.2.2.2.1 rfl | exact hpre.2.2.2.2.2.1 rfl | exact hpre.2.2.2.2.2.2.1 rfl | exact hpre.2.2.2.2.2.2.2.1 rfl | exact hpre.2.2.2.2.2.2.2.2.1 rfl | exact hpre.2.2.2.2.2.2.2.2.2.1 rfl)
      have e46 := ((hA 46).trans (show _ = vs 5 by kernel_rfl)).trans (by first | exact hpre.1 rfl | exact hpre.2.1 rfl | exact hpre.2.2.1 rfl | exact hpre.2.2.2.1 rfl | exact hpre.2.2.2.2.1 rfl | exact hpre.2.2.2.2.2.1 rfl | exact hpre.2.2.2.2.2.2.1 rfl | exact hpre.2.2.2.2.2.2.2.1 rfl | exact hpre.2.2.2.2.2.2.2.2.1 rfl | exact hpre.2.2.2.2.2.2.2.2.2.1 rfl)
      clear hA hpre
      go_simp
      first | exact hK _ _ hB rfl (fun _ _ h => h) | exact hK _ _ hB trivial (fun _ _ h => h) | (rw [if_neg (by omega)]; go_simp; exact hK _ _ hB rfl (fun _ _ h => h))
    · intro vs Wx A hA hB hpre K hK
      have e47 := ((hA 47).trans (show _ = vs 6 by kernel_rfl)).trans (by first | exact hpre.1 rfl | exact hpre.2.1 rfl | exact hpre.2.2.1 rfl | exact hpre.2.2.2.1 rfl | exact hpre.2.2.2.2.1 rfl | exact hpre.2.2.2.2.2.1 rfl | exact hpre.2.2.2.2.2.2.1 rfl | exact hpre.2.2.2.2.2.2.2.1 rfl | exact hpre.2.2.2.2.2.2.2.2.1 rfl | exact hpre.2.2.2.2.2.2.2.2.2.1 rfl)
      clear hA hpre
      go_simp
      first | exact hK _ _ hB rfl (fun _ _ h => h) | exact hK _ _ hB trivial (fun _ _ h => h) | (rw [if_neg (by omega)]; go_simp; exact hK _ _ hB rfl (fun _ _ h => h))
    · intro vs Wx A hA hB hpre
      have eg := ((hA 48).trans (show _ = vs 7 by kernel_rfl)).trans (by first | exact hpre.1 rfl | exact hpre.2.1 rfl | exact hpre.2.2.1 rfl | exact hpre.2.2.2.1 rfl | exact hpre.2.2.2.2.1 rfl | exact hpre.2.2.2.2.2.1 rfl | exact hpre.2.2.2.2.2.2.1 rfl | exact hpre.2.2.2.2.2.2.2.1 rfl | exact hpre.2.2.2.2.2.2.2.2.1 rfl | exact hpre.2.2.2.2.2.2.2.2.2.1 rfl)
      refine ⟨true, eg, fun _ K hK => ?_, fun h => absurd rfl h⟩
      clear hA hpre
      go_simp
      go_at_call 10
      refine (works_any _).mono ?_
      rintro e w3 ⟨rfl, hb3⟩
      exact hK _ _ (below_trans hB hb3) rfl (fun _ _ h => h)
    · intro vs Wx A hA hB hpre K hK
      have e48 := ((hA 48).trans (show _ = vs 7 by kernel_rfl)).trans (by first | exact hpre.1 rfl | exact hpre.2.1 rfl | exact hpre.2.2.1 rfl | exact hpre.2.2.2.1 rfl | exact hpre.2.2.2.2.1 rfl | exact hpre.2.2.2.2.2.1 rfl | exact hpre.2.2.2.2.2.2.1 rfl | exact hpre.2.2.2.2.2.2.2.1 rfl | exact hpre.2.2.2.2.2.2.2.2.1 rfl | exact hpre.2.2.2.2.2.2.2.2.2.1 rfl)
      have e49 := ((hA 49).trans (show _ = vs 8 by kernel_rfl)).trans (by first | exact hpre.1 rfl | exact hpre.2.1 rfl | exact hpre.2.2.1 rfl | exact hpre.2.2.2.1 rfl | exact hpre.2.2.2.2.1 rfl | exact hpre.2.2.2.2.2.1 rfl | exact hpre.2.2.2.2.2.2.1 rfl | exact hpre.2.2.2.2.2.2.2.1 rfl | exact hpre.2.2.2.2.2.2.2.2.1 rfl | exact hpre.2.2.2.2.2.2.2.2.2.1 rfl)
      clear hA hpre
      go_simp
      first | exact hK _ _ hB rfl (fun _ _ h => h) | exact hK _ _ hB trivial (fun _ _ h => h) | (rw [if_neg (by omega)]; go_simp; exact hK _ _ hB rfl (fun _ _ h => h))
    · intro vs Wx A hA hB hpre K hK
      have e50 := ((hA 50).trans (show _ = vs 9 by kernel_rfl)).trans (by first | exact hpre.1 rfl | exact hpre.2.1 rfl | exact hpre.2.2.1 rfl | exact hpre.2.2.2.1 rfl | exact hpre.2.2.2.2.1 rfl | exact hpre.2.2.2.2.2.1 rfl | exact hpre.2.2.2.2.2.2.1 rfl | exact hpre.2.2.2.2.2.2.2.1 rfl | exact hpre.2.2.2.2.2.2.2.2.1 rfl | exact hpre.2.2.2.2.2.2.2.2.2.1 rfl)
      clear hA hpre
      go_simp
      first | exact hK _ _ hB rfl (fun _ _ h => h) | exact hK _ _ hB trivial (fun _ _ h => h) | (rw [if_neg (by omega)]; go_simp; exact hK _ _ hB rfl (fun _ _ h => h))
    · intro vs Wx hB hF
      have hL : vs 10 = .bool true := hF 10 (by decide)
      have HBW := Lib.hid (below_trans (below_trans HB.out HWn.out) hB)
      clear hF hB
      simp only [Ri.puts]
      go_simp
      go_wp2_with fail
      go_ret
      exact ⟨by first | rfl | (rw [hL]; rfl) | simp [hL], HBW.out⟩
  have hde : (x0.date == x1.date) = true := by rw [beq_iff_eq]; exact hd
  have HSm : Hid (decide (K0 = K1) = decide (x0.mods = x1.mods)) := by
    show _ = _
    rw [Bool.eq_iff_iff]
    simp only [decide_eq_true_eq]
    exact ⟨fun h => (HKs.out.1 h).2.2, fun h => HKs.out.2 ⟨HP.out, hd, h⟩⟩
  generalize decide (x0.mods = x1.mods) = SM at *
  clear hd
  go_wp2_with fail
  go_at_call 17
  refine (HTx.out w3 HW3.out).mono ?_
  clear c0 c1 c2 c3 c4 c5 d0 d1 d2 d3 d4 d5
  rintro e w4 ⟨rfl, hq4⟩
  have HWn := Lib.hid (below_trans HW3.out (Cm.below_drewq hq4))
  clear hq4
  have HD := Lib.hid (Below.drew (Below.refl w4.heap.size w4))
  have hSame : ((mk K0).toList == (mk K1).toList) = SM := by rw [Cm.mk_ne]; exact HSm.out
  go_upto_region 4 with fail
  refine Ri.wp_region_lasting_g (by kernel_rfl) (by kernel_rfl) (by kernel_rfl) (fun Wx => Below w4.heap.size w4 Wx) (fun kz vs wz => (fun kx vx wx => match kx with | 0 => vx = lnv x0 (.slice la0 x0.mods.length lk0) | 1 => vx = .string (mk K0) | 2 => vx = lnv x1 (.slice la1 x1.mods.length lk1) | 3 => vx = .string (mk K1) | 4 => vx = .bool SM | 5 => vx = .bool SM | 6 => vx = .bool true | 7 => vx = .bool true | 8 => vx = .bool true | 9 => vx = .bool true | 10 => vx = .bool true | _ => True : Nat → Value → World → Prop) kz (vs kz) wz) (fun kz => [kz]) (by kernel_rfl) (fun jz vs iz vz wz hiz hz => Ri.loc_own (F := (fun kx vx wx => match kx with | 0 => vx = lnv x0 (.slice la0 x0.mods.length lk0) | 1 => vx = .string (mk K0) | 2 => vx = lnv x1 (.slice la1 x1.mods.length lk1) | 3 => vx = .string (mk K1) | 4 => vx = .bool SM | 5 => vx = .bool SM | 6 => vx = .bool true | 7 => vx = .bool true | 8 => vx = .bool true | 9 => vx = .bool true | 10 => vx = .bool true | _ => True : Nat → Value → World → Prop)) jz vs iz vz wz hiz hz) HD.out ⟨Or.inl ⟨rfl, ?_⟩, Or.inl ⟨rfl, ?_⟩, Or.inl ⟨rfl, ?_⟩, Or.inl ⟨rfl, ?_⟩, Or.inl ⟨rfl, ?_⟩, Or.inl ⟨rfl, ?_⟩, Or.inl ⟨rfl, ?_⟩, Or.inl ⟨rfl, ?_⟩, Or.inr ⟨7, true, 48, rfl, rfl, ?_⟩, Or.inl ⟨rfl, ?_⟩, Or.inl ⟨rfl, ?_⟩, trivial⟩ ?_
  · intro vs Wx A hA hB hpre K hK
    have e2 := (hA 2).trans (show _ = Value.pointer (some ⟨w.heap.size, 0, none⟩) by kernel_rfl)
    obtain ⟨⟨c0, c1, c2, c3, c4, c5⟩, ⟨d0, d1, d2, d3, d4, d5⟩⟩ := HXK.out Wx (below_trans HWn.out hB)
    clear hA hpre
    go_simp
    first | exact hK _ _ hB rfl (fun _ _ h => h) | exact hK _ _ hB trivial (fun _ _ h => h) | (rw [if_neg (by omega)]; go_simp; exact hK _ _ hB rfl (fun _ _ h => h))
  · intro vs Wx A hA hB hpre K hK
    have e41 := ((hA 41).trans (show _ = vs 0 by kernel_rfl)).trans (by first | exact hpre.1 rfl | exact hpre.2.1 rfl | exact hpre.2.2.1 rfl | exact hpre.2.2.2.1 rfl | exact hpre.2.2.2.2.1 rfl | exact hpre.2.2.2.2.2.1 rfl | exact hpre.2.2.2.2.2.2.1 rfl | exact hpre.2.2.2.2.2.2.2.1 rfl | exact hpre.2.2.2.2.2.2.2.2.1 rfl | exact hpre.2.2.2.2.2.2.2.2.2.1 rfl)
    clear hA hpre
    go_simp
    go_at_call 11
    refine (HKa.out _ (below_trans HWn.out hB)).mono ?_
    rintro e w3 ⟨rfl, hb3⟩
    exact hK _ _ (below_trans hB hb3) rfl (fun _ _ h => h)
  · intro vs Wx A hA hB hpre K hK
    have e3 := (hA 3).trans (show _ = Value.pointer (some ⟨q1, 0, none⟩) by kernel_rfl)
    obtain ⟨⟨c0, c1, c2, c3, c4, c5⟩, ⟨d0, d1, d2, d3, d4, d5⟩⟩ := HXK.out Wx (below_trans HWn.out hB)
    clear hA hpre
    go_simp
    first | exact hK _ _ hB rfl (fun _ _ h => h) | exact hK _ _ hB trivial (fun _ _ h => h) | (rw [if_neg (by omega)]; go_simp; exact hK _ _ hB rfl (fun _ _ h => h))
  · intro vs Wx A hA hB hpre K hK
    have e43 := ((hA 43).trans (show _ = vs 2 by kernel_rfl)).trans (by first | exact hpre.1 rfl | exact hpre.2.1 rfl | exact hpre.2.2.1 rfl | exact hpre.2.2.2.1 rfl | exact hpre.2.2.2.2.1 rfl | exact hpre.2.2.2.2.2.1 rfl | exact hpre.2.2.2.2.2.2.1 rfl | exact hpre.2.2.2.2.2.2.2.1 rfl | exact hpre.2.2.2.2.2.2.2.2.1 rfl | exact hpre.2.2.2.2.2.2.2.2.2.1 rfl)
    clear hA hpre
    go_simp
    go_at_call 11
    refine (HKb.out _ (below_trans HWn.out hB)).mono ?_
    rintro e w3 ⟨rfl, hb3⟩
    exact hK _ _ (below_trans hB hb3) rfl (fun _ _ h => h)
  · intro vs Wx A hA hB hpre K hK
    have e42 := ((hA 42).trans (show _ = vs 1 by kernel_rfl)).trans (by first | exact hpre.1 rfl | exact hpre.2.1 rfl | exact hpre.2.2.1 rfl | exact hpre.2.2.2.1 rfl | exact hpre.2.2.2.2.1 rfl | exact hpre.2.2.2.2.2.1 rfl | exact hpre.2.2.2.2.2.2.1 rfl | exact hpre.2.2.2.2.2.2.2.1 rfl | exact hpre.2.2.2.2.2.2.2.2.1 rfl | exact hpre.2.2.2.2.2.2.2.2.2.1 rfl)
    have e44 := ((hA 44).trans (show _ = vs 3 by kernel_rfl)).trans (by first | exact hpre.1 rfl | exact hpre.2.1 rfl | exact hpre.2.2.1 rfl | exact hpre.2.2.2.1 rfl | exact hpre.2.2.2.2.1 rfl | exact hpre.2.2.2.2.2.1 rfl | exact hpre.2.2.2.2.2.2.1 rfl | exact hpre.2.2.2.2.2.2.2.1 rfl | exact hpre.2.2.2.2.2.2.2.2.1 rfl | exact hpre.2.2.2.2.2.2.2.2.2.1 rfl)
    clear hA hpre
    go_simp
    first | exact hK _ _ hB rfl (fun _ _ h => h) | exact hK _ _ hB trivial (fun _ _ h => h) | (rw [if_neg (by omega)]; go_simp; exact hK _ _ hB rfl (fun _ _ h => h))
  · intro vs Wx A hA hB hpre K hK
    have e5 := (hA 5).trans (show _ = Value.bool SM by kernel_rfl)
    clear hA hpre
    go_simp
    first | exact hK _ _ hB rfl (fun _ _ h => h) | exact hK _ _ hB trivial (fun _ _ h => h) | (rw [if_neg (by omega)]; go_simp; exact hK _ _ hB rfl (fun _ _ h => h))
  · intro vs Wx A hA hB hpre K hK
    have e45 := ((hA 45).trans (show _ = vs 4 by kernel_rfl)).trans (by first | exact hpre.1 rfl | exact hpre.2.1 rfl | exact hpre.2.2.1 rfl | exact hpre.2.2.2.1 rfl | exact hpre.2.2.2.2.1 rfl | exact hpre.2.2.2.2.2.1 rfl | exact hpre.2.2.2.2.2.2.1 rfl | exact hpre.2.2.2.2.2.2.2.1 rfl | exact hpre.2.2.2.2.2.2.2.2.1 rfl | exact hpre.2.2.2.2.2.2.2.2.2.1 rfl)
    have e46 := ((hA 46).trans (show _ = vs 5 by kernel_rfl)).trans (by first | exact hpre.1 rfl | exact hpre.2.1 rfl | exact hpre.2.2.1 rfl | exact hpre.2.2.2.1 rfl | exact hpre.2.2.2.2.1 rfl | exact hpre.2.2.2.2.2.1 rfl | exact hpre.2.2.2.2.2.2.1 rfl | exact hpre.2.2.2.2.2.2.2.1 rfl | exact hpre.2.2.2.2.2.2.2.2.1 rfl | exact hpre.2.2.2.2.2.2.2.2.2.1 rfl)
    clear hA hpre
    go_simp
    first | exact hK _ _ hB rfl (fun _ _ h => h) | exact hK _ _ hB trivial (fun _ _ h => h) | (rw [if_neg (by omega)]; go_simp; exact hK _ _ hB rfl (fun _ _ h => h))
  · intro vs Wx A hA hB hpre K hK
    have e47 := ((hA 47).trans (show _ = vs 6 by kernel_rfl)).trans (by first | exact hpre.1 rfl | exact hpre.2.1 rfl | exact hpre.2.2.1 rfl | exact hpre.2.2.2.1 rfl | exact hpre.2.2.2.2.1 rfl | exact hpre.2.2.2.2.2.1 rfl | exact hpre.2.2.2.2.2.2.1 rfl | exact hpre.2.2.2.2.2.2.2.1 rfl | exact hpre.2.2.2.2.2.2.2.2.1 rfl | exact hpre.2.2.2.2.2.2.2.2.2.1 rfl)
    clear hA hpre
    go_simp
    first | exact hK _ _ hB rfl (fun _ _ h => h) | exact hK _ _ hB trivial (fun _ _ h => h) | (rw [if_neg (by omega)]; go_simp; exact hK _ _ hB rfl (fun _ _ h => h))
  · intro vs Wx A hA hB hpre
    have eg := ((hA 48).trans (show _ = vs 7 by kernel_rfl)).trans (by first | exact hpre.1 rfl | exact hpre.2.1 rfl | exact hpre.2.2.1 rfl | exact hpre.2.2.2.1 rfl | exact hpre.2.2.2.2.1 rfl | exact hpre.2.2.2.2.2.1 rfl | exact hpre.2.2.2.2.2.2.1 rfl | exact hpre.2.2.2.2.2.2.2.1 rfl | exact hpre.2.2.2.2.2.2.2.2.1 rfl | exact hpre.2.2.2.2.2.2.2.2.2.1 rfl)
    refine ⟨true, eg, fun _ K hK => ?_, fun h => absurd rfl h⟩
    clear hA hpre
    go_simp
    go_at_call 10
    refine (works_any _).mono ?_
    rintro e w3 ⟨rfl, hb3⟩
    exact hK _ _ (below_trans hB hb3) rfl (fun _ _ h => h)
  · intro vs Wx A hA hB hpre K hK
    have e48 := ((hA 48).trans (show _ = vs 7 by kernel_rfl)).trans (by first | exact hpre.1 rfl | exact hpre.2.1 rfl | exact hpre.2.2.1 rfl | exact hpre.2.2.2.1 rfl | exact hpre.2.2.2.2.1 rfl | exact hpre.2.2.2.2.2.1 rfl | exact hpre.2.2.2.2.2.2.1 rfl | exact hpre.2.2.2.2.2.2.2.1 rfl | exact hpre.2.2.2.2.2.2.2.2.1 rfl | exact hpre.2.2.2.2.2.2.2.2.2.1 rfl)
    have e49 := ((hA 49).trans (show _ = vs 8 by kernel_rfl)).trans (by first | exact hpre.1 rfl | exact hpre.2.1 rfl | exact hpre.2.2.1 rfl | exact hpre.2.2.2.1 rfl | exact hpre.2.2.2.2.1 rfl | exact hpre.2.2.2.2.2.1 rfl | exact hpre.2.2.2.2.2.2.1 rfl | exact hpre.2.2.2.2.2.2.2.1 rfl | exact hpre.2.2.2.2.2.2.2.2.1 rfl | exact hpre.2.2.2.2.2.2.2.2.2.1 rfl)
    clear hA hpre
    go_simp
    first | exact hK _ _ hB rfl (fun _ _ h => h) | exact hK _ _ hB trivial (fun _ _ h => h) | (rw [if_neg (by omega)]; go_simp; exact hK _ _ hB rfl (fun _ _ h => h))
  · intro vs Wx A hA hB hpre K hK
    have e50 := ((hA 50).trans (show _ = vs 9 by kernel_rfl)).trans (by first | exact hpre.1 rfl | exact hpre.2.1 rfl | exact hpre.2.2.1 rfl | exact hpre.2.2.2.1 rfl | exact hpre.2.2.2.2.1 rfl | exact hpre.2.2.2.2.2.1 rfl | exact hpre.2.2.2.2.2.2.1 rfl | exact hpre.2.2.2.2.2.2.2.1 rfl | exact hpre.2.2.2.2.2.2.2.2.1 rfl | exact hpre.2.2.2.2.2.2.2.2.2.1 rfl)
    clear hA hpre
    go_simp
    first | exact hK _ _ hB rfl (fun _ _ h => h) | exact hK _ _ hB trivial (fun _ _ h => h) | (rw [if_neg (by omega)]; go_simp; exact hK _ _ hB rfl (fun _ _ h => h))
  · intro vs Wx hB hF
    have hL : vs 10 = .bool true := hF 10 (by decide)
    have HBW := Lib.hid (below_trans (below_trans HB.out HWn.out) hB)
    clear hF hB
    simp only [Ri.puts]
    go_simp
    go_wp2_with fail
    go_ret
    exact ⟨by first | rfl | (rw [hL]; rfl) | simp [hL], HBW.out⟩

/-! ### the row's step -/
theorem laidOut : laidOutB Try.prog = true := by kernel_rfl
theorem lifted (os : Os) (started : os.Started) (H : Type) (enc : TypeId × Value → H) :
    ReturnsInHanded {} Try.checked os 5 .any (Rows.twiceSameSpec.pre6 enc Try.prog Try.f5 Rows.twiceSameRow.domain false) (Rows.twiceSameSpec.post enc Try.prog Try.f5 false true false false) := by
  refine returnsInHanded_of_change_shaped (C := Try.checked) own started (by kernel_rfl) Try.func5
    (ChangeSpec.witness6 (enc := enc) (C := Try.checked) false ⟨#[], #[.agg #[.string ByteArray.empty, .slice none 0 0, .int .i64 0, .int .i64 0, .int .i64 0, .int .i64 0], .agg #[.string ByteArray.empty, .slice none 0 0, .int .i64 0, .int .i64 0, .int .i64 0, .int .i64 0]], []⟩ 8 (by kernel_rfl) (by kernel_rfl) (by kernel_rfl) (by kernel_rfl)) ?_
  intro W base args ds gs before hval0 hW hcnd hwt _ _
  have hval : ∀ (j : Nat) t v, Try.f5.params[j]? = some t → args[j]? = some v → Value.okWide Try.prog W .any base t v := hval0
  have hW' := hW
  obtain ⟨p, q, hA0, hV, rfl, hfz, hnd⟩ := hW
  have hA : DataW.TrodAll enc Try.prog W 0 (fun _ => true) true Try.f5.params.toList args.toList ds p := hA0
  rw [Try.params5] at hA hval hwt
  obtain ⟨v0, vs0, d0, ds0, p0, q0, hargs, rfl, rfl, h0, r0⟩ := trodAll_cons hA
  obtain ⟨v1, vs1, d1, ds1, p1, q1, rfl, rfl, rfl, h1, r1⟩ := trodAll_cons r0
  obtain ⟨rfl, rfl, rfl⟩ := trodAll_nil r1
  obtain rfl : args = #[v0, v1] := by cases args; simp_all
  obtain ⟨rfl, rfl⟩ := trodVars_none hV
  have hwl : ∀ z, (z ∈ d0.weights Try.prog 24 → z ≤ reachBytes) ∧ (z ∈ d1.weights Try.prog 24 → z ≤ reachBytes) := fun z => by
    have h := List.all_eq_true.1 hwt z
    simp only [decide_eq_true_eq] at h
    refine ⟨fun hz => h ?_, fun hz => h ?_⟩
    all_goals
      simp only [List.cons_append, List.nil_append, List.toList_toArray, List.append_nil, DataW.weightsEach, List.mem_append]
      first | exact Or.inl hz | exact Or.inr (Or.inl hz) | exact Or.inr (Or.inr (Or.inl hz)) | exact Or.inr (Or.inr (Or.inr (Or.inl hz))) | simp [hz]
  have k0 := h0
  have lt0 : ∀ x ∈ p0, x.block < W.heap.size := by obtain ⟨m, hm⟩ := k0; exact DataW.trod_lt m _ _ _ hm
  obtain ⟨x0, m0, rfl, g0, z0⟩ := open_line (hval 0 24 v0 rfl rfl) h0 (fun z hz => (hwl z).1 hz)
  have k1 := h1
  have lt1 : ∀ x ∈ p1, x.block < W.heap.size := by obtain ⟨m, hm⟩ := k1; exact DataW.trod_lt m _ _ _ hm
  obtain ⟨x1, m1, rfl, g1, z1⟩ := open_line (hval 1 24 v1 rfl rfl) h1 (fun z hz => (hwl z).2 hz)
  clear hA0 hval0
  refine (walk W x0 m0 g0 z0 x1 m1 g1 z1).mono fun e W' ⟨he, bel⟩ => ?_
  subst he
  exact ⟨_, rfl, _, _, _, [], _, [], hW', (trodAll_cons_mk (shut_bool Try.underlying4 _) trodAll_mk0), (trodAll_cons_mk (Below.trod laidOut (by kernel_rfl) (of_decide_eq_true (by kernel_rfl)) k0 bel lt0) (trodAll_cons_mk (Below.trod laidOut (by kernel_rfl) (of_decide_eq_true (by kernel_rfl)) k1 bel lt1) trodAll_mk0)), rfl, bel.frame _, fun h => by cases h⟩

theorem over : Rows.twiceSameRow.holds Try.pinned (OpenSpec.ofChange Rows.twiceSameSpec) :=
  OpenClaim.holds_of_wide 5 Try.f5 rfl rfl rfl rfl rfl rfl rfl ⟨rfl, rfl, rfl, rfl, rfl⟩ rfl rfl rfl rfl rfl (by kernel_rfl) Try.func5 (by kernel_rfl)
    (of_decide_eq_true (by kernel_rfl)) (by unfold Func.isWrapper; first | (rw [if_pos (by decide +kernel)]; kernel_rfl) | (rw [if_neg (by decide +kernel)]; exact ⟨rfl, rfl⟩))
    (fun os started H enc _ => lifted os started H enc)

/-- The statement. -/
theorem proved : Rows.TwiceSameSaid := over
end Go.Proofs.Ytmgjnjbiljpneaa.twiceSame
namespace Go.Proofs.Ytmgjnjbiljpneaa
theorem twiceSame_holds : Rows.TwiceSameSaid := twiceSame.proved
#print axioms twiceSame_holds
end Go.Proofs.Ytmgjnjbiljpneaa
