/-
  FeesLater holds for every table, row and day: a row from a later day on changes nothing ahead of that day; from it on, as long as no later one is there, it says what a unit costs.
-/
import Derived.WalkKit
import Derived.ProofKit
import Derived.OpenShut
import Derived.ShutString
import Derived.Below
import Derived.Carry
import Derived.LaidMore
import Derived.Stop.Joined
import Derived.SevenTiedAt
import Derived.Deep.DeepCutAuto
import Derived.Test.YtmoldgmfhcmceabGreatDoorRows
import Derived.Test.YtmoldgmfhcmceabGreatDoorTie
import Derived.Test.YtmoldgmfhcmceabGreatDoorCards
import Derived.Test.YtmoldgmfhcmceabGreatDoorMl1
import Derived.Test.YtmoldgmfhcmceabGreatDoorMl2
import Derived.Test.YtmoldgmfhcmceabGreatDoorMl3
import Derived.Test.YtmoldgmfhcmceabGreatDoorMl4
import Derived.Test.YtmoldgmfhcmceabGreatDoorMl5
import Derived.Test.YtmoldgmfhcmceabGreatDoorMl6
import Derived.Test.YtmoldgmfhcmceabGreatDoorMl7
import Derived.Test.YtmoldgmfhcmceabGreatDoorMl8
import Derived.Test.YtmoldgmfhcmceabGreatDoorMl9
import Derived.Test.YtmoldgmfhcmceabGreatDoorMl10
import Derived.Test.YtmoldgmfhcmceabGreatDoorMl11
import Derived.Test.YtmoldgmfhcmceabGreatDoorMl12
import Derived.Test.YtmoldgmfhcmceabGreatDoorMl13
import Derived.Test.YtmoldgmfhcmceabGreatDoorMl14
import Derived.Test.YtmoldgmfhcmceabGreatDoorMl15
import Derived.Test.YtmoldgmfhcmceabGreatDoorMl16
import Derived.Test.YtmoldgmfhcmceabGreatDoorMl17
import Derived.Test.YtmoldgmfhcmceabGreatDoorMl18
import Derived.Test.YtmoldgmfhcmceabGreatDoorMl19
import Derived.Test.YtmoldgmfhcmceabGreatDoorMl20
import Derived.Test.YtmoldgmfhcmceabGreatDoorMl21
import Derived.Test.YtmoldgmfhcmceabGreatDoorMl22
import Derived.Test.YtmoldgmfhcmceabGreatDoorMl23
import Derived.Test.YtmoldgmfhcmceabGreatDoorMl24
import Derived.Test.YtmoldgmfhcmceabGreatDoorMl25
import Derived.Test.YtmoldgmfhcmceabGreatDoorMl26
import Derived.Test.YtmoldgmfhcmceabGreatDoorMl27
import Derived.Test.YtmoldgmfhcmceabGreatDoorMl28
import Derived.Test.YtmoldgmfhcmceabGreatDoorMl29
import Derived.Test.YtmoldgmfhcmceabGreatDoorMl30
import Derived.Test.YtmoldgmfhcmceabGreatDoorMl31
import Derived.Test.YtmoldgmfhcmceabGreatDoorMl32
import Derived.Test.YtmoldgmfhcmceabGreatDoorMl33
import Derived.Test.YtmoldgmfhcmceabGreatDoorMl34
import Derived.Test.YtmoldgmfhcmceabGreatDoorMl35
import Derived.Test.YtmoldgmfhcmceabGreatDoorMl36
import Derived.Test.YtmoldgmfhcmceabGreatDoorMl37
namespace Go.Proofs.YtmoldgmfhcmceabGreatDoor.feesLater
open Go.ChangeShapes Go.WideShapes Go.ChangeAt Go.RowKit
open Fo
open Fe
open Cm (Ln lnv LnOk)
open Wo (Wd WdsAt box_cell box_two keepB heap_far below_alloc below_trans)
open Go.ChangeMaps (open_string)
set_option linter.unusedVariables false
set_option linter.unusedSimpArgs false


theorem own : ownKnob Tryz.prog.godebug = none := by kernel_rfl

/-! ### the walk: the law returns true -/
set_option maxHeartbeats 8000000 in
theorem walk (w : World) (v0 : Value) (l0 : List Fee) (h0 : FesAt All w v0 l0) (n0 : l0.length ≤ 281474976710656) (z0 : ∀ f ∈ l0, FeOk f) (x1 : Fee) (z1 : FeOk x1) (a2 : Int) (w2 : (Lit.int .i64 a2).wf = true) (hT : Nu.Tab w ∧ Da.Tab w) :
    Calls Tryz.prog 3 #[v0, fev x1, .int .i64 a2] w fun e w' => e = .returned (.bool true) ∧ Below w.heap.size w w' := by
  obtain ⟨hN, hD⟩ := hT
  have HWk : Hid (∀ W, Below w.heap.size w W → Calls Tryz.prog 6 #[] W fun e w' => e = .returned (.bool true) ∧ Below W.heap.size W w') := fun W hW => works_any W (Cm.tab_below hD hW) (Nu.tab_grw hN hW)
  have hb0 := below_alloc w (.cells #[.string (mk x1.proc), .string (mk x1.mod), .int .i64 x1.net, .int .i64 x1.frm, .int .i64 x1.cents] 24)
  have HZ := Lib.hid (heap_alloc_new w (.cells #[.string (mk x1.proc), .string (mk x1.mod), .int .i64 x1.net, .int .i64 x1.frm, .int .i64 x1.cents] 24))
  have HB0 := Lib.hid hb0
  have HF := Lib.hid (h0.grw hb0)
  have HLt := Lib.hid (light_any l0 v0 _ (h0.grw hb0) z0 n0)
  have HCk := Lib.hid (rcheck_any l0 v0 _ (h0.grw hb0) z0 n0)
  have HTb : Hid (∀ W, Below w.heap.size w W → Da.Tab W ∧ Nu.Tab W) := fun W hW => ⟨Cm.tab_below hD hW, Nu.tab_grw hN hW⟩
  have HZ0 := Lib.hid z0
  have HN0 := Lib.hid n0
  have HOk := Lib.hid z1
  obtain ⟨⟨o1, o2⟩, -⟩ := z1
  have s1 := mk_size x1.proc
  have s2 := mk_size x1.mod
  obtain ⟨fa, fk, rfl, -, -⟩ := h0.form
  clear h0 z0 n0 hb0 hN hD
  go_enter Tryz.func3, Tryz.ntmps3
  go_upto_region 1 with fail
  generalize w.alloc (.cells #[.string (mk x1.proc), .string (mk x1.mod), .int .i64 x1.net, .int .i64 x1.frm, .int .i64 x1.cents] 24) = W at *
  generalize hp : w.heap.size = p at *
  obtain ⟨c0, c1, c2, c3, c4⟩ := cells5 HZ.out
  go_wp2_with fail
  go_at_call 4
  refine HLt.out.mono ?_
  rintro e w1 ⟨⟨bl, rfl, hbl⟩, rfl⟩
  cases bl with
  | false =>
    clear hbl HCk HLt
    go_wp2_with (go_at_call 6; refine (HWk.out _ HB0.out).mono ?_; rintro e w9 ⟨rfl, hb9⟩; have HB9 := Lib.hid (below_tr hp HB0.out hb9); clear hb9)
    go_ret
    exact ⟨rfl, by first | exact HB9.out | (rw [hp]; exact HB9.out)⟩
  | true =>
    clear hbl HLt
    by_cases h1 : 50 < x1.proc.length
    · have h1z : (50 : Int) < (x1.proc.length : Int) := by omega
      go_wp2_with (go_at_call 6; refine (HWk.out _ HB0.out).mono ?_; rintro e w9 ⟨rfl, hb9⟩; have HB9 := Lib.hid (below_tr hp HB0.out hb9); clear hb9)
      go_ret
      exact ⟨rfl, by first | exact HB9.out | (rw [hp]; exact HB9.out)⟩
    have h1z : ¬ (50 : Int) < (x1.proc.length : Int) := by omega
    by_cases h2 : 50 < x1.mod.length
    · have h2z : (50 : Int) < (x1.mod.length : Int) := by omega
      go_wp2_with (go_at_call 6; refine (HWk.out _ HB0.out).mono ?_; rintro e w9 ⟨rfl, hb9⟩; have HB9 := Lib.hid (below_tr hp HB0.out hb9); clear hb9)
      go_ret
      exact ⟨rfl, by first | exact HB9.out | (rw [hp]; exact HB9.out)⟩
    have h2z : ¬ (50 : Int) < (x1.mod.length : Int) := by omega
    go_wp2_with fail
    go_at_call 5
    refine HCk.out.mono ?_
    rintro e w2 ⟨rfl, hb2⟩
    have HB2 := Lib.hid (below_tr hp HB0.out hb2)
    have HZ2 := Lib.hid (keepB HZ.out hb2)
    have HF2 := Lib.hid (HF.out.grw hb2)
    clear hb2 c0 c1 c2 c3 c4 HCk HZ HF HB0 h1 h2 s1 s2 o1 o2
    obtain ⟨c0, c1, c2, c3, c4⟩ := cells5 HZ2.out
    obtain ⟨ce, HCE⟩ : ∃ z, Hid (checkE l0 = z) := ⟨_, rfl⟩
    rw [HCE.out]
    by_cases hce : ce = 0
    rotate_left
    · have q1 : (ce != 0) = true := by simpa using hce
      clear hce
      go_wp2_with (go_at_call 6; refine (HWk.out _ HB2.out).mono ?_; rintro e w9 ⟨rfl, hb9⟩; have HB9 := Lib.hid (below_tr hp HB2.out hb9); clear hb9)
      go_ret
      exact ⟨rfl, by first | exact HB9.out | (rw [hp]; exact HB9.out)⟩
    have q1 : (ce != 0) = false := by rw [hce]; rfl
    have HE0 : Hid (checkE l0 = 0) := HCE.out.trans hce
    have HU : Hid (Up l0) := (check_facts HE0.out).2.2
    have HPr := Lib.hid (print_any l0 _ w2 HF2.out HZ0.out HN0.out (HTb.out w2 HB2.out).1 (HTb.out w2 HB2.out).2)
    rw [HE0.out] at HPr
    obtain ⟨P0, HP0⟩ : ∃ z : ByteArray, Hid (mk (prV l0) = z) := ⟨mk (prV l0), (rfl : mk (prV l0) = mk (prV l0))⟩
    rw [HP0.out] at HPr
    clear hce HCE
    go_wp2_with fail
    go_at_call 7
    refine HPr.out.mono ?_
    rintro e w3 ⟨rfl, hb3⟩
    have HB3 := Lib.hid (below_tr hp HB2.out hb3)
    have HZ3 := Lib.hid (keepB HZ2.out hb3)
    have HF3 := Lib.hid (HF2.out.grw hb3)
    clear hb3 c0 c1 c2 c3 c4 HPr HZ2 HF2 HB2
    obtain ⟨c0, c1, c2, c3, c4⟩ := cells5 HZ3.out
    have hb4 := below_alloc w3 (.cells #[.string (mk x1.proc), .string (mk x1.mod), .int .i64 x1.net, .int .i64 x1.frm, .int .i64 x1.cents] 24)
    have HPr1 := Lib.hid (print_any [x1] (.slice (some ⟨w3.heap.size, 0, none⟩) 1 1) (w3.alloc (.cells #[.string (mk x1.proc), .string (mk x1.mod), .int .i64 x1.net, .int .i64 x1.frm, .int .i64 x1.cents] 24)) (fes_one (heap_alloc_new w3 (.cells #[.string (mk x1.proc), .string (mk x1.mod), .int .i64 x1.net, .int .i64 x1.frm, .int .i64 x1.cents] 24))) (by intro f hf; rw [List.mem_singleton] at hf; rw [hf]; exact HOk.out) (by simp) (HTb.out _ (below_tr hp HB3.out hb4)).1 (HTb.out _ (below_tr hp HB3.out hb4)).2)
    have HB4 := Lib.hid hb4
    clear hb4
    obtain ⟨P1, HP1⟩ : ∃ z : ByteArray, Hid (mk (prV [x1]) = z) := ⟨mk (prV [x1]), (rfl : mk (prV [x1]) = mk (prV [x1]))⟩
    obtain ⟨ge, HGE⟩ : ∃ z, Hid (checkE [x1] = z) := ⟨checkE [x1], (rfl : checkE [x1] = checkE [x1])⟩
    rw [HP1.out, HGE.out] at HPr1
    have y0 : P0.size ≤ 25600 := by rw [← HP0.out, mk_size]; exact prV_size l0
    have y1 : P1.size ≤ 25600 := by rw [← HP1.out, mk_size]; exact prV_size [x1]
    have y2 : (P0 ++ (⟨#[32]⟩ : ByteArray)).size = P0.size + 1 := by rw [ByteArray.size_append]; rfl
    have y3 : (P0 ++ (⟨#[32]⟩ : ByteArray) ++ P1).size = P0.size + 1 + P1.size := by rw [ByteArray.size_append, y2]
    have HCat : Hid ((P0 ++ (⟨#[32]⟩ : ByteArray) ++ P1).data.toList = prV l0 ++ 32 :: prV [x1]) := by
      show _ = _
      rw [Wo.mk_cat3, ← HP0.out, ← HP1.out, mk_list, mk_list]
      simp
    have HPa := Lib.hid fun W' (hW : Below p w W') => parse_ex (P0 ++ ⟨#[32]⟩ ++ P1) W' (by rw [y3]; unfold maxLen; omega) (HTb.out W' hW).1
    go_wp2_with fail
    go_at_call 7
    refine HPr1.out.mono ?_
    rintro e w5 ⟨rfl, hb5⟩
    have hb45 := below_trans HB4.out hb5
    have HB5 := Lib.hid (below_tr hp HB3.out hb45)
    have HZ5 := Lib.hid (keepB HZ3.out hb45)
    have HF5 := Lib.hid (HF3.out.grw hb45)
    clear hb5 hb45 c0 c1 c2 c3 c4 HPr1 HZ3 HF3 HB3 HB4 HP0 HP1
    obtain ⟨c0, c1, c2, c3, c4⟩ := cells5 HZ5.out
    go_wp2_with fail
    go_at_call 8
    refine (HPa.out w5 HB5.out).mono ?_
    rintro e w6 ⟨⟨ma, mn, mc, E, A, rfl, hm⟩, hb6⟩
    have hb7 := below_alloc w6 (.cells #[.int .i64 E, .int .i64 A] 32)
    have HB7 := Lib.hid (below_tr hp HB5.out (below_trans hb6 hb7))
    have HZ7 := Lib.hid (keepB HZ5.out (below_trans hb6 hb7))
    have HF7 := Lib.hid (HF5.out.grw (below_trans hb6 hb7))
    have HG7 := Lib.hid (heap_alloc_new w6 (.cells #[.int .i64 E, .int .i64 A] 32))
    have HM7 : Hid (E = 0 → ∃ m, mn = m.length ∧ paR (prV l0 ++ 32 :: prV [x1]) = .ok m ∧ FesAt All (w6.alloc (.cells #[.int .i64 E, .int .i64 A] 32)) (.slice ma m.length mc) m) := fun h => by
      obtain ⟨m, k1, k2, k3⟩ := hm h
      rw [HCat.out] at k2
      exact ⟨m, k1, k2, k3.grw hb7⟩
    clear hm hb6 hb7 c0 c1 c2 c3 c4 HPa HZ5 HF5 HB5 HCat y0 y1 y2 y3
    go_upto_region 8 with fail
    generalize w6.alloc (.cells #[.int .i64 E, .int .i64 A] 32) = w7 at *
    generalize w6.heap.size = b6 at *
    obtain ⟨f0, f1, -, -⟩ := box_two HG7.out
    obtain ⟨c0, c1, c2, c3, c4⟩ := cells5 HZ7.out
    by_cases hge : ge = 0
    rotate_left
    · have q2 : (ge != 0) = true := by simpa using hge
      clear hge
      go_wp2_with (go_at_call 6; refine (HWk.out _ HB7.out).mono ?_; rintro e w9 ⟨rfl, hb9⟩; have HB9 := Lib.hid (below_tr hp HB7.out hb9); clear hb9)
      go_ret
      exact ⟨rfl, by first | exact HB9.out | (rw [hp]; exact HB9.out)⟩
    have q2 : (ge != 0) = false := by rw [hge]; rfl
    by_cases hE : E = 0
    rotate_left
    · have q3 : (E != 0) = true := by simpa using hE
      clear hge hE
      go_wp2_with (go_at_call 6; refine (HWk.out _ HB7.out).mono ?_; rintro e w9 ⟨rfl, hb9⟩; have HB9 := Lib.hid (below_tr hp HB7.out hb9); clear hb9)
      go_ret
      exact ⟨rfl, by first | exact HB9.out | (rw [hp]; exact HB9.out)⟩
    have q3 : (E != 0) = false := by rw [hE]; rfl
    obtain ⟨m, rfl, hpa, hfm⟩ := HM7.out hE
    obtain ⟨hm, hml, hmu, hap⟩ := par_later HE0.out (HGE.out.trans hge) hpa
    have HFm := Lib.hid hfm
    have HL1 := Lib.hid fun W' (hW : Below w7.heap.size w7 W') => look_any l0 ⟨x1.proc, x1.mod, x1.net, a2⟩ _ W' (HF7.out.grw hW) HN0.out HU.out
    have HL2 := Lib.hid fun W' (hW : Below w7.heap.size w7 W') => look_any m ⟨x1.proc, x1.mod, x1.net, a2⟩ _ W' (HFm.out.grw hW) (by omega) hmu
    have HL3 := Lib.hid fun W' (hW : Below w7.heap.size w7 W') => look_any m ⟨x1.proc, x1.mod, x1.net, x1.frm⟩ _ W' (HFm.out.grw hW) (by omega) hmu
    have HW7 := Lib.hid (Below.refl w7.heap.size w7)
    by_cases hday : a2 < x1.frm
    · obtain ⟨r1, r2⟩ := later_ahead a2 hm hap hday
      rw [r1, r2] at HL2
      clear hm hml hmu hap hge hE hpa hfm r1 r2 HL3 HM7 HE0
      generalize lookV ⟨x1.proc, x1.mod, x1.net, a2⟩ l0 = LV at *
      generalize lookB ⟨x1.proc, x1.mod, x1.net, a2⟩ l0 = LB at *
      go_wp2_with fail
      go_at_call 9
      refine (HL1.out w7 HW7.out).mono ?_
      rintro e w8 ⟨rfl, hb8⟩
      have HW8 := Lib.hid (below_trans HW7.out hb8)
      clear hb8 c0 c1 c2 c3 c4 HL1
      obtain ⟨c0, c1, c2, c3, c4⟩ := cells5 (keepB HZ7.out HW8.out)
      go_wp2_with fail
      go_at_call 9
      refine (HL2.out w8 HW8.out).mono ?_
      rintro e w10 ⟨rfl, hb10⟩
      have HW10 := Lib.hid (below_trans HW8.out hb10)
      clear hb10 c0 c1 c2 c3 c4 HL2
      obtain ⟨c0, c1, c2, c3, c4⟩ := cells5 (keepB HZ7.out HW10.out)
      have HBE := Lib.hid (below_tr hp HB7.out HW10.out)
      go_wp2_with (go_at_call 6; refine (HWk.out _ HBE.out).mono ?_; rintro e w9 ⟨rfl, hb9⟩; have HB9 := Lib.hid (below_tr hp HBE.out hb9); clear hb9)
      go_ret
      exact ⟨rfl, by first | exact HB9.out | (rw [hp]; exact HB9.out)⟩
    · obtain ⟨r1, r2, r3⟩ := later_there a2 hm hap hday
      rw [r1] at HL2
      rw [r2, r3] at HL3
      clear hm hml hmu hap hge hE hpa hfm r1 r2 r3 HM7 HE0
      generalize lookV ⟨x1.proc, x1.mod, x1.net, a2⟩ l0 = LV at *
      generalize lookB ⟨x1.proc, x1.mod, x1.net, a2⟩ l0 = LB at *
      generalize lookV ⟨x1.proc, x1.mod, x1.net, a2⟩ m = MV at *
      go_wp2_with fail
      go_at_call 9
      refine (HL1.out w7 HW7.out).mono ?_
      rintro e w8 ⟨rfl, hb8⟩
      have HW8 := Lib.hid (below_trans HW7.out hb8)
      clear hb8 c0 c1 c2 c3 c4 HL1
      obtain ⟨c0, c1, c2, c3, c4⟩ := cells5 (keepB HZ7.out HW8.out)
      go_wp2_with fail
      go_at_call 9
      refine (HL2.out w8 HW8.out).mono ?_
      rintro e w10 ⟨rfl, hb10⟩
      have HW10 := Lib.hid (below_trans HW8.out hb10)
      clear hb10 c0 c1 c2 c3 c4 HL2
      obtain ⟨c0, c1, c2, c3, c4⟩ := cells5 (keepB HZ7.out HW10.out)
      go_wp2_with fail
      go_at_call 9
      refine (HL3.out w10 HW10.out).mono ?_
      rintro e w11 ⟨rfl, hb11⟩
      have HW11 := Lib.hid (below_trans HW10.out hb11)
      clear hb11 c0 c1 c2 c3 c4 HL3
      obtain ⟨c0, c1, c2, c3, c4⟩ := cells5 (keepB HZ7.out HW11.out)
      have HBE := Lib.hid (below_tr hp HB7.out HW11.out)
      go_wp2_with (go_at_call 6; refine (HWk.out _ HBE.out).mono ?_; rintro e w9 ⟨rfl, hb9⟩; have HB9 := Lib.hid (below_tr hp HBE.out hb9); clear hb9)
      go_ret
      exact ⟨rfl, by first | exact HB9.out | (rw [hp]; exact HB9.out)⟩

/-! ### the row's step -/
theorem laidOut : laidOutB Tryz.prog = true := by kernel_rfl
set_option maxRecDepth 100000 in
theorem lifted (os : Os) (started : os.Started) (H : Type) (enc : TypeId × Value → H) :
    ReturnsInHanded {} Tryz.checked os 3 .any (fun w args => (Rows.feesLaterSpec.pre enc Tryz.prog Tryz.f3 [] false w args ∧ laidMetH Tryz.prog laidL w) ∧ sizedMet enc Tryz.prog Tryz.f3 (OpenSpec.ofChange Rows.feesLaterSpec) false w args) (Rows.feesLaterSpec.post enc Tryz.prog Tryz.f3 false true false false) := by
  refine lift own started (by kernel_rfl) Tryz.func3
    (ChangeSpec.witness_shaped (enc := enc) (C := Tryz.checked) (os := os) (X := fun w _ => laidMetH Tryz.prog laidL w) false (World.laidAll Tryz.prog os laidL) #[.slice none 0 0, .agg #[.string ByteArray.empty, .string ByteArray.empty, .int .i64 0, .int .i64 0, .int .i64 0], .int .i64 0] 8 (World.laidAll_os _ _ _)
      (World.shaped_of_ZipB (by kernel_rfl) (by kernel_rfl)) (by kernel_rfl) (by kernel_rfl) (by kernel_rfl)
      (by rw [MakeChecks.laidMetH_plain _ _ _ (by kernel_rfl)]; exact laidMet_laidAll _ (by kernel_rfl) (by kernel_rfl))) ?_
  intro W base args ds gs before hval0 hW hwt hT
  have hval : ∀ (j : Nat) t v, Tryz.f3.params[j]? = some t → args[j]? = some v → Value.okWide Tryz.prog W .any base t v := hval0
  have hW' := hW
  obtain ⟨p, q, hA0, hV, rfl, hfz, hnd⟩ := hW
  have hA : DataW.TrodAll enc Tryz.prog W 0 (fun _ => true) true Tryz.f3.params.toList args.toList ds p := hA0
  rw [Tryz.params3] at hA hval hwt
  obtain ⟨v0, vs0, d0, ds0, p0, q0, hargs, rfl, rfl, h0, r0⟩ := trodAll_cons hA
  obtain ⟨v1, vs1, d1, ds1, p1, q1, rfl, rfl, rfl, h1, r1⟩ := trodAll_cons r0
  obtain ⟨v2, vs2, d2, ds2, p2, q2, rfl, rfl, rfl, h2, r2⟩ := trodAll_cons r1
  obtain ⟨rfl, rfl, rfl⟩ := trodAll_nil r2
  obtain rfl : args = #[v0, v1, v2] := by cases args; simp_all
  obtain ⟨rfl, rfl⟩ := trodVars_none hV
  have hwl : ∀ z, (z ∈ d0.weights Tryz.prog 22 → z ≤ reachBytes) ∧ (z ∈ d1.weights Tryz.prog 24 → z ≤ reachBytes) ∧ (z ∈ d2.weights Tryz.prog 3 → z ≤ reachBytes) := fun z => by
    have h := List.all_eq_true.1 hwt z
    simp only [decide_eq_true_eq] at h
    refine ⟨fun hz => h ?_, fun hz => h ?_, fun hz => h ?_⟩
    all_goals
      simp only [List.cons_append, List.nil_append, List.toList_toArray, List.append_nil, DataW.weightsEach, List.mem_append]
      simp [hz]
  have k0 := h0
  have lt0 : ∀ x ∈ p0, x.block < W.heap.size := by obtain ⟨m, hm⟩ := k0; exact DataW.trod_lt m _ _ _ hm
  obtain ⟨l0, g0, n0, z0⟩ := open_fees (okWide_slice Tryz.underlying22 (hval 0 22 v0 rfl rfl)) h0 (fun z hz => (hwl z).1 hz)
  have k1 := h1
  have lt1 : ∀ x ∈ p1, x.block < W.heap.size := by obtain ⟨m, hm⟩ := k1; exact DataW.trod_lt m _ _ _ hm
  obtain ⟨x1, rfl, z1⟩ := open_fee (hval 1 24 v1 rfl rfl) h1 (fun z hz => (hwl z).2.1 hz)
  have k2 := h2
  have lt2 : ∀ x ∈ p2, x.block < W.heap.size := by obtain ⟨m, hm⟩ := k2; exact DataW.trod_lt m _ _ _ hm
  obtain ⟨a2, rfl, _, _, w2⟩ := open_int Tryz.underlying3 (hval 2 3 v2 rfl rfl) h2
  clear hA0 hval0
  refine (walk W v0 l0 g0 n0 z0 x1 z1 a2 w2 hT).mono fun e W' ⟨he, bel⟩ => ?_
  subst he
  exact ⟨_, rfl, _, _, _, [], _, [], hW', (trodAll_cons_mk (shut_bool Tryz.underlying4 _) trodAll_mk0), (trodAll_cons_mk (Below.trod laidOut (by kernel_rfl) (of_decide_eq_true (by kernel_rfl)) k0 bel lt0) (trodAll_cons_mk (Below.trod laidOut (by kernel_rfl) (of_decide_eq_true (by kernel_rfl)) k1 bel lt1) (trodAll_cons_mk (Below.trod laidOut (by kernel_rfl) (of_decide_eq_true (by kernel_rfl)) k2 bel lt2) trodAll_mk0))), rfl, bel.frame _, fun h => by cases h⟩

theorem over : Rows.feesLaterRow.holds Tryz.pinned (OpenSpec.ofChange Rows.feesLaterSpec) :=
  OpenClaim.holds_of_wide 3 Tryz.f3 rfl rfl rfl rfl rfl rfl rfl ⟨rfl, rfl, rfl, rfl, rfl⟩ rfl rfl rfl rfl rfl (by kernel_rfl) Tryz.func3 (by kernel_rfl)
    (of_decide_eq_true (by kernel_rfl)) (by unfold Func.isWrapper; first | (rw [if_pos (by decide +kernel)]; kernel_rfl) | (rw [if_neg (by decide +kernel)]; exact ⟨rfl, rfl⟩))
    (fun os started H enc _ => lifted os started H enc)

/-- The row's statement. -/
theorem proved : Rows.FeesLaterSaid := over
end Go.Proofs.YtmoldgmfhcmceabGreatDoor.feesLater
namespace Go.Proofs.YtmoldgmfhcmceabGreatDoor
theorem feesLater_holds : Rows.FeesLaterCardSaid :=
  Claim7.holds_tied_plain_at .later [] [.data, .data, .data, .data] true (true, "64063d37844db1196f552e21807d89b0da64ae643f6624f82837d4a8f2ed6266") false
    feesLater.proved (fun _ h => by cases h) (by kernel_rfl) (fun _ h => by cases h) feesLater_row_tie rfl ⟨rfl, rfl⟩ (by kernel_rfl) rfl
    (fun f fn hf hfn => by
      obtain rfl : f = 3 := Option.some.inj ((show Tryz.prog.funcNamed "leechbook/leechbooklaw12.FeesLater" = some 3 by kernel_rfl).symm.trans hf) |>.symm
      obtain rfl : fn = Tryz.f3 := (Option.some.inj (Tryz.func3.symm.trans hfn)).symm
      exact ⟨by kernel_rfl, fun j t ht => by
        rw [Tryz.params3] at ht
        have hm : t ∈ [22, 24, 3] := by simpa using Array.mem_of_getElem? ht
        have hall : ([22, 24, 3].all fun u => !Tryz.prog.wantsStandIn u) = true := by kernel_rfl
        exact (show Tryz.prog.wantsStandIn t = false by simpa using List.all_eq_true.1 hall t hm)⟩)
    (by kernel_rfl)
#print axioms feesLater_holds
end Go.Proofs.YtmoldgmfhcmceabGreatDoor
