/-
  ShareOthers holds for all numbers: what another payer paid lessens what the plan and the member bear together, the plan's part last.
-/
import Derived.Test.YtgbfckjmbmmgpaaRows
import Derived.WalkKit
import Derived.ProofKit
import Derived.OpenShut
import Derived.Below
import Derived.Carry
import Derived.Laws.Cover2
import Derived.Test.YtgbfckjmbmmgpaaHWorks
import Derived.Test.YtgbfckjmbmmgpaaRInv
import Derived.Test.YtgbfckjmbmmgpaaHOpen
namespace Go.Proofs.Ytgbfckjmbmmgpaa.shareOthers
open Go.ChangeShapes Go.WideShapes Go.ChangeAt Go.RowKit
open Sh
set_option linter.unusedVariables false
set_option linter.unusedSimpArgs false
set_option maxRecDepth 100000

theorem own : ownKnob Try.prog.godebug = none := by kernel_rfl

/-! ### the walk: the law returns true -/
set_option maxHeartbeats 16000000 in
theorem walk (w : World) (x00 x01 x02 x03 x04 x05 : Int) :
    Calls Try.prog 7 #[.agg #[.int .i64 x00, .int .i64 x01, .int .i64 x02, .int .i64 x03, .int .i64 x04, .int .i64 x05]] w fun e w' => e = .returned (.bool true) ∧ Below w.heap.size w w' := by
  have H1 := Lib.hid (settle_any x00 x01 x02 x03 x04 x05)
  have H2 := Lib.hid (settle_any x00 x01 0 x03 x04 x05)
  have hS := set_all x00 x01 x02 x03 x04 x05
  generalize setV x00 x01 x02 x03 x04 x05 = O at *
  generalize setE x00 x01 x02 x03 x04 x05 = E at *
  generalize setV x00 x01 0 x03 x04 x05 = Q at *
  generalize setE x00 x01 0 x03 x04 x05 = G at *
  by_cases he : E = 0
  · by_cases hg : G = 0
    · obtain ⟨M, N, HM1, HM2, hr, hpl, hmm, hX, b1, b2, b3, b4, b5, b6, b7, b8, b9⟩ := hS he hg
      subst he hg
      clear hS
      by_cases hl : x01 - x02 < 0
      · rw [if_pos hl] at hr
        have hr' : (O.plan + M != 0) = false := by rw [hr]; rfl
        have u1 : IntKind.i64.wrap (O.plan + M) = 0 := by rw [hr]; rfl
        clear hr
        by_cases hs : O.plan = Q.plan
        · have hs' : (O.plan == Q.plan) = true := by simpa using hs
          clear hs hX
          have HX0 := Lib.hid (alloc_new w #[.int .i64 x00, .int .i64 x01, .int .i64 x02, .int .i64 x03, .int .i64 x04, .int .i64 x05] 29)
          have HB0 := Lib.hid (below_alloc w (.cells #[.int .i64 x00, .int .i64 x01, .int .i64 x02, .int .i64 x03, .int .i64 x04, .int .i64 x05] 29))
          go_enter Try.func7, Try.ntmps7
          go_upto_region 1 with fail
          generalize w.alloc (.cells #[.int .i64 x00, .int .i64 x01, .int .i64 x02, .int .i64 x03, .int .i64 x04, .int .i64 x05] 29) = w0 at *
          generalize hp : w.heap.size = p at *
          have HP0 : Hid (p ≤ w0.heap.size) := Nat.le_of_lt (lt_of_block HX0.out)
          obtain ⟨s0, s1, s2, s3, s4, s5⟩ := bsix HX0.out
          go_wp2_with fail
          go_at_call 12
          refine (H1.out _).mono ?_
          rintro e w1 ⟨rfl, hb⟩
          have HX1 := Lib.hid (keepB HX0.out hb)
          have HB1 := Lib.hid (below_on HB0.out hb HP0.out)
          have HP1 : Hid (p ≤ w1.heap.size) := Nat.le_of_lt (lt_of_block HX1.out)
          clear hb
          clear s0 s1 s2 s3 s4 s5
          obtain ⟨s0, s1, s2, s3, s4, s5⟩ := bsix HX1.out
          have HX2 := Lib.hid (keepB HX1.out (below_alloc w1 (.cells #[.int .i64 O.al, .int .i64 O.de, .int .i64 O.cp, .int .i64 O.cn, .int .i64 O.plan, .int .i64 O.wr, .int .i64 O.pr, .int .i64 O.deny] 31)))
          have HB2 := Lib.hid (below_on HB1.out (below_alloc w1 (.cells #[.int .i64 O.al, .int .i64 O.de, .int .i64 O.cp, .int .i64 O.cn, .int .i64 O.plan, .int .i64 O.wr, .int .i64 O.pr, .int .i64 O.deny] 31)) HP1.out)
          have HOq1 := Lib.hid (alloc_new w1 #[.int .i64 O.al, .int .i64 O.de, .int .i64 O.cp, .int .i64 O.cn, .int .i64 O.plan, .int .i64 O.wr, .int .i64 O.pr, .int .i64 O.deny] 31)
          go_upto_region 2 with fail
          generalize w1.alloc (.cells #[.int .i64 O.al, .int .i64 O.de, .int .i64 O.cp, .int .i64 O.cn, .int .i64 O.plan, .int .i64 O.wr, .int .i64 O.pr, .int .i64 O.deny] 31) = w2 at *
          generalize w1.heap.size = q1 at *
          have HP2 : Hid (p ≤ w2.heap.size) := Nat.le_of_lt (lt_of_block HX2.out)
          clear s0 s1 s2 s3 s4 s5
          obtain ⟨s0, s1, s2, s3, s4, s5⟩ := bsix HX2.out
          go_wp2_with fail
          go_at_call 12
          refine (H2.out _).mono ?_
          rintro e w3 ⟨rfl, hb⟩
          have HX3 := Lib.hid (keepB HX2.out hb)
          have HB3 := Lib.hid (below_on HB2.out hb HP2.out)
          have HP3 : Hid (p ≤ w3.heap.size) := Nat.le_of_lt (lt_of_block HX3.out)
          have HOq1_ := Lib.hid (keepB HOq1.out hb)
          clear HOq1
          have HOq1 := HOq1_
          clear HOq1_
          clear hb
          clear s0 s1 s2 s3 s4 s5
          obtain ⟨s0, s1, s2, s3, s4, s5⟩ := bsix HX3.out
          have HX4 := Lib.hid (keepB HX3.out (below_alloc w3 (.cells #[.int .i64 Q.al, .int .i64 Q.de, .int .i64 Q.cp, .int .i64 Q.cn, .int .i64 Q.plan, .int .i64 Q.wr, .int .i64 Q.pr, .int .i64 Q.deny] 31)))
          have HB4 := Lib.hid (below_on HB3.out (below_alloc w3 (.cells #[.int .i64 Q.al, .int .i64 Q.de, .int .i64 Q.cp, .int .i64 Q.cn, .int .i64 Q.plan, .int .i64 Q.wr, .int .i64 Q.pr, .int .i64 Q.deny] 31)) HP3.out)
          have HOq2 := Lib.hid (alloc_new w3 #[.int .i64 Q.al, .int .i64 Q.de, .int .i64 Q.cp, .int .i64 Q.cn, .int .i64 Q.plan, .int .i64 Q.wr, .int .i64 Q.pr, .int .i64 Q.deny] 31)
          have HOq1_ := Lib.hid (keepB HOq1.out (below_alloc w3 (.cells #[.int .i64 Q.al, .int .i64 Q.de, .int .i64 Q.cp, .int .i64 Q.cn, .int .i64 Q.plan, .int .i64 Q.wr, .int .i64 Q.pr, .int .i64 Q.deny] 31)))
          clear HOq1
          have HOq1 := HOq1_
          clear HOq1_
          go_upto_region 3 with fail
          generalize w3.alloc (.cells #[.int .i64 Q.al, .int .i64 Q.de, .int .i64 Q.cp, .int .i64 Q.cn, .int .i64 Q.plan, .int .i64 Q.wr, .int .i64 Q.pr, .int .i64 Q.deny] 31) = w4 at *
          generalize w3.heap.size = q2 at *
          have HP4 : Hid (p ≤ w4.heap.size) := Nat.le_of_lt (lt_of_block HX4.out)
          clear s0 s1 s2 s3 s4 s5
          obtain ⟨s0, s1, s2, s3, s4, s5⟩ := bsix HX4.out
          go_upto_region 8 with fail
          clear s0 s1 s2 s3 s4 s5
          have HD4 := Lib.hid (Below.drew (Below.refl w4.heap.size w4))
          refine Ri.wp_region_lasting (by kernel_rfl) (by kernel_rfl) (by kernel_rfl) (fun Wx => Below w4.heap.size w4 Wx) (fun kz vs wz => (fun kx vx wx => match kx with | 0 => vx = .pointer (some ⟨q1, 4, none⟩) | 1 => vx = .int .i64 (O.plan) | 2 => vx = .agg #[.int .i64 O.al, .int .i64 O.de, .int .i64 O.cp, .int .i64 O.cn, .int .i64 O.plan, .int .i64 O.wr, .int .i64 O.pr, .int .i64 O.deny] | 3 => vx = .int .i64 (M) | 4 => vx = .int .i64 (0) | 5 => vx = .int .i64 (0) | 6 => vx = .bool false | _ => True : Nat → Value → World → Prop) kz (vs kz) wz) (fun kz => [kz]) (by kernel_rfl) (fun jz vs iz vz wz hiz hz => Ri.loc_own (F := (fun kx vx wx => match kx with | 0 => vx = .pointer (some ⟨q1, 4, none⟩) | 1 => vx = .int .i64 (O.plan) | 2 => vx = .agg #[.int .i64 O.al, .int .i64 O.de, .int .i64 O.cp, .int .i64 O.cn, .int .i64 O.plan, .int .i64 O.wr, .int .i64 O.pr, .int .i64 O.deny] | 3 => vx = .int .i64 (M) | 4 => vx = .int .i64 (0) | 5 => vx = .int .i64 (0) | 6 => vx = .bool false | _ => True : Nat → Value → World → Prop)) jz vs iz vz wz hiz hz) HD4.out ⟨⟨rfl, ?_⟩, ⟨rfl, ?_⟩, ⟨rfl, ?_⟩, ⟨rfl, ?_⟩, ⟨rfl, ?_⟩, ⟨rfl, ?_⟩, ⟨rfl, ?_⟩, trivial⟩ ?_
          · intro vs Wx A hA hB hpre K hK
            have e3 := (hA 3).trans (show _ = Value.pointer (some ⟨q1, 0, none⟩) by kernel_rfl)
            clear hA hpre
            go_simp
            first | exact hK _ _ hB rfl (fun _ _ h => h) | exact hK _ _ hB trivial (fun _ _ h => h) | (rw [if_neg (by omega)]; go_simp; exact hK _ _ hB rfl (fun _ _ h => h))
          · intro vs Wx A hA hB hpre K hK
            have e52 := ((hA 52).trans (show _ = vs 0 by kernel_rfl)).trans (by first | exact hpre.1 rfl | exact hpre.2.1 rfl | exact hpre.2.2.1 rfl | exact hpre.2.2.2.1 rfl | exact hpre.2.2.2.2.1 rfl | exact hpre.2.2.2.2.2.1 rfl | exact hpre.2.2.2.2.2.2.1 rfl | exact hpre.2.2.2.2.2.2.2.1 rfl | exact hpre.2.2.2.2.2.2.2.2.1 rfl | exact hpre.2.2.2.2.2.2.2.2.2.1 rfl)
            obtain ⟨d0, d1, d2, d3, d4, d5, d6, d7⟩ := eight (keepB (w := w4) HOq1.out hB)
            obtain ⟨e0, e1, e2, e3, e4, e5, e6, e7⟩ := eight (keepB (w := w4) HOq2.out hB)
            clear hA hpre
            go_simp
            first | exact hK _ _ hB rfl (fun _ _ h => h) | exact hK _ _ hB trivial (fun _ _ h => h) | (rw [if_neg (by omega)]; go_simp; exact hK _ _ hB rfl (fun _ _ h => h))
          · intro vs Wx A hA hB hpre K hK
            have e3 := (hA 3).trans (show _ = Value.pointer (some ⟨q1, 0, none⟩) by kernel_rfl)
            obtain ⟨d0, d1, d2, d3, d4, d5, d6, d7⟩ := eight (keepB (w := w4) HOq1.out hB)
            obtain ⟨e0, e1, e2, e3, e4, e5, e6, e7⟩ := eight (keepB (w := w4) HOq2.out hB)
            clear hA hpre
            go_simp
            first | exact hK _ _ hB rfl (fun _ _ h => h) | exact hK _ _ hB trivial (fun _ _ h => h) | (rw [if_neg (by omega)]; go_simp; exact hK _ _ hB rfl (fun _ _ h => h))
          · intro vs Wx A hA hB hpre K hK
            have e54 := ((hA 54).trans (show _ = vs 2 by kernel_rfl)).trans (by first | exact hpre.1 rfl | exact hpre.2.1 rfl | exact hpre.2.2.1 rfl | exact hpre.2.2.2.1 rfl | exact hpre.2.2.2.2.1 rfl | exact hpre.2.2.2.2.2.1 rfl | exact hpre.2.2.2.2.2.2.1 rfl | exact hpre.2.2.2.2.2.2.2.1 rfl | exact hpre.2.2.2.2.2.2.2.2.1 rfl | exact hpre.2.2.2.2.2.2.2.2.2.1 rfl)
            clear hA hpre
            go_simp
            go_at_call 17
            refine (HM1.out _).mono ?_
            rintro e w9 ⟨rfl, hb9⟩
            exact hK _ _ (below_trans hB hb9) rfl (fun _ _ h => h)
          · intro vs Wx A hA hB hpre K hK
            have e53 := ((hA 53).trans (show _ = vs 1 by kernel_rfl)).trans (by first | exact hpre.1 rfl | exact hpre.2.1 rfl | exact hpre.2.2.1 rfl | exact hpre.2.2.2.1 rfl | exact hpre.2.2.2.2.1 rfl | exact hpre.2.2.2.2.2.1 rfl | exact hpre.2.2.2.2.2.2.1 rfl | exact hpre.2.2.2.2.2.2.2.1 rfl | exact hpre.2.2.2.2.2.2.2.2.1 rfl | exact hpre.2.2.2.2.2.2.2.2.2.1 rfl)
            have e55 := ((hA 55).trans (show _ = vs 3 by kernel_rfl)).trans (by first | exact hpre.1 rfl | exact hpre.2.1 rfl | exact hpre.2.2.1 rfl | exact hpre.2.2.2.1 rfl | exact hpre.2.2.2.2.1 rfl | exact hpre.2.2.2.2.2.1 rfl | exact hpre.2.2.2.2.2.2.1 rfl | exact hpre.2.2.2.2.2.2.2.1 rfl | exact hpre.2.2.2.2.2.2.2.2.1 rfl | exact hpre.2.2.2.2.2.2.2.2.2.1 rfl)
            clear hA hpre
            go_simp
            first | exact hK _ _ hB rfl (fun _ _ h => h) | exact hK _ _ hB trivial (fun _ _ h => h) | (rw [if_neg (by omega)]; go_simp; exact hK _ _ hB rfl (fun _ _ h => h))
          · intro vs Wx A hA hB hpre K hK
            have e7 := (hA 7).trans (show _ = Value.int .i64 (0) by kernel_rfl)
            clear hA hpre
            go_simp
            first | exact hK _ _ hB rfl (fun _ _ h => h) | exact hK _ _ hB trivial (fun _ _ h => h) | (rw [if_neg (by omega)]; go_simp; exact hK _ _ hB rfl (fun _ _ h => h))
          · intro vs Wx A hA hB hpre K hK
            have e56 := ((hA 56).trans (show _ = vs 4 by kernel_rfl)).trans (by first | exact hpre.1 rfl | exact hpre.2.1 rfl | exact hpre.2.2.1 rfl | exact hpre.2.2.2.1 rfl | exact hpre.2.2.2.2.1 rfl | exact hpre.2.2.2.2.2.1 rfl | exact hpre.2.2.2.2.2.2.1 rfl | exact hpre.2.2.2.2.2.2.2.1 rfl | exact hpre.2.2.2.2.2.2.2.2.1 rfl | exact hpre.2.2.2.2.2.2.2.2.2.1 rfl)
            have e57 := ((hA 57).trans (show _ = vs 5 by kernel_rfl)).trans (by first | exact hpre.1 rfl | exact hpre.2.1 rfl | exact hpre.2.2.1 rfl | exact hpre.2.2.2.1 rfl | exact hpre.2.2.2.2.1 rfl | exact hpre.2.2.2.2.2.1 rfl | exact hpre.2.2.2.2.2.2.1 rfl | exact hpre.2.2.2.2.2.2.2.1 rfl | exact hpre.2.2.2.2.2.2.2.2.1 rfl | exact hpre.2.2.2.2.2.2.2.2.2.1 rfl)
            clear hA hpre
            go_simp
            first | exact hK _ _ hB rfl (fun _ _ h => h) | exact hK _ _ hB trivial (fun _ _ h => h) | (rw [if_neg (by omega)]; go_simp; exact hK _ _ hB rfl (fun _ _ h => h))
          · intro vs w5 hB hF
            have hL : vs 6 = .bool false := hF 6 (by decide)
            have h0 : vs 0 = .pointer (some ⟨q1, 4, none⟩) := hF 0 (by decide)
            have HOq1_ := Lib.hid (keepB HOq1.out hB)
            have HOq2_ := Lib.hid (keepB HOq2.out hB)
            have HX5 := Lib.hid (keepB HX4.out hB)
            have HB5 := Lib.hid (below_on HB4.out hB HP4.out)
            have HP5 : Hid (p ≤ w5.heap.size) := Nat.le_of_lt (lt_of_block HX5.out)
            clear HOq1 HOq2 hF hB
            have HOq1 := HOq1_
            have HOq2 := HOq2_
            clear HOq1_ HOq2_
            simp only [Ri.puts]
            go_simp
            go_upto_region 10 with fail
            have HD5 := Lib.hid (Below.drew (Below.refl w5.heap.size w5))
            refine Ri.wp_region_lasting_g (by kernel_rfl) (by kernel_rfl) (by kernel_rfl) (fun Wx => Below w5.heap.size w5 Wx) (fun kz vs wz => (fun kx vx wx => match kx with | 0 => vx = .pointer (some ⟨q1, 4, none⟩) | 1 => vx = .int .i64 (O.plan) | 2 => vx = .pointer (some ⟨q2, 4, none⟩) | 3 => vx = .int .i64 (Q.plan) | 4 => vx = .bool true | 5 => vx = .bool true | 6 => vx = .agg #[.int .i64 O.al, .int .i64 O.de, .int .i64 O.cp, .int .i64 O.cn, .int .i64 O.plan, .int .i64 O.wr, .int .i64 O.pr, .int .i64 O.deny] | 7 => vx = .int .i64 (M) | 8 => vx = .agg #[.int .i64 Q.al, .int .i64 Q.de, .int .i64 Q.cp, .int .i64 Q.cn, .int .i64 Q.plan, .int .i64 Q.wr, .int .i64 Q.pr, .int .i64 Q.deny] | 9 => vx = .int .i64 (N) | 10 => vx = .bool true | 11 => vx = .bool true | 12 => vx = .bool true | 13 => vx = .pointer (some ⟨q1, 4, none⟩) | 14 => vx = .int .i64 (O.plan) | 15 => vx = .pointer (some ⟨q2, 4, none⟩) | 16 => vx = .int .i64 (Q.plan) | 17 => vx = .bool true | 18 => vx = .bool true | 19 => True | 20 => True | 21 => True | 22 => vx = .bool true | 23 => vx = .bool true | 24 => vx = .bool true | 25 => vx = .bool true | 26 => vx = .bool true | 27 => vx = .bool true | _ => True : Nat → Value → World → Prop) kz (vs kz) wz) (fun kz => [kz]) (by kernel_rfl) (fun jz vs iz vz wz hiz hz => Ri.loc_own (F := (fun kx vx wx => match kx with | 0 => vx = .pointer (some ⟨q1, 4, none⟩) | 1 => vx = .int .i64 (O.plan) | 2 => vx = .pointer (some ⟨q2, 4, none⟩) | 3 => vx = .int .i64 (Q.plan) | 4 => vx = .bool true | 5 => vx = .bool true | 6 => vx = .agg #[.int .i64 O.al, .int .i64 O.de, .int .i64 O.cp, .int .i64 O.cn, .int .i64 O.plan, .int .i64 O.wr, .int .i64 O.pr, .int .i64 O.deny] | 7 => vx = .int .i64 (M) | 8 => vx = .agg #[.int .i64 Q.al, .int .i64 Q.de, .int .i64 Q.cp, .int .i64 Q.cn, .int .i64 Q.plan, .int .i64 Q.wr, .int .i64 Q.pr, .int .i64 Q.deny] | 9 => vx = .int .i64 (N) | 10 => vx = .bool true | 11 => vx = .bool true | 12 => vx = .bool true | 13 => vx = .pointer (some ⟨q1, 4, none⟩) | 14 => vx = .int .i64 (O.plan) | 15 => vx = .pointer (some ⟨q2, 4, none⟩) | 16 => vx = .int .i64 (Q.plan) | 17 => vx = .bool true | 18 => vx = .bool true | 19 => True | 20 => True | 21 => True | 22 => vx = .bool true | 23 => vx = .bool true | 24 => vx = .bool true | 25 => vx = .bool true | 26 => vx = .bool true | 27 => vx = .bool true | _ => True : Nat → Value → World → Prop)) jz vs iz vz wz hiz hz) HD5.out ⟨Or.inl ⟨rfl, ?_⟩, Or.inl ⟨rfl, ?_⟩, Or.inl ⟨rfl, ?_⟩, Or.inl ⟨rfl, ?_⟩, Or.inl ⟨rfl, ?_⟩, Or.inl ⟨rfl, ?_⟩, Or.inr ⟨5, true, 64, rfl, rfl, ?_⟩, Or.inr ⟨5, true, 64, rfl, rfl, ?_⟩, Or.inr ⟨5, true, 64, rfl, rfl, ?_⟩, Or.inr ⟨5, true, 64, rfl, rfl, ?_⟩, Or.inr ⟨5, true, 64, rfl, rfl, ?_⟩, Or.inl ⟨rfl, ?_⟩, Or.inl ⟨rfl, ?_⟩, Or.inr ⟨12, true, 71, rfl, rfl, ?_⟩, Or.inr ⟨12, true, 71, rfl, rfl, ?_⟩, Or.inr ⟨12, true, 71, rfl, rfl, ?_⟩, Or.inr ⟨12, true, 71, rfl, rfl, ?_⟩, Or.inr ⟨12, true, 71, rfl, rfl, ?_⟩, Or.inr ⟨12, true, 71, rfl, rfl, ?_⟩, Or.inr ⟨18, false, 77, rfl, rfl, ?_⟩, Or.inr ⟨18, false, 77, rfl, rfl, ?_⟩, Or.inr ⟨18, false, 77, rfl, rfl, ?_⟩, Or.inr ⟨12, true, 71, rfl, rfl, ?_⟩, Or.inl ⟨rfl, ?_⟩, Or.inl ⟨rfl, ?_⟩, Or.inr ⟨24, true, 83, rfl, rfl, ?_⟩, Or.inl ⟨rfl, ?_⟩, Or.inl ⟨rfl, ?_⟩, trivial⟩ ?_
            · intro vs Wx A hA hB hpre K hK
              have e3 := (hA 3).trans (show _ = Value.pointer (some ⟨q1, 0, none⟩) by kernel_rfl)
              clear hA hpre
              go_simp
              first | exact hK _ _ hB rfl (fun _ _ h => h) | exact hK _ _ hB trivial (fun _ _ h => h) | (rw [if_neg (by omega)]; go_simp; exact hK _ _ hB rfl (fun _ _ h => h))
            · intro vs Wx A hA hB hpre K hK
              have e59 := ((hA 59).trans (show _ = vs 0 by kernel_rfl)).trans (by first | exact hpre.1 rfl | exact hpre.2.1 rfl | exact hpre.2.2.1 rfl | exact hpre.2.2.2.1 rfl | exact hpre.2.2.2.2.1 rfl | exact hpre.2.2.2.2.2.1 rfl | exact hpre.2.2.2.2.2.2.1 rfl | exact hpre.2.2.2.2.2.2.2.1 rfl | exact hpre.2.2.2.2.2.2.2.2.1 rfl | exact hpre.2.2.2.2.2.2.2.2.2.1 rfl)
              obtain ⟨d0, d1, d2, d3, d4, d5, d6, d7⟩ := eight (keepB (w := w5) HOq1.out hB)
              obtain ⟨e0, e1, e2, e3, e4, e5, e6, e7⟩ := eight (keepB (w := w5) HOq2.out hB)
              clear hA hpre
              go_simp
              first | exact hK _ _ hB rfl (fun _ _ h => h) | exact hK _ _ hB trivial (fun _ _ h => h) | (rw [if_neg (by omega)]; go_simp; exact hK _ _ hB rfl (fun _ _ h => h))
            · intro vs Wx A hA hB hpre K hK
              have e5 := (hA 5).trans (show _ = Value.pointer (some ⟨q2, 0, none⟩) by kernel_rfl)
              clear hA hpre
              go_simp
              first | exact hK _ _ hB rfl (fun _ _ h => h) | exact hK _ _ hB trivial (fun _ _ h => h) | (rw [if_neg (by omega)]; go_simp; exact hK _ _ hB rfl (fun _ _ h => h))
            · intro vs Wx A hA hB hpre K hK
              have e61 := ((hA 61).trans (show _ = vs 2 by kernel_rfl)).trans (by first | exact hpre.1 rfl | exact hpre.2.1 rfl | exact hpre.2.2.1 rfl | exact hpre.2.2.2.1 rfl | exact hpre.2.2.2.2.1 rfl | exact hpre.2.2.2.2.2.1 rfl | exact hpre.2.2.2.2.2.2.1 rfl | exact hpre.2.2.2.2.2.2.2.1 rfl | exact hpre.2.2.2.2.2.2.2.2.1 rfl | exact hpre.2.2.2.2.2.2.2.2.2.1 rfl)
              obtain ⟨d0, d1, d2, d3, d4, d5, d6, d7⟩ := eight (keepB (w := w5) HOq1.out hB)
              obtain ⟨e0, e1, e2, e3, e4, e5, e6, e7⟩ := eight (keepB (w := w5) HOq2.out hB)
              clear hA hpre
              go_simp
              first | exact hK _ _ hB rfl (fun _ _ h => h) | exact hK _ _ hB trivial (fun _ _ h => h) | (rw [if_neg (by omega)]; go_simp; exact hK _ _ hB rfl (fun _ _ h => h))
            · intro vs Wx A hA hB hpre K hK
              have e60 := ((hA 60).trans (show _ = vs 1 by kernel_rfl)).trans (by first | exact hpre.1 rfl | exact hpre.2.1 rfl | exact hpre.2.2.1 rfl | exact hpre.2.2.2.1 rfl | exact hpre.2.2.2.2.1 rfl | exact hpre.2.2.2.2.2.1 rfl | exact hpre.2.2.2.2.2.2.1 rfl | exact hpre.2.2.2.2.2.2.2.1 rfl | exact hpre.2.2.2.2.2.2.2.2.1 rfl | exact hpre.2.2.2.2.2.2.2.2.2.1 rfl)
              have e62 := ((hA 62).trans (show _ = vs 3 by kernel_rfl)).trans (by first | exact hpre.1 rfl | exact hpre.2.1 rfl | exact hpre.2.2.1 rfl | exact hpre.2.2.2.1 rfl | exact hpre.2.2.2.2.1 rfl | exact hpre.2.2.2.2.2.1 rfl | exact hpre.2.2.2.2.2.2.1 rfl | exact hpre.2.2.2.2.2.2.2.1 rfl | exact hpre.2.2.2.2.2.2.2.2.1 rfl | exact hpre.2.2.2.2.2.2.2.2.2.1 rfl)
              clear hA hpre
              go_simp
              first | exact hK _ _ hB rfl (fun _ _ h => h) | exact hK _ _ hB trivial (fun _ _ h => h) | (rw [if_neg (by omega)]; go_simp; exact hK _ _ hB rfl (fun _ _ h => h))
            · intro vs Wx A hA hB hpre K hK
              have e63 := ((hA 63).trans (show _ = vs 4 by kernel_rfl)).trans (by first | exact hpre.1 rfl | exact hpre.2.1 rfl | exact hpre.2.2.1 rfl | exact hpre.2.2.2.1 rfl | exact hpre.2.2.2.2.1 rfl | exact hpre.2.2.2.2.2.1 rfl | exact hpre.2.2.2.2.2.2.1 rfl | exact hpre.2.2.2.2.2.2.2.1 rfl | exact hpre.2.2.2.2.2.2.2.2.1 rfl | exact hpre.2.2.2.2.2.2.2.2.2.1 rfl)
              clear hA hpre
              go_simp
              first | exact hK _ _ hB rfl (fun _ _ h => h) | exact hK _ _ hB trivial (fun _ _ h => h) | (rw [if_neg (by omega)]; go_simp; exact hK _ _ hB rfl (fun _ _ h => h))
            · intro vs Wx A hA hB hpre
              have eg := ((hA 64).trans (show _ = vs 5 by kernel_rfl)).trans (by first | exact hpre.1 rfl | exact hpre.2.1 rfl | exact hpre.2.2.1 rfl | exact hpre.2.2.2.1 rfl | exact hpre.2.2.2.2.1 rfl | exact hpre.2.2.2.2.2.1 rfl | exact hpre.2.2.2.2.2.2.1 rfl | exact hpre.2.2.2.2.2.2.2.1 rfl | exact hpre.2.2.2.2.2.2.2.2.1 rfl | exact hpre.2.2.2.2.2.2.2.2.2.1 rfl)
              refine ⟨true, eg, fun _ K hK => ?_, fun h => absurd rfl h⟩
              have e3 := (hA 3).trans (show _ = Value.pointer (some ⟨q1, 0, none⟩) by kernel_rfl)
              obtain ⟨d0, d1, d2, d3, d4, d5, d6, d7⟩ := eight (keepB (w := w5) HOq1.out hB)
              obtain ⟨e0, e1, e2, e3, e4, e5, e6, e7⟩ := eight (keepB (w := w5) HOq2.out hB)
              clear hA hpre
              go_simp
              first | exact hK _ _ hB rfl (fun _ _ h => h) | exact hK _ _ hB trivial (fun _ _ h => h) | (rw [if_neg (by omega)]; go_simp; exact hK _ _ hB rfl (fun _ _ h => h))
            · intro vs Wx A hA hB hpre
              have eg := ((hA 64).trans (show _ = vs 5 by kernel_rfl)).trans (by first | exact hpre.1 rfl | exact hpre.2.1 rfl | exact hpre.2.2.1 rfl | exact hpre.2.2.2.1 rfl | exact hpre.2.2.2.2.1 rfl | exact hpre.2.2.2.2.2.1 rfl | exact hpre.2.2.2.2.2.2.1 rfl | exact hpre.2.2.2.2.2.2.2.1 rfl | exact hpre.2.2.2.2.2.2.2.2.1 rfl | exact hpre.2.2.2.2.2.2.2.2.2.1 rfl)
              refine ⟨true, eg, fun _ K hK => ?_, fun h => absurd rfl h⟩
              have e65 := ((hA 65).trans (show _ = vs 6 by kernel_rfl)).trans (by first | exact hpre.1 rfl | exact hpre.2.1 rfl | exact hpre.2.2.1 rfl | exact hpre.2.2.2.1 rfl | exact hpre.2.2.2.2.1 rfl | exact hpre.2.2.2.2.2.1 rfl | exact hpre.2.2.2.2.2.2.1 rfl | exact hpre.2.2.2.2.2.2.2.1 rfl | exact hpre.2.2.2.2.2.2.2.2.1 rfl | exact hpre.2.2.2.2.2.2.2.2.2.1 rfl)
              clear hA hpre
              go_simp
              go_at_call 17
              refine (HM1.out _).mono ?_
              rintro e w9 ⟨rfl, hb9⟩
              exact hK _ _ (below_trans hB hb9) rfl (fun _ _ h => h)
            · intro vs Wx A hA hB hpre
              have eg := ((hA 64).trans (show _ = vs 5 by kernel_rfl)).trans (by first | exact hpre.1 rfl | exact hpre.2.1 rfl | exact hpre.2.2.1 rfl | exact hpre.2.2.2.1 rfl | exact hpre.2.2.2.2.1 rfl | exact hpre.2.2.2.2.2.1 rfl | exact hpre.2.2.2.2.2.2.1 rfl | exact hpre.2.2.2.2.2.2.2.1 rfl | exact hpre.2.2.2.2.2.2.2.2.1 rfl | exact hpre.2.2.2.2.2.2.2.2.2.1 rfl)
              refine ⟨true, eg, fun _ K hK => ?_, fun h => absurd rfl h⟩
              have e5 := (hA 5).trans (show _ = Value.pointer (some ⟨q2, 0, none⟩) by kernel_rfl)
              obtain ⟨d0, d1, d2, d3, d4, d5, d6, d7⟩ := eight (keepB (w := w5) HOq1.out hB)
              obtain ⟨e0, e1, e2, e3, e4, e5, e6, e7⟩ := eight (keepB (w := w5) HOq2.out hB)
              clear hA hpre
              go_simp
              first | exact hK _ _ hB rfl (fun _ _ h => h) | exact hK _ _ hB trivial (fun _ _ h => h) | (rw [if_neg (by omega)]; go_simp; exact hK _ _ hB rfl (fun _ _ h => h))
            · intro vs Wx A hA hB hpre
              have eg := ((hA 64).trans (show _ = vs 5 by kernel_rfl)).trans (by first | exact hpre.1 rfl | exact hpre.2.1 rfl | exact hpre.2.2.1 rfl | exact hpre.2.2.2.1 rfl | exact hpre.2.2.2.2.1 rfl | exact hpre.2.2.2.2.2.1 rfl | exact hpre.2.2.2.2.2.2.1 rfl | exact hpre.2.2.2.2.2.2.2.1 rfl | exact hpre.2.2.2.2.2.2.2.2.1 rfl | exact hpre.2.2.2.2.2.2.2.2.2.1 rfl)
              refine ⟨true, eg, fun _ K hK => ?_, fun h => absurd rfl h⟩
              have e67 := ((hA 67).trans (show _ = vs 8 by kernel_rfl)).trans (by first | exact hpre.1 rfl | exact hpre.2.1 rfl | exact hpre.2.2.1 rfl | exact hpre.2.2.2.1 rfl | exact hpre.2.2.2.2.1 rfl | exact hpre.2.2.2.2.2.1 rfl | exact hpre.2.2.2.2.2.2.1 rfl | exact hpre.2.2.2.2.2.2.2.1 rfl | exact hpre.2.2.2.2.2.2.2.2.1 rfl | exact hpre.2.2.2.2.2.2.2.2.2.1 rfl)
              clear hA hpre
              go_simp
              go_at_call 17
              refine (HM2.out _).mono ?_
              rintro e w9 ⟨rfl, hb9⟩
              exact hK _ _ (below_trans hB hb9) rfl (fun _ _ h => h)
            · intro vs Wx A hA hB hpre
              have eg := ((hA 64).trans (show _ = vs 5 by kernel_rfl)).trans (by first | exact hpre.1 rfl | exact hpre.2.1 rfl | exact hpre.2.2.1 rfl | exact hpre.2.2.2.1 rfl | exact hpre.2.2.2.2.1 rfl | exact hpre.2.2.2.2.2.1 rfl | exact hpre.2.2.2.2.2.2.1 rfl | exact hpre.2.2.2.2.2.2.2.1 rfl | exact hpre.2.2.2.2.2.2.2.2.1 rfl | exact hpre.2.2.2.2.2.2.2.2.2.1 rfl)
              refine ⟨true, eg, fun _ K hK => ?_, fun h => absurd rfl h⟩
              have e66 := ((hA 66).trans (show _ = vs 7 by kernel_rfl)).trans (by first | exact hpre.1 rfl | exact hpre.2.1 rfl | exact hpre.2.2.1 rfl | exact hpre.2.2.2.1 rfl | exact hpre.2.2.2.2.1 rfl | exact hpre.2.2.2.2.2.1 rfl | exact hpre.2.2.2.2.2.2.1 rfl | exact hpre.2.2.2.2.2.2.2.1 rfl | exact hpre.2.2.2.2.2.2.2.2.1 rfl | exact hpre.2.2.2.2.2.2.2.2.2.1 rfl)
              have e68 := ((hA 68).trans (show _ = vs 9 by kernel_rfl)).trans (by first | exact hpre.1 rfl | exact hpre.2.1 rfl | exact hpre.2.2.1 rfl | exact hpre.2.2.2.1 rfl | exact hpre.2.2.2.2.1 rfl | exact hpre.2.2.2.2.2.1 rfl | exact hpre.2.2.2.2.2.2.1 rfl | exact hpre.2.2.2.2.2.2.2.1 rfl | exact hpre.2.2.2.2.2.2.2.2.1 rfl | exact hpre.2.2.2.2.2.2.2.2.2.1 rfl)
              clear hA hpre
              go_simp
              first | exact hK _ _ hB rfl (fun _ _ h => h) | exact hK _ _ hB trivial (fun _ _ h => h) | (rw [if_neg (by omega)]; go_simp; exact hK _ _ hB rfl (fun _ _ h => h))
            · intro vs Wx A hA hB hpre K hK
              have e64 := ((hA 64).trans (show _ = vs 5 by kernel_rfl)).trans (by first | exact hpre.1 rfl | exact hpre.2.1 rfl | exact hpre.2.2.1 rfl | exact hpre.2.2.2.1 rfl | exact hpre.2.2.2.2.1 rfl | exact hpre.2.2.2.2.2.1 rfl | exact hpre.2.2.2.2.2.2.1 rfl | exact hpre.2.2.2.2.2.2.2.1 rfl | exact hpre.2.2.2.2.2.2.2.2.1 rfl | exact hpre.2.2.2.2.2.2.2.2.2.1 rfl)
              have e69 := ((hA 69).trans (show _ = vs 10 by kernel_rfl)).trans (by first | exact hpre.1 rfl | exact hpre.2.1 rfl | exact hpre.2.2.1 rfl | exact hpre.2.2.2.1 rfl | exact hpre.2.2.2.2.1 rfl | exact hpre.2.2.2.2.2.1 rfl | exact hpre.2.2.2.2.2.2.1 rfl | exact hpre.2.2.2.2.2.2.2.1 rfl | exact hpre.2.2.2.2.2.2.2.2.1 rfl | exact hpre.2.2.2.2.2.2.2.2.2.1 rfl)
              clear hA hpre
              go_simp
              first | exact hK _ _ hB rfl (fun _ _ h => h) | exact hK _ _ hB trivial (fun _ _ h => h) | (rw [if_neg (by omega)]; go_simp; exact hK _ _ hB rfl (fun _ _ h => h))
            · intro vs Wx A hA hB hpre K hK
              have e70 := ((hA 70).trans (show _ = vs 11 by kernel_rfl)).trans (by first | exact hpre.1 rfl | exact hpre.2.1 rfl | exact hpre.2.2.1 rfl | exact hpre.2.2.2.1 rfl | exact hpre.2.2.2.2.1 rfl | exact hpre.2.2.2.2.2.1 rfl | exact hpre.2.2.2.2.2.2.1 rfl | exact hpre.2.2.2.2.2.2.2.1 rfl | exact hpre.2.2.2.2.2.2.2.2.1 rfl | exact hpre.2.2.2.2.2.2.2.2.2.1 rfl)
              clear hA hpre
              go_simp
              first | exact hK _ _ hB rfl (fun _ _ h => h) | exact hK _ _ hB trivial (fun _ _ h => h) | (rw [if_neg (by omega)]; go_simp; exact hK _ _ hB rfl (fun _ _ h => h))
            · intro vs Wx A hA hB hpre
              have eg := ((hA 71).trans (show _ = vs 12 by kernel_rfl)).trans (by first | exact hpre.1 rfl | exact hpre.2.1 rfl | exact hpre.2.2.1 rfl | exact hpre.2.2.2.1 rfl | exact hpre.2.2.2.2.1 rfl | exact hpre.2.2.2.2.2.1 rfl | exact hpre.2.2.2.2.2.2.1 rfl | exact hpre.2.2.2.2.2.2.2.1 rfl | exact hpre.2.2.2.2.2.2.2.2.1 rfl | exact hpre.2.2.2.2.2.2.2.2.2.1 rfl)
              refine ⟨true, eg, fun _ K hK => ?_, fun h => absurd rfl h⟩
              have e3 := (hA 3).trans (show _ = Value.pointer (some ⟨q1, 0, none⟩) by kernel_rfl)
              clear hA hpre
              go_simp
              first | exact hK _ _ hB rfl (fun _ _ h => h) | exact hK _ _ hB trivial (fun _ _ h => h) | (rw [if_neg (by omega)]; go_simp; exact hK _ _ hB rfl (fun _ _ h => h))
            · intro vs Wx A hA hB hpre
              have eg := ((hA 71).trans (show _ = vs 12 by kernel_rfl)).trans (by first | exact hpre.1 rfl | exact hpre.2.1 rfl | exact hpre.2.2.1 rfl | exact hpre.2.2.2.1 rfl | exact hpre.2.2.2.2.1 rfl | exact hpre.2.2.2.2.2.1 rfl | exact hpre.2.2.2.2.2.2.1 rfl | exact hpre.2.2.2.2.2.2.2.1 rfl | exact hpre.2.2.2.2.2.2.2.2.1 rfl | exact hpre.2.2.2.2.2.2.2.2.2.1 rfl)
              refine ⟨true, eg, fun _ K hK => ?_, fun h => absurd rfl h⟩
              have e72 := ((hA 72).trans (show _ = vs 13 by kernel_rfl)).trans (by first | exact hpre.1 rfl | exact hpre.2.1 rfl | exact hpre.2.2.1 rfl | exact hpre.2.2.2.1 rfl | exact hpre.2.2.2.2.1 rfl | exact hpre.2.2.2.2.2.1 rfl | exact hpre.2.2.2.2.2.2.1 rfl | exact hpre.2.2.2.2.2.2.2.1 rfl | exact hpre.2.2.2.2.2.2.2.2.1 rfl | exact hpre.2.2.2.2.2.2.2.2.2.1 rfl)
              obtain ⟨d0, d1, d2, d3, d4, d5, d6, d7⟩ := eight (keepB (w := w5) HOq1.out hB)
              obtain ⟨e0, e1, e2, e3, e4, e5, e6, e7⟩ := eight (keepB (w := w5) HOq2.out hB)
              clear hA hpre
              go_simp
              first | exact hK _ _ hB rfl (fun _ _ h => h) | exact hK _ _ hB trivial (fun _ _ h => h) | (rw [if_neg (by omega)]; go_simp; exact hK _ _ hB rfl (fun _ _ h => h))
            · intro vs Wx A hA hB hpre
              have eg := ((hA 71).trans (show _ = vs 12 by kernel_rfl)).trans (by first | exact hpre.1 rfl | exact hpre.2.1 rfl | exact hpre.2.2.1 rfl | exact hpre.2.2.2.1 rfl | exact hpre.2.2.2.2.1 rfl | exact hpre.2.2.2.2.2.1 rfl | exact hpre.2.2.2.2.2.2.1 rfl | exact hpre.2.2.2.2.2.2.2.1 rfl | exact hpre.2.2.2.2.2.2.2.2.1 rfl | exact hpre.2.2.2.2.2.2.2.2.2.1 rfl)
              refine ⟨true, eg, fun _ K hK => ?_, fun h => absurd rfl h⟩
              have e5 := (hA 5).trans (show _ = Value.pointer (some ⟨q2, 0, none⟩) by kernel_rfl)
              clear hA hpre
              go_simp
              first | exact hK _ _ hB rfl (fun _ _ h => h) | exact hK _ _ hB trivial (fun _ _ h => h) | (rw [if_neg (by omega)]; go_simp; exact hK _ _ hB rfl (fun _ _ h => h))
            · intro vs Wx A hA hB hpre
              have eg := ((hA 71).trans (show _ = vs 12 by kernel_rfl)).trans (by first | exact hpre.1 rfl | exact hpre.2.1 rfl | exact hpre.2.2.1 rfl | exact hpre.2.2.2.1 rfl | exact hpre.2.2.2.2.1 rfl | exact hpre.2.2.2.2.2.1 rfl | exact hpre.2.2.2.2.2.2.1 rfl | exact hpre.2.2.2.2.2.2.2.1 rfl | exact hpre.2.2.2.2.2.2.2.2.1 rfl | exact hpre.2.2.2.2.2.2.2.2.2.1 rfl)
              refine ⟨true, eg, fun _ K hK => ?_, fun h => absurd rfl h⟩
              have e74 := ((hA 74).trans (show _ = vs 15 by kernel_rfl)).trans (by first | exact hpre.1 rfl | exact hpre.2.1 rfl | exact hpre.2.2.1 rfl | exact hpre.2.2.2.1 rfl | exact hpre.2.2.2.2.1 rfl | exact hpre.2.2.2.2.2.1 rfl | exact hpre.2.2.2.2.2.2.1 rfl | exact hpre.2.2.2.2.2.2.2.1 rfl | exact hpre.2.2.2.2.2.2.2.2.1 rfl | exact hpre.2.2.2.2.2.2.2.2.2.1 rfl)
              obtain ⟨d0, d1, d2, d3, d4, d5, d6, d7⟩ := eight (keepB (w := w5) HOq1.out hB)
              obtain ⟨e0, e1, e2, e3, e4, e5, e6, e7⟩ := eight (keepB (w := w5) HOq2.out hB)
              clear hA hpre
              go_simp
              first | exact hK _ _ hB rfl (fun _ _ h => h) | exact hK _ _ hB trivial (fun _ _ h => h) | (rw [if_neg (by omega)]; go_simp; exact hK _ _ hB rfl (fun _ _ h => h))
            · intro vs Wx A hA hB hpre
              have eg := ((hA 71).trans (show _ = vs 12 by kernel_rfl)).trans (by first | exact hpre.1 rfl | exact hpre.2.1 rfl | exact hpre.2.2.1 rfl | exact hpre.2.2.2.1 rfl | exact hpre.2.2.2.2.1 rfl | exact hpre.2.2.2.2.2.1 rfl | exact hpre.2.2.2.2.2.2.1 rfl | exact hpre.2.2.2.2.2.2.2.1 rfl | exact hpre.2.2.2.2.2.2.2.2.1 rfl | exact hpre.2.2.2.2.2.2.2.2.2.1 rfl)
              refine ⟨true, eg, fun _ K hK => ?_, fun h => absurd rfl h⟩
              have e73 := ((hA 73).trans (show _ = vs 14 by kernel_rfl)).trans (by first | exact hpre.1 rfl | exact hpre.2.1 rfl | exact hpre.2.2.1 rfl | exact hpre.2.2.2.1 rfl | exact hpre.2.2.2.2.1 rfl | exact hpre.2.2.2.2.2.1 rfl | exact hpre.2.2.2.2.2.2.1 rfl | exact hpre.2.2.2.2.2.2.2.1 rfl | exact hpre.2.2.2.2.2.2.2.2.1 rfl | exact hpre.2.2.2.2.2.2.2.2.2.1 rfl)
              have e75 := ((hA 75).trans (show _ = vs 16 by kernel_rfl)).trans (by first | exact hpre.1 rfl | exact hpre.2.1 rfl | exact hpre.2.2.1 rfl | exact hpre.2.2.2.1 rfl | exact hpre.2.2.2.2.1 rfl | exact hpre.2.2.2.2.2.1 rfl | exact hpre.2.2.2.2.2.2.1 rfl | exact hpre.2.2.2.2.2.2.2.1 rfl | exact hpre.2.2.2.2.2.2.2.2.1 rfl | exact hpre.2.2.2.2.2.2.2.2.2.1 rfl)
              clear hA hpre
              go_simp
              first | exact hK _ _ hB rfl (fun _ _ h => h) | exact hK _ _ hB trivial (fun _ _ h => h) | (rw [if_neg (by omega)]; go_simp; exact hK _ _ hB rfl (fun _ _ h => h))
            · intro vs Wx A hA hB hpre
              have eg := ((hA 71).trans (show _ = vs 12 by kernel_rfl)).trans (by first | exact hpre.1 rfl | exact hpre.2.1 rfl | exact hpre.2.2.1 rfl | exact hpre.2.2.2.1 rfl | exact hpre.2.2.2.2.1 rfl | exact hpre.2.2.2.2.2.1 rfl | exact hpre.2.2.2.2.2.2.1 rfl | exact hpre.2.2.2.2.2.2.2.1 rfl | exact hpre.2.2.2.2.2.2.2.2.1 rfl | exact hpre.2.2.2.2.2.2.2.2.2.1 rfl)
              refine ⟨true, eg, fun _ K hK => ?_, fun h => absurd rfl h⟩
              have e76 := ((hA 76).trans (show _ = vs 17 by kernel_rfl)).trans (by first | exact hpre.1 rfl | exact hpre.2.1 rfl | exact hpre.2.2.1 rfl | exact hpre.2.2.2.1 rfl | exact hpre.2.2.2.2.1 rfl | exact hpre.2.2.2.2.2.1 rfl | exact hpre.2.2.2.2.2.2.1 rfl | exact hpre.2.2.2.2.2.2.2.1 rfl | exact hpre.2.2.2.2.2.2.2.2.1 rfl | exact hpre.2.2.2.2.2.2.2.2.2.1 rfl)
              clear hA hpre
              go_simp
              first | exact hK _ _ hB rfl (fun _ _ h => h) | exact hK _ _ hB trivial (fun _ _ h => h) | (rw [if_neg (by omega)]; go_simp; exact hK _ _ hB rfl (fun _ _ h => h))
            · intro vs Wx A hA hB hpre
              have eg := ((hA 77).trans (show _ = vs 18 by kernel_rfl)).trans (by first | exact hpre.1 rfl | exact hpre.2.1 rfl | exact hpre.2.2.1 rfl | exact hpre.2.2.2.1 rfl | exact hpre.2.2.2.2.1 rfl | exact hpre.2.2.2.2.2.1 rfl | exact hpre.2.2.2.2.2.2.1 rfl | exact hpre.2.2.2.2.2.2.2.1 rfl | exact hpre.2.2.2.2.2.2.2.2.1 rfl | exact hpre.2.2.2.2.2.2.2.2.2.1 rfl)
              exact ⟨true, eg, fun h => (by cases h), fun _ => trivial⟩
            · intro vs Wx A hA hB hpre
              have eg := ((hA 77).trans (show _ = vs 18 by kernel_rfl)).trans (by first | exact hpre.1 rfl | exact hpre.2.1 rfl | exact hpre.2.2.1 rfl | exact hpre.2.2.2.1 rfl | exact hpre.2.2.2.2.1 rfl | exact hpre.2.2.2.2.2.1 rfl | exact hpre.2.2.2.2.2.2.1 rfl | exact hpre.2.2.2.2.2.2.2.1 rfl | exact hpre.2.2.2.2.2.2.2.2.1 rfl | exact hpre.2.2.2.2.2.2.2.2.2.1 rfl)
              exact ⟨true, eg, fun h => (by cases h), fun _ => trivial⟩
            · intro vs Wx A hA hB hpre
              have eg := ((hA 77).trans (show _ = vs 18 by kernel_rfl)).trans (by first | exact hpre.1 rfl | exact hpre.2.1 rfl | exact hpre.2.2.1 rfl | exact hpre.2.2.2.1 rfl | exact hpre.2.2.2.2.1 rfl | exact hpre.2.2.2.2.2.1 rfl | exact hpre.2.2.2.2.2.2.1 rfl | exact hpre.2.2.2.2.2.2.2.1 rfl | exact hpre.2.2.2.2.2.2.2.2.1 rfl | exact hpre.2.2.2.2.2.2.2.2.2.1 rfl)
              exact ⟨true, eg, fun h => (by cases h), fun _ => trivial⟩
            · intro vs Wx A hA hB hpre
              have eg := ((hA 71).trans (show _ = vs 12 by kernel_rfl)).trans (by first | exact hpre.1 rfl | exact hpre.2.1 rfl | exact hpre.2.2.1 rfl | exact hpre.2.2.2.1 rfl | exact hpre.2.2.2.2.1 rfl | exact hpre.2.2.2.2.2.1 rfl | exact hpre.2.2.2.2.2.2.1 rfl | exact hpre.2.2.2.2.2.2.2.1 rfl | exact hpre.2.2.2.2.2.2.2.2.1 rfl | exact hpre.2.2.2.2.2.2.2.2.2.1 rfl)
              refine ⟨true, eg, fun _ K hK => ?_, fun h => absurd rfl h⟩
              have e77 := ((hA 77).trans (show _ = vs 18 by kernel_rfl)).trans (by first | exact hpre.1 rfl | exact hpre.2.1 rfl | exact hpre.2.2.1 rfl | exact hpre.2.2.2.1 rfl | exact hpre.2.2.2.2.1 rfl | exact hpre.2.2.2.2.2.1 rfl | exact hpre.2.2.2.2.2.2.1 rfl | exact hpre.2.2.2.2.2.2.2.1 rfl | exact hpre.2.2.2.2.2.2.2.2.1 rfl | exact hpre.2.2.2.2.2.2.2.2.2.1 rfl)
              clear hA hpre
              go_simp
              first | exact hK _ _ hB rfl (fun _ _ h => h) | exact hK _ _ hB trivial (fun _ _ h => h) | (rw [if_neg (by omega)]; go_simp; exact hK _ _ hB rfl (fun _ _ h => h))
            · intro vs Wx A hA hB hpre K hK
              have e71 := ((hA 71).trans (show _ = vs 12 by kernel_rfl)).trans (by first | exact hpre.1 rfl | exact hpre.2.1 rfl | exact hpre.2.2.1 rfl | exact hpre.2.2.2.1 rfl | exact hpre.2.2.2.2.1 rfl | exact hpre.2.2.2.2.2.1 rfl | exact hpre.2.2.2.2.2.2.1 rfl | exact hpre.2.2.2.2.2.2.2.1 rfl | exact hpre.2.2.2.2.2.2.2.2.1 rfl | exact hpre.2.2.2.2.2.2.2.2.2.1 rfl)
              have e81 := ((hA 81).trans (show _ = vs 22 by kernel_rfl)).trans (by first | exact hpre.1 rfl | exact hpre.2.1 rfl | exact hpre.2.2.1 rfl | exact hpre.2.2.2.1 rfl | exact hpre.2.2.2.2.1 rfl | exact hpre.2.2.2.2.2.1 rfl | exact hpre.2.2.2.2.2.2.1 rfl | exact hpre.2.2.2.2.2.2.2.1 rfl | exact hpre.2.2.2.2.2.2.2.2.1 rfl | exact hpre.2.2.2.2.2.2.2.2.2.1 rfl)
              clear hA hpre
              go_simp
              first | exact hK _ _ hB rfl (fun _ _ h => h) | exact hK _ _ hB trivial (fun _ _ h => h) | (rw [if_neg (by omega)]; go_simp; exact hK _ _ hB rfl (fun _ _ h => h))
            · intro vs Wx A hA hB hpre K hK
              have e82 := ((hA 82).trans (show _ = vs 23 by kernel_rfl)).trans (by first | exact hpre.1 rfl | exact hpre.2.1 rfl | exact hpre.2.2.1 rfl | exact hpre.2.2.2.1 rfl | exact hpre.2.2.2.2.1 rfl | exact hpre.2.2.2.2.2.1 rfl | exact hpre.2.2.2.2.2.2.1 rfl | exact hpre.2.2.2.2.2.2.2.1 rfl | exact hpre.2.2.2.2.2.2.2.2.1 rfl | exact hpre.2.2.2.2.2.2.2.2.2.1 rfl)
              clear hA hpre
              go_simp
              first | exact hK _ _ hB rfl (fun _ _ h => h) | exact hK _ _ hB trivial (fun _ _ h => h) | (rw [if_neg (by omega)]; go_simp; exact hK _ _ hB rfl (fun _ _ h => h))
            · intro vs Wx A hA hB hpre
              have eg := ((hA 83).trans (show _ = vs 24 by kernel_rfl)).trans (by first | exact hpre.1 rfl | exact hpre.2.1 rfl | exact hpre.2.2.1 rfl | exact hpre.2.2.2.1 rfl | exact hpre.2.2.2.2.1 rfl | exact hpre.2.2.2.2.2.1 rfl | exact hpre.2.2.2.2.2.2.1 rfl | exact hpre.2.2.2.2.2.2.2.1 rfl | exact hpre.2.2.2.2.2.2.2.2.1 rfl | exact hpre.2.2.2.2.2.2.2.2.2.1 rfl)
              refine ⟨true, eg, fun _ K hK => ?_, fun h => absurd rfl h⟩
              clear hA hpre
              go_simp
              go_at_call 11
              refine (works_any _).mono ?_
              rintro e w9 ⟨rfl, hb9⟩
              exact hK _ _ (below_trans hB hb9) rfl (fun _ _ h => h)
            · intro vs Wx A hA hB hpre K hK
              have e83 := ((hA 83).trans (show _ = vs 24 by kernel_rfl)).trans (by first | exact hpre.1 rfl | exact hpre.2.1 rfl | exact hpre.2.2.1 rfl | exact hpre.2.2.2.1 rfl | exact hpre.2.2.2.2.1 rfl | exact hpre.2.2.2.2.2.1 rfl | exact hpre.2.2.2.2.2.2.1 rfl | exact hpre.2.2.2.2.2.2.2.1 rfl | exact hpre.2.2.2.2.2.2.2.2.1 rfl | exact hpre.2.2.2.2.2.2.2.2.2.1 rfl)
              have e84 := ((hA 84).trans (show _ = vs 25 by kernel_rfl)).trans (by first | exact hpre.1 rfl | exact hpre.2.1 rfl | exact hpre.2.2.1 rfl | exact hpre.2.2.2.1 rfl | exact hpre.2.2.2.2.1 rfl | exact hpre.2.2.2.2.2.1 rfl | exact hpre.2.2.2.2.2.2.1 rfl | exact hpre.2.2.2.2.2.2.2.1 rfl | exact hpre.2.2.2.2.2.2.2.2.1 rfl | exact hpre.2.2.2.2.2.2.2.2.2.1 rfl)
              clear hA hpre
              go_simp
              first | exact hK _ _ hB rfl (fun _ _ h => h) | exact hK _ _ hB trivial (fun _ _ h => h) | (rw [if_neg (by omega)]; go_simp; exact hK _ _ hB rfl (fun _ _ h => h))
            · intro vs Wx A hA hB hpre K hK
              have e85 := ((hA 85).trans (show _ = vs 26 by kernel_rfl)).trans (by first | exact hpre.1 rfl | exact hpre.2.1 rfl | exact hpre.2.2.1 rfl | exact hpre.2.2.2.1 rfl | exact hpre.2.2.2.2.1 rfl | exact hpre.2.2.2.2.2.1 rfl | exact hpre.2.2.2.2.2.2.1 rfl | exact hpre.2.2.2.2.2.2.2.1 rfl | exact hpre.2.2.2.2.2.2.2.2.1 rfl | exact hpre.2.2.2.2.2.2.2.2.2.1 rfl)
              clear hA hpre
              go_simp
              first | exact hK _ _ hB rfl (fun _ _ h => h) | exact hK _ _ hB trivial (fun _ _ h => h) | (rw [if_neg (by omega)]; go_simp; exact hK _ _ hB rfl (fun _ _ h => h))
            · intro vs w6 hB hF
              have hL6 : vs 27 = .bool true := hF 27 (by decide)
              have HB6 := Lib.hid (below_on HB5.out hB HP5.out)
              clear hF hB
              simp only [Ri.puts]
              go_simp
              go_wp2_with fail
              go_ret
              exact ⟨by first | rfl | (rw [hL6]; rfl) | simp [hL6], by first | exact HB6.out | (rw [hp]; exact HB6.out)⟩
        · have hs' : (O.plan == Q.plan) = false := by simpa using hs
          have hm0 : (M == 0) = true := by simpa using hX.resolve_left hs
          clear hs hX
          have HX0 := Lib.hid (alloc_new w #[.int .i64 x00, .int .i64 x01, .int .i64 x02, .int .i64 x03, .int .i64 x04, .int .i64 x05] 29)
          have HB0 := Lib.hid (below_alloc w (.cells #[.int .i64 x00, .int .i64 x01, .int .i64 x02, .int .i64 x03, .int .i64 x04, .int .i64 x05] 29))
          go_enter Try.func7, Try.ntmps7
          go_upto_region 1 with fail
          generalize w.alloc (.cells #[.int .i64 x00, .int .i64 x01, .int .i64 x02, .int .i64 x03, .int .i64 x04, .int .i64 x05] 29) = w0 at *
          generalize hp : w.heap.size = p at *
          have HP0 : Hid (p ≤ w0.heap.size) := Nat.le_of_lt (lt_of_block HX0.out)
          obtain ⟨s0, s1, s2, s3, s4, s5⟩ := bsix HX0.out
          go_wp2_with fail
          go_at_call 12
          refine (H1.out _).mono ?_
          rintro e w1 ⟨rfl, hb⟩
          have HX1 := Lib.hid (keepB HX0.out hb)
          have HB1 := Lib.hid (below_on HB0.out hb HP0.out)
          have HP1 : Hid (p ≤ w1.heap.size) := Nat.le_of_lt (lt_of_block HX1.out)
          clear hb
          clear s0 s1 s2 s3 s4 s5
          obtain ⟨s0, s1, s2, s3, s4, s5⟩ := bsix HX1.out
          have HX2 := Lib.hid (keepB HX1.out (below_alloc w1 (.cells #[.int .i64 O.al, .int .i64 O.de, .int .i64 O.cp, .int .i64 O.cn, .int .i64 O.plan, .int .i64 O.wr, .int .i64 O.pr, .int .i64 O.deny] 31)))
          have HB2 := Lib.hid (below_on HB1.out (below_alloc w1 (.cells #[.int .i64 O.al, .int .i64 O.de, .int .i64 O.cp, .int .i64 O.cn, .int .i64 O.plan, .int .i64 O.wr, .int .i64 O.pr, .int .i64 O.deny] 31)) HP1.out)
          have HOq1 := Lib.hid (alloc_new w1 #[.int .i64 O.al, .int .i64 O.de, .int .i64 O.cp, .int .i64 O.cn, .int .i64 O.plan, .int .i64 O.wr, .int .i64 O.pr, .int .i64 O.deny] 31)
          go_upto_region 2 with fail
          generalize w1.alloc (.cells #[.int .i64 O.al, .int .i64 O.de, .int .i64 O.cp, .int .i64 O.cn, .int .i64 O.plan, .int .i64 O.wr, .int .i64 O.pr, .int .i64 O.deny] 31) = w2 at *
          generalize w1.heap.size = q1 at *
          have HP2 : Hid (p ≤ w2.heap.size) := Nat.le_of_lt (lt_of_block HX2.out)
          clear s0 s1 s2 s3 s4 s5
          obtain ⟨s0, s1, s2, s3, s4, s5⟩ := bsix HX2.out
          go_wp2_with fail
          go_at_call 12
          refine (H2.out _).mono ?_
          rintro e w3 ⟨rfl, hb⟩
          have HX3 := Lib.hid (keepB HX2.out hb)
          have HB3 := Lib.hid (below_on HB2.out hb HP2.out)
          have HP3 : Hid (p ≤ w3.heap.size) := Nat.le_of_lt (lt_of_block HX3.out)
          have HOq1_ := Lib.hid (keepB HOq1.out hb)
          clear HOq1
          have HOq1 := HOq1_
          clear HOq1_
          clear hb
          clear s0 s1 s2 s3 s4 s5
          obtain ⟨s0, s1, s2, s3, s4, s5⟩ := bsix HX3.out
          have HX4 := Lib.hid (keepB HX3.out (below_alloc w3 (.cells #[.int .i64 Q.al, .int .i64 Q.de, .int .i64 Q.cp, .int .i64 Q.cn, .int .i64 Q.plan, .int .i64 Q.wr, .int .i64 Q.pr, .int .i64 Q.deny] 31)))
          have HB4 := Lib.hid (below_on HB3.out (below_alloc w3 (.cells #[.int .i64 Q.al, .int .i64 Q.de, .int .i64 Q.cp, .int .i64 Q.cn, .int .i64 Q.plan, .int .i64 Q.wr, .int .i64 Q.pr, .int .i64 Q.deny] 31)) HP3.out)
          have HOq2 := Lib.hid (alloc_new w3 #[.int .i64 Q.al, .int .i64 Q.de, .int .i64 Q.cp, .int .i64 Q.cn, .int .i64 Q.plan, .int .i64 Q.wr, .int .i64 Q.pr, .int .i64 Q.deny] 31)
          have HOq1_ := Lib.hid (keepB HOq1.out (below_alloc w3 (.cells #[.int .i64 Q.al, .int .i64 Q.de, .int .i64 Q.cp, .int .i64 Q.cn, .int .i64 Q.plan, .int .i64 Q.wr, .int .i64 Q.pr, .int .i64 Q.deny] 31)))
          clear HOq1
          have HOq1 := HOq1_
          clear HOq1_
          go_upto_region 3 with fail
          generalize w3.alloc (.cells #[.int .i64 Q.al, .int .i64 Q.de, .int .i64 Q.cp, .int .i64 Q.cn, .int .i64 Q.plan, .int .i64 Q.wr, .int .i64 Q.pr, .int .i64 Q.deny] 31) = w4 at *
          generalize w3.heap.size = q2 at *
          have HP4 : Hid (p ≤ w4.heap.size) := Nat.le_of_lt (lt_of_block HX4.out)
          clear s0 s1 s2 s3 s4 s5
          obtain ⟨s0, s1, s2, s3, s4, s5⟩ := bsix HX4.out
          go_upto_region 8 with fail
          clear s0 s1 s2 s3 s4 s5
          have HD4 := Lib.hid (Below.drew (Below.refl w4.heap.size w4))
          refine Ri.wp_region_lasting (by kernel_rfl) (by kernel_rfl) (by kernel_rfl) (fun Wx => Below w4.heap.size w4 Wx) (fun kz vs wz => (fun kx vx wx => match kx with | 0 => vx = .pointer (some ⟨q1, 4, none⟩) | 1 => vx = .int .i64 (O.plan) | 2 => vx = .agg #[.int .i64 O.al, .int .i64 O.de, .int .i64 O.cp, .int .i64 O.cn, .int .i64 O.plan, .int .i64 O.wr, .int .i64 O.pr, .int .i64 O.deny] | 3 => vx = .int .i64 (M) | 4 => vx = .int .i64 (0) | 5 => vx = .int .i64 (0) | 6 => vx = .bool false | _ => True : Nat → Value → World → Prop) kz (vs kz) wz) (fun kz => [kz]) (by kernel_rfl) (fun jz vs iz vz wz hiz hz => Ri.loc_own (F := (fun kx vx wx => match kx with | 0 => vx = .pointer (some ⟨q1, 4, none⟩) | 1 => vx = .int .i64 (O.plan) | 2 => vx = .agg #[.int .i64 O.al, .int .i64 O.de, .int .i64 O.cp, .int .i64 O.cn, .int .i64 O.plan, .int .i64 O.wr, .int .i64 O.pr, .int .i64 O.deny] | 3 => vx = .int .i64 (M) | 4 => vx = .int .i64 (0) | 5 => vx = .int .i64 (0) | 6 => vx = .bool false | _ => True : Nat → Value → World → Prop)) jz vs iz vz wz hiz hz) HD4.out ⟨⟨rfl, ?_⟩, ⟨rfl, ?_⟩, ⟨rfl, ?_⟩, ⟨rfl, ?_⟩, ⟨rfl, ?_⟩, ⟨rfl, ?_⟩, ⟨rfl, ?_⟩, trivial⟩ ?_
          · intro vs Wx A hA hB hpre K hK
            have e3 := (hA 3).trans (show _ = Value.pointer (some ⟨q1, 0, none⟩) by kernel_rfl)
            clear hA hpre
            go_simp
            first | exact hK _ _ hB rfl (fun _ _ h => h) | exact hK _ _ hB trivial (fun _ _ h => h) | (rw [if_neg (by omega)]; go_simp; exact hK _ _ hB rfl (fun _ _ h => h))
          · intro vs Wx A hA hB hpre K hK
            have e52 := ((hA 52).trans (show _ = vs 0 by kernel_rfl)).trans (by first | exact hpre.1 rfl | exact hpre.2.1 rfl | exact hpre.2.2.1 rfl | exact hpre.2.2.2.1 rfl | exact hpre.2.2.2.2.1 rfl | exact hpre.2.2.2.2.2.1 rfl | exact hpre.2.2.2.2.2.2.1 rfl | exact hpre.2.2.2.2.2.2.2.1 rfl | exact hpre.2.2.2.2.2.2.2.2.1 rfl | exact hpre.2.2.2.2.2.2.2.2.2.1 rfl)
            obtain ⟨d0, d1, d2, d3, d4, d5, d6, d7⟩ := eight (keepB (w := w4) HOq1.out hB)
            obtain ⟨e0, e1, e2, e3, e4, e5, e6, e7⟩ := eight (keepB (w := w4) HOq2.out hB)
            clear hA hpre
            go_simp
            first | exact hK _ _ hB rfl (fun _ _ h => h) | exact hK _ _ hB trivial (fun _ _ h => h) | (rw [if_neg (by omega)]; go_simp; exact hK _ _ hB rfl (fun _ _ h => h))
          · intro vs Wx A hA hB hpre K hK
            have e3 := (hA 3).trans (show _ = Value.pointer (some ⟨q1, 0, none⟩) by kernel_rfl)
            obtain ⟨d0, d1, d2, d3, d4, d5, d6, d7⟩ := eight (keepB (w := w4) HOq1.out hB)
            obtain ⟨e0, e1, e2, e3, e4, e5, e6, e7⟩ := eight (keepB (w := w4) HOq2.out hB)
            clear hA hpre
            go_simp
            first | exact hK _ _ hB rfl (fun _ _ h => h) | exact hK _ _ hB trivial (fun _ _ h => h) | (rw [if_neg (by omega)]; go_simp; exact hK _ _ hB rfl (fun _ _ h => h))
          · intro vs Wx A hA hB hpre K hK
            have e54 := ((hA 54).trans (show _ = vs 2 by kernel_rfl)).trans (by first | exact hpre.1 rfl | exact hpre.2.1 rfl | exact hpre.2.2.1 rfl | exact hpre.2.2.2.1 rfl | exact hpre.2.2.2.2.1 rfl | exact hpre.2.2.2.2.2.1 rfl | exact hpre.2.2.2.2.2.2.1 rfl | exact hpre.2.2.2.2.2.2.2.1 rfl | exact hpre.2.2.2.2.2.2.2.2.1 rfl | exact hpre.2.2.2.2.2.2.2.2.2.1 rfl)
            clear hA hpre
            go_simp
            go_at_call 17
            refine (HM1.out _).mono ?_
            rintro e w9 ⟨rfl, hb9⟩
            exact hK _ _ (below_trans hB hb9) rfl (fun _ _ h => h)
          · intro vs Wx A hA hB hpre K hK
            have e53 := ((hA 53).trans (show _ = vs 1 by kernel_rfl)).trans (by first | exact hpre.1 rfl | exact hpre.2.1 rfl | exact hpre.2.2.1 rfl | exact hpre.2.2.2.1 rfl | exact hpre.2.2.2.2.1 rfl | exact hpre.2.2.2.2.2.1 rfl | exact hpre.2.2.2.2.2.2.1 rfl | exact hpre.2.2.2.2.2.2.2.1 rfl | exact hpre.2.2.2.2.2.2.2.2.1 rfl | exact hpre.2.2.2.2.2.2.2.2.2.1 rfl)
            have e55 := ((hA 55).trans (show _ = vs 3 by kernel_rfl)).trans (by first | exact hpre.1 rfl | exact hpre.2.1 rfl | exact hpre.2.2.1 rfl | exact hpre.2.2.2.1 rfl | exact hpre.2.2.2.2.1 rfl | exact hpre.2.2.2.2.2.1 rfl | exact hpre.2.2.2.2.2.2.1 rfl | exact hpre.2.2.2.2.2.2.2.1 rfl | exact hpre.2.2.2.2.2.2.2.2.1 rfl | exact hpre.2.2.2.2.2.2.2.2.2.1 rfl)
            clear hA hpre
            go_simp
            first | exact hK _ _ hB rfl (fun _ _ h => h) | exact hK _ _ hB trivial (fun _ _ h => h) | (rw [if_neg (by omega)]; go_simp; exact hK _ _ hB rfl (fun _ _ h => h))
          · intro vs Wx A hA hB hpre K hK
            have e7 := (hA 7).trans (show _ = Value.int .i64 (0) by kernel_rfl)
            clear hA hpre
            go_simp
            first | exact hK _ _ hB rfl (fun _ _ h => h) | exact hK _ _ hB trivial (fun _ _ h => h) | (rw [if_neg (by omega)]; go_simp; exact hK _ _ hB rfl (fun _ _ h => h))
          · intro vs Wx A hA hB hpre K hK
            have e56 := ((hA 56).trans (show _ = vs 4 by kernel_rfl)).trans (by first | exact hpre.1 rfl | exact hpre.2.1 rfl | exact hpre.2.2.1 rfl | exact hpre.2.2.2.1 rfl | exact hpre.2.2.2.2.1 rfl | exact hpre.2.2.2.2.2.1 rfl | exact hpre.2.2.2.2.2.2.1 rfl | exact hpre.2.2.2.2.2.2.2.1 rfl | exact hpre.2.2.2.2.2.2.2.2.1 rfl | exact hpre.2.2.2.2.2.2.2.2.2.1 rfl)
            have e57 := ((hA 57).trans (show _ = vs 5 by kernel_rfl)).trans (by first | exact hpre.1 rfl | exact hpre.2.1 rfl | exact hpre.2.2.1 rfl | exact hpre.2.2.2.1 rfl | exact hpre.2.2.2.2.1 rfl | exact hpre.2.2.2.2.2.1 rfl | exact hpre.2.2.2.2.2.2.1 rfl | exact hpre.2.2.2.2.2.2.2.1 rfl | exact hpre.2.2.2.2.2.2.2.2.1 rfl | exact hpre.2.2.2.2.2.2.2.2.2.1 rfl)
            clear hA hpre
            go_simp
            first | exact hK _ _ hB rfl (fun _ _ h => h) | exact hK _ _ hB trivial (fun _ _ h => h) | (rw [if_neg (by omega)]; go_simp; exact hK _ _ hB rfl (fun _ _ h => h))
          · intro vs w5 hB hF
            have hL : vs 6 = .bool false := hF 6 (by decide)
            have h0 : vs 0 = .pointer (some ⟨q1, 4, none⟩) := hF 0 (by decide)
            have HOq1_ := Lib.hid (keepB HOq1.out hB)
            have HOq2_ := Lib.hid (keepB HOq2.out hB)
            have HX5 := Lib.hid (keepB HX4.out hB)
            have HB5 := Lib.hid (below_on HB4.out hB HP4.out)
            have HP5 : Hid (p ≤ w5.heap.size) := Nat.le_of_lt (lt_of_block HX5.out)
            clear HOq1 HOq2 hF hB
            have HOq1 := HOq1_
            have HOq2 := HOq2_
            clear HOq1_ HOq2_
            simp only [Ri.puts]
            go_simp
            go_upto_region 10 with fail
            have HD5 := Lib.hid (Below.drew (Below.refl w5.heap.size w5))
            refine Ri.wp_region_lasting_g (by kernel_rfl) (by kernel_rfl) (by kernel_rfl) (fun Wx => Below w5.heap.size w5 Wx) (fun kz vs wz => (fun kx vx wx => match kx with | 0 => vx = .pointer (some ⟨q1, 4, none⟩) | 1 => vx = .int .i64 (O.plan) | 2 => vx = .pointer (some ⟨q2, 4, none⟩) | 3 => vx = .int .i64 (Q.plan) | 4 => vx = .bool true | 5 => vx = .bool true | 6 => vx = .agg #[.int .i64 O.al, .int .i64 O.de, .int .i64 O.cp, .int .i64 O.cn, .int .i64 O.plan, .int .i64 O.wr, .int .i64 O.pr, .int .i64 O.deny] | 7 => vx = .int .i64 (M) | 8 => vx = .agg #[.int .i64 Q.al, .int .i64 Q.de, .int .i64 Q.cp, .int .i64 Q.cn, .int .i64 Q.plan, .int .i64 Q.wr, .int .i64 Q.pr, .int .i64 Q.deny] | 9 => vx = .int .i64 (N) | 10 => vx = .bool true | 11 => vx = .bool true | 12 => vx = .bool true | 13 => vx = .pointer (some ⟨q1, 4, none⟩) | 14 => vx = .int .i64 (O.plan) | 15 => vx = .pointer (some ⟨q2, 4, none⟩) | 16 => vx = .int .i64 (Q.plan) | 17 => vx = .bool false | 18 => vx = .bool false | 19 => vx = .agg #[.int .i64 O.al, .int .i64 O.de, .int .i64 O.cp, .int .i64 O.cn, .int .i64 O.plan, .int .i64 O.wr, .int .i64 O.pr, .int .i64 O.deny] | 20 => vx = .int .i64 (M) | 21 => vx = .bool true | 22 => vx = .bool true | 23 => vx = .bool true | 24 => vx = .bool true | 25 => vx = .bool true | 26 => vx = .bool true | 27 => vx = .bool true | _ => True : Nat → Value → World → Prop) kz (vs kz) wz) (fun kz => [kz]) (by kernel_rfl) (fun jz vs iz vz wz hiz hz => Ri.loc_own (F := (fun kx vx wx => match kx with | 0 => vx = .pointer (some ⟨q1, 4, none⟩) | 1 => vx = .int .i64 (O.plan) | 2 => vx = .pointer (some ⟨q2, 4, none⟩) | 3 => vx = .int .i64 (Q.plan) | 4 => vx = .bool true | 5 => vx = .bool true | 6 => vx = .agg #[.int .i64 O.al, .int .i64 O.de, .int .i64 O.cp, .int .i64 O.cn, .int .i64 O.plan, .int .i64 O.wr, .int .i64 O.pr, .int .i64 O.deny] | 7 => vx = .int .i64 (M) | 8 => vx = .agg #[.int .i64 Q.al, .int .i64 Q.de, .int .i64 Q.cp, .int .i64 Q.cn, .int .i64 Q.plan, .int .i64 Q.wr, .int .i64 Q.pr, .int .i64 Q.deny] | 9 => vx = .int .i64 (N) | 10 => vx = .bool true | 11 => vx = .bool true | 12 => vx = .bool true | 13 => vx = .pointer (some ⟨q1, 4, none⟩) | 14 => vx = .int .i64 (O.plan) | 15 => vx = .pointer (some ⟨q2, 4, none⟩) | 16 => vx = .int .i64 (Q.plan) | 17 => vx = .bool false | 18 => vx = .bool false | 19 => vx = .agg #[.int .i64 O.al, .int .i64 O.de, .int .i64 O.cp, .int .i64 O.cn, .int .i64 O.plan, .int .i64 O.wr, .int .i64 O.pr, .int .i64 O.deny] | 20 => vx = .int .i64 (M) | 21 => vx = .bool true | 22 => vx = .bool true | 23 => vx = .bool true | 24 => vx = .bool true | 25 => vx = .bool true | 26 => vx = .bool true | 27 => vx = .bool true | _ => True : Nat → Value → World → Prop)) jz vs iz vz wz hiz hz) HD5.out ⟨Or.inl ⟨rfl, ?_⟩, Or.inl ⟨rfl, ?_⟩, Or.inl ⟨rfl, ?_⟩, Or.inl ⟨rfl, ?_⟩, Or.inl ⟨rfl, ?_⟩, Or.inl ⟨rfl, ?_⟩, Or.inr ⟨5, true, 64, rfl, rfl, ?_⟩, Or.inr ⟨5, true, 64, rfl, rfl, ?_⟩, Or.inr ⟨5, true, 64, rfl, rfl, ?_⟩, Or.inr ⟨5, true, 64, rfl, rfl, ?_⟩, Or.inr ⟨5, true, 64, rfl, rfl, ?_⟩, Or.inl ⟨rfl, ?_⟩, Or.inl ⟨rfl, ?_⟩, Or.inr ⟨12, true, 71, rfl, rfl, ?_⟩, Or.inr ⟨12, true, 71, rfl, rfl, ?_⟩, Or.inr ⟨12, true, 71, rfl, rfl, ?_⟩, Or.inr ⟨12, true, 71, rfl, rfl, ?_⟩, Or.inr ⟨12, true, 71, rfl, rfl, ?_⟩, Or.inr ⟨12, true, 71, rfl, rfl, ?_⟩, Or.inr ⟨18, false, 77, rfl, rfl, ?_⟩, Or.inr ⟨18, false, 77, rfl, rfl, ?_⟩, Or.inr ⟨18, false, 77, rfl, rfl, ?_⟩, Or.inr ⟨12, true, 71, rfl, rfl, ?_⟩, Or.inl ⟨rfl, ?_⟩, Or.inl ⟨rfl, ?_⟩, Or.inr ⟨24, true, 83, rfl, rfl, ?_⟩, Or.inl ⟨rfl, ?_⟩, Or.inl ⟨rfl, ?_⟩, trivial⟩ ?_
            · intro vs Wx A hA hB hpre K hK
              have e3 := (hA 3).trans (show _ = Value.pointer (some ⟨q1, 0, none⟩) by kernel_rfl)
              clear hA hpre
              go_simp
              first | exact hK _ _ hB rfl (fun _ _ h => h) | exact hK _ _ hB trivial (fun _ _ h => h) | (rw [if_neg (by omega)]; go_simp; exact hK _ _ hB rfl (fun _ _ h => h))
            · intro vs Wx A hA hB hpre K hK
              have e59 := ((hA 59).trans (show _ = vs 0 by kernel_rfl)).trans (by first | exact hpre.1 rfl | exact hpre.2.1 rfl | exact hpre.2.2.1 rfl | exact hpre.2.2.2.1 rfl | exact hpre.2.2.2.2.1 rfl | exact hpre.2.2.2.2.2.1 rfl | exact hpre.2.2.2.2.2.2.1 rfl | exact hpre.2.2.2.2.2.2.2.1 rfl | exact hpre.2.2.2.2.2.2.2.2.1 rfl | exact hpre.2.2.2.2.2.2.2.2.2.1 rfl)
              obtain ⟨d0, d1, d2, d3, d4, d5, d6, d7⟩ := eight (keepB (w := w5) HOq1.out hB)
              obtain ⟨e0, e1, e2, e3, e4, e5, e6, e7⟩ := eight (keepB (w := w5) HOq2.out hB)
              clear hA hpre
              go_simp
              first | exact hK _ _ hB rfl (fun _ _ h => h) | exact hK _ _ hB trivial (fun _ _ h => h) | (rw [if_neg (by omega)]; go_simp; exact hK _ _ hB rfl (fun _ _ h => h))
            · intro vs Wx A hA hB hpre K hK
              have e5 := (hA 5).trans (show _ = Value.pointer (some ⟨q2, 0, none⟩) by kernel_rfl)
              clear hA hpre
              go_simp
              first | exact hK _ _ hB rfl (fun _ _ h => h) | exact hK _ _ hB trivial (fun _ _ h => h) | (rw [if_neg (by omega)]; go_simp; exact hK _ _ hB rfl (fun _ _ h => h))
            · intro vs Wx A hA hB hpre K hK
              have e61 := ((hA 61).trans (show _ = vs 2 by kernel_rfl)).trans (by first | exact hpre.1 rfl | exact hpre.2.1 rfl | exact hpre.2.2.1 rfl | exact hpre.2.2.2.1 rfl | exact hpre.2.2.2.2.1 rfl | exact hpre.2.2.2.2.2.1 rfl | exact hpre.2.2.2.2.2.2.1 rfl | exact hpre.2.2.2.2.2.2.2.1 rfl | exact hpre.2.2.2.2.2.2.2.2.1 rfl | exact hpre.2.2.2.2.2.2.2.2.2.1 rfl)
              obtain ⟨d0, d1, d2, d3, d4, d5, d6, d7⟩ := eight (keepB (w := w5) HOq1.out hB)
              obtain ⟨e0, e1, e2, e3, e4, e5, e6, e7⟩ := eight (keepB (w := w5) HOq2.out hB)
              clear hA hpre
              go_simp
              first | exact hK _ _ hB rfl (fun _ _ h => h) | exact hK _ _ hB trivial (fun _ _ h => h) | (rw [if_neg (by omega)]; go_simp; exact hK _ _ hB rfl (fun _ _ h => h))
            · intro vs Wx A hA hB hpre K hK
              have e60 := ((hA 60).trans (show _ = vs 1 by kernel_rfl)).trans (by first | exact hpre.1 rfl | exact hpre.2.1 rfl | exact hpre.2.2.1 rfl | exact hpre.2.2.2.1 rfl | exact hpre.2.2.2.2.1 rfl | exact hpre.2.2.2.2.2.1 rfl | exact hpre.2.2.2.2.2.2.1 rfl | exact hpre.2.2.2.2.2.2.2.1 rfl | exact hpre.2.2.2.2.2.2.2.2.1 rfl | exact hpre.2.2.2.2.2.2.2.2.2.1 rfl)
              have e62 := ((hA 62).trans (show _ = vs 3 by kernel_rfl)).trans (by first | exact hpre.1 rfl | exact hpre.2.1 rfl | exact hpre.2.2.1 rfl | exact hpre.2.2.2.1 rfl | exact hpre.2.2.2.2.1 rfl | exact hpre.2.2.2.2.2.1 rfl | exact hpre.2.2.2.2.2.2.1 rfl | exact hpre.2.2.2.2.2.2.2.1 rfl | exact hpre.2.2.2.2.2.2.2.2.1 rfl | exact hpre.2.2.2.2.2.2.2.2.2.1 rfl)
              clear hA hpre
              go_simp
              first | exact hK _ _ hB rfl (fun _ _ h => h) | exact hK _ _ hB trivial (fun _ _ h => h) | (rw [if_neg (by omega)]; go_simp; exact hK _ _ hB rfl (fun _ _ h => h))
            · intro vs Wx A hA hB hpre K hK
              have e63 := ((hA 63).trans (show _ = vs 4 by kernel_rfl)).trans (by first | exact hpre.1 rfl | exact hpre.2.1 rfl | exact hpre.2.2.1 rfl | exact hpre.2.2.2.1 rfl | exact hpre.2.2.2.2.1 rfl | exact hpre.2.2.2.2.2.1 rfl | exact hpre.2.2.2.2.2.2.1 rfl | exact hpre.2.2.2.2.2.2.2.1 rfl | exact hpre.2.2.2.2.2.2.2.2.1 rfl | exact hpre.2.2.2.2.2.2.2.2.2.1 rfl)
              clear hA hpre
              go_simp
              first | exact hK _ _ hB rfl (fun _ _ h => h) | exact hK _ _ hB trivial (fun _ _ h => h) | (rw [if_neg (by omega)]; go_simp; exact hK _ _ hB rfl (fun _ _ h => h))
            · intro vs Wx A hA hB hpre
              have eg := ((hA 64).trans (show _ = vs 5 by kernel_rfl)).trans (by first | exact hpre.1 rfl | exact hpre.2.1 rfl | exact hpre.2.2.1 rfl | exact hpre.2.2.2.1 rfl | exact hpre.2.2.2.2.1 rfl | exact hpre.2.2.2.2.2.1 rfl | exact hpre.2.2.2.2.2.2.1 rfl | exact hpre.2.2.2.2.2.2.2.1 rfl | exact hpre.2.2.2.2.2.2.2.2.1 rfl | exact hpre.2.2.2.2.2.2.2.2.2.1 rfl)
              refine ⟨true, eg, fun _ K hK => ?_, fun h => absurd rfl h⟩
              have e3 := (hA 3).trans (show _ = Value.pointer (some ⟨q1, 0, none⟩) by kernel_rfl)
              obtain ⟨d0, d1, d2, d3, d4, d5, d6, d7⟩ := eight (keepB (w := w5) HOq1.out hB)
              obtain ⟨e0, e1, e2, e3, e4, e5, e6, e7⟩ := eight (keepB (w := w5) HOq2.out hB)
              clear hA hpre
              go_simp
              first | exact hK _ _ hB rfl (fun _ _ h => h) | exact hK _ _ hB trivial (fun _ _ h => h) | (rw [if_neg (by omega)]; go_simp; exact hK _ _ hB rfl (fun _ _ h => h))
            · intro vs Wx A hA hB hpre
              have eg := ((hA 64).trans (show _ = vs 5 by kernel_rfl)).trans (by first | exact hpre.1 rfl | exact hpre.2.1 rfl | exact hpre.2.2.1 rfl | exact hpre.2.2.2.1 rfl | exact hpre.2.2.2.2.1 rfl | exact hpre.2.2.2.2.2.1 rfl | exact hpre.2.2.2.2.2.2.1 rfl | exact hpre.2.2.2.2.2.2.2.1 rfl | exact hpre.2.2.2.2.2.2.2.2.1 rfl | exact hpre.2.2.2.2.2.2.2.2.2.1 rfl)
              refine ⟨true, eg, fun _ K hK => ?_, fun h => absurd rfl h⟩
              have e65 := ((hA 65).trans (show _ = vs 6 by kernel_rfl)).trans (by first | exact hpre.1 rfl | exact hpre.2.1 rfl | exact hpre.2.2.1 rfl | exact hpre.2.2.2.1 rfl | exact hpre.2.2.2.2.1 rfl | exact hpre.2.2.2.2.2.1 rfl | exact hpre.2.2.2.2.2.2.1 rfl | exact hpre.2.2.2.2.2.2.2.1 rfl | exact hpre.2.2.2.2.2.2.2.2.1 rfl | exact hpre.2.2.2.2.2.2.2.2.2.1 rfl)
              clear hA hpre
              go_simp
              go_at_call 17
              refine (HM1.out _).mono ?_
              rintro e w9 ⟨rfl, hb9⟩
              exact hK _ _ (below_trans hB hb9) rfl (fun _ _ h => h)
            · intro vs Wx A hA hB hpre
              have eg := ((hA 64).trans (show _ = vs 5 by kernel_rfl)).trans (by first | exact hpre.1 rfl | exact hpre.2.1 rfl | exact hpre.2.2.1 rfl | exact hpre.2.2.2.1 rfl | exact hpre.2.2.2.2.1 rfl | exact hpre.2.2.2.2.2.1 rfl | exact hpre.2.2.2.2.2.2.1 rfl | exact hpre.2.2.2.2.2.2.2.1 rfl | exact hpre.2.2.2.2.2.2.2.2.1 rfl | exact hpre.2.2.2.2.2.2.2.2.2.1 rfl)
              refine ⟨true, eg, fun _ K hK => ?_, fun h => absurd rfl h⟩
              have e5 := (hA 5).trans (show _ = Value.pointer (some ⟨q2, 0, none⟩) by kernel_rfl)
              obtain ⟨d0, d1, d2, d3, d4, d5, d6, d7⟩ := eight (keepB (w := w5) HOq1.out hB)
              obtain ⟨e0, e1, e2, e3, e4, e5, e6, e7⟩ := eight (keepB (w := w5) HOq2.out hB)
              clear hA hpre
              go_simp
              first | exact hK _ _ hB rfl (fun _ _ h => h) | exact hK _ _ hB trivial (fun _ _ h => h) | (rw [if_neg (by omega)]; go_simp; exact hK _ _ hB rfl (fun _ _ h => h))
            · intro vs Wx A hA hB hpre
              have eg := ((hA 64).trans (show _ = vs 5 by kernel_rfl)).trans (by first | exact hpre.1 rfl | exact hpre.2.1 rfl | exact hpre.2.2.1 rfl | exact hpre.2.2.2.1 rfl | exact hpre.2.2.2.2.1 rfl | exact hpre.2.2.2.2.2.1 rfl | exact hpre.2.2.2.2.2.2.1 rfl | exact hpre.2.2.2.2.2.2.2.1 rfl | exact hpre.2.2.2.2.2.2.2.2.1 rfl | exact hpre.2.2.2.2.2.2.2.2.2.1 rfl)
              refine ⟨true, eg, fun _ K hK => ?_, fun h => absurd rfl h⟩
              have e67 := ((hA 67).trans (show _ = vs 8 by kernel_rfl)).trans (by first | exact hpre.1 rfl | exact hpre.2.1 rfl | exact hpre.2.2.1 rfl | exact hpre.2.2.2.1 rfl | exact hpre.2.2.2.2.1 rfl | exact hpre.2.2.2.2.2.1 rfl | exact hpre.2.2.2.2.2.2.1 rfl | exact hpre.2.2.2.2.2.2.2.1 rfl | exact hpre.2.2.2.2.2.2.2.2.1 rfl | exact hpre.2.2.2.2.2.2.2.2.2.1 rfl)
              clear hA hpre
              go_simp
              go_at_call 17
              refine (HM2.out _).mono ?_
              rintro e w9 ⟨rfl, hb9⟩
              exact hK _ _ (below_trans hB hb9) rfl (fun _ _ h => h)
            · intro vs Wx A hA hB hpre
              have eg := ((hA 64).trans (show _ = vs 5 by kernel_rfl)).trans (by first | exact hpre.1 rfl | exact hpre.2.1 rfl | exact hpre.2.2.1 rfl | exact hpre.2.2.2.1 rfl | exact hpre.2.2.2.2.1 rfl | exact hpre.2.2.2.2.2.1 rfl | exact hpre.2.2.2.2.2.2.1 rfl | exact hpre.2.2.2.2.2.2.2.1 rfl | exact hpre.2.2.2.2.2.2.2.2.1 rfl | exact hpre.2.2.2.2.2.2.2.2.2.1 rfl)
              refine ⟨true, eg, fun _ K hK => ?_, fun h => absurd rfl h⟩
              have e66 := ((hA 66).trans (show _ = vs 7 by kernel_rfl)).trans (by first | exact hpre.1 rfl | exact hpre.2.1 rfl | exact hpre.2.2.1 rfl | exact hpre.2.2.2.1 rfl | exact hpre.2.2.2.2.1 rfl | exact hpre.2.2.2.2.2.1 rfl | exact hpre.2.2.2.2.2.2.1 rfl | exact hpre.2.2.2.2.2.2.2.1 rfl | exact hpre.2.2.2.2.2.2.2.2.1 rfl | exact hpre.2.2.2.2.2.2.2.2.2.1 rfl)
              have e68 := ((hA 68).trans (show _ = vs 9 by kernel_rfl)).trans (by first | exact hpre.1 rfl | exact hpre.2.1 rfl | exact hpre.2.2.1 rfl | exact hpre.2.2.2.1 rfl | exact hpre.2.2.2.2.1 rfl | exact hpre.2.2.2.2.2.1 rfl | exact hpre.2.2.2.2.2.2.1 rfl | exact hpre.2.2.2.2.2.2.2.1 rfl | exact hpre.2.2.2.2.2.2.2.2.1 rfl | exact hpre.2.2.2.2.2.2.2.2.2.1 rfl)
              clear hA hpre
              go_simp
              first | exact hK _ _ hB rfl (fun _ _ h => h) | exact hK _ _ hB trivial (fun _ _ h => h) | (rw [if_neg (by omega)]; go_simp; exact hK _ _ hB rfl (fun _ _ h => h))
            · intro vs Wx A hA hB hpre K hK
              have e64 := ((hA 64).trans (show _ = vs 5 by kernel_rfl)).trans (by first | exact hpre.1 rfl | exact hpre.2.1 rfl | exact hpre.2.2.1 rfl | exact hpre.2.2.2.1 rfl | exact hpre.2.2.2.2.1 rfl | exact hpre.2.2.2.2.2.1 rfl | exact hpre.2.2.2.2.2.2.1 rfl | exact hpre.2.2.2.2.2.2.2.1 rfl | exact hpre.2.2.2.2.2.2.2.2.1 rfl | exact hpre.2.2.2.2.2.2.2.2.2.1 rfl)
              have e69 := ((hA 69).trans (show _ = vs 10 by kernel_rfl)).trans (by first | exact hpre.1 rfl | exact hpre.2.1 rfl | exact hpre.2.2.1 rfl | exact hpre.2.2.2.1 rfl | exact hpre.2.2.2.2.1 rfl | exact hpre.2.2.2.2.2.1 rfl | exact hpre.2.2.2.2.2.2.1 rfl | exact hpre.2.2.2.2.2.2.2.1 rfl | exact hpre.2.2.2.2.2.2.2.2.1 rfl | exact hpre.2.2.2.2.2.2.2.2.2.1 rfl)
              clear hA hpre
              go_simp
              first | exact hK _ _ hB rfl (fun _ _ h => h) | exact hK _ _ hB trivial (fun _ _ h => h) | (rw [if_neg (by omega)]; go_simp; exact hK _ _ hB rfl (fun _ _ h => h))
            · intro vs Wx A hA hB hpre K hK
              have e70 := ((hA 70).trans (show _ = vs 11 by kernel_rfl)).trans (by first | exact hpre.1 rfl | exact hpre.2.1 rfl | exact hpre.2.2.1 rfl | exact hpre.2.2.2.1 rfl | exact hpre.2.2.2.2.1 rfl | exact hpre.2.2.2.2.2.1 rfl | exact hpre.2.2.2.2.2.2.1 rfl | exact hpre.2.2.2.2.2.2.2.1 rfl | exact hpre.2.2.2.2.2.2.2.2.1 rfl | exact hpre.2.2.2.2.2.2.2.2.2.1 rfl)
              clear hA hpre
              go_simp
              first | exact hK _ _ hB rfl (fun _ _ h => h) | exact hK _ _ hB trivial (fun _ _ h => h) | (rw [if_neg (by omega)]; go_simp; exact hK _ _ hB rfl (fun _ _ h => h))
            · intro vs Wx A hA hB hpre
              have eg := ((hA 71).trans (show _ = vs 12 by kernel_rfl)).trans (by first | exact hpre.1 rfl | exact hpre.2.1 rfl | exact hpre.2.2.1 rfl | exact hpre.2.2.2.1 rfl | exact hpre.2.2.2.2.1 rfl | exact hpre.2.2.2.2.2.1 rfl | exact hpre.2.2.2.2.2.2.1 rfl | exact hpre.2.2.2.2.2.2.2.1 rfl | exact hpre.2.2.2.2.2.2.2.2.1 rfl | exact hpre.2.2.2.2.2.2.2.2.2.1 rfl)
              refine ⟨true, eg, fun _ K hK => ?_, fun h => absurd rfl h⟩
              have e3 := (hA 3).trans (show _ = Value.pointer (some ⟨q1, 0, none⟩) by kernel_rfl)
              clear hA hpre
              go_simp
              first | exact hK _ _ hB rfl (fun _ _ h => h) | exact hK _ _ hB trivial (fun _ _ h => h) | (rw [if_neg (by omega)]; go_simp; exact hK _ _ hB rfl (fun _ _ h => h))
            · intro vs Wx A hA hB hpre
              have eg := ((hA 71).trans (show _ = vs 12 by kernel_rfl)).trans (by first | exact hpre.1 rfl | exact hpre.2.1 rfl | exact hpre.2.2.1 rfl | exact hpre.2.2.2.1 rfl | exact hpre.2.2.2.2.1 rfl | exact hpre.2.2.2.2.2.1 rfl | exact hpre.2.2.2.2.2.2.1 rfl | exact hpre.2.2.2.2.2.2.2.1 rfl | exact hpre.2.2.2.2.2.2.2.2.1 rfl | exact hpre.2.2.2.2.2.2.2.2.2.1 rfl)
              refine ⟨true, eg, fun _ K hK => ?_, fun h => absurd rfl h⟩
              have e72 := ((hA 72).trans (show _ = vs 13 by kernel_rfl)).trans (by first | exact hpre.1 rfl | exact hpre.2.1 rfl | exact hpre.2.2.1 rfl | exact hpre.2.2.2.1 rfl | exact hpre.2.2.2.2.1 rfl | exact hpre.2.2.2.2.2.1 rfl | exact hpre.2.2.2.2.2.2.1 rfl | exact hpre.2.2.2.2.2.2.2.1 rfl | exact hpre.2.2.2.2.2.2.2.2.1 rfl | exact hpre.2.2.2.2.2.2.2.2.2.1 rfl)
              obtain ⟨d0, d1, d2, d3, d4, d5, d6, d7⟩ := eight (keepB (w := w5) HOq1.out hB)
              obtain ⟨e0, e1, e2, e3, e4, e5, e6, e7⟩ := eight (keepB (w := w5) HOq2.out hB)
              clear hA hpre
              go_simp
              first | exact hK _ _ hB rfl (fun _ _ h => h) | exact hK _ _ hB trivial (fun _ _ h => h) | (rw [if_neg (by omega)]; go_simp; exact hK _ _ hB rfl (fun _ _ h => h))
            · intro vs Wx A hA hB hpre
              have eg := ((hA 71).trans (show _ = vs 12 by kernel_rfl)).trans (by first | exact hpre.1 rfl | exact hpre.2.1 rfl | exact hpre.2.2.1 rfl | exact hpre.2.2.2.1 rfl | exact hpre.2.2.2.2.1 rfl | exact hpre.2.2.2.2.2.1 rfl | exact hpre.2.2.2.2.2.2.1 rfl | exact hpre.2.2.2.2.2.2.2.1 rfl | exact hpre.2.2.2.2.2.2.2.2.1 rfl | exact hpre.2.2.2.2.2.2.2.2.2.1 rfl)
              refine ⟨true, eg, fun _ K hK => ?_, fun h => absurd rfl h⟩
              have e5 := (hA 5).trans (show _ = Value.pointer (some ⟨q2, 0, none⟩) by kernel_rfl)
              clear hA hpre
              go_simp
              first | exact hK _ _ hB rfl (fun _ _ h => h) | exact hK _ _ hB trivial (fun _ _ h => h) | (rw [if_neg (by omega)]; go_simp; exact hK _ _ hB rfl (fun _ _ h => h))
            · intro vs Wx A hA hB hpre
              have eg := ((hA 71).trans (show _ = vs 12 by kernel_rfl)).trans (by first | exact hpre.1 rfl | exact hpre.2.1 rfl | exact hpre.2.2.1 rfl | exact hpre.2.2.2.1 rfl | exact hpre.2.2.2.2.1 rfl | exact hpre.2.2.2.2.2.1 rfl | exact hpre.2.2.2.2.2.2.1 rfl | exact hpre.2.2.2.2.2.2.2.1 rfl | exact hpre.2.2.2.2.2.2.2.2.1 rfl | exact hpre.2.2.2.2.2.2.2.2.2.1 rfl)
              refine ⟨true, eg, fun _ K hK => ?_, fun h => absurd rfl h⟩
              have e74 := ((hA 74).trans (show _ = vs 15 by kernel_rfl)).trans (by first | exact hpre.1 rfl | exact hpre.2.1 rfl | exact hpre.2.2.1 rfl | exact hpre.2.2.2.1 rfl | exact hpre.2.2.2.2.1 rfl | exact hpre.2.2.2.2.2.1 rfl | exact hpre.2.2.2.2.2.2.1 rfl | exact hpre.2.2.2.2.2.2.2.1 rfl | exact hpre.2.2.2.2.2.2.2.2.1 rfl | exact hpre.2.2.2.2.2.2.2.2.2.1 rfl)
              obtain ⟨d0, d1, d2, d3, d4, d5, d6, d7⟩ := eight (keepB (w := w5) HOq1.out hB)
              obtain ⟨e0, e1, e2, e3, e4, e5, e6, e7⟩ := eight (keepB (w := w5) HOq2.out hB)
              clear hA hpre
              go_simp
              first | exact hK _ _ hB rfl (fun _ _ h => h) | exact hK _ _ hB trivial (fun _ _ h => h) | (rw [if_neg (by omega)]; go_simp; exact hK _ _ hB rfl (fun _ _ h => h))
            · intro vs Wx A hA hB hpre
              have eg := ((hA 71).trans (show _ = vs 12 by kernel_rfl)).trans (by first | exact hpre.1 rfl | exact hpre.2.1 rfl | exact hpre.2.2.1 rfl | exact hpre.2.2.2.1 rfl | exact hpre.2.2.2.2.1 rfl | exact hpre.2.2.2.2.2.1 rfl | exact hpre.2.2.2.2.2.2.1 rfl | exact hpre.2.2.2.2.2.2.2.1 rfl | exact hpre.2.2.2.2.2.2.2.2.1 rfl | exact hpre.2.2.2.2.2.2.2.2.2.1 rfl)
              refine ⟨true, eg, fun _ K hK => ?_, fun h => absurd rfl h⟩
              have e73 := ((hA 73).trans (show _ = vs 14 by kernel_rfl)).trans (by first | exact hpre.1 rfl | exact hpre.2.1 rfl | exact hpre.2.2.1 rfl | exact hpre.2.2.2.1 rfl | exact hpre.2.2.2.2.1 rfl | exact hpre.2.2.2.2.2.1 rfl | exact hpre.2.2.2.2.2.2.1 rfl | exact hpre.2.2.2.2.2.2.2.1 rfl | exact hpre.2.2.2.2.2.2.2.2.1 rfl | exact hpre.2.2.2.2.2.2.2.2.2.1 rfl)
              have e75 := ((hA 75).trans (show _ = vs 16 by kernel_rfl)).trans (by first | exact hpre.1 rfl | exact hpre.2.1 rfl | exact hpre.2.2.1 rfl | exact hpre.2.2.2.1 rfl | exact hpre.2.2.2.2.1 rfl | exact hpre.2.2.2.2.2.1 rfl | exact hpre.2.2.2.2.2.2.1 rfl | exact hpre.2.2.2.2.2.2.2.1 rfl | exact hpre.2.2.2.2.2.2.2.2.1 rfl | exact hpre.2.2.2.2.2.2.2.2.2.1 rfl)
              clear hA hpre
              go_simp
              first | exact hK _ _ hB rfl (fun _ _ h => h) | exact hK _ _ hB trivial (fun _ _ h => h) | (rw [if_neg (by omega)]; go_simp; exact hK _ _ hB rfl (fun _ _ h => h))
            · intro vs Wx A hA hB hpre
              have eg := ((hA 71).trans (show _ = vs 12 by kernel_rfl)).trans (by first | exact hpre.1 rfl | exact hpre.2.1 rfl | exact hpre.2.2.1 rfl | exact hpre.2.2.2.1 rfl | exact hpre.2.2.2.2.1 rfl | exact hpre.2.2.2.2.2.1 rfl | exact hpre.2.2.2.2.2.2.1 rfl | exact hpre.2.2.2.2.2.2.2.1 rfl | exact hpre.2.2.2.2.2.2.2.2.1 rfl | exact hpre.2.2.2.2.2.2.2.2.2.1 rfl)
              refine ⟨true, eg, fun _ K hK => ?_, fun h => absurd rfl h⟩
              have e76 := ((hA 76).trans (show _ = vs 17 by kernel_rfl)).trans (by first | exact hpre.1 rfl | exact hpre.2.1 rfl | exact hpre.2.2.1 rfl | exact hpre.2.2.2.1 rfl | exact hpre.2.2.2.2.1 rfl | exact hpre.2.2.2.2.2.1 rfl | exact hpre.2.2.2.2.2.2.1 rfl | exact hpre.2.2.2.2.2.2.2.1 rfl | exact hpre.2.2.2.2.2.2.2.2.1 rfl | exact hpre.2.2.2.2.2.2.2.2.2.1 rfl)
              clear hA hpre
              go_simp
              first | exact hK _ _ hB rfl (fun _ _ h => h) | exact hK _ _ hB trivial (fun _ _ h => h) | (rw [if_neg (by omega)]; go_simp; exact hK _ _ hB rfl (fun _ _ h => h))
            · intro vs Wx A hA hB hpre
              have eg := ((hA 77).trans (show _ = vs 18 by kernel_rfl)).trans (by first | exact hpre.1 rfl | exact hpre.2.1 rfl | exact hpre.2.2.1 rfl | exact hpre.2.2.2.1 rfl | exact hpre.2.2.2.2.1 rfl | exact hpre.2.2.2.2.2.1 rfl | exact hpre.2.2.2.2.2.2.1 rfl | exact hpre.2.2.2.2.2.2.2.1 rfl | exact hpre.2.2.2.2.2.2.2.2.1 rfl | exact hpre.2.2.2.2.2.2.2.2.2.1 rfl)
              refine ⟨false, eg, fun _ K hK => ?_, fun h => absurd rfl h⟩
              have e3 := (hA 3).trans (show _ = Value.pointer (some ⟨q1, 0, none⟩) by kernel_rfl)
              obtain ⟨d0, d1, d2, d3, d4, d5, d6, d7⟩ := eight (keepB (w := w5) HOq1.out hB)
              obtain ⟨e0, e1, e2, e3, e4, e5, e6, e7⟩ := eight (keepB (w := w5) HOq2.out hB)
              clear hA hpre
              go_simp
              first | exact hK _ _ hB rfl (fun _ _ h => h) | exact hK _ _ hB trivial (fun _ _ h => h) | (rw [if_neg (by omega)]; go_simp; exact hK _ _ hB rfl (fun _ _ h => h))
            · intro vs Wx A hA hB hpre
              have eg := ((hA 77).trans (show _ = vs 18 by kernel_rfl)).trans (by first | exact hpre.1 rfl | exact hpre.2.1 rfl | exact hpre.2.2.1 rfl | exact hpre.2.2.2.1 rfl | exact hpre.2.2.2.2.1 rfl | exact hpre.2.2.2.2.2.1 rfl | exact hpre.2.2.2.2.2.2.1 rfl | exact hpre.2.2.2.2.2.2.2.1 rfl | exact hpre.2.2.2.2.2.2.2.2.1 rfl | exact hpre.2.2.2.2.2.2.2.2.2.1 rfl)
              refine ⟨false, eg, fun _ K hK => ?_, fun h => absurd rfl h⟩
              have e78 := ((hA 78).trans (show _ = vs 19 by kernel_rfl)).trans (by first | exact hpre.1 rfl | exact hpre.2.1 rfl | exact hpre.2.2.1 rfl | exact hpre.2.2.2.1 rfl | exact hpre.2.2.2.2.1 rfl | exact hpre.2.2.2.2.2.1 rfl | exact hpre.2.2.2.2.2.2.1 rfl | exact hpre.2.2.2.2.2.2.2.1 rfl | exact hpre.2.2.2.2.2.2.2.2.1 rfl | exact hpre.2.2.2.2.2.2.2.2.2.1 rfl)
              clear hA hpre
              go_simp
              go_at_call 17
              refine (HM1.out _).mono ?_
              rintro e w9 ⟨rfl, hb9⟩
              exact hK _ _ (below_trans hB hb9) rfl (fun _ _ h => h)
            · intro vs Wx A hA hB hpre
              have eg := ((hA 77).trans (show _ = vs 18 by kernel_rfl)).trans (by first | exact hpre.1 rfl | exact hpre.2.1 rfl | exact hpre.2.2.1 rfl | exact hpre.2.2.2.1 rfl | exact hpre.2.2.2.2.1 rfl | exact hpre.2.2.2.2.2.1 rfl | exact hpre.2.2.2.2.2.2.1 rfl | exact hpre.2.2.2.2.2.2.2.1 rfl | exact hpre.2.2.2.2.2.2.2.2.1 rfl | exact hpre.2.2.2.2.2.2.2.2.2.1 rfl)
              refine ⟨false, eg, fun _ K hK => ?_, fun h => absurd rfl h⟩
              have e79 := ((hA 79).trans (show _ = vs 20 by kernel_rfl)).trans (by first | exact hpre.1 rfl | exact hpre.2.1 rfl | exact hpre.2.2.1 rfl | exact hpre.2.2.2.1 rfl | exact hpre.2.2.2.2.1 rfl | exact hpre.2.2.2.2.2.1 rfl | exact hpre.2.2.2.2.2.2.1 rfl | exact hpre.2.2.2.2.2.2.2.1 rfl | exact hpre.2.2.2.2.2.2.2.2.1 rfl | exact hpre.2.2.2.2.2.2.2.2.2.1 rfl)
              clear hA hpre
              go_simp
              first | exact hK _ _ hB rfl (fun _ _ h => h) | exact hK _ _ hB trivial (fun _ _ h => h) | (rw [if_neg (by omega)]; go_simp; exact hK _ _ hB rfl (fun _ _ h => h))
            · intro vs Wx A hA hB hpre
              have eg := ((hA 71).trans (show _ = vs 12 by kernel_rfl)).trans (by first | exact hpre.1 rfl | exact hpre.2.1 rfl | exact hpre.2.2.1 rfl | exact hpre.2.2.2.1 rfl | exact hpre.2.2.2.2.1 rfl | exact hpre.2.2.2.2.2.1 rfl | exact hpre.2.2.2.2.2.2.1 rfl | exact hpre.2.2.2.2.2.2.2.1 rfl | exact hpre.2.2.2.2.2.2.2.2.1 rfl | exact hpre.2.2.2.2.2.2.2.2.2.1 rfl)
              refine ⟨true, eg, fun _ K hK => ?_, fun h => absurd rfl h⟩
              have e77 := ((hA 77).trans (show _ = vs 18 by kernel_rfl)).trans (by first | exact hpre.1 rfl | exact hpre.2.1 rfl | exact hpre.2.2.1 rfl | exact hpre.2.2.2.1 rfl | exact hpre.2.2.2.2.1 rfl | exact hpre.2.2.2.2.2.1 rfl | exact hpre.2.2.2.2.2.2.1 rfl | exact hpre.2.2.2.2.2.2.2.1 rfl | exact hpre.2.2.2.2.2.2.2.2.1 rfl | exact hpre.2.2.2.2.2.2.2.2.2.1 rfl)
              have e80 := ((hA 80).trans (show _ = vs 21 by kernel_rfl)).trans (by first | exact hpre.1 rfl | exact hpre.2.1 rfl | exact hpre.2.2.1 rfl | exact hpre.2.2.2.1 rfl | exact hpre.2.2.2.2.1 rfl | exact hpre.2.2.2.2.2.1 rfl | exact hpre.2.2.2.2.2.2.1 rfl | exact hpre.2.2.2.2.2.2.2.1 rfl | exact hpre.2.2.2.2.2.2.2.2.1 rfl | exact hpre.2.2.2.2.2.2.2.2.2.1 rfl)
              clear hA hpre
              go_simp
              first | exact hK _ _ hB rfl (fun _ _ h => h) | exact hK _ _ hB trivial (fun _ _ h => h) | (rw [if_neg (by omega)]; go_simp; exact hK _ _ hB rfl (fun _ _ h => h))
            · intro vs Wx A hA hB hpre K hK
              have e71 := ((hA 71).trans (show _ = vs 12 by kernel_rfl)).trans (by first | exact hpre.1 rfl | exact hpre.2.1 rfl | exact hpre.2.2.1 rfl | exact hpre.2.2.2.1 rfl | exact hpre.2.2.2.2.1 rfl | exact hpre.2.2.2.2.2.1 rfl | exact hpre.2.2.2.2.2.2.1 rfl | exact hpre.2.2.2.2.2.2.2.1 rfl | exact hpre.2.2.2.2.2.2.2.2.1 rfl | exact hpre.2.2.2.2.2.2.2.2.2.1 rfl)
              have e81 := ((hA 81).trans (show _ = vs 22 by kernel_rfl)).trans (by first | exact hpre.1 rfl | exact hpre.2.1 rfl | exact hpre.2.2.1 rfl | exact hpre.2.2.2.1 rfl | exact hpre.2.2.2.2.1 rfl | exact hpre.2.2.2.2.2.1 rfl | exact hpre.2.2.2.2.2.2.1 rfl | exact hpre.2.2.2.2.2.2.2.1 rfl | exact hpre.2.2.2.2.2.2.2.2.1 rfl | exact hpre.2.2.2.2.2.2.2.2.2.1 rfl)
              clear hA hpre
              go_simp
              first | exact hK _ _ hB rfl (fun _ _ h => h) | exact hK _ _ hB trivial (fun _ _ h => h) | (rw [if_neg (by omega)]; go_simp; exact hK _ _ hB rfl (fun _ _ h => h))
            · intro vs Wx A hA hB hpre K hK
              have e82 := ((hA 82).trans (show _ = vs 23 by kernel_rfl)).trans (by first | exact hpre.1 rfl | exact hpre.2.1 rfl | exact hpre.2.2.1 rfl | exact hpre.2.2.2.1 rfl | exact hpre.2.2.2.2.1 rfl | exact hpre.2.2.2.2.2.1 rfl | exact hpre.2.2.2.2.2.2.1 rfl | exact hpre.2.2.2.2.2.2.2.1 rfl | exact hpre.2.2.2.2.2.2.2.2.1 rfl | exact hpre.2.2.2.2.2.2.2.2.2.1 rfl)
              clear hA hpre
              go_simp
              first | exact hK _ _ hB rfl (fun _ _ h => h) | exact hK _ _ hB trivial (fun _ _ h => h) | (rw [if_neg (by omega)]; go_simp; exact hK _ _ hB rfl (fun _ _ h => h))
            · intro vs Wx A hA hB hpre
              have eg := ((hA 83).trans (show _ = vs 24 by kernel_rfl)).trans (by first | exact hpre.1 rfl | exact hpre.2.1 rfl | exact hpre.2.2.1 rfl | exact hpre.2.2.2.1 rfl | exact hpre.2.2.2.2.1 rfl | exact hpre.2.2.2.2.2.1 rfl | exact hpre.2.2.2.2.2.2.1 rfl | exact hpre.2.2.2.2.2.2.2.1 rfl | exact hpre.2.2.2.2.2.2.2.2.1 rfl | exact hpre.2.2.2.2.2.2.2.2.2.1 rfl)
              refine ⟨true, eg, fun _ K hK => ?_, fun h => absurd rfl h⟩
              clear hA hpre
              go_simp
              go_at_call 11
              refine (works_any _).mono ?_
              rintro e w9 ⟨rfl, hb9⟩
              exact hK _ _ (below_trans hB hb9) rfl (fun _ _ h => h)
            · intro vs Wx A hA hB hpre K hK
              have e83 := ((hA 83).trans (show _ = vs 24 by kernel_rfl)).trans (by first | exact hpre.1 rfl | exact hpre.2.1 rfl | exact hpre.2.2.1 rfl | exact hpre.2.2.2.1 rfl | exact hpre.2.2.2.2.1 rfl | exact hpre.2.2.2.2.2.1 rfl | exact hpre.2.2.2.2.2.2.1 rfl | exact hpre.2.2.2.2.2.2.2.1 rfl | exact hpre.2.2.2.2.2.2.2.2.1 rfl | exact hpre.2.2.2.2.2.2.2.2.2.1 rfl)
              have e84 := ((hA 84).trans (show _ = vs 25 by kernel_rfl)).trans (by first | exact hpre.1 rfl | exact hpre.2.1 rfl | exact hpre.2.2.1 rfl | exact hpre.2.2.2.1 rfl | exact hpre.2.2.2.2.1 rfl | exact hpre.2.2.2.2.2.1 rfl | exact hpre.2.2.2.2.2.2.1 rfl | exact hpre.2.2.2.2.2.2.2.1 rfl | exact hpre.2.2.2.2.2.2.2.2.1 rfl | exact hpre.2.2.2.2.2.2.2.2.2.1 rfl)
              clear hA hpre
              go_simp
              first | exact hK _ _ hB rfl (fun _ _ h => h) | exact hK _ _ hB trivial (fun _ _ h => h) | (rw [if_neg (by omega)]; go_simp; exact hK _ _ hB rfl (fun _ _ h => h))
            · intro vs Wx A hA hB hpre K hK
              have e85 := ((hA 85).trans (show _ = vs 26 by kernel_rfl)).trans (by first | exact hpre.1 rfl | exact hpre.2.1 rfl | exact hpre.2.2.1 rfl | exact hpre.2.2.2.1 rfl | exact hpre.2.2.2.2.1 rfl | exact hpre.2.2.2.2.2.1 rfl | exact hpre.2.2.2.2.2.2.1 rfl | exact hpre.2.2.2.2.2.2.2.1 rfl | exact hpre.2.2.2.2.2.2.2.2.1 rfl | exact hpre.2.2.2.2.2.2.2.2.2.1 rfl)
              clear hA hpre
              go_simp
              first | exact hK _ _ hB rfl (fun _ _ h => h) | exact hK _ _ hB trivial (fun _ _ h => h) | (rw [if_neg (by omega)]; go_simp; exact hK _ _ hB rfl (fun _ _ h => h))
            · intro vs w6 hB hF
              have hL6 : vs 27 = .bool true := hF 27 (by decide)
              have HB6 := Lib.hid (below_on HB5.out hB HP5.out)
              clear hF hB
              simp only [Ri.puts]
              go_simp
              go_wp2_with fail
              go_ret
              exact ⟨by first | rfl | (rw [hL6]; rfl) | simp [hL6], by first | exact HB6.out | (rw [hp]; exact HB6.out)⟩
      · rw [if_neg hl] at hr
        have u1 : IntKind.i64.wrap (O.plan + M) = x01 - x02 := by rw [IntKind.wrap_i64]; omega
        clear hr
        by_cases hs : O.plan = Q.plan
        · have hs' : (O.plan == Q.plan) = true := by simpa using hs
          clear hs hX
          have HX0 := Lib.hid (alloc_new w #[.int .i64 x00, .int .i64 x01, .int .i64 x02, .int .i64 x03, .int .i64 x04, .int .i64 x05] 29)
          have HB0 := Lib.hid (below_alloc w (.cells #[.int .i64 x00, .int .i64 x01, .int .i64 x02, .int .i64 x03, .int .i64 x04, .int .i64 x05] 29))
          go_enter Try.func7, Try.ntmps7
          go_upto_region 1 with fail
          generalize w.alloc (.cells #[.int .i64 x00, .int .i64 x01, .int .i64 x02, .int .i64 x03, .int .i64 x04, .int .i64 x05] 29) = w0 at *
          generalize hp : w.heap.size = p at *
          have HP0 : Hid (p ≤ w0.heap.size) := Nat.le_of_lt (lt_of_block HX0.out)
          obtain ⟨s0, s1, s2, s3, s4, s5⟩ := bsix HX0.out
          go_wp2_with fail
          go_at_call 12
          refine (H1.out _).mono ?_
          rintro e w1 ⟨rfl, hb⟩
          have HX1 := Lib.hid (keepB HX0.out hb)
          have HB1 := Lib.hid (below_on HB0.out hb HP0.out)
          have HP1 : Hid (p ≤ w1.heap.size) := Nat.le_of_lt (lt_of_block HX1.out)
          clear hb
          clear s0 s1 s2 s3 s4 s5
          obtain ⟨s0, s1, s2, s3, s4, s5⟩ := bsix HX1.out
          have HX2 := Lib.hid (keepB HX1.out (below_alloc w1 (.cells #[.int .i64 O.al, .int .i64 O.de, .int .i64 O.cp, .int .i64 O.cn, .int .i64 O.plan, .int .i64 O.wr, .int .i64 O.pr, .int .i64 O.deny] 31)))
          have HB2 := Lib.hid (below_on HB1.out (below_alloc w1 (.cells #[.int .i64 O.al, .int .i64 O.de, .int .i64 O.cp, .int .i64 O.cn, .int .i64 O.plan, .int .i64 O.wr, .int .i64 O.pr, .int .i64 O.deny] 31)) HP1.out)
          have HOq1 := Lib.hid (alloc_new w1 #[.int .i64 O.al, .int .i64 O.de, .int .i64 O.cp, .int .i64 O.cn, .int .i64 O.plan, .int .i64 O.wr, .int .i64 O.pr, .int .i64 O.deny] 31)
          go_upto_region 2 with fail
          generalize w1.alloc (.cells #[.int .i64 O.al, .int .i64 O.de, .int .i64 O.cp, .int .i64 O.cn, .int .i64 O.plan, .int .i64 O.wr, .int .i64 O.pr, .int .i64 O.deny] 31) = w2 at *
          generalize w1.heap.size = q1 at *
          have HP2 : Hid (p ≤ w2.heap.size) := Nat.le_of_lt (lt_of_block HX2.out)
          clear s0 s1 s2 s3 s4 s5
          obtain ⟨s0, s1, s2, s3, s4, s5⟩ := bsix HX2.out
          go_wp2_with fail
          go_at_call 12
          refine (H2.out _).mono ?_
          rintro e w3 ⟨rfl, hb⟩
          have HX3 := Lib.hid (keepB HX2.out hb)
          have HB3 := Lib.hid (below_on HB2.out hb HP2.out)
          have HP3 : Hid (p ≤ w3.heap.size) := Nat.le_of_lt (lt_of_block HX3.out)
          have HOq1_ := Lib.hid (keepB HOq1.out hb)
          clear HOq1
          have HOq1 := HOq1_
          clear HOq1_
          clear hb
          clear s0 s1 s2 s3 s4 s5
          obtain ⟨s0, s1, s2, s3, s4, s5⟩ := bsix HX3.out
          have HX4 := Lib.hid (keepB HX3.out (below_alloc w3 (.cells #[.int .i64 Q.al, .int .i64 Q.de, .int .i64 Q.cp, .int .i64 Q.cn, .int .i64 Q.plan, .int .i64 Q.wr, .int .i64 Q.pr, .int .i64 Q.deny] 31)))
          have HB4 := Lib.hid (below_on HB3.out (below_alloc w3 (.cells #[.int .i64 Q.al, .int .i64 Q.de, .int .i64 Q.cp, .int .i64 Q.cn, .int .i64 Q.plan, .int .i64 Q.wr, .int .i64 Q.pr, .int .i64 Q.deny] 31)) HP3.out)
          have HOq2 := Lib.hid (alloc_new w3 #[.int .i64 Q.al, .int .i64 Q.de, .int .i64 Q.cp, .int .i64 Q.cn, .int .i64 Q.plan, .int .i64 Q.wr, .int .i64 Q.pr, .int .i64 Q.deny] 31)
          have HOq1_ := Lib.hid (keepB HOq1.out (below_alloc w3 (.cells #[.int .i64 Q.al, .int .i64 Q.de, .int .i64 Q.cp, .int .i64 Q.cn, .int .i64 Q.plan, .int .i64 Q.wr, .int .i64 Q.pr, .int .i64 Q.deny] 31)))
          clear HOq1
          have HOq1 := HOq1_
          clear HOq1_
          go_upto_region 3 with fail
          generalize w3.alloc (.cells #[.int .i64 Q.al, .int .i64 Q.de, .int .i64 Q.cp, .int .i64 Q.cn, .int .i64 Q.plan, .int .i64 Q.wr, .int .i64 Q.pr, .int .i64 Q.deny] 31) = w4 at *
          generalize w3.heap.size = q2 at *
          have HP4 : Hid (p ≤ w4.heap.size) := Nat.le_of_lt (lt_of_block HX4.out)
          clear s0 s1 s2 s3 s4 s5
          obtain ⟨s0, s1, s2, s3, s4, s5⟩ := bsix HX4.out
          go_upto_region 8 with fail
          clear s0 s1 s2 s3 s4 s5
          have HD4 := Lib.hid (Below.drew (Below.refl w4.heap.size w4))
          refine Ri.wp_region_lasting (by kernel_rfl) (by kernel_rfl) (by kernel_rfl) (fun Wx => Below w4.heap.size w4 Wx) (fun kz vs wz => (fun kx vx wx => match kx with | 0 => vx = .pointer (some ⟨q1, 4, none⟩) | 1 => vx = .int .i64 (O.plan) | 2 => vx = .agg #[.int .i64 O.al, .int .i64 O.de, .int .i64 O.cp, .int .i64 O.cn, .int .i64 O.plan, .int .i64 O.wr, .int .i64 O.pr, .int .i64 O.deny] | 3 => vx = .int .i64 (M) | 4 => vx = .int .i64 (x01 - x02) | 5 => vx = .int .i64 (x01 - x02) | 6 => vx = .bool false | _ => True : Nat → Value → World → Prop) kz (vs kz) wz) (fun kz => [kz]) (by kernel_rfl) (fun jz vs iz vz wz hiz hz => Ri.loc_own (F := (fun kx vx wx => match kx with | 0 => vx = .pointer (some ⟨q1, 4, none⟩) | 1 => vx = .int .i64 (O.plan) | 2 => vx = .agg #[.int .i64 O.al, .int .i64 O.de, .int .i64 O.cp, .int .i64 O.cn, .int .i64 O.plan, .int .i64 O.wr, .int .i64 O.pr, .int .i64 O.deny] | 3 => vx = .int .i64 (M) | 4 => vx = .int .i64 (x01 - x02) | 5 => vx = .int .i64 (x01 - x02) | 6 => vx = .bool false | _ => True : Nat → Value → World → Prop)) jz vs iz vz wz hiz hz) HD4.out ⟨⟨rfl, ?_⟩, ⟨rfl, ?_⟩, ⟨rfl, ?_⟩, ⟨rfl, ?_⟩, ⟨rfl, ?_⟩, ⟨rfl, ?_⟩, ⟨rfl, ?_⟩, trivial⟩ ?_
          · intro vs Wx A hA hB hpre K hK
            have e3 := (hA 3).trans (show _ = Value.pointer (some ⟨q1, 0, none⟩) by kernel_rfl)
            clear hA hpre
            go_simp
            first | exact hK _ _ hB rfl (fun _ _ h => h) | exact hK _ _ hB trivial (fun _ _ h => h) | (rw [if_neg (by omega)]; go_simp; exact hK _ _ hB rfl (fun _ _ h => h))
          · intro vs Wx A hA hB hpre K hK
            have e52 := ((hA 52).trans (show _ = vs 0 by kernel_rfl)).trans (by first | exact hpre.1 rfl | exact hpre.2.1 rfl | exact hpre.2.2.1 rfl | exact hpre.2.2.2.1 rfl | exact hpre.2.2.2.2.1 rfl | exact hpre.2.2.2.2.2.1 rfl | exact hpre.2.2.2.2.2.2.1 rfl | exact hpre.2.2.2.2.2.2.2.1 rfl | exact hpre.2.2.2.2.2.2.2.2.1 rfl | exact hpre.2.2.2.2.2.2.2.2.2.1 rfl)
            obtain ⟨d0, d1, d2, d3, d4, d5, d6, d7⟩ := eight (keepB (w := w4) HOq1.out hB)
            obtain ⟨e0, e1, e2, e3, e4, e5, e6, e7⟩ := eight (keepB (w := w4) HOq2.out hB)
            clear hA hpre
            go_simp
            first | exact hK _ _ hB rfl (fun _ _ h => h) | exact hK _ _ hB trivial (fun _ _ h => h) | (rw [if_neg (by omega)]; go_simp; exact hK _ _ hB rfl (fun _ _ h => h))
          · intro vs Wx A hA hB hpre K hK
            have e3 := (hA 3).trans (show _ = Value.pointer (some ⟨q1, 0, none⟩) by kernel_rfl)
            obtain ⟨d0, d1, d2, d3, d4, d5, d6, d7⟩ := eight (keepB (w := w4) HOq1.out hB)
            obtain ⟨e0, e1, e2, e3, e4, e5, e6, e7⟩ := eight (keepB (w := w4) HOq2.out hB)
            clear hA hpre
            go_simp
            first | exact hK _ _ hB rfl (fun _ _ h => h) | exact hK _ _ hB trivial (fun _ _ h => h) | (rw [if_neg (by omega)]; go_simp; exact hK _ _ hB rfl (fun _ _ h => h))
          · intro vs Wx A hA hB hpre K hK
            have e54 := ((hA 54).trans (show _ = vs 2 by kernel_rfl)).trans (by first | exact hpre.1 rfl | exact hpre.2.1 rfl | exact hpre.2.2.1 rfl | exact hpre.2.2.2.1 rfl | exact hpre.2.2.2.2.1 rfl | exact hpre.2.2.2.2.2.1 rfl | exact hpre.2.2.2.2.2.2.1 rfl | exact hpre.2.2.2.2.2.2.2.1 rfl | exact hpre.2.2.2.2.2.2.2.2.1 rfl | exact hpre.2.2.2.2.2.2.2.2.2.1 rfl)
            clear hA hpre
            go_simp
            go_at_call 17
            refine (HM1.out _).mono ?_
            rintro e w9 ⟨rfl, hb9⟩
            exact hK _ _ (below_trans hB hb9) rfl (fun _ _ h => h)
          · intro vs Wx A hA hB hpre K hK
            have e53 := ((hA 53).trans (show _ = vs 1 by kernel_rfl)).trans (by first | exact hpre.1 rfl | exact hpre.2.1 rfl | exact hpre.2.2.1 rfl | exact hpre.2.2.2.1 rfl | exact hpre.2.2.2.2.1 rfl | exact hpre.2.2.2.2.2.1 rfl | exact hpre.2.2.2.2.2.2.1 rfl | exact hpre.2.2.2.2.2.2.2.1 rfl | exact hpre.2.2.2.2.2.2.2.2.1 rfl | exact hpre.2.2.2.2.2.2.2.2.2.1 rfl)
            have e55 := ((hA 55).trans (show _ = vs 3 by kernel_rfl)).trans (by first | exact hpre.1 rfl | exact hpre.2.1 rfl | exact hpre.2.2.1 rfl | exact hpre.2.2.2.1 rfl | exact hpre.2.2.2.2.1 rfl | exact hpre.2.2.2.2.2.1 rfl | exact hpre.2.2.2.2.2.2.1 rfl | exact hpre.2.2.2.2.2.2.2.1 rfl | exact hpre.2.2.2.2.2.2.2.2.1 rfl | exact hpre.2.2.2.2.2.2.2.2.2.1 rfl)
            clear hA hpre
            go_simp
            first | exact hK _ _ hB rfl (fun _ _ h => h) | exact hK _ _ hB trivial (fun _ _ h => h) | (rw [if_neg (by omega)]; go_simp; exact hK _ _ hB rfl (fun _ _ h => h))
          · intro vs Wx A hA hB hpre K hK
            have e7 := (hA 7).trans (show _ = Value.int .i64 (x01 - x02) by kernel_rfl)
            clear hA hpre
            go_simp
            first | exact hK _ _ hB rfl (fun _ _ h => h) | exact hK _ _ hB trivial (fun _ _ h => h) | (rw [if_neg (by omega)]; go_simp; exact hK _ _ hB rfl (fun _ _ h => h))
          · intro vs Wx A hA hB hpre K hK
            have e56 := ((hA 56).trans (show _ = vs 4 by kernel_rfl)).trans (by first | exact hpre.1 rfl | exact hpre.2.1 rfl | exact hpre.2.2.1 rfl | exact hpre.2.2.2.1 rfl | exact hpre.2.2.2.2.1 rfl | exact hpre.2.2.2.2.2.1 rfl | exact hpre.2.2.2.2.2.2.1 rfl | exact hpre.2.2.2.2.2.2.2.1 rfl | exact hpre.2.2.2.2.2.2.2.2.1 rfl | exact hpre.2.2.2.2.2.2.2.2.2.1 rfl)
            have e57 := ((hA 57).trans (show _ = vs 5 by kernel_rfl)).trans (by first | exact hpre.1 rfl | exact hpre.2.1 rfl | exact hpre.2.2.1 rfl | exact hpre.2.2.2.1 rfl | exact hpre.2.2.2.2.1 rfl | exact hpre.2.2.2.2.2.1 rfl | exact hpre.2.2.2.2.2.2.1 rfl | exact hpre.2.2.2.2.2.2.2.1 rfl | exact hpre.2.2.2.2.2.2.2.2.1 rfl | exact hpre.2.2.2.2.2.2.2.2.2.1 rfl)
            clear hA hpre
            go_simp
            first | exact hK _ _ hB rfl (fun _ _ h => h) | exact hK _ _ hB trivial (fun _ _ h => h) | (rw [if_neg (by omega)]; go_simp; exact hK _ _ hB rfl (fun _ _ h => h))
          · intro vs w5 hB hF
            have hL : vs 6 = .bool false := hF 6 (by decide)
            have h0 : vs 0 = .pointer (some ⟨q1, 4, none⟩) := hF 0 (by decide)
            have HOq1_ := Lib.hid (keepB HOq1.out hB)
            have HOq2_ := Lib.hid (keepB HOq2.out hB)
            have HX5 := Lib.hid (keepB HX4.out hB)
            have HB5 := Lib.hid (below_on HB4.out hB HP4.out)
            have HP5 : Hid (p ≤ w5.heap.size) := Nat.le_of_lt (lt_of_block HX5.out)
            clear HOq1 HOq2 hF hB
            have HOq1 := HOq1_
            have HOq2 := HOq2_
            clear HOq1_ HOq2_
            simp only [Ri.puts]
            go_simp
            go_upto_region 10 with fail
            have HD5 := Lib.hid (Below.drew (Below.refl w5.heap.size w5))
            refine Ri.wp_region_lasting_g (by kernel_rfl) (by kernel_rfl) (by kernel_rfl) (fun Wx => Below w5.heap.size w5 Wx) (fun kz vs wz => (fun kx vx wx => match kx with | 0 => vx = .pointer (some ⟨q1, 4, none⟩) | 1 => vx = .int .i64 (O.plan) | 2 => vx = .pointer (some ⟨q2, 4, none⟩) | 3 => vx = .int .i64 (Q.plan) | 4 => vx = .bool true | 5 => vx = .bool true | 6 => vx = .agg #[.int .i64 O.al, .int .i64 O.de, .int .i64 O.cp, .int .i64 O.cn, .int .i64 O.plan, .int .i64 O.wr, .int .i64 O.pr, .int .i64 O.deny] | 7 => vx = .int .i64 (M) | 8 => vx = .agg #[.int .i64 Q.al, .int .i64 Q.de, .int .i64 Q.cp, .int .i64 Q.cn, .int .i64 Q.plan, .int .i64 Q.wr, .int .i64 Q.pr, .int .i64 Q.deny] | 9 => vx = .int .i64 (N) | 10 => vx = .bool true | 11 => vx = .bool true | 12 => vx = .bool true | 13 => vx = .pointer (some ⟨q1, 4, none⟩) | 14 => vx = .int .i64 (O.plan) | 15 => vx = .pointer (some ⟨q2, 4, none⟩) | 16 => vx = .int .i64 (Q.plan) | 17 => vx = .bool true | 18 => vx = .bool true | 19 => True | 20 => True | 21 => True | 22 => vx = .bool true | 23 => vx = .bool true | 24 => vx = .bool true | 25 => vx = .bool true | 26 => vx = .bool true | 27 => vx = .bool true | _ => True : Nat → Value → World → Prop) kz (vs kz) wz) (fun kz => [kz]) (by kernel_rfl) (fun jz vs iz vz wz hiz hz => Ri.loc_own (F := (fun kx vx wx => match kx with | 0 => vx = .pointer (some ⟨q1, 4, none⟩) | 1 => vx = .int .i64 (O.plan) | 2 => vx = .pointer (some ⟨q2, 4, none⟩) | 3 => vx = .int .i64 (Q.plan) | 4 => vx = .bool true | 5 => vx = .bool true | 6 => vx = .agg #[.int .i64 O.al, .int .i64 O.de, .int .i64 O.cp, .int .i64 O.cn, .int .i64 O.plan, .int .i64 O.wr, .int .i64 O.pr, .int .i64 O.deny] | 7 => vx = .int .i64 (M) | 8 => vx = .agg #[.int .i64 Q.al, .int .i64 Q.de, .int .i64 Q.cp, .int .i64 Q.cn, .int .i64 Q.plan, .int .i64 Q.wr, .int .i64 Q.pr, .int .i64 Q.deny] | 9 => vx = .int .i64 (N) | 10 => vx = .bool true | 11 => vx = .bool true | 12 => vx = .bool true | 13 => vx = .pointer (some ⟨q1, 4, none⟩) | 14 => vx = .int .i64 (O.plan) | 15 => vx = .pointer (some ⟨q2, 4, none⟩) | 16 => vx = .int .i64 (Q.plan) | 17 => vx = .bool true | 18 => vx = .bool true | 19 => True | 20 => True | 21 => True | 22 => vx = .bool true | 23 => vx = .bool true | 24 => vx = .bool true | 25 => vx = .bool true | 26 => vx = .bool true | 27 => vx = .bool true | _ => True : Nat → Value → World → Prop)) jz vs iz vz wz hiz hz) HD5.out ⟨Or.inl ⟨rfl, ?_⟩, Or.inl ⟨rfl, ?_⟩, Or.inl ⟨rfl, ?_⟩, Or.inl ⟨rfl, ?_⟩, Or.inl ⟨rfl, ?_⟩, Or.inl ⟨rfl, ?_⟩, Or.inr ⟨5, true, 64, rfl, rfl, ?_⟩, Or.inr ⟨5, true, 64, rfl, rfl, ?_⟩, Or.inr ⟨5, true, 64, rfl, rfl, ?_⟩, Or.inr ⟨5, true, 64, rfl, rfl, ?_⟩, Or.inr ⟨5, true, 64, rfl, rfl, ?_⟩, Or.inl ⟨rfl, ?_⟩, Or.inl ⟨rfl, ?_⟩, Or.inr ⟨12, true, 71, rfl, rfl, ?_⟩, Or.inr ⟨12, true, 71, rfl, rfl, ?_⟩, Or.inr ⟨12, true, 71, rfl, rfl, ?_⟩, Or.inr ⟨12, true, 71, rfl, rfl, ?_⟩, Or.inr ⟨12, true, 71, rfl, rfl, ?_⟩, Or.inr ⟨12, true, 71, rfl, rfl, ?_⟩, Or.inr ⟨18, false, 77, rfl, rfl, ?_⟩, Or.inr ⟨18, false, 77, rfl, rfl, ?_⟩, Or.inr ⟨18, false, 77, rfl, rfl, ?_⟩, Or.inr ⟨12, true, 71, rfl, rfl, ?_⟩, Or.inl ⟨rfl, ?_⟩, Or.inl ⟨rfl, ?_⟩, Or.inr ⟨24, true, 83, rfl, rfl, ?_⟩, Or.inl ⟨rfl, ?_⟩, Or.inl ⟨rfl, ?_⟩, trivial⟩ ?_
            · intro vs Wx A hA hB hpre K hK
              have e3 := (hA 3).trans (show _ = Value.pointer (some ⟨q1, 0, none⟩) by kernel_rfl)
              clear hA hpre
              go_simp
              first | exact hK _ _ hB rfl (fun _ _ h => h) | exact hK _ _ hB trivial (fun _ _ h => h) | (rw [if_neg (by omega)]; go_simp; exact hK _ _ hB rfl (fun _ _ h => h))
            · intro vs Wx A hA hB hpre K hK
              have e59 := ((hA 59).trans (show _ = vs 0 by kernel_rfl)).trans (by first | exact hpre.1 rfl | exact hpre.2.1 rfl | exact hpre.2.2.1 rfl | exact hpre.2.2.2.1 rfl | exact hpre.2.2.2.2.1 rfl | exact hpre.2.2.2.2.2.1 rfl | exact hpre.2.2.2.2.2.2.1 rfl | exact hpre.2.2.2.2.2.2.2.1 rfl | exact hpre.2.2.2.2.2.2.2.2.1 rfl | exact hpre.2.2.2.2.2.2.2.2.2.1 rfl)
              obtain ⟨d0, d1, d2, d3, d4, d5, d6, d7⟩ := eight (keepB (w := w5) HOq1.out hB)
              obtain ⟨e0, e1, e2, e3, e4, e5, e6, e7⟩ := eight (keepB (w := w5) HOq2.out hB)
              clear hA hpre
              go_simp
              first | exact hK _ _ hB rfl (fun _ _ h => h) | exact hK _ _ hB trivial (fun _ _ h => h) | (rw [if_neg (by omega)]; go_simp; exact hK _ _ hB rfl (fun _ _ h => h))
            · intro vs Wx A hA hB hpre K hK
              have e5 := (hA 5).trans (show _ = Value.pointer (some ⟨q2, 0, none⟩) by kernel_rfl)
              clear hA hpre
              go_simp
              first | exact hK _ _ hB rfl (fun _ _ h => h) | exact hK _ _ hB trivial (fun _ _ h => h) | (rw [if_neg (by omega)]; go_simp; exact hK _ _ hB rfl (fun _ _ h => h))
            · intro vs Wx A hA hB hpre K hK
              have e61 := ((hA 61).trans (show _ = vs 2 by kernel_rfl)).trans (by first | exact hpre.1 rfl | exact hpre.2.1 rfl | exact hpre.2.2.1 rfl | exact hpre.2.2.2.1 rfl | exact hpre.2.2.2.2.1 rfl | exact hpre.2.2.2.2.2.1 rfl | exact hpre.2.2.2.2.2.2.1 rfl | exact hpre.2.2.2.2.2.2.2.1 rfl | exact hpre.2.2.2.2.2.2.2.2.1 rfl | exact hpre.2.2.2.2.2.2.2.2.2.1 rfl)
              obtain ⟨d0, d1, d2, d3, d4, d5, d6, d7⟩ := eight (keepB (w := w5) HOq1.out hB)
              obtain ⟨e0, e1, e2, e3, e4, e5, e6, e7⟩ := eight (keepB (w := w5) HOq2.out hB)
              clear hA hpre
              go_simp
              first | exact hK _ _ hB rfl (fun _ _ h => h) | exact hK _ _ hB trivial (fun _ _ h => h) | (rw [if_neg (by omega)]; go_simp; exact hK _ _ hB rfl (fun _ _ h => h))
            · intro vs Wx A hA hB hpre K hK
              have e60 := ((hA 60).trans (show _ = vs 1 by kernel_rfl)).trans (by first | exact hpre.1 rfl | exact hpre.2.1 rfl | exact hpre.2.2.1 rfl | exact hpre.2.2.2.1 rfl | exact hpre.2.2.2.2.1 rfl | exact hpre.2.2.2.2.2.1 rfl | exact hpre.2.2.2.2.2.2.1 rfl | exact hpre.2.2.2.2.2.2.2.1 rfl | exact hpre.2.2.2.2.2.2.2.2.1 rfl | exact hpre.2.2.2.2.2.2.2.2.2.1 rfl)
              have e62 := ((hA 62).trans (show _ = vs 3 by kernel_rfl)).trans (by first | exact hpre.1 rfl | exact hpre.2.1 rfl | exact hpre.2.2.1 rfl | exact hpre.2.2.2.1 rfl | exact hpre.2.2.2.2.1 rfl | exact hpre.2.2.2.2.2.1 rfl | exact hpre.2.2.2.2.2.2.1 rfl | exact hpre.2.2.2.2.2.2.2.1 rfl | exact hpre.2.2.2.2.2.2.2.2.1 rfl | exact hpre.2.2.2.2.2.2.2.2.2.1 rfl)
              clear hA hpre
              go_simp
              first | exact hK _ _ hB rfl (fun _ _ h => h) | exact hK _ _ hB trivial (fun _ _ h => h) | (rw [if_neg (by omega)]; go_simp; exact hK _ _ hB rfl (fun _ _ h => h))
            · intro vs Wx A hA hB hpre K hK
              have e63 := ((hA 63).trans (show _ = vs 4 by kernel_rfl)).trans (by first | exact hpre.1 rfl | exact hpre.2.1 rfl | exact hpre.2.2.1 rfl | exact hpre.2.2.2.1 rfl | exact hpre.2.2.2.2.1 rfl | exact hpre.2.2.2.2.2.1 rfl | exact hpre.2.2.2.2.2.2.1 rfl | exact hpre.2.2.2.2.2.2.2.1 rfl | exact hpre.2.2.2.2.2.2.2.2.1 rfl | exact hpre.2.2.2.2.2.2.2.2.2.1 rfl)
              clear hA hpre
              go_simp
              first | exact hK _ _ hB rfl (fun _ _ h => h) | exact hK _ _ hB trivial (fun _ _ h => h) | (rw [if_neg (by omega)]; go_simp; exact hK _ _ hB rfl (fun _ _ h => h))
            · intro vs Wx A hA hB hpre
              have eg := ((hA 64).trans (show _ = vs 5 by kernel_rfl)).trans (by first | exact hpre.1 rfl | exact hpre.2.1 rfl | exact hpre.2.2.1 rfl | exact hpre.2.2.2.1 rfl | exact hpre.2.2.2.2.1 rfl | exact hpre.2.2.2.2.2.1 rfl | exact hpre.2.2.2.2.2.2.1 rfl | exact hpre.2.2.2.2.2.2.2.1 rfl | exact hpre.2.2.2.2.2.2.2.2.1 rfl | exact hpre.2.2.2.2.2.2.2.2.2.1 rfl)
              refine ⟨true, eg, fun _ K hK => ?_, fun h => absurd rfl h⟩
              have e3 := (hA 3).trans (show _ = Value.pointer (some ⟨q1, 0, none⟩) by kernel_rfl)
              obtain ⟨d0, d1, d2, d3, d4, d5, d6, d7⟩ := eight (keepB (w := w5) HOq1.out hB)
              obtain ⟨e0, e1, e2, e3, e4, e5, e6, e7⟩ := eight (keepB (w := w5) HOq2.out hB)
              clear hA hpre
              go_simp
              first | exact hK _ _ hB rfl (fun _ _ h => h) | exact hK _ _ hB trivial (fun _ _ h => h) | (rw [if_neg (by omega)]; go_simp; exact hK _ _ hB rfl (fun _ _ h => h))
            · intro vs Wx A hA hB hpre
              have eg := ((hA 64).trans (show _ = vs 5 by kernel_rfl)).trans (by first | exact hpre.1 rfl | exact hpre.2.1 rfl | exact hpre.2.2.1 rfl | exact hpre.2.2.2.1 rfl | exact hpre.2.2.2.2.1 rfl | exact hpre.2.2.2.2.2.1 rfl | exact hpre.2.2.2.2.2.2.1 rfl | exact hpre.2.2.2.2.2.2.2.1 rfl | exact hpre.2.2.2.2.2.2.2.2.1 rfl | exact hpre.2.2.2.2.2.2.2.2.2.1 rfl)
              refine ⟨true, eg, fun _ K hK => ?_, fun h => absurd rfl h⟩
              have e65 := ((hA 65).trans (show _ = vs 6 by kernel_rfl)).trans (by first | exact hpre.1 rfl | exact hpre.2.1 rfl | exact hpre.2.2.1 rfl | exact hpre.2.2.2.1 rfl | exact hpre.2.2.2.2.1 rfl | exact hpre.2.2.2.2.2.1 rfl | exact hpre.2.2.2.2.2.2.1 rfl | exact hpre.2.2.2.2.2.2.2.1 rfl | exact hpre.2.2.2.2.2.2.2.2.1 rfl | exact hpre.2.2.2.2.2.2.2.2.2.1 rfl)
              clear hA hpre
              go_simp
              go_at_call 17
              refine (HM1.out _).mono ?_
              rintro e w9 ⟨rfl, hb9⟩
              exact hK _ _ (below_trans hB hb9) rfl (fun _ _ h => h)
            · intro vs Wx A hA hB hpre
              have eg := ((hA 64).trans (show _ = vs 5 by kernel_rfl)).trans (by first | exact hpre.1 rfl | exact hpre.2.1 rfl | exact hpre.2.2.1 rfl | exact hpre.2.2.2.1 rfl | exact hpre.2.2.2.2.1 rfl | exact hpre.2.2.2.2.2.1 rfl | exact hpre.2.2.2.2.2.2.1 rfl | exact hpre.2.2.2.2.2.2.2.1 rfl | exact hpre.2.2.2.2.2.2.2.2.1 rfl | exact hpre.2.2.2.2.2.2.2.2.2.1 rfl)
              refine ⟨true, eg, fun _ K hK => ?_, fun h => absurd rfl h⟩
              have e5 := (hA 5).trans (show _ = Value.pointer (some ⟨q2, 0, none⟩) by kernel_rfl)
              obtain ⟨d0, d1, d2, d3, d4, d5, d6, d7⟩ := eight (keepB (w := w5) HOq1.out hB)
              obtain ⟨e0, e1, e2, e3, e4, e5, e6, e7⟩ := eight (keepB (w := w5) HOq2.out hB)
              clear hA hpre
              go_simp
              first | exact hK _ _ hB rfl (fun _ _ h => h) | exact hK _ _ hB trivial (fun _ _ h => h) | (rw [if_neg (by omega)]; go_simp; exact hK _ _ hB rfl (fun _ _ h => h))
            · intro vs Wx A hA hB hpre
              have eg := ((hA 64).trans (show _ = vs 5 by kernel_rfl)).trans (by first | exact hpre.1 rfl | exact hpre.2.1 rfl | exact hpre.2.2.1 rfl | exact hpre.2.2.2.1 rfl | exact hpre.2.2.2.2.1 rfl | exact hpre.2.2.2.2.2.1 rfl | exact hpre.2.2.2.2.2.2.1 rfl | exact hpre.2.2.2.2.2.2.2.1 rfl | exact hpre.2.2.2.2.2.2.2.2.1 rfl | exact hpre.2.2.2.2.2.2.2.2.2.1 rfl)
              refine ⟨true, eg, fun _ K hK => ?_, fun h => absurd rfl h⟩
              have e67 := ((hA 67).trans (show _ = vs 8 by kernel_rfl)).trans (by first | exact hpre.1 rfl | exact hpre.2.1 rfl | exact hpre.2.2.1 rfl | exact hpre.2.2.2.1 rfl | exact hpre.2.2.2.2.1 rfl | exact hpre.2.2.2.2.2.1 rfl | exact hpre.2.2.2.2.2.2.1 rfl | exact hpre.2.2.2.2.2.2.2.1 rfl | exact hpre.2.2.2.2.2.2.2.2.1 rfl | exact hpre.2.2.2.2.2.2.2.2.2.1 rfl)
              clear hA hpre
              go_simp
              go_at_call 17
              refine (HM2.out _).mono ?_
              rintro e w9 ⟨rfl, hb9⟩
              exact hK _ _ (below_trans hB hb9) rfl (fun _ _ h => h)
            · intro vs Wx A hA hB hpre
              have eg := ((hA 64).trans (show _ = vs 5 by kernel_rfl)).trans (by first | exact hpre.1 rfl | exact hpre.2.1 rfl | exact hpre.2.2.1 rfl | exact hpre.2.2.2.1 rfl | exact hpre.2.2.2.2.1 rfl | exact hpre.2.2.2.2.2.1 rfl | exact hpre.2.2.2.2.2.2.1 rfl | exact hpre.2.2.2.2.2.2.2.1 rfl | exact hpre.2.2.2.2.2.2.2.2.1 rfl | exact hpre.2.2.2.2.2.2.2.2.2.1 rfl)
              refine ⟨true, eg, fun _ K hK => ?_, fun h => absurd rfl h⟩
              have e66 := ((hA 66).trans (show _ = vs 7 by kernel_rfl)).trans (by first | exact hpre.1 rfl | exact hpre.2.1 rfl | exact hpre.2.2.1 rfl | exact hpre.2.2.2.1 rfl | exact hpre.2.2.2.2.1 rfl | exact hpre.2.2.2.2.2.1 rfl | exact hpre.2.2.2.2.2.2.1 rfl | exact hpre.2.2.2.2.2.2.2.1 rfl | exact hpre.2.2.2.2.2.2.2.2.1 rfl | exact hpre.2.2.2.2.2.2.2.2.2.1 rfl)
              have e68 := ((hA 68).trans (show _ = vs 9 by kernel_rfl)).trans (by first | exact hpre.1 rfl | exact hpre.2.1 rfl | exact hpre.2.2.1 rfl | exact hpre.2.2.2.1 rfl | exact hpre.2.2.2.2.1 rfl | exact hpre.2.2.2.2.2.1 rfl | exact hpre.2.2.2.2.2.2.1 rfl | exact hpre.2.2.2.2.2.2.2.1 rfl | exact hpre.2.2.2.2.2.2.2.2.1 rfl | exact hpre.2.2.2.2.2.2.2.2.2.1 rfl)
              clear hA hpre
              go_simp
              first | exact hK _ _ hB rfl (fun _ _ h => h) | exact hK _ _ hB trivial (fun _ _ h => h) | (rw [if_neg (by omega)]; go_simp; exact hK _ _ hB rfl (fun _ _ h => h))
            · intro vs Wx A hA hB hpre K hK
              have e64 := ((hA 64).trans (show _ = vs 5 by kernel_rfl)).trans (by first | exact hpre.1 rfl | exact hpre.2.1 rfl | exact hpre.2.2.1 rfl | exact hpre.2.2.2.1 rfl | exact hpre.2.2.2.2.1 rfl | exact hpre.2.2.2.2.2.1 rfl | exact hpre.2.2.2.2.2.2.1 rfl | exact hpre.2.2.2.2.2.2.2.1 rfl | exact hpre.2.2.2.2.2.2.2.2.1 rfl | exact hpre.2.2.2.2.2.2.2.2.2.1 rfl)
              have e69 := ((hA 69).trans (show _ = vs 10 by kernel_rfl)).trans (by first | exact hpre.1 rfl | exact hpre.2.1 rfl | exact hpre.2.2.1 rfl | exact hpre.2.2.2.1 rfl | exact hpre.2.2.2.2.1 rfl | exact hpre.2.2.2.2.2.1 rfl | exact hpre.2.2.2.2.2.2.1 rfl | exact hpre.2.2.2.2.2.2.2.1 rfl | exact hpre.2.2.2.2.2.2.2.2.1 rfl | exact hpre.2.2.2.2.2.2.2.2.2.1 rfl)
              clear hA hpre
              go_simp
              first | exact hK _ _ hB rfl (fun _ _ h => h) | exact hK _ _ hB trivial (fun _ _ h => h) | (rw [if_neg (by omega)]; go_simp; exact hK _ _ hB rfl (fun _ _ h => h))
            · intro vs Wx A hA hB hpre K hK
              have e70 := ((hA 70).trans (show _ = vs 11 by kernel_rfl)).trans (by first | exact hpre.1 rfl | exact hpre.2.1 rfl | exact hpre.2.2.1 rfl | exact hpre.2.2.2.1 rfl | exact hpre.2.2.2.2.1 rfl | exact hpre.2.2.2.2.2.1 rfl | exact hpre.2.2.2.2.2.2.1 rfl | exact hpre.2.2.2.2.2.2.2.1 rfl | exact hpre.2.2.2.2.2.2.2.2.1 rfl | exact hpre.2.2.2.2.2.2.2.2.2.1 rfl)
              clear hA hpre
              go_simp
              first | exact hK _ _ hB rfl (fun _ _ h => h) | exact hK _ _ hB trivial (fun _ _ h => h) | (rw [if_neg (by omega)]; go_simp; exact hK _ _ hB rfl (fun _ _ h => h))
            · intro vs Wx A hA hB hpre
              have eg := ((hA 71).trans (show _ = vs 12 by kernel_rfl)).trans (by first | exact hpre.1 rfl | exact hpre.2.1 rfl | exact hpre.2.2.1 rfl | exact hpre.2.2.2.1 rfl | exact hpre.2.2.2.2.1 rfl | exact hpre.2.2.2.2.2.1 rfl | exact hpre.2.2.2.2.2.2.1 rfl | exact hpre.2.2.2.2.2.2.2.1 rfl | exact hpre.2.2.2.2.2.2.2.2.1 rfl | exact hpre.2.2.2.2.2.2.2.2.2.1 rfl)
              refine ⟨true, eg, fun _ K hK => ?_, fun h => absurd rfl h⟩
              have e3 := (hA 3).trans (show _ = Value.pointer (some ⟨q1, 0, none⟩) by kernel_rfl)
              clear hA hpre
              go_simp
              first | exact hK _ _ hB rfl (fun _ _ h => h) | exact hK _ _ hB trivial (fun _ _ h => h) | (rw [if_neg (by omega)]; go_simp; exact hK _ _ hB rfl (fun _ _ h => h))
            · intro vs Wx A hA hB hpre
              have eg := ((hA 71).trans (show _ = vs 12 by kernel_rfl)).trans (by first | exact hpre.1 rfl | exact hpre.2.1 rfl | exact hpre.2.2.1 rfl | exact hpre.2.2.2.1 rfl | exact hpre.2.2.2.2.1 rfl | exact hpre.2.2.2.2.2.1 rfl | exact hpre.2.2.2.2.2.2.1 rfl | exact hpre.2.2.2.2.2.2.2.1 rfl | exact hpre.2.2.2.2.2.2.2.2.1 rfl | exact hpre.2.2.2.2.2.2.2.2.2.1 rfl)
              refine ⟨true, eg, fun _ K hK => ?_, fun h => absurd rfl h⟩
              have e72 := ((hA 72).trans (show _ = vs 13 by kernel_rfl)).trans (by first | exact hpre.1 rfl | exact hpre.2.1 rfl | exact hpre.2.2.1 rfl | exact hpre.2.2.2.1 rfl | exact hpre.2.2.2.2.1 rfl | exact hpre.2.2.2.2.2.1 rfl | exact hpre.2.2.2.2.2.2.1 rfl | exact hpre.2.2.2.2.2.2.2.1 rfl | exact hpre.2.2.2.2.2.2.2.2.1 rfl | exact hpre.2.2.2.2.2.2.2.2.2.1 rfl)
              obtain ⟨d0, d1, d2, d3, d4, d5, d6, d7⟩ := eight (keepB (w := w5) HOq1.out hB)
              obtain ⟨e0, e1, e2, e3, e4, e5, e6, e7⟩ := eight (keepB (w := w5) HOq2.out hB)
              clear hA hpre
              go_simp
              first | exact hK _ _ hB rfl (fun _ _ h => h) | exact hK _ _ hB trivial (fun _ _ h => h) | (rw [if_neg (by omega)]; go_simp; exact hK _ _ hB rfl (fun _ _ h => h))
            · intro vs Wx A hA hB hpre
              have eg := ((hA 71).trans (show _ = vs 12 by kernel_rfl)).trans (by first | exact hpre.1 rfl | exact hpre.2.1 rfl | exact hpre.2.2.1 rfl | exact hpre.2.2.2.1 rfl | exact hpre.2.2.2.2.1 rfl | exact hpre.2.2.2.2.2.1 rfl | exact hpre.2.2.2.2.2.2.1 rfl | exact hpre.2.2.2.2.2.2.2.1 rfl | exact hpre.2.2.2.2.2.2.2.2.1 rfl | exact hpre.2.2.2.2.2.2.2.2.2.1 rfl)
              refine ⟨true, eg, fun _ K hK => ?_, fun h => absurd rfl h⟩
              have e5 := (hA 5).trans (show _ = Value.pointer (some ⟨q2, 0, none⟩) by kernel_rfl)
              clear hA hpre
              go_simp
              first | exact hK _ _ hB rfl (fun _ _ h => h) | exact hK _ _ hB trivial (fun _ _ h => h) | (rw [if_neg (by omega)]; go_simp; exact hK _ _ hB rfl (fun _ _ h => h))
            · intro vs Wx A hA hB hpre
              have eg := ((hA 71).trans (show _ = vs 12 by kernel_rfl)).trans (by first | exact hpre.1 rfl | exact hpre.2.1 rfl | exact hpre.2.2.1 rfl | exact hpre.2.2.2.1 rfl | exact hpre.2.2.2.2.1 rfl | exact hpre.2.2.2.2.2.1 rfl | exact hpre.2.2.2.2.2.2.1 rfl | exact hpre.2.2.2.2.2.2.2.1 rfl | exact hpre.2.2.2.2.2.2.2.2.1 rfl | exact hpre.2.2.2.2.2.2.2.2.2.1 rfl)
              refine ⟨true, eg, fun _ K hK => ?_, fun h => absurd rfl h⟩
              have e74 := ((hA 74).trans (show _ = vs 15 by kernel_rfl)).trans (by first | exact hpre.1 rfl | exact hpre.2.1 rfl | exact hpre.2.2.1 rfl | exact hpre.2.2.2.1 rfl | exact hpre.2.2.2.2.1 rfl | exact hpre.2.2.2.2.2.1 rfl | exact hpre.2.2.2.2.2.2.1 rfl | exact hpre.2.2.2.2.2.2.2.1 rfl | exact hpre.2.2.2.2.2.2.2.2.1 rfl | exact hpre.2.2.2.2.2.2.2.2.2.1 rfl)
              obtain ⟨d0, d1, d2, d3, d4, d5, d6, d7⟩ := eight (keepB (w := w5) HOq1.out hB)
              obtain ⟨e0, e1, e2, e3, e4, e5, e6, e7⟩ := eight (keepB (w := w5) HOq2.out hB)
              clear hA hpre
              go_simp
              first | exact hK _ _ hB rfl (fun _ _ h => h) | exact hK _ _ hB trivial (fun _ _ h => h) | (rw [if_neg (by omega)]; go_simp; exact hK _ _ hB rfl (fun _ _ h => h))
            · intro vs Wx A hA hB hpre
              have eg := ((hA 71).trans (show _ = vs 12 by kernel_rfl)).trans (by first | exact hpre.1 rfl | exact hpre.2.1 rfl | exact hpre.2.2.1 rfl | exact hpre.2.2.2.1 rfl | exact hpre.2.2.2.2.1 rfl | exact hpre.2.2.2.2.2.1 rfl | exact hpre.2.2.2.2.2.2.1 rfl | exact hpre.2.2.2.2.2.2.2.1 rfl | exact hpre.2.2.2.2.2.2.2.2.1 rfl | exact hpre.2.2.2.2.2.2.2.2.2.1 rfl)
              refine ⟨true, eg, fun _ K hK => ?_, fun h => absurd rfl h⟩
              have e73 := ((hA 73).trans (show _ = vs 14 by kernel_rfl)).trans (by first | exact hpre.1 rfl | exact hpre.2.1 rfl | exact hpre.2.2.1 rfl | exact hpre.2.2.2.1 rfl | exact hpre.2.2.2.2.1 rfl | exact hpre.2.2.2.2.2.1 rfl | exact hpre.2.2.2.2.2.2.1 rfl | exact hpre.2.2.2.2.2.2.2.1 rfl | exact hpre.2.2.2.2.2.2.2.2.1 rfl | exact hpre.2.2.2.2.2.2.2.2.2.1 rfl)
              have e75 := ((hA 75).trans (show _ = vs 16 by kernel_rfl)).trans (by first | exact hpre.1 rfl | exact hpre.2.1 rfl | exact hpre.2.2.1 rfl | exact hpre.2.2.2.1 rfl | exact hpre.2.2.2.2.1 rfl | exact hpre.2.2.2.2.2.1 rfl | exact hpre.2.2.2.2.2.2.1 rfl | exact hpre.2.2.2.2.2.2.2.1 rfl | exact hpre.2.2.2.2.2.2.2.2.1 rfl | exact hpre.2.2.2.2.2.2.2.2.2.1 rfl)
              clear hA hpre
              go_simp
              first | exact hK _ _ hB rfl (fun _ _ h => h) | exact hK _ _ hB trivial (fun _ _ h => h) | (rw [if_neg (by omega)]; go_simp; exact hK _ _ hB rfl (fun _ _ h => h))
            · intro vs Wx A hA hB hpre
              have eg := ((hA 71).trans (show _ = vs 12 by kernel_rfl)).trans (by first | exact hpre.1 rfl | exact hpre.2.1 rfl | exact hpre.2.2.1 rfl | exact hpre.2.2.2.1 rfl | exact hpre.2.2.2.2.1 rfl | exact hpre.2.2.2.2.2.1 rfl | exact hpre.2.2.2.2.2.2.1 rfl | exact hpre.2.2.2.2.2.2.2.1 rfl | exact hpre.2.2.2.2.2.2.2.2.1 rfl | exact hpre.2.2.2.2.2.2.2.2.2.1 rfl)
              refine ⟨true, eg, fun _ K hK => ?_, fun h => absurd rfl h⟩
              have e76 := ((hA 76).trans (show _ = vs 17 by kernel_rfl)).trans (by first | exact hpre.1 rfl | exact hpre.2.1 rfl | exact hpre.2.2.1 rfl | exact hpre.2.2.2.1 rfl | exact hpre.2.2.2.2.1 rfl | exact hpre.2.2.2.2.2.1 rfl | exact hpre.2.2.2.2.2.2.1 rfl | exact hpre.2.2.2.2.2.2.2.1 rfl | exact hpre.2.2.2.2.2.2.2.2.1 rfl | exact hpre.2.2.2.2.2.2.2.2.2.1 rfl)
              clear hA hpre
              go_simp
              first | exact hK _ _ hB rfl (fun _ _ h => h) | exact hK _ _ hB trivial (fun _ _ h => h) | (rw [if_neg (by omega)]; go_simp; exact hK _ _ hB rfl (fun _ _ h => h))
            · intro vs Wx A hA hB hpre
              have eg := ((hA 77).trans (show _ = vs 18 by kernel_rfl)).trans (by first | exact hpre.1 rfl | exact hpre.2.1 rfl | exact hpre.2.2.1 rfl | exact hpre.2.2.2.1 rfl | exact hpre.2.2.2.2.1 rfl | exact hpre.2.2.2.2.2.1 rfl | exact hpre.2.2.2.2.2.2.1 rfl | exact hpre.2.2.2.2.2.2.2.1 rfl | exact hpre.2.2.2.2.2.2.2.2.1 rfl | exact hpre.2.2.2.2.2.2.2.2.2.1 rfl)
              exact ⟨true, eg, fun h => (by cases h), fun _ => trivial⟩
            · intro vs Wx A hA hB hpre
              have eg := ((hA 77).trans (show _ = vs 18 by kernel_rfl)).trans (by first | exact hpre.1 rfl | exact hpre.2.1 rfl | exact hpre.2.2.1 rfl | exact hpre.2.2.2.1 rfl | exact hpre.2.2.2.2.1 rfl | exact hpre.2.2.2.2.2.1 rfl | exact hpre.2.2.2.2.2.2.1 rfl | exact hpre.2.2.2.2.2.2.2.1 rfl | exact hpre.2.2.2.2.2.2.2.2.1 rfl | exact hpre.2.2.2.2.2.2.2.2.2.1 rfl)
              exact ⟨true, eg, fun h => (by cases h), fun _ => trivial⟩
            · intro vs Wx A hA hB hpre
              have eg := ((hA 77).trans (show _ = vs 18 by kernel_rfl)).trans (by first | exact hpre.1 rfl | exact hpre.2.1 rfl | exact hpre.2.2.1 rfl | exact hpre.2.2.2.1 rfl | exact hpre.2.2.2.2.1 rfl | exact hpre.2.2.2.2.2.1 rfl | exact hpre.2.2.2.2.2.2.1 rfl | exact hpre.2.2.2.2.2.2.2.1 rfl | exact hpre.2.2.2.2.2.2.2.2.1 rfl | exact hpre.2.2.2.2.2.2.2.2.2.1 rfl)
              exact ⟨true, eg, fun h => (by cases h), fun _ => trivial⟩
            · intro vs Wx A hA hB hpre
              have eg := ((hA 71).trans (show _ = vs 12 by kernel_rfl)).trans (by first | exact hpre.1 rfl | exact hpre.2.1 rfl | exact hpre.2.2.1 rfl | exact hpre.2.2.2.1 rfl | exact hpre.2.2.2.2.1 rfl | exact hpre.2.2.2.2.2.1 rfl | exact hpre.2.2.2.2.2.2.1 rfl | exact hpre.2.2.2.2.2.2.2.1 rfl | exact hpre.2.2.2.2.2.2.2.2.1 rfl | exact hpre.2.2.2.2.2.2.2.2.2.1 rfl)
              refine ⟨true, eg, fun _ K hK => ?_, fun h => absurd rfl h⟩
              have e77 := ((hA 77).trans (show _ = vs 18 by kernel_rfl)).trans (by first | exact hpre.1 rfl | exact hpre.2.1 rfl | exact hpre.2.2.1 rfl | exact hpre.2.2.2.1 rfl | exact hpre.2.2.2.2.1 rfl | exact hpre.2.2.2.2.2.1 rfl | exact hpre.2.2.2.2.2.2.1 rfl | exact hpre.2.2.2.2.2.2.2.1 rfl | exact hpre.2.2.2.2.2.2.2.2.1 rfl | exact hpre.2.2.2.2.2.2.2.2.2.1 rfl)
              clear hA hpre
              go_simp
              first | exact hK _ _ hB rfl (fun _ _ h => h) | exact hK _ _ hB trivial (fun _ _ h => h) | (rw [if_neg (by omega)]; go_simp; exact hK _ _ hB rfl (fun _ _ h => h))
            · intro vs Wx A hA hB hpre K hK
              have e71 := ((hA 71).trans (show _ = vs 12 by kernel_rfl)).trans (by first | exact hpre.1 rfl | exact hpre.2.1 rfl | exact hpre.2.2.1 rfl | exact hpre.2.2.2.1 rfl | exact hpre.2.2.2.2.1 rfl | exact hpre.2.2.2.2.2.1 rfl | exact hpre.2.2.2.2.2.2.1 rfl | exact hpre.2.2.2.2.2.2.2.1 rfl | exact hpre.2.2.2.2.2.2.2.2.1 rfl | exact hpre.2.2.2.2.2.2.2.2.2.1 rfl)
              have e81 := ((hA 81).trans (show _ = vs 22 by kernel_rfl)).trans (by first | exact hpre.1 rfl | exact hpre.2.1 rfl | exact hpre.2.2.1 rfl | exact hpre.2.2.2.1 rfl | exact hpre.2.2.2.2.1 rfl | exact hpre.2.2.2.2.2.1 rfl | exact hpre.2.2.2.2.2.2.1 rfl | exact hpre.2.2.2.2.2.2.2.1 rfl | exact hpre.2.2.2.2.2.2.2.2.1 rfl | exact hpre.2.2.2.2.2.2.2.2.2.1 rfl)
              clear hA hpre
              go_simp
              first | exact hK _ _ hB rfl (fun _ _ h => h) | exact hK _ _ hB trivial (fun _ _ h => h) | (rw [if_neg (by omega)]; go_simp; exact hK _ _ hB rfl (fun _ _ h => h))
            · intro vs Wx A hA hB hpre K hK
              have e82 := ((hA 82).trans (show _ = vs 23 by kernel_rfl)).trans (by first | exact hpre.1 rfl | exact hpre.2.1 rfl | exact hpre.2.2.1 rfl | exact hpre.2.2.2.1 rfl | exact hpre.2.2.2.2.1 rfl | exact hpre.2.2.2.2.2.1 rfl | exact hpre.2.2.2.2.2.2.1 rfl | exact hpre.2.2.2.2.2.2.2.1 rfl | exact hpre.2.2.2.2.2.2.2.2.1 rfl | exact hpre.2.2.2.2.2.2.2.2.2.1 rfl)
              clear hA hpre
              go_simp
              first | exact hK _ _ hB rfl (fun _ _ h => h) | exact hK _ _ hB trivial (fun _ _ h => h) | (rw [if_neg (by omega)]; go_simp; exact hK _ _ hB rfl (fun _ _ h => h))
            · intro vs Wx A hA hB hpre
              have eg := ((hA 83).trans (show _ = vs 24 by kernel_rfl)).trans (by first | exact hpre.1 rfl | exact hpre.2.1 rfl | exact hpre.2.2.1 rfl | exact hpre.2.2.2.1 rfl | exact hpre.2.2.2.2.1 rfl | exact hpre.2.2.2.2.2.1 rfl | exact hpre.2.2.2.2.2.2.1 rfl | exact hpre.2.2.2.2.2.2.2.1 rfl | exact hpre.2.2.2.2.2.2.2.2.1 rfl | exact hpre.2.2.2.2.2.2.2.2.2.1 rfl)
              refine ⟨true, eg, fun _ K hK => ?_, fun h => absurd rfl h⟩
              clear hA hpre
              go_simp
              go_at_call 11
              refine (works_any _).mono ?_
              rintro e w9 ⟨rfl, hb9⟩
              exact hK _ _ (below_trans hB hb9) rfl (fun _ _ h => h)
            · intro vs Wx A hA hB hpre K hK
              have e83 := ((hA 83).trans (show _ = vs 24 by kernel_rfl)).trans (by first | exact hpre.1 rfl | exact hpre.2.1 rfl | exact hpre.2.2.1 rfl | exact hpre.2.2.2.1 rfl | exact hpre.2.2.2.2.1 rfl | exact hpre.2.2.2.2.2.1 rfl | exact hpre.2.2.2.2.2.2.1 rfl | exact hpre.2.2.2.2.2.2.2.1 rfl | exact hpre.2.2.2.2.2.2.2.2.1 rfl | exact hpre.2.2.2.2.2.2.2.2.2.1 rfl)
              have e84 := ((hA 84).trans (show _ = vs 25 by kernel_rfl)).trans (by first | exact hpre.1 rfl | exact hpre.2.1 rfl | exact hpre.2.2.1 rfl | exact hpre.2.2.2.1 rfl | exact hpre.2.2.2.2.1 rfl | exact hpre.2.2.2.2.2.1 rfl | exact hpre.2.2.2.2.2.2.1 rfl | exact hpre.2.2.2.2.2.2.2.1 rfl | exact hpre.2.2.2.2.2.2.2.2.1 rfl | exact hpre.2.2.2.2.2.2.2.2.2.1 rfl)
              clear hA hpre
              go_simp
              first | exact hK _ _ hB rfl (fun _ _ h => h) | exact hK _ _ hB trivial (fun _ _ h => h) | (rw [if_neg (by omega)]; go_simp; exact hK _ _ hB rfl (fun _ _ h => h))
            · intro vs Wx A hA hB hpre K hK
              have e85 := ((hA 85).trans (show _ = vs 26 by kernel_rfl)).trans (by first | exact hpre.1 rfl | exact hpre.2.1 rfl | exact hpre.2.2.1 rfl | exact hpre.2.2.2.1 rfl | exact hpre.2.2.2.2.1 rfl | exact hpre.2.2.2.2.2.1 rfl | exact hpre.2.2.2.2.2.2.1 rfl | exact hpre.2.2.2.2.2.2.2.1 rfl | exact hpre.2.2.2.2.2.2.2.2.1 rfl | exact hpre.2.2.2.2.2.2.2.2.2.1 rfl)
              clear hA hpre
              go_simp
              first | exact hK _ _ hB rfl (fun _ _ h => h) | exact hK _ _ hB trivial (fun _ _ h => h) | (rw [if_neg (by omega)]; go_simp; exact hK _ _ hB rfl (fun _ _ h => h))
            · intro vs w6 hB hF
              have hL6 : vs 27 = .bool true := hF 27 (by decide)
              have HB6 := Lib.hid (below_on HB5.out hB HP5.out)
              clear hF hB
              simp only [Ri.puts]
              go_simp
              go_wp2_with fail
              go_ret
              exact ⟨by first | rfl | (rw [hL6]; rfl) | simp [hL6], by first | exact HB6.out | (rw [hp]; exact HB6.out)⟩
        · have hs' : (O.plan == Q.plan) = false := by simpa using hs
          have hm0 : (M == 0) = true := by simpa using hX.resolve_left hs
          clear hs hX
          have HX0 := Lib.hid (alloc_new w #[.int .i64 x00, .int .i64 x01, .int .i64 x02, .int .i64 x03, .int .i64 x04, .int .i64 x05] 29)
          have HB0 := Lib.hid (below_alloc w (.cells #[.int .i64 x00, .int .i64 x01, .int .i64 x02, .int .i64 x03, .int .i64 x04, .int .i64 x05] 29))
          go_enter Try.func7, Try.ntmps7
          go_upto_region 1 with fail
          generalize w.alloc (.cells #[.int .i64 x00, .int .i64 x01, .int .i64 x02, .int .i64 x03, .int .i64 x04, .int .i64 x05] 29) = w0 at *
          generalize hp : w.heap.size = p at *
          have HP0 : Hid (p ≤ w0.heap.size) := Nat.le_of_lt (lt_of_block HX0.out)
          obtain ⟨s0, s1, s2, s3, s4, s5⟩ := bsix HX0.out
          go_wp2_with fail
          go_at_call 12
          refine (H1.out _).mono ?_
          rintro e w1 ⟨rfl, hb⟩
          have HX1 := Lib.hid (keepB HX0.out hb)
          have HB1 := Lib.hid (below_on HB0.out hb HP0.out)
          have HP1 : Hid (p ≤ w1.heap.size) := Nat.le_of_lt (lt_of_block HX1.out)
          clear hb
          clear s0 s1 s2 s3 s4 s5
          obtain ⟨s0, s1, s2, s3, s4, s5⟩ := bsix HX1.out
          have HX2 := Lib.hid (keepB HX1.out (below_alloc w1 (.cells #[.int .i64 O.al, .int .i64 O.de, .int .i64 O.cp, .int .i64 O.cn, .int .i64 O.plan, .int .i64 O.wr, .int .i64 O.pr, .int .i64 O.deny] 31)))
          have HB2 := Lib.hid (below_on HB1.out (below_alloc w1 (.cells #[.int .i64 O.al, .int .i64 O.de, .int .i64 O.cp, .int .i64 O.cn, .int .i64 O.plan, .int .i64 O.wr, .int .i64 O.pr, .int .i64 O.deny] 31)) HP1.out)
          have HOq1 := Lib.hid (alloc_new w1 #[.int .i64 O.al, .int .i64 O.de, .int .i64 O.cp, .int .i64 O.cn, .int .i64 O.plan, .int .i64 O.wr, .int .i64 O.pr, .int .i64 O.deny] 31)
          go_upto_region 2 with fail
          generalize w1.alloc (.cells #[.int .i64 O.al, .int .i64 O.de, .int .i64 O.cp, .int .i64 O.cn, .int .i64 O.plan, .int .i64 O.wr, .int .i64 O.pr, .int .i64 O.deny] 31) = w2 at *
          generalize w1.heap.size = q1 at *
          have HP2 : Hid (p ≤ w2.heap.size) := Nat.le_of_lt (lt_of_block HX2.out)
          clear s0 s1 s2 s3 s4 s5
          obtain ⟨s0, s1, s2, s3, s4, s5⟩ := bsix HX2.out
          go_wp2_with fail
          go_at_call 12
          refine (H2.out _).mono ?_
          rintro e w3 ⟨rfl, hb⟩
          have HX3 := Lib.hid (keepB HX2.out hb)
          have HB3 := Lib.hid (below_on HB2.out hb HP2.out)
          have HP3 : Hid (p ≤ w3.heap.size) := Nat.le_of_lt (lt_of_block HX3.out)
          have HOq1_ := Lib.hid (keepB HOq1.out hb)
          clear HOq1
          have HOq1 := HOq1_
          clear HOq1_
          clear hb
          clear s0 s1 s2 s3 s4 s5
          obtain ⟨s0, s1, s2, s3, s4, s5⟩ := bsix HX3.out
          have HX4 := Lib.hid (keepB HX3.out (below_alloc w3 (.cells #[.int .i64 Q.al, .int .i64 Q.de, .int .i64 Q.cp, .int .i64 Q.cn, .int .i64 Q.plan, .int .i64 Q.wr, .int .i64 Q.pr, .int .i64 Q.deny] 31)))
          have HB4 := Lib.hid (below_on HB3.out (below_alloc w3 (.cells #[.int .i64 Q.al, .int .i64 Q.de, .int .i64 Q.cp, .int .i64 Q.cn, .int .i64 Q.plan, .int .i64 Q.wr, .int .i64 Q.pr, .int .i64 Q.deny] 31)) HP3.out)
          have HOq2 := Lib.hid (alloc_new w3 #[.int .i64 Q.al, .int .i64 Q.de, .int .i64 Q.cp, .int .i64 Q.cn, .int .i64 Q.plan, .int .i64 Q.wr, .int .i64 Q.pr, .int .i64 Q.deny] 31)
          have HOq1_ := Lib.hid (keepB HOq1.out (below_alloc w3 (.cells #[.int .i64 Q.al, .int .i64 Q.de, .int .i64 Q.cp, .int .i64 Q.cn, .int .i64 Q.plan, .int .i64 Q.wr, .int .i64 Q.pr, .int .i64 Q.deny] 31)))
          clear HOq1
          have HOq1 := HOq1_
          clear HOq1_
          go_upto_region 3 with fail
          generalize w3.alloc (.cells #[.int .i64 Q.al, .int .i64 Q.de, .int .i64 Q.cp, .int .i64 Q.cn, .int .i64 Q.plan, .int .i64 Q.wr, .int .i64 Q.pr, .int .i64 Q.deny] 31) = w4 at *
          generalize w3.heap.size = q2 at *
          have HP4 : Hid (p ≤ w4.heap.size) := Nat.le_of_lt (lt_of_block HX4.out)
          clear s0 s1 s2 s3 s4 s5
          obtain ⟨s0, s1, s2, s3, s4, s5⟩ := bsix HX4.out
          go_upto_region 8 with fail
          clear s0 s1 s2 s3 s4 s5
          have HD4 := Lib.hid (Below.drew (Below.refl w4.heap.size w4))
          refine Ri.wp_region_lasting (by kernel_rfl) (by kernel_rfl) (by kernel_rfl) (fun Wx => Below w4.heap.size w4 Wx) (fun kz vs wz => (fun kx vx wx => match kx with | 0 => vx = .pointer (some ⟨q1, 4, none⟩) | 1 => vx = .int .i64 (O.plan) | 2 => vx = .agg #[.int .i64 O.al, .int .i64 O.de, .int .i64 O.cp, .int .i64 O.cn, .int .i64 O.plan, .int .i64 O.wr, .int .i64 O.pr, .int .i64 O.deny] | 3 => vx = .int .i64 (M) | 4 => vx = .int .i64 (x01 - x02) | 5 => vx = .int .i64 (x01 - x02) | 6 => vx = .bool false | _ => True : Nat → Value → World → Prop) kz (vs kz) wz) (fun kz => [kz]) (by kernel_rfl) (fun jz vs iz vz wz hiz hz => Ri.loc_own (F := (fun kx vx wx => match kx with | 0 => vx = .pointer (some ⟨q1, 4, none⟩) | 1 => vx = .int .i64 (O.plan) | 2 => vx = .agg #[.int .i64 O.al, .int .i64 O.de, .int .i64 O.cp, .int .i64 O.cn, .int .i64 O.plan, .int .i64 O.wr, .int .i64 O.pr, .int .i64 O.deny] | 3 => vx = .int .i64 (M) | 4 => vx = .int .i64 (x01 - x02) | 5 => vx = .int .i64 (x01 - x02) | 6 => vx = .bool false | _ => True : Nat → Value → World → Prop)) jz vs iz vz wz hiz hz) HD4.out ⟨⟨rfl, ?_⟩, ⟨rfl, ?_⟩, ⟨rfl, ?_⟩, ⟨rfl, ?_⟩, ⟨rfl, ?_⟩, ⟨rfl, ?_⟩, ⟨rfl, ?_⟩, trivial⟩ ?_
          · intro vs Wx A hA hB hpre K hK
            have e3 := (hA 3).trans (show _ = Value.pointer (some ⟨q1, 0, none⟩) by kernel_rfl)
            clear hA hpre
            go_simp
            first | exact hK _ _ hB rfl (fun _ _ h => h) | exact hK _ _ hB trivial (fun _ _ h => h) | (rw [if_neg (by omega)]; go_simp; exact hK _ _ hB rfl (fun _ _ h => h))
          · intro vs Wx A hA hB hpre K hK
            have e52 := ((hA 52).trans (show _ = vs 0 by kernel_rfl)).trans (by first | exact hpre.1 rfl | exact hpre.2.1 rfl | exact hpre.2.2.1 rfl | exact hpre.2.2.2.1 rfl | exact hpre.2.2.2.2.1 rfl | exact hpre.2.2.2.2.2.1 rfl | exact hpre.2.2.2.2.2.2.1 rfl | exact hpre.2.2.2.2.2.2.2.1 rfl | exact hpre.2.2.2.2.2.2.2.2.1 rfl | exact hpre.2.2.2.2.2.2.2.2.2.1 rfl)
            obtain ⟨d0, d1, d2, d3, d4, d5, d6, d7⟩ := eight (keepB (w := w4) HOq1.out hB)
            obtain ⟨e0, e1, e2, e3, e4, e5, e6, e7⟩ := eight (keepB (w := w4) HOq2.out hB)
            clear hA hpre
            go_simp
            first | exact hK _ _ hB rfl (fun _ _ h => h) | exact hK _ _ hB trivial (fun _ _ h => h) | (rw [if_neg (by omega)]; go_simp; exact hK _ _ hB rfl (fun _ _ h => h))
          · intro vs Wx A hA hB hpre K hK
            have e3 := (hA 3).trans (show _ = Value.pointer (some ⟨q1, 0, none⟩) by kernel_rfl)
            obtain ⟨d0, d1, d2, d3, d4, d5, d6, d7⟩ := eight (keepB (w := w4) HOq1.out hB)
            obtain ⟨e0, e1, e2, e3, e4, e5, e6, e7⟩ := eight (keepB (w := w4) HOq2.out hB)
            clear hA hpre
            go_simp
            first | exact hK _ _ hB rfl (fun _ _ h => h) | exact hK _ _ hB trivial (fun _ _ h => h) | (rw [if_neg (by omega)]; go_simp; exact hK _ _ hB rfl (fun _ _ h => h))
          · intro vs Wx A hA hB hpre K hK
            have e54 := ((hA 54).trans (show _ = vs 2 by kernel_rfl)).trans (by first | exact hpre.1 rfl | exact hpre.2.1 rfl | exact hpre.2.2.1 rfl | exact hpre.2.2.2.1 rfl | exact hpre.2.2.2.2.1 rfl | exact hpre.2.2.2.2.2.1 rfl | exact hpre.2.2.2.2.2.2.1 rfl | exact hpre.2.2.2.2.2.2.2.1 rfl | exact hpre.2.2.2.2.2.2.2.2.1 rfl | exact hpre.2.2.2.2.2.2.2.2.2.1 rfl)
            clear hA hpre
            go_simp
            go_at_call 17
            refine (HM1.out _).mono ?_
            rintro e w9 ⟨rfl, hb9⟩
            exact hK _ _ (below_trans hB hb9) rfl (fun _ _ h => h)
          · intro vs Wx A hA hB hpre K hK
            have e53 := ((hA 53).trans (show _ = vs 1 by kernel_rfl)).trans (by first | exact hpre.1 rfl | exact hpre.2.1 rfl | exact hpre.2.2.1 rfl | exact hpre.2.2.2.1 rfl | exact hpre.2.2.2.2.1 rfl | exact hpre.2.2.2.2.2.1 rfl | exact hpre.2.2.2.2.2.2.1 rfl | exact hpre.2.2.2.2.2.2.2.1 rfl | exact hpre.2.2.2.2.2.2.2.2.1 rfl | exact hpre.2.2.2.2.2.2.2.2.2.1 rfl)
            have e55 := ((hA 55).trans (show _ = vs 3 by kernel_rfl)).trans (by first | exact hpre.1 rfl | exact hpre.2.1 rfl | exact hpre.2.2.1 rfl | exact hpre.2.2.2.1 rfl | exact hpre.2.2.2.2.1 rfl | exact hpre.2.2.2.2.2.1 rfl | exact hpre.2.2.2.2.2.2.1 rfl | exact hpre.2.2.2.2.2.2.2.1 rfl | exact hpre.2.2.2.2.2.2.2.2.1 rfl | exact hpre.2.2.2.2.2.2.2.2.2.1 rfl)
            clear hA hpre
            go_simp
            first | exact hK _ _ hB rfl (fun _ _ h => h) | exact hK _ _ hB trivial (fun _ _ h => h) | (rw [if_neg (by omega)]; go_simp; exact hK _ _ hB rfl (fun _ _ h => h))
          · intro vs Wx A hA hB hpre K hK
            have e7 := (hA 7).trans (show _ = Value.int .i64 (x01 - x02) by kernel_rfl)
            clear hA hpre
            go_simp
            first | exact hK _ _ hB rfl (fun _ _ h => h) | exact hK _ _ hB trivial (fun _ _ h => h) | (rw [if_neg (by omega)]; go_simp; exact hK _ _ hB rfl (fun _ _ h => h))
          · intro vs Wx A hA hB hpre K hK
            have e56 := ((hA 56).trans (show _ = vs 4 by kernel_rfl)).trans (by first | exact hpre.1 rfl | exact hpre.2.1 rfl | exact hpre.2.2.1 rfl | exact hpre.2.2.2.1 rfl | exact hpre.2.2.2.2.1 rfl | exact hpre.2.2.2.2.2.1 rfl | exact hpre.2.2.2.2.2.2.1 rfl | exact hpre.2.2.2.2.2.2.2.1 rfl | exact hpre.2.2.2.2.2.2.2.2.1 rfl | exact hpre.2.2.2.2.2.2.2.2.2.1 rfl)
            have e57 := ((hA 57).trans (show _ = vs 5 by kernel_rfl)).trans (by first | exact hpre.1 rfl | exact hpre.2.1 rfl | exact hpre.2.2.1 rfl | exact hpre.2.2.2.1 rfl | exact hpre.2.2.2.2.1 rfl | exact hpre.2.2.2.2.2.1 rfl | exact hpre.2.2.2.2.2.2.1 rfl | exact hpre.2.2.2.2.2.2.2.1 rfl | exact hpre.2.2.2.2.2.2.2.2.1 rfl | exact hpre.2.2.2.2.2.2.2.2.2.1 rfl)
            clear hA hpre
            go_simp
            first | exact hK _ _ hB rfl (fun _ _ h => h) | exact hK _ _ hB trivial (fun _ _ h => h) | (rw [if_neg (by omega)]; go_simp; exact hK _ _ hB rfl (fun _ _ h => h))
          · intro vs w5 hB hF
            have hL : vs 6 = .bool false := hF 6 (by decide)
            have h0 : vs 0 = .pointer (some ⟨q1, 4, none⟩) := hF 0 (by decide)
            have HOq1_ := Lib.hid (keepB HOq1.out hB)
            have HOq2_ := Lib.hid (keepB HOq2.out hB)
            have HX5 := Lib.hid (keepB HX4.out hB)
            have HB5 := Lib.hid (below_on HB4.out hB HP4.out)
            have HP5 : Hid (p ≤ w5.heap.size) := Nat.le_of_lt (lt_of_block HX5.out)
            clear HOq1 HOq2 hF hB
            have HOq1 := HOq1_
            have HOq2 := HOq2_
            clear HOq1_ HOq2_
            simp only [Ri.puts]
            go_simp
            go_upto_region 10 with fail
            have HD5 := Lib.hid (Below.drew (Below.refl w5.heap.size w5))
            refine Ri.wp_region_lasting_g (by kernel_rfl) (by kernel_rfl) (by kernel_rfl) (fun Wx => Below w5.heap.size w5 Wx) (fun kz vs wz => (fun kx vx wx => match kx with | 0 => vx = .pointer (some ⟨q1, 4, none⟩) | 1 => vx = .int .i64 (O.plan) | 2 => vx = .pointer (some ⟨q2, 4, none⟩) | 3 => vx = .int .i64 (Q.plan) | 4 => vx = .bool true | 5 => vx = .bool true | 6 => vx = .agg #[.int .i64 O.al, .int .i64 O.de, .int .i64 O.cp, .int .i64 O.cn, .int .i64 O.plan, .int .i64 O.wr, .int .i64 O.pr, .int .i64 O.deny] | 7 => vx = .int .i64 (M) | 8 => vx = .agg #[.int .i64 Q.al, .int .i64 Q.de, .int .i64 Q.cp, .int .i64 Q.cn, .int .i64 Q.plan, .int .i64 Q.wr, .int .i64 Q.pr, .int .i64 Q.deny] | 9 => vx = .int .i64 (N) | 10 => vx = .bool true | 11 => vx = .bool true | 12 => vx = .bool true | 13 => vx = .pointer (some ⟨q1, 4, none⟩) | 14 => vx = .int .i64 (O.plan) | 15 => vx = .pointer (some ⟨q2, 4, none⟩) | 16 => vx = .int .i64 (Q.plan) | 17 => vx = .bool false | 18 => vx = .bool false | 19 => vx = .agg #[.int .i64 O.al, .int .i64 O.de, .int .i64 O.cp, .int .i64 O.cn, .int .i64 O.plan, .int .i64 O.wr, .int .i64 O.pr, .int .i64 O.deny] | 20 => vx = .int .i64 (M) | 21 => vx = .bool true | 22 => vx = .bool true | 23 => vx = .bool true | 24 => vx = .bool true | 25 => vx = .bool true | 26 => vx = .bool true | 27 => vx = .bool true | _ => True : Nat → Value → World → Prop) kz (vs kz) wz) (fun kz => [kz]) (by kernel_rfl) (fun jz vs iz vz wz hiz hz => Ri.loc_own (F := (fun kx vx wx => match kx with | 0 => vx = .pointer (some ⟨q1, 4, none⟩) | 1 => vx = .int .i64 (O.plan) | 2 => vx = .pointer (some ⟨q2, 4, none⟩) | 3 => vx = .int .i64 (Q.plan) | 4 => vx = .bool true | 5 => vx = .bool true | 6 => vx = .agg #[.int .i64 O.al, .int .i64 O.de, .int .i64 O.cp, .int .i64 O.cn, .int .i64 O.plan, .int .i64 O.wr, .int .i64 O.pr, .int .i64 O.deny] | 7 => vx = .int .i64 (M) | 8 => vx = .agg #[.int .i64 Q.al, .int .i64 Q.de, .int .i64 Q.cp, .int .i64 Q.cn, .int .i64 Q.plan, .int .i64 Q.wr, .int .i64 Q.pr, .int .i64 Q.deny] | 9 => vx = .int .i64 (N) | 10 => vx = .bool true | 11 => vx = .bool true | 12 => vx = .bool true | 13 => vx = .pointer (some ⟨q1, 4, none⟩) | 14 => vx = .int .i64 (O.plan) | 15 => vx = .pointer (some ⟨q2, 4, none⟩) | 16 => vx = .int .i64 (Q.plan) | 17 => vx = .bool false | 18 => vx = .bool false | 19 => vx = .agg #[.int .i64 O.al, .int .i64 O.de, .int .i64 O.cp, .int .i64 O.cn, .int .i64 O.plan, .int .i64 O.wr, .int .i64 O.pr, .int .i64 O.deny] | 20 => vx = .int .i64 (M) | 21 => vx = .bool true | 22 => vx = .bool true | 23 => vx = .bool true | 24 => vx = .bool true | 25 => vx = .bool true | 26 => vx = .bool true | 27 => vx = .bool true | _ => True : Nat → Value → World → Prop)) jz vs iz vz wz hiz hz) HD5.out ⟨Or.inl ⟨rfl, ?_⟩, Or.inl ⟨rfl, ?_⟩, Or.inl ⟨rfl, ?_⟩, Or.inl ⟨rfl, ?_⟩, Or.inl ⟨rfl, ?_⟩, Or.inl ⟨rfl, ?_⟩, Or.inr ⟨5, true, 64, rfl, rfl, ?_⟩, Or.inr ⟨5, true, 64, rfl, rfl, ?_⟩, Or.inr ⟨5, true, 64, rfl, rfl, ?_⟩, Or.inr ⟨5, true, 64, rfl, rfl, ?_⟩, Or.inr ⟨5, true, 64, rfl, rfl, ?_⟩, Or.inl ⟨rfl, ?_⟩, Or.inl ⟨rfl, ?_⟩, Or.inr ⟨12, true, 71, rfl, rfl, ?_⟩, Or.inr ⟨12, true, 71, rfl, rfl, ?_⟩, Or.inr ⟨12, true, 71, rfl, rfl, ?_⟩, Or.inr ⟨12, true, 71, rfl, rfl, ?_⟩, Or.inr ⟨12, true, 71, rfl, rfl, ?_⟩, Or.inr ⟨12, true, 71, rfl, rfl, ?_⟩, Or.inr ⟨18, false, 77, rfl, rfl, ?_⟩, Or.inr ⟨18, false, 77, rfl, rfl, ?_⟩, Or.inr ⟨18, false, 77, rfl, rfl, ?_⟩, Or.inr ⟨12, true, 71, rfl, rfl, ?_⟩, Or.inl ⟨rfl, ?_⟩, Or.inl ⟨rfl, ?_⟩, Or.inr ⟨24, true, 83, rfl, rfl, ?_⟩, Or.inl ⟨rfl, ?_⟩, Or.inl ⟨rfl, ?_⟩, trivial⟩ ?_
            · intro vs Wx A hA hB hpre K hK
              have e3 := (hA 3).trans (show _ = Value.pointer (some ⟨q1, 0, none⟩) by kernel_rfl)
              clear hA hpre
              go_simp
              first | exact hK _ _ hB rfl (fun _ _ h => h) | exact hK _ _ hB trivial (fun _ _ h => h) | (rw [if_neg (by omega)]; go_simp; exact hK _ _ hB rfl (fun _ _ h => h))
            · intro vs Wx A hA hB hpre K hK
              have e59 := ((hA 59).trans (show _ = vs 0 by kernel_rfl)).trans (by first | exact hpre.1 rfl | exact hpre.2.1 rfl | exact hpre.2.2.1 rfl | exact hpre.2.2.2.1 rfl | exact hpre.2.2.2.2.1 rfl | exact hpre.2.2.2.2.2.1 rfl | exact hpre.2.2.2.2.2.2.1 rfl | exact hpre.2.2.2.2.2.2.2.1 rfl | exact hpre.2.2.2.2.2.2.2.2.1 rfl | exact hpre.2.2.2.2.2.2.2.2.2.1 rfl)
              obtain ⟨d0, d1, d2, d3, d4, d5, d6, d7⟩ := eight (keepB (w := w5) HOq1.out hB)
              obtain ⟨e0, e1, e2, e3, e4, e5, e6, e7⟩ := eight (keepB (w := w5) HOq2.out hB)
              clear hA hpre
              go_simp
              first | exact hK _ _ hB rfl (fun _ _ h => h) | exact hK _ _ hB trivial (fun _ _ h => h) | (rw [if_neg (by omega)]; go_simp; exact hK _ _ hB rfl (fun _ _ h => h))
            · intro vs Wx A hA hB hpre K hK
              have e5 := (hA 5).trans (show _ = Value.pointer (some ⟨q2, 0, none⟩) by kernel_rfl)
              clear hA hpre
              go_simp
              first | exact hK _ _ hB rfl (fun _ _ h => h) | exact hK _ _ hB trivial (fun _ _ h => h) | (rw [if_neg (by omega)]; go_simp; exact hK _ _ hB rfl (fun _ _ h => h))
            · intro vs Wx A hA hB hpre K hK
              have e61 := ((hA 61).trans (show _ = vs 2 by kernel_rfl)).trans (by first | exact hpre.1 rfl | exact hpre.2.1 rfl | exact hpre.2.2.1 rfl | exact hpre.2.2.2.1 rfl | exact hpre.2.2.2.2.1 rfl | exact hpre.2.2.2.2.2.1 rfl | exact hpre.2.2.2.2.2.2.1 rfl | exact hpre.2.2.2.2.2.2.2.1 rfl | exact hpre.2.2.2.2.2.2.2.2.1 rfl | exact hpre.2.2.2.2.2.2.2.2.2.1 rfl)
              obtain ⟨d0, d1, d2, d3, d4, d5, d6, d7⟩ := eight (keepB (w := w5) HOq1.out hB)
              obtain ⟨e0, e1, e2, e3, e4, e5, e6, e7⟩ := eight (keepB (w := w5) HOq2.out hB)
              clear hA hpre
              go_simp
              first | exact hK _ _ hB rfl (fun _ _ h => h) | exact hK _ _ hB trivial (fun _ _ h => h) | (rw [if_neg (by omega)]; go_simp; exact hK _ _ hB rfl (fun _ _ h => h))
            · intro vs Wx A hA hB hpre K hK
              have e60 := ((hA 60).trans (show _ = vs 1 by kernel_rfl)).trans (by first | exact hpre.1 rfl | exact hpre.2.1 rfl | exact hpre.2.2.1 rfl | exact hpre.2.2.2.1 rfl | exact hpre.2.2.2.2.1 rfl | exact hpre.2.2.2.2.2.1 rfl | exact hpre.2.2.2.2.2.2.1 rfl | exact hpre.2.2.2.2.2.2.2.1 rfl | exact hpre.2.2.2.2.2.2.2.2.1 rfl | exact hpre.2.2.2.2.2.2.2.2.2.1 rfl)
              have e62 := ((hA 62).trans (show _ = vs 3 by kernel_rfl)).trans (by first | exact hpre.1 rfl | exact hpre.2.1 rfl | exact hpre.2.2.1 rfl | exact hpre.2.2.2.1 rfl | exact hpre.2.2.2.2.1 rfl | exact hpre.2.2.2.2.2.1 rfl | exact hpre.2.2.2.2.2.2.1 rfl | exact hpre.2.2.2.2.2.2.2.1 rfl | exact hpre.2.2.2.2.2.2.2.2.1 rfl | exact hpre.2.2.2.2.2.2.2.2.2.1 rfl)
              clear hA hpre
              go_simp
              first | exact hK _ _ hB rfl (fun _ _ h => h) | exact hK _ _ hB trivial (fun _ _ h => h) | (rw [if_neg (by omega)]; go_simp; exact hK _ _ hB rfl (fun _ _ h => h))
            · intro vs Wx A hA hB hpre K hK
              have e63 := ((hA 63).trans (show _ = vs 4 by kernel_rfl)).trans (by first | exact hpre.1 rfl | exact hpre.2.1 rfl | exact hpre.2.2.1 rfl | exact hpre.2.2.2.1 rfl | exact hpre.2.2.2.2.1 rfl | exact hpre.2.2.2.2.2.1 rfl | exact hpre.2.2.2.2.2.2.1 rfl | exact hpre.2.2.2.2.2.2.2.1 rfl | exact hpre.2.2.2.2.2.2.2.2.1 rfl | exact hpre.2.2.2.2.2.2.2.2.2.1 rfl)
              clear hA hpre
              go_simp
              first | exact hK _ _ hB rfl (fun _ _ h => h) | exact hK _ _ hB trivial (fun _ _ h => h) | (rw [if_neg (by omega)]; go_simp; exact hK _ _ hB rfl (fun _ _ h => h))
            · intro vs Wx A hA hB hpre
              have eg := ((hA 64).trans (show _ = vs 5 by kernel_rfl)).trans (by first | exact hpre.1 rfl | exact hpre.2.1 rfl | exact hpre.2.2.1 rfl | exact hpre.2.2.2.1 rfl | exact hpre.2.2.2.2.1 rfl | exact hpre.2.2.2.2.2.1 rfl | exact hpre.2.2.2.2.2.2.1 rfl | exact hpre.2.2.2.2.2.2.2.1 rfl | exact hpre.2.2.2.2.2.2.2.2.1 rfl | exact hpre.2.2.2.2.2.2.2.2.2.1 rfl)
              refine ⟨true, eg, fun _ K hK => ?_, fun h => absurd rfl h⟩
              have e3 := (hA 3).trans (show _ = Value.pointer (some ⟨q1, 0, none⟩) by kernel_rfl)
              obtain ⟨d0, d1, d2, d3, d4, d5, d6, d7⟩ := eight (keepB (w := w5) HOq1.out hB)
              obtain ⟨e0, e1, e2, e3, e4, e5, e6, e7⟩ := eight (keepB (w := w5) HOq2.out hB)
              clear hA hpre
              go_simp
              first | exact hK _ _ hB rfl (fun _ _ h => h) | exact hK _ _ hB trivial (fun _ _ h => h) | (rw [if_neg (by omega)]; go_simp; exact hK _ _ hB rfl (fun _ _ h => h))
            · intro vs Wx A hA hB hpre
              have eg := ((hA 64).trans (show _ = vs 5 by kernel_rfl)).trans (by first | exact hpre.1 rfl | exact hpre.2.1 rfl | exact hpre.2.2.1 rfl | exact hpre.2.2.2.1 rfl | exact hpre.2.2.2.2.1 rfl | exact hpre.2.2.2.2.2.1 rfl | exact hpre.2.2.2.2.2.2.1 rfl | exact hpre.2.2.2.2.2.2.2.1 rfl | exact hpre.2.2.2.2.2.2.2.2.1 rfl | exact hpre.2.2.2.2.2.2.2.2.2.1 rfl)
              refine ⟨true, eg, fun _ K hK => ?_, fun h => absurd rfl h⟩
              have e65 := ((hA 65).trans (show _ = vs 6 by kernel_rfl)).trans (by first | exact hpre.1 rfl | exact hpre.2.1 rfl | exact hpre.2.2.1 rfl | exact hpre.2.2.2.1 rfl | exact hpre.2.2.2.2.1 rfl | exact hpre.2.2.2.2.2.1 rfl | exact hpre.2.2.2.2.2.2.1 rfl | exact hpre.2.2.2.2.2.2.2.1 rfl | exact hpre.2.2.2.2.2.2.2.2.1 rfl | exact hpre.2.2.2.2.2.2.2.2.2.1 rfl)
              clear hA hpre
              go_simp
              go_at_call 17
              refine (HM1.out _).mono ?_
              rintro e w9 ⟨rfl, hb9⟩
              exact hK _ _ (below_trans hB hb9) rfl (fun _ _ h => h)
            · intro vs Wx A hA hB hpre
              have eg := ((hA 64).trans (show _ = vs 5 by kernel_rfl)).trans (by first | exact hpre.1 rfl | exact hpre.2.1 rfl | exact hpre.2.2.1 rfl | exact hpre.2.2.2.1 rfl | exact hpre.2.2.2.2.1 rfl | exact hpre.2.2.2.2.2.1 rfl | exact hpre.2.2.2.2.2.2.1 rfl | exact hpre.2.2.2.2.2.2.2.1 rfl | exact hpre.2.2.2.2.2.2.2.2.1 rfl | exact hpre.2.2.2.2.2.2.2.2.2.1 rfl)
              refine ⟨true, eg, fun _ K hK => ?_, fun h => absurd rfl h⟩
              have e5 := (hA 5).trans (show _ = Value.pointer (some ⟨q2, 0, none⟩) by kernel_rfl)
              obtain ⟨d0, d1, d2, d3, d4, d5, d6, d7⟩ := eight (keepB (w := w5) HOq1.out hB)
              obtain ⟨e0, e1, e2, e3, e4, e5, e6, e7⟩ := eight (keepB (w := w5) HOq2.out hB)
              clear hA hpre
              go_simp
              first | exact hK _ _ hB rfl (fun _ _ h => h) | exact hK _ _ hB trivial (fun _ _ h => h) | (rw [if_neg (by omega)]; go_simp; exact hK _ _ hB rfl (fun _ _ h => h))
            · intro vs Wx A hA hB hpre
              have eg := ((hA 64).trans (show _ = vs 5 by kernel_rfl)).trans (by first | exact hpre.1 rfl | exact hpre.2.1 rfl | exact hpre.2.2.1 rfl | exact hpre.2.2.2.1 rfl | exact hpre.2.2.2.2.1 rfl | exact hpre.2.2.2.2.2.1 rfl | exact hpre.2.2.2.2.2.2.1 rfl | exact hpre.2.2.2.2.2.2.2.1 rfl | exact hpre.2.2.2.2.2.2.2.2.1 rfl | exact hpre.2.2.2.2.2.2.2.2.2.1 rfl)
              refine ⟨true, eg, fun _ K hK => ?_, fun h => absurd rfl h⟩
              have e67 := ((hA 67).trans (show _ = vs 8 by kernel_rfl)).trans (by first | exact hpre.1 rfl | exact hpre.2.1 rfl | exact hpre.2.2.1 rfl | exact hpre.2.2.2.1 rfl | exact hpre.2.2.2.2.1 rfl | exact hpre.2.2.2.2.2.1 rfl | exact hpre.2.2.2.2.2.2.1 rfl | exact hpre.2.2.2.2.2.2.2.1 rfl | exact hpre.2.2.2.2.2.2.2.2.1 rfl | exact hpre.2.2.2.2.2.2.2.2.2.1 rfl)
              clear hA hpre
              go_simp
              go_at_call 17
              refine (HM2.out _).mono ?_
              rintro e w9 ⟨rfl, hb9⟩
              exact hK _ _ (below_trans hB hb9) rfl (fun _ _ h => h)
            · intro vs Wx A hA hB hpre
              have eg := ((hA 64).trans (show _ = vs 5 by kernel_rfl)).trans (by first | exact hpre.1 rfl | exact hpre.2.1 rfl | exact hpre.2.2.1 rfl | exact hpre.2.2.2.1 rfl | exact hpre.2.2.2.2.1 rfl | exact hpre.2.2.2.2.2.1 rfl | exact hpre.2.2.2.2.2.2.1 rfl | exact hpre.2.2.2.2.2.2.2.1 rfl | exact hpre.2.2.2.2.2.2.2.2.1 rfl | exact hpre.2.2.2.2.2.2.2.2.2.1 rfl)
              refine ⟨true, eg, fun _ K hK => ?_, fun h => absurd rfl h⟩
              have e66 := ((hA 66).trans (show _ = vs 7 by kernel_rfl)).trans (by first | exact hpre.1 rfl | exact hpre.2.1 rfl | exact hpre.2.2.1 rfl | exact hpre.2.2.2.1 rfl | exact hpre.2.2.2.2.1 rfl | exact hpre.2.2.2.2.2.1 rfl | exact hpre.2.2.2.2.2.2.1 rfl | exact hpre.2.2.2.2.2.2.2.1 rfl | exact hpre.2.2.2.2.2.2.2.2.1 rfl | exact hpre.2.2.2.2.2.2.2.2.2.1 rfl)
              have e68 := ((hA 68).trans (show _ = vs 9 by kernel_rfl)).trans (by first | exact hpre.1 rfl | exact hpre.2.1 rfl | exact hpre.2.2.1 rfl | exact hpre.2.2.2.1 rfl | exact hpre.2.2.2.2.1 rfl | exact hpre.2.2.2.2.2.1 rfl | exact hpre.2.2.2.2.2.2.1 rfl | exact hpre.2.2.2.2.2.2.2.1 rfl | exact hpre.2.2.2.2.2.2.2.2.1 rfl | exact hpre.2.2.2.2.2.2.2.2.2.1 rfl)
              clear hA hpre
              go_simp
              first | exact hK _ _ hB rfl (fun _ _ h => h) | exact hK _ _ hB trivial (fun _ _ h => h) | (rw [if_neg (by omega)]; go_simp; exact hK _ _ hB rfl (fun _ _ h => h))
            · intro vs Wx A hA hB hpre K hK
              have e64 := ((hA 64).trans (show _ = vs 5 by kernel_rfl)).trans (by first | exact hpre.1 rfl | exact hpre.2.1 rfl | exact hpre.2.2.1 rfl | exact hpre.2.2.2.1 rfl | exact hpre.2.2.2.2.1 rfl | exact hpre.2.2.2.2.2.1 rfl | exact hpre.2.2.2.2.2.2.1 rfl | exact hpre.2.2.2.2.2.2.2.1 rfl | exact hpre.2.2.2.2.2.2.2.2.1 rfl | exact hpre.2.2.2.2.2.2.2.2.2.1 rfl)
              have e69 := ((hA 69).trans (show _ = vs 10 by kernel_rfl)).trans (by first | exact hpre.1 rfl | exact hpre.2.1 rfl | exact hpre.2.2.1 rfl | exact hpre.2.2.2.1 rfl | exact hpre.2.2.2.2.1 rfl | exact hpre.2.2.2.2.2.1 rfl | exact hpre.2.2.2.2.2.2.1 rfl | exact hpre.2.2.2.2.2.2.2.1 rfl | exact hpre.2.2.2.2.2.2.2.2.1 rfl | exact hpre.2.2.2.2.2.2.2.2.2.1 rfl)
              clear hA hpre
              go_simp
              first | exact hK _ _ hB rfl (fun _ _ h => h) | exact hK _ _ hB trivial (fun _ _ h => h) | (rw [if_neg (by omega)]; go_simp; exact hK _ _ hB rfl (fun _ _ h => h))
            · intro vs Wx A hA hB hpre K hK
              have e70 := ((hA 70).trans (show _ = vs 11 by kernel_rfl)).trans (by first | exact hpre.1 rfl | exact hpre.2.1 rfl | exact hpre.2.2.1 rfl | exact hpre.2.2.2.1 rfl | exact hpre.2.2.2.2.1 rfl | exact hpre.2.2.2.2.2.1 rfl | exact hpre.2.2.2.2.2.2.1 rfl | exact hpre.2.2.2.2.2.2.2.1 rfl | exact hpre.2.2.2.2.2.2.2.2.1 rfl | exact hpre.2.2.2.2.2.2.2.2.2.1 rfl)
              clear hA hpre
              go_simp
              first | exact hK _ _ hB rfl (fun _ _ h => h) | exact hK _ _ hB trivial (fun _ _ h => h) | (rw [if_neg (by omega)]; go_simp; exact hK _ _ hB rfl (fun _ _ h => h))
            · intro vs Wx A hA hB hpre
              have eg := ((hA 71).trans (show _ = vs 12 by kernel_rfl)).trans (by first | exact hpre.1 rfl | exact hpre.2.1 rfl | exact hpre.2.2.1 rfl | exact hpre.2.2.2.1 rfl | exact hpre.2.2.2.2.1 rfl | exact hpre.2.2.2.2.2.1 rfl | exact hpre.2.2.2.2.2.2.1 rfl | exact hpre.2.2.2.2.2.2.2.1 rfl | exact hpre.2.2.2.2.2.2.2.2.1 rfl | exact hpre.2.2.2.2.2.2.2.2.2.1 rfl)
              refine ⟨true, eg, fun _ K hK => ?_, fun h => absurd rfl h⟩
              have e3 := (hA 3).trans (show _ = Value.pointer (some ⟨q1, 0, none⟩) by kernel_rfl)
              clear hA hpre
              go_simp
              first | exact hK _ _ hB rfl (fun _ _ h => h) | exact hK _ _ hB trivial (fun _ _ h => h) | (rw [if_neg (by omega)]; go_simp; exact hK _ _ hB rfl (fun _ _ h => h))
            · intro vs Wx A hA hB hpre
              have eg := ((hA 71).trans (show _ = vs 12 by kernel_rfl)).trans (by first | exact hpre.1 rfl | exact hpre.2.1 rfl | exact hpre.2.2.1 rfl | exact hpre.2.2.2.1 rfl | exact hpre.2.2.2.2.1 rfl | exact hpre.2.2.2.2.2.1 rfl | exact hpre.2.2.2.2.2.2.1 rfl | exact hpre.2.2.2.2.2.2.2.1 rfl | exact hpre.2.2.2.2.2.2.2.2.1 rfl | exact hpre.2.2.2.2.2.2.2.2.2.1 rfl)
              refine ⟨true, eg, fun _ K hK => ?_, fun h => absurd rfl h⟩
              have e72 := ((hA 72).trans (show _ = vs 13 by kernel_rfl)).trans (by first | exact hpre.1 rfl | exact hpre.2.1 rfl | exact hpre.2.2.1 rfl | exact hpre.2.2.2.1 rfl | exact hpre.2.2.2.2.1 rfl | exact hpre.2.2.2.2.2.1 rfl | exact hpre.2.2.2.2.2.2.1 rfl | exact hpre.2.2.2.2.2.2.2.1 rfl | exact hpre.2.2.2.2.2.2.2.2.1 rfl | exact hpre.2.2.2.2.2.2.2.2.2.1 rfl)
              obtain ⟨d0, d1, d2, d3, d4, d5, d6, d7⟩ := eight (keepB (w := w5) HOq1.out hB)
              obtain ⟨e0, e1, e2, e3, e4, e5, e6, e7⟩ := eight (keepB (w := w5) HOq2.out hB)
              clear hA hpre
              go_simp
              first | exact hK _ _ hB rfl (fun _ _ h => h) | exact hK _ _ hB trivial (fun _ _ h => h) | (rw [if_neg (by omega)]; go_simp; exact hK _ _ hB rfl (fun _ _ h => h))
            · intro vs Wx A hA hB hpre
              have eg := ((hA 71).trans (show _ = vs 12 by kernel_rfl)).trans (by first | exact hpre.1 rfl | exact hpre.2.1 rfl | exact hpre.2.2.1 rfl | exact hpre.2.2.2.1 rfl | exact hpre.2.2.2.2.1 rfl | exact hpre.2.2.2.2.2.1 rfl | exact hpre.2.2.2.2.2.2.1 rfl | exact hpre.2.2.2.2.2.2.2.1 rfl | exact hpre.2.2.2.2.2.2.2.2.1 rfl | exact hpre.2.2.2.2.2.2.2.2.2.1 rfl)
              refine ⟨true, eg, fun _ K hK => ?_, fun h => absurd rfl h⟩
              have e5 := (hA 5).trans (show _ = Value.pointer (some ⟨q2, 0, none⟩) by kernel_rfl)
              clear hA hpre
              go_simp
              first | exact hK _ _ hB rfl (fun _ _ h => h) | exact hK _ _ hB trivial (fun _ _ h => h) | (rw [if_neg (by omega)]; go_simp; exact hK _ _ hB rfl (fun _ _ h => h))
            · intro vs Wx A hA hB hpre
              have eg := ((hA 71).trans (show _ = vs 12 by kernel_rfl)).trans (by first | exact hpre.1 rfl | exact hpre.2.1 rfl | exact hpre.2.2.1 rfl | exact hpre.2.2.2.1 rfl | exact hpre.2.2.2.2.1 rfl | exact hpre.2.2.2.2.2.1 rfl | exact hpre.2.2.2.2.2.2.1 rfl | exact hpre.2.2.2.2.2.2.2.1 rfl | exact hpre.2.2.2.2.2.2.2.2.1 rfl | exact hpre.2.2.2.2.2.2.2.2.2.1 rfl)
              refine ⟨true, eg, fun _ K hK => ?_, fun h => absurd rfl h⟩
              have e74 := ((hA 74).trans (show _ = vs 15 by kernel_rfl)).trans (by first | exact hpre.1 rfl | exact hpre.2.1 rfl | exact hpre.2.2.1 rfl | exact hpre.2.2.2.1 rfl | exact hpre.2.2.2.2.1 rfl | exact hpre.2.2.2.2.2.1 rfl | exact hpre.2.2.2.2.2.2.1 rfl | exact hpre.2.2.2.2.2.2.2.1 rfl | exact hpre.2.2.2.2.2.2.2.2.1 rfl | exact hpre.2.2.2.2.2.2.2.2.2.1 rfl)
              obtain ⟨d0, d1, d2, d3, d4, d5, d6, d7⟩ := eight (keepB (w := w5) HOq1.out hB)
              obtain ⟨e0, e1, e2, e3, e4, e5, e6, e7⟩ := eight (keepB (w := w5) HOq2.out hB)
              clear hA hpre
              go_simp
              first | exact hK _ _ hB rfl (fun _ _ h => h) | exact hK _ _ hB trivial (fun _ _ h => h) | (rw [if_neg (by omega)]; go_simp; exact hK _ _ hB rfl (fun _ _ h => h))
            · intro vs Wx A hA hB hpre
              have eg := ((hA 71).trans (show _ = vs 12 by kernel_rfl)).trans (by first | exact hpre.1 rfl | exact hpre.2.1 rfl | exact hpre.2.2.1 rfl | exact hpre.2.2.2.1 rfl | exact hpre.2.2.2.2.1 rfl | exact hpre.2.2.2.2.2.1 rfl | exact hpre.2.2.2.2.2.2.1 rfl | exact hpre.2.2.2.2.2.2.2.1 rfl | exact hpre.2.2.2.2.2.2.2.2.1 rfl | exact hpre.2.2.2.2.2.2.2.2.2.1 rfl)
              refine ⟨true, eg, fun _ K hK => ?_, fun h => absurd rfl h⟩
              have e73 := ((hA 73).trans (show _ = vs 14 by kernel_rfl)).trans (by first | exact hpre.1 rfl | exact hpre.2.1 rfl | exact hpre.2.2.1 rfl | exact hpre.2.2.2.1 rfl | exact hpre.2.2.2.2.1 rfl | exact hpre.2.2.2.2.2.1 rfl | exact hpre.2.2.2.2.2.2.1 rfl | exact hpre.2.2.2.2.2.2.2.1 rfl | exact hpre.2.2.2.2.2.2.2.2.1 rfl | exact hpre.2.2.2.2.2.2.2.2.2.1 rfl)
              have e75 := ((hA 75).trans (show _ = vs 16 by kernel_rfl)).trans (by first | exact hpre.1 rfl | exact hpre.2.1 rfl | exact hpre.2.2.1 rfl | exact hpre.2.2.2.1 rfl | exact hpre.2.2.2.2.1 rfl | exact hpre.2.2.2.2.2.1 rfl | exact hpre.2.2.2.2.2.2.1 rfl | exact hpre.2.2.2.2.2.2.2.1 rfl | exact hpre.2.2.2.2.2.2.2.2.1 rfl | exact hpre.2.2.2.2.2.2.2.2.2.1 rfl)
              clear hA hpre
              go_simp
              first | exact hK _ _ hB rfl (fun _ _ h => h) | exact hK _ _ hB trivial (fun _ _ h => h) | (rw [if_neg (by omega)]; go_simp; exact hK _ _ hB rfl (fun _ _ h => h))
            · intro vs Wx A hA hB hpre
              have eg := ((hA 71).trans (show _ = vs 12 by kernel_rfl)).trans (by first | exact hpre.1 rfl | exact hpre.2.1 rfl | exact hpre.2.2.1 rfl | exact hpre.2.2.2.1 rfl | exact hpre.2.2.2.2.1 rfl | exact hpre.2.2.2.2.2.1 rfl | exact hpre.2.2.2.2.2.2.1 rfl | exact hpre.2.2.2.2.2.2.2.1 rfl | exact hpre.2.2.2.2.2.2.2.2.1 rfl | exact hpre.2.2.2.2.2.2.2.2.2.1 rfl)
              refine ⟨true, eg, fun _ K hK => ?_, fun h => absurd rfl h⟩
              have e76 := ((hA 76).trans (show _ = vs 17 by kernel_rfl)).trans (by first | exact hpre.1 rfl | exact hpre.2.1 rfl | exact hpre.2.2.1 rfl | exact hpre.2.2.2.1 rfl | exact hpre.2.2.2.2.1 rfl | exact hpre.2.2.2.2.2.1 rfl | exact hpre.2.2.2.2.2.2.1 rfl | exact hpre.2.2.2.2.2.2.2.1 rfl | exact hpre.2.2.2.2.2.2.2.2.1 rfl | exact hpre.2.2.2.2.2.2.2.2.2.1 rfl)
              clear hA hpre
              go_simp
              first | exact hK _ _ hB rfl (fun _ _ h => h) | exact hK _ _ hB trivial (fun _ _ h => h) | (rw [if_neg (by omega)]; go_simp; exact hK _ _ hB rfl (fun _ _ h => h))
            · intro vs Wx A hA hB hpre
              have eg := ((hA 77).trans (show _ = vs 18 by kernel_rfl)).trans (by first | exact hpre.1 rfl | exact hpre.2.1 rfl | exact hpre.2.2.1 rfl | exact hpre.2.2.2.1 rfl | exact hpre.2.2.2.2.1 rfl | exact hpre.2.2.2.2.2.1 rfl | exact hpre.2.2.2.2.2.2.1 rfl | exact hpre.2.2.2.2.2.2.2.1 rfl | exact hpre.2.2.2.2.2.2.2.2.1 rfl | exact hpre.2.2.2.2.2.2.2.2.2.1 rfl)
              refine ⟨false, eg, fun _ K hK => ?_, fun h => absurd rfl h⟩
              have e3 := (hA 3).trans (show _ = Value.pointer (some ⟨q1, 0, none⟩) by kernel_rfl)
              obtain ⟨d0, d1, d2, d3, d4, d5, d6, d7⟩ := eight (keepB (w := w5) HOq1.out hB)
              obtain ⟨e0, e1, e2, e3, e4, e5, e6, e7⟩ := eight (keepB (w := w5) HOq2.out hB)
              clear hA hpre
              go_simp
              first | exact hK _ _ hB rfl (fun _ _ h => h) | exact hK _ _ hB trivial (fun _ _ h => h) | (rw [if_neg (by omega)]; go_simp; exact hK _ _ hB rfl (fun _ _ h => h))
            · intro vs Wx A hA hB hpre
              have eg := ((hA 77).trans (show _ = vs 18 by kernel_rfl)).trans (by first | exact hpre.1 rfl | exact hpre.2.1 rfl | exact hpre.2.2.1 rfl | exact hpre.2.2.2.1 rfl | exact hpre.2.2.2.2.1 rfl | exact hpre.2.2.2.2.2.1 rfl | exact hpre.2.2.2.2.2.2.1 rfl | exact hpre.2.2.2.2.2.2.2.1 rfl | exact hpre.2.2.2.2.2.2.2.2.1 rfl | exact hpre.2.2.2.2.2.2.2.2.2.1 rfl)
              refine ⟨false, eg, fun _ K hK => ?_, fun h => absurd rfl h⟩
              have e78 := ((hA 78).trans (show _ = vs 19 by kernel_rfl)).trans (by first | exact hpre.1 rfl | exact hpre.2.1 rfl | exact hpre.2.2.1 rfl | exact hpre.2.2.2.1 rfl | exact hpre.2.2.2.2.1 rfl | exact hpre.2.2.2.2.2.1 rfl | exact hpre.2.2.2.2.2.2.1 rfl | exact hpre.2.2.2.2.2.2.2.1 rfl | exact hpre.2.2.2.2.2.2.2.2.1 rfl | exact hpre.2.2.2.2.2.2.2.2.2.1 rfl)
              clear hA hpre
              go_simp
              go_at_call 17
              refine (HM1.out _).mono ?_
              rintro e w9 ⟨rfl, hb9⟩
              exact hK _ _ (below_trans hB hb9) rfl (fun _ _ h => h)
            · intro vs Wx A hA hB hpre
              have eg := ((hA 77).trans (show _ = vs 18 by kernel_rfl)).trans (by first | exact hpre.1 rfl | exact hpre.2.1 rfl | exact hpre.2.2.1 rfl | exact hpre.2.2.2.1 rfl | exact hpre.2.2.2.2.1 rfl | exact hpre.2.2.2.2.2.1 rfl | exact hpre.2.2.2.2.2.2.1 rfl | exact hpre.2.2.2.2.2.2.2.1 rfl | exact hpre.2.2.2.2.2.2.2.2.1 rfl | exact hpre.2.2.2.2.2.2.2.2.2.1 rfl)
              refine ⟨false, eg, fun _ K hK => ?_, fun h => absurd rfl h⟩
              have e79 := ((hA 79).trans (show _ = vs 20 by kernel_rfl)).trans (by first | exact hpre.1 rfl | exact hpre.2.1 rfl | exact hpre.2.2.1 rfl | exact hpre.2.2.2.1 rfl | exact hpre.2.2.2.2.1 rfl | exact hpre.2.2.2.2.2.1 rfl | exact hpre.2.2.2.2.2.2.1 rfl | exact hpre.2.2.2.2.2.2.2.1 rfl | exact hpre.2.2.2.2.2.2.2.2.1 rfl | exact hpre.2.2.2.2.2.2.2.2.2.1 rfl)
              clear hA hpre
              go_simp
              first | exact hK _ _ hB rfl (fun _ _ h => h) | exact hK _ _ hB trivial (fun _ _ h => h) | (rw [if_neg (by omega)]; go_simp; exact hK _ _ hB rfl (fun _ _ h => h))
            · intro vs Wx A hA hB hpre
              have eg := ((hA 71).trans (show _ = vs 12 by kernel_rfl)).trans (by first | exact hpre.1 rfl | exact hpre.2.1 rfl | exact hpre.2.2.1 rfl | exact hpre.2.2.2.1 rfl | exact hpre.2.2.2.2.1 rfl | exact hpre.2.2.2.2.2.1 rfl | exact hpre.2.2.2.2.2.2.1 rfl | exact hpre.2.2.2.2.2.2.2.1 rfl | exact hpre.2.2.2.2.2.2.2.2.1 rfl | exact hpre.2.2.2.2.2.2.2.2.2.1 rfl)
              refine ⟨true, eg, fun _ K hK => ?_, fun h => absurd rfl h⟩
              have e77 := ((hA 77).trans (show _ = vs 18 by kernel_rfl)).trans (by first | exact hpre.1 rfl | exact hpre.2.1 rfl | exact hpre.2.2.1 rfl | exact hpre.2.2.2.1 rfl | exact hpre.2.2.2.2.1 rfl | exact hpre.2.2.2.2.2.1 rfl | exact hpre.2.2.2.2.2.2.1 rfl | exact hpre.2.2.2.2.2.2.2.1 rfl | exact hpre.2.2.2.2.2.2.2.2.1 rfl | exact hpre.2.2.2.2.2.2.2.2.2.1 rfl)
              have e80 := ((hA 80).trans (show _ = vs 21 by kernel_rfl)).trans (by first | exact hpre.1 rfl | exact hpre.2.1 rfl | exact hpre.2.2.1 rfl | exact hpre.2.2.2.1 rfl | exact hpre.2.2.2.2.1 rfl | exact hpre.2.2.2.2.2.1 rfl | exact hpre.2.2.2.2.2.2.1 rfl | exact hpre.2.2.2.2.2.2.2.1 rfl | exact hpre.2.2.2.2.2.2.2.2.1 rfl | exact hpre.2.2.2.2.2.2.2.2.2.1 rfl)
              clear hA hpre
              go_simp
              first | exact hK _ _ hB rfl (fun _ _ h => h) | exact hK _ _ hB trivial (fun _ _ h => h) | (rw [if_neg (by omega)]; go_simp; exact hK _ _ hB rfl (fun _ _ h => h))
            · intro vs Wx A hA hB hpre K hK
              have e71 := ((hA 71).trans (show _ = vs 12 by kernel_rfl)).trans (by first | exact hpre.1 rfl | exact hpre.2.1 rfl | exact hpre.2.2.1 rfl | exact hpre.2.2.2.1 rfl | exact hpre.2.2.2.2.1 rfl | exact hpre.2.2.2.2.2.1 rfl | exact hpre.2.2.2.2.2.2.1 rfl | exact hpre.2.2.2.2.2.2.2.1 rfl | exact hpre.2.2.2.2.2.2.2.2.1 rfl | exact hpre.2.2.2.2.2.2.2.2.2.1 rfl)
              have e81 := ((hA 81).trans (show _ = vs 22 by kernel_rfl)).trans (by first | exact hpre.1 rfl | exact hpre.2.1 rfl | exact hpre.2.2.1 rfl | exact hpre.2.2.2.1 rfl | exact hpre.2.2.2.2.1 rfl | exact hpre.2.2.2.2.2.1 rfl | exact hpre.2.2.2.2.2.2.1 rfl | exact hpre.2.2.2.2.2.2.2.1 rfl | exact hpre.2.2.2.2.2.2.2.2.1 rfl | exact hpre.2.2.2.2.2.2.2.2.2.1 rfl)
              clear hA hpre
              go_simp
              first | exact hK _ _ hB rfl (fun _ _ h => h) | exact hK _ _ hB trivial (fun _ _ h => h) | (rw [if_neg (by omega)]; go_simp; exact hK _ _ hB rfl (fun _ _ h => h))
            · intro vs Wx A hA hB hpre K hK
              have e82 := ((hA 82).trans (show _ = vs 23 by kernel_rfl)).trans (by first | exact hpre.1 rfl | exact hpre.2.1 rfl | exact hpre.2.2.1 rfl | exact hpre.2.2.2.1 rfl | exact hpre.2.2.2.2.1 rfl | exact hpre.2.2.2.2.2.1 rfl | exact hpre.2.2.2.2.2.2.1 rfl | exact hpre.2.2.2.2.2.2.2.1 rfl | exact hpre.2.2.2.2.2.2.2.2.1 rfl | exact hpre.2.2.2.2.2.2.2.2.2.1 rfl)
              clear hA hpre
              go_simp
              first | exact hK _ _ hB rfl (fun _ _ h => h) | exact hK _ _ hB trivial (fun _ _ h => h) | (rw [if_neg (by omega)]; go_simp; exact hK _ _ hB rfl (fun _ _ h => h))
            · intro vs Wx A hA hB hpre
              have eg := ((hA 83).trans (show _ = vs 24 by kernel_rfl)).trans (by first | exact hpre.1 rfl | exact hpre.2.1 rfl | exact hpre.2.2.1 rfl | exact hpre.2.2.2.1 rfl | exact hpre.2.2.2.2.1 rfl | exact hpre.2.2.2.2.2.1 rfl | exact hpre.2.2.2.2.2.2.1 rfl | exact hpre.2.2.2.2.2.2.2.1 rfl | exact hpre.2.2.2.2.2.2.2.2.1 rfl | exact hpre.2.2.2.2.2.2.2.2.2.1 rfl)
              refine ⟨true, eg, fun _ K hK => ?_, fun h => absurd rfl h⟩
              clear hA hpre
              go_simp
              go_at_call 11
              refine (works_any _).mono ?_
              rintro e w9 ⟨rfl, hb9⟩
              exact hK _ _ (below_trans hB hb9) rfl (fun _ _ h => h)
            · intro vs Wx A hA hB hpre K hK
              have e83 := ((hA 83).trans (show _ = vs 24 by kernel_rfl)).trans (by first | exact hpre.1 rfl | exact hpre.2.1 rfl | exact hpre.2.2.1 rfl | exact hpre.2.2.2.1 rfl | exact hpre.2.2.2.2.1 rfl | exact hpre.2.2.2.2.2.1 rfl | exact hpre.2.2.2.2.2.2.1 rfl | exact hpre.2.2.2.2.2.2.2.1 rfl | exact hpre.2.2.2.2.2.2.2.2.1 rfl | exact hpre.2.2.2.2.2.2.2.2.2.1 rfl)
              have e84 := ((hA 84).trans (show _ = vs 25 by kernel_rfl)).trans (by first | exact hpre.1 rfl | exact hpre.2.1 rfl | exact hpre.2.2.1 rfl | exact hpre.2.2.2.1 rfl | exact hpre.2.2.2.2.1 rfl | exact hpre.2.2.2.2.2.1 rfl | exact hpre.2.2.2.2.2.2.1 rfl | exact hpre.2.2.2.2.2.2.2.1 rfl | exact hpre.2.2.2.2.2.2.2.2.1 rfl | exact hpre.2.2.2.2.2.2.2.2.2.1 rfl)
              clear hA hpre
              go_simp
              first | exact hK _ _ hB rfl (fun _ _ h => h) | exact hK _ _ hB trivial (fun _ _ h => h) | (rw [if_neg (by omega)]; go_simp; exact hK _ _ hB rfl (fun _ _ h => h))
            · intro vs Wx A hA hB hpre K hK
              have e85 := ((hA 85).trans (show _ = vs 26 by kernel_rfl)).trans (by first | exact hpre.1 rfl | exact hpre.2.1 rfl | exact hpre.2.2.1 rfl | exact hpre.2.2.2.1 rfl | exact hpre.2.2.2.2.1 rfl | exact hpre.2.2.2.2.2.1 rfl | exact hpre.2.2.2.2.2.2.1 rfl | exact hpre.2.2.2.2.2.2.2.1 rfl | exact hpre.2.2.2.2.2.2.2.2.1 rfl | exact hpre.2.2.2.2.2.2.2.2.2.1 rfl)
              clear hA hpre
              go_simp
              first | exact hK _ _ hB rfl (fun _ _ h => h) | exact hK _ _ hB trivial (fun _ _ h => h) | (rw [if_neg (by omega)]; go_simp; exact hK _ _ hB rfl (fun _ _ h => h))
            · intro vs w6 hB hF
              have hL6 : vs 27 = .bool true := hF 27 (by decide)
              have HB6 := Lib.hid (below_on HB5.out hB HP5.out)
              clear hF hB
              simp only [Ri.puts]
              go_simp
              go_wp2_with fail
              go_ret
              exact ⟨by first | rfl | (rw [hL6]; rfl) | simp [hL6], by first | exact HB6.out | (rw [hp]; exact HB6.out)⟩
    · have hg' : (G != 0) = true := by simpa using hg
      subst he
      clear hS hg
      have HX0 := Lib.hid (alloc_new w #[.int .i64 x00, .int .i64 x01, .int .i64 x02, .int .i64 x03, .int .i64 x04, .int .i64 x05] 29)
      have HB0 := Lib.hid (below_alloc w (.cells #[.int .i64 x00, .int .i64 x01, .int .i64 x02, .int .i64 x03, .int .i64 x04, .int .i64 x05] 29))
      go_enter Try.func7, Try.ntmps7
      go_upto_region 1 with fail
      generalize w.alloc (.cells #[.int .i64 x00, .int .i64 x01, .int .i64 x02, .int .i64 x03, .int .i64 x04, .int .i64 x05] 29) = w0 at *
      generalize hp : w.heap.size = p at *
      have HP0 : Hid (p ≤ w0.heap.size) := Nat.le_of_lt (lt_of_block HX0.out)
      obtain ⟨s0, s1, s2, s3, s4, s5⟩ := bsix HX0.out
      go_wp2_with fail
      go_at_call 12
      refine (H1.out _).mono ?_
      rintro e w1 ⟨rfl, hb⟩
      have HX1 := Lib.hid (keepB HX0.out hb)
      have HB1 := Lib.hid (below_on HB0.out hb HP0.out)
      have HP1 : Hid (p ≤ w1.heap.size) := Nat.le_of_lt (lt_of_block HX1.out)
      clear hb
      clear s0 s1 s2 s3 s4 s5
      obtain ⟨s0, s1, s2, s3, s4, s5⟩ := bsix HX1.out
      have HX2 := Lib.hid (keepB HX1.out (below_alloc w1 (.cells #[.int .i64 O.al, .int .i64 O.de, .int .i64 O.cp, .int .i64 O.cn, .int .i64 O.plan, .int .i64 O.wr, .int .i64 O.pr, .int .i64 O.deny] 31)))
      have HB2 := Lib.hid (below_on HB1.out (below_alloc w1 (.cells #[.int .i64 O.al, .int .i64 O.de, .int .i64 O.cp, .int .i64 O.cn, .int .i64 O.plan, .int .i64 O.wr, .int .i64 O.pr, .int .i64 O.deny] 31)) HP1.out)
      have HOq1 := Lib.hid (alloc_new w1 #[.int .i64 O.al, .int .i64 O.de, .int .i64 O.cp, .int .i64 O.cn, .int .i64 O.plan, .int .i64 O.wr, .int .i64 O.pr, .int .i64 O.deny] 31)
      go_upto_region 2 with fail
      generalize w1.alloc (.cells #[.int .i64 O.al, .int .i64 O.de, .int .i64 O.cp, .int .i64 O.cn, .int .i64 O.plan, .int .i64 O.wr, .int .i64 O.pr, .int .i64 O.deny] 31) = w2 at *
      generalize w1.heap.size = q1 at *
      have HP2 : Hid (p ≤ w2.heap.size) := Nat.le_of_lt (lt_of_block HX2.out)
      clear s0 s1 s2 s3 s4 s5
      obtain ⟨s0, s1, s2, s3, s4, s5⟩ := bsix HX2.out
      go_wp2_with fail
      go_at_call 12
      refine (H2.out _).mono ?_
      rintro e w3 ⟨rfl, hb⟩
      have HX3 := Lib.hid (keepB HX2.out hb)
      have HB3 := Lib.hid (below_on HB2.out hb HP2.out)
      have HP3 : Hid (p ≤ w3.heap.size) := Nat.le_of_lt (lt_of_block HX3.out)
      have HOq1_ := Lib.hid (keepB HOq1.out hb)
      clear HOq1
      have HOq1 := HOq1_
      clear HOq1_
      clear hb
      clear s0 s1 s2 s3 s4 s5
      obtain ⟨s0, s1, s2, s3, s4, s5⟩ := bsix HX3.out
      have HX4 := Lib.hid (keepB HX3.out (below_alloc w3 (.cells #[.int .i64 Q.al, .int .i64 Q.de, .int .i64 Q.cp, .int .i64 Q.cn, .int .i64 Q.plan, .int .i64 Q.wr, .int .i64 Q.pr, .int .i64 Q.deny] 31)))
      have HB4 := Lib.hid (below_on HB3.out (below_alloc w3 (.cells #[.int .i64 Q.al, .int .i64 Q.de, .int .i64 Q.cp, .int .i64 Q.cn, .int .i64 Q.plan, .int .i64 Q.wr, .int .i64 Q.pr, .int .i64 Q.deny] 31)) HP3.out)
      have HOq2 := Lib.hid (alloc_new w3 #[.int .i64 Q.al, .int .i64 Q.de, .int .i64 Q.cp, .int .i64 Q.cn, .int .i64 Q.plan, .int .i64 Q.wr, .int .i64 Q.pr, .int .i64 Q.deny] 31)
      have HOq1_ := Lib.hid (keepB HOq1.out (below_alloc w3 (.cells #[.int .i64 Q.al, .int .i64 Q.de, .int .i64 Q.cp, .int .i64 Q.cn, .int .i64 Q.plan, .int .i64 Q.wr, .int .i64 Q.pr, .int .i64 Q.deny] 31)))
      clear HOq1
      have HOq1 := HOq1_
      clear HOq1_
      go_upto_region 3 with fail
      generalize w3.alloc (.cells #[.int .i64 Q.al, .int .i64 Q.de, .int .i64 Q.cp, .int .i64 Q.cn, .int .i64 Q.plan, .int .i64 Q.wr, .int .i64 Q.pr, .int .i64 Q.deny] 31) = w4 at *
      generalize w3.heap.size = q2 at *
      have HP4 : Hid (p ≤ w4.heap.size) := Nat.le_of_lt (lt_of_block HX4.out)
      clear s0 s1 s2 s3 s4 s5
      obtain ⟨s0, s1, s2, s3, s4, s5⟩ := bsix HX4.out
      go_wp2_with (go_at_call 11; refine (works_any _).mono ?_; rintro e w9 ⟨rfl, hb9⟩; have HB99 := Lib.hid (below_on HB4.out hb9 HP4.out); clear hb9)
      go_ret
      exact ⟨rfl, by first | exact HB99.out | (rw [hp]; exact HB99.out)⟩
  · have he' : (E != 0) = true := by simpa using he
    clear hS he
    have HX0 := Lib.hid (alloc_new w #[.int .i64 x00, .int .i64 x01, .int .i64 x02, .int .i64 x03, .int .i64 x04, .int .i64 x05] 29)
    have HB0 := Lib.hid (below_alloc w (.cells #[.int .i64 x00, .int .i64 x01, .int .i64 x02, .int .i64 x03, .int .i64 x04, .int .i64 x05] 29))
    go_enter Try.func7, Try.ntmps7
    go_upto_region 1 with fail
    generalize w.alloc (.cells #[.int .i64 x00, .int .i64 x01, .int .i64 x02, .int .i64 x03, .int .i64 x04, .int .i64 x05] 29) = w0 at *
    generalize hp : w.heap.size = p at *
    have HP0 : Hid (p ≤ w0.heap.size) := Nat.le_of_lt (lt_of_block HX0.out)
    obtain ⟨s0, s1, s2, s3, s4, s5⟩ := bsix HX0.out
    go_wp2_with fail
    go_at_call 12
    refine (H1.out _).mono ?_
    rintro e w1 ⟨rfl, hb⟩
    have HX1 := Lib.hid (keepB HX0.out hb)
    have HB1 := Lib.hid (below_on HB0.out hb HP0.out)
    have HP1 : Hid (p ≤ w1.heap.size) := Nat.le_of_lt (lt_of_block HX1.out)
    clear hb
    clear s0 s1 s2 s3 s4 s5
    obtain ⟨s0, s1, s2, s3, s4, s5⟩ := bsix HX1.out
    have HX2 := Lib.hid (keepB HX1.out (below_alloc w1 (.cells #[.int .i64 O.al, .int .i64 O.de, .int .i64 O.cp, .int .i64 O.cn, .int .i64 O.plan, .int .i64 O.wr, .int .i64 O.pr, .int .i64 O.deny] 31)))
    have HB2 := Lib.hid (below_on HB1.out (below_alloc w1 (.cells #[.int .i64 O.al, .int .i64 O.de, .int .i64 O.cp, .int .i64 O.cn, .int .i64 O.plan, .int .i64 O.wr, .int .i64 O.pr, .int .i64 O.deny] 31)) HP1.out)
    have HOq1 := Lib.hid (alloc_new w1 #[.int .i64 O.al, .int .i64 O.de, .int .i64 O.cp, .int .i64 O.cn, .int .i64 O.plan, .int .i64 O.wr, .int .i64 O.pr, .int .i64 O.deny] 31)
    go_upto_region 2 with fail
    generalize w1.alloc (.cells #[.int .i64 O.al, .int .i64 O.de, .int .i64 O.cp, .int .i64 O.cn, .int .i64 O.plan, .int .i64 O.wr, .int .i64 O.pr, .int .i64 O.deny] 31) = w2 at *
    generalize w1.heap.size = q1 at *
    have HP2 : Hid (p ≤ w2.heap.size) := Nat.le_of_lt (lt_of_block HX2.out)
    clear s0 s1 s2 s3 s4 s5
    obtain ⟨s0, s1, s2, s3, s4, s5⟩ := bsix HX2.out
    go_wp2_with fail
    go_at_call 12
    refine (H2.out _).mono ?_
    rintro e w3 ⟨rfl, hb⟩
    have HX3 := Lib.hid (keepB HX2.out hb)
    have HB3 := Lib.hid (below_on HB2.out hb HP2.out)
    have HP3 : Hid (p ≤ w3.heap.size) := Nat.le_of_lt (lt_of_block HX3.out)
    have HOq1_ := Lib.hid (keepB HOq1.out hb)
    clear HOq1
    have HOq1 := HOq1_
    clear HOq1_
    clear hb
    clear s0 s1 s2 s3 s4 s5
    obtain ⟨s0, s1, s2, s3, s4, s5⟩ := bsix HX3.out
    have HX4 := Lib.hid (keepB HX3.out (below_alloc w3 (.cells #[.int .i64 Q.al, .int .i64 Q.de, .int .i64 Q.cp, .int .i64 Q.cn, .int .i64 Q.plan, .int .i64 Q.wr, .int .i64 Q.pr, .int .i64 Q.deny] 31)))
    have HB4 := Lib.hid (below_on HB3.out (below_alloc w3 (.cells #[.int .i64 Q.al, .int .i64 Q.de, .int .i64 Q.cp, .int .i64 Q.cn, .int .i64 Q.plan, .int .i64 Q.wr, .int .i64 Q.pr, .int .i64 Q.deny] 31)) HP3.out)
    have HOq2 := Lib.hid (alloc_new w3 #[.int .i64 Q.al, .int .i64 Q.de, .int .i64 Q.cp, .int .i64 Q.cn, .int .i64 Q.plan, .int .i64 Q.wr, .int .i64 Q.pr, .int .i64 Q.deny] 31)
    have HOq1_ := Lib.hid (keepB HOq1.out (below_alloc w3 (.cells #[.int .i64 Q.al, .int .i64 Q.de, .int .i64 Q.cp, .int .i64 Q.cn, .int .i64 Q.plan, .int .i64 Q.wr, .int .i64 Q.pr, .int .i64 Q.deny] 31)))
    clear HOq1
    have HOq1 := HOq1_
    clear HOq1_
    go_upto_region 3 with fail
    generalize w3.alloc (.cells #[.int .i64 Q.al, .int .i64 Q.de, .int .i64 Q.cp, .int .i64 Q.cn, .int .i64 Q.plan, .int .i64 Q.wr, .int .i64 Q.pr, .int .i64 Q.deny] 31) = w4 at *
    generalize w3.heap.size = q2 at *
    have HP4 : Hid (p ≤ w4.heap.size) := Nat.le_of_lt (lt_of_block HX4.out)
    clear s0 s1 s2 s3 s4 s5
    obtain ⟨s0, s1, s2, s3, s4, s5⟩ := bsix HX4.out
    go_wp2_with (go_at_call 11; refine (works_any _).mono ?_; rintro e w9 ⟨rfl, hb9⟩; have HB99 := Lib.hid (below_on HB4.out hb9 HP4.out); clear hb9)
    go_ret
    exact ⟨rfl, by first | exact HB99.out | (rw [hp]; exact HB99.out)⟩

/-! ### the row's step -/
theorem laidOut : laidOutB Try.prog = true := by kernel_rfl
theorem lifted (os : Os) (started : os.Started) (H : Type) (enc : TypeId × Value → H) :
    ReturnsInHanded {} Try.checked os 7 .any (Rows.shareOthersSpec.pre6 enc Try.prog Try.f7 Rows.shareOthersRow.domain false) (Rows.shareOthersSpec.post enc Try.prog Try.f7 false true false false) := by
  refine returnsInHanded_of_change (C := Try.checked) own started (by kernel_rfl) Try.func7
    (ChangeSpec.witness6 (enc := enc) (C := Try.checked) false ⟨#[], #[.agg #[.int .i64 0, .int .i64 0, .int .i64 0, .int .i64 0, .int .i64 0, .int .i64 0]], []⟩ 8 (by kernel_rfl) (by kernel_rfl) (by kernel_rfl) (by kernel_rfl)) ?_
  intro W base args ds gs before hval0 hW hcnd _
  have hval : ∀ (j : Nat) t v, Try.f7.params[j]? = some t → args[j]? = some v → Value.okWide Try.prog W .any base t v := hval0
  have hW' := hW
  obtain ⟨p, q, hA0, hV, rfl, hfz, hnd⟩ := hW
  have hA : DataW.TrodAll enc Try.prog W 0 (fun _ => true) true Try.f7.params.toList args.toList ds p := hA0
  rw [Try.params7] at hA hval
  obtain ⟨v0, vs0, d0, ds0, p0, q0, hargs, rfl, rfl, h0, r0⟩ := trodAll_cons hA
  obtain ⟨rfl, rfl, rfl⟩ := trodAll_nil r0
  obtain rfl : args = #[v0] := by cases args; simp_all
  obtain ⟨rfl, rfl⟩ := trodVars_none hV
  have k0 := h0
  have lt0 : ∀ x ∈ p0, x.block < W.heap.size := by obtain ⟨m, hm⟩ := k0; exact DataW.trod_lt m _ _ _ hm
  obtain ⟨x00, x01, x02, x03, x04, x05, rfl⟩ := Ho.open_six (hval 0 29 v0 rfl rfl) h0
  clear hA0 hval0
  refine (walk W x00 x01 x02 x03 x04 x05).mono fun e W' ⟨he, bel⟩ => ?_
  subst he
  exact ⟨_, rfl, _, _, _, [], _, [], hW', (trodAll_cons_mk (shut_bool Try.underlying4 _) trodAll_mk0), (trodAll_cons_mk (Below.trod laidOut (by kernel_rfl) (of_decide_eq_true (by kernel_rfl)) k0 bel lt0) trodAll_mk0), rfl, bel.frame _, fun h => by cases h⟩

theorem over : Rows.shareOthersRow.holds Try.pinned (OpenSpec.ofChange Rows.shareOthersSpec) :=
  OpenClaim.holds_of_wide 7 Try.f7 rfl rfl rfl rfl rfl rfl rfl ⟨rfl, rfl, rfl, rfl, rfl⟩ rfl rfl rfl rfl rfl (by kernel_rfl) Try.func7 (by kernel_rfl)
    (of_decide_eq_true (by kernel_rfl)) (by unfold Func.isWrapper; first | (rw [if_pos (by decide +kernel)]; kernel_rfl) | (rw [if_neg (by decide +kernel)]; exact ⟨rfl, rfl⟩))
    (fun os started H enc _ => lifted os started H enc)

/-- The statement. -/
theorem proved : Rows.ShareOthersSaid := over
end Go.Proofs.Ytgbfckjmbmmgpaa.shareOthers
namespace Go.Proofs.Ytgbfckjmbmmgpaa
theorem shareOthers_holds : Rows.ShareOthersSaid := shareOthers.proved
#print axioms shareOthers_holds
end Go.Proofs.Ytgbfckjmbmmgpaa
