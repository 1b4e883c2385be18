/-
  The statement BookPuts (18.1 to 18.3): whether any claim may be put into any book, and what the book is then, is what the chapter says: for all books, claims and numbers; without a condition.
-/
import Derived.WalkKit
import Derived.ProofKit
import Derived.OpenShut
import Derived.ShutString
import Derived.Below
import Derived.Carry
import Derived.LaidMore
import Derived.Stop.Joined
import Derived.SevenTiedAt
import Derived.Deep.DeepCutAuto
import Derived.Test.YtjgceppbhmmbjaaDoorRows
import Derived.Test.YtjgceppbhmmbjaaDoorTie
import Derived.Test.YtjgceppbhmmbjaaDoorCards
import Derived.Test.YtjgceppbhmmbjaaDoorMb1
import Derived.Test.YtjgceppbhmmbjaaDoorMb2
import Derived.Test.YtjgceppbhmmbjaaDoorMb3
import Derived.Test.YtjgceppbhmmbjaaDoorMb4
import Derived.Test.YtjgceppbhmmbjaaDoorMb5
import Derived.Test.YtjgceppbhmmbjaaDoorMb6
import Derived.Test.YtjgceppbhmmbjaaDoorMb7
import Derived.Test.YtjgceppbhmmbjaaDoorMb8
import Derived.Test.YtjgceppbhmmbjaaDoorMb9
import Derived.Test.YtjgceppbhmmbjaaDoorMb10
import Derived.Test.YtjgceppbhmmbjaaDoorMb11
import Derived.Test.YtjgceppbhmmbjaaDoorMb12
import Derived.Test.YtjgceppbhmmbjaaDoorMb13
import Derived.Test.YtjgceppbhmmbjaaDoorMb14
import Derived.Test.YtjgceppbhmmbjaaDoorMb15
import Derived.Test.YtjgceppbhmmbjaaDoorMb16
import Derived.Test.YtjgceppbhmmbjaaDoorMb17
import Derived.Test.YtjgceppbhmmbjaaDoorMb18
import Derived.Test.YtjgceppbhmmbjaaDoorMb19
import Derived.Test.YtjgceppbhmmbjaaDoorMb20
import Derived.Test.YtjgceppbhmmbjaaDoorMb21
import Derived.Test.YtjgceppbhmmbjaaDoorMb22
import Derived.Test.YtjgceppbhmmbjaaDoorMb23
import Derived.Test.YtjgceppbhmmbjaaDoorMb24
import Derived.Test.YtjgceppbhmmbjaaDoorMb25
import Derived.Test.YtjgceppbhmmbjaaDoorMb26
import Derived.Test.YtjgceppbhmmbjaaDoorMb27
import Derived.Test.YtjgceppbhmmbjaaDoorMb28
import Derived.Test.YtjgceppbhmmbjaaDoorMb29
namespace Go.Proofs.YtjgceppbhmmbjaaDoor.bookPuts
open Go.ChangeShapes Go.WideShapes Go.ChangeAt Go.RowKit
open Cm (Ln Cl LnsAt clv lnv LnOk ClOk laidL lift open_claim)
open Bk
open Sh (Ot)
open Go.ChangeMaps (open_string)
set_option linter.unusedVariables false
set_option linter.unusedSimpArgs false
set_option maxRecDepth 100000

theorem own : ownKnob Tryd.prog.godebug = none := by kernel_rfl

/-! ### the walk: the law returns true -/
set_option maxHeartbeats 16000000 in
theorem walk (w : World) (ve : Value) (l : List En) (hE : EnsAt All w ve l) (he : ∀ x ∈ l, EnOk x) (c : Cl) (ml : Value) (hL : LnsAt All w ml c.lines) (hc : ClOk c) (a2 : Int) (w2 : (Lit.int .i64 a2).wf = true) (a3 : Int) (w3 : (Lit.int .i64 a3).wf = true) (hT : Da.Tab w) :
    Calls Tryd.prog 3 #[ve, clv c ml, .int .i64 a2, .int .i64 a3] w fun e w' => e = .returned (.bool true) ∧ Below w.heap.size w w' := by
  have HW := Lib.hid fun W (hW : Below w.heap.size w W) => works_any W (Cm.tab_below hT hW)
  obtain ⟨ea, ec, rfl, hl1, hl2⟩ := hE.form
  obtain ⟨la, lc, rfl, hl3, hl4⟩ := Cm.LnsAt.form hL
  have HLn := Lib.hid fun W (hW : Below w.heap.size w W) => LnsAt.move hL (Below.moves hW)
  have HLi := Lib.hid fun W (hW : Below w.heap.size w W) => light_any l c (.slice ea l.length ec) (.slice la c.lines.length lc) W (hE.grw hW) (HLn.out W hW) he hc
  have HPu : Hid (LtP l c → ∀ W, Below w.heap.size w W → _) := fun h W hW => put_at l c a2 a3 (.slice ea l.length ec) (.slice la c.lines.length lc) W (hE.grw hW) (HLn.out W hW) hc (Cm.tab_below hT hW) (by have := h.1.1; omega) (fun x hx => enb_of (h.1.2 x hx)) (fit_of h.2)
  have HRp : Hid (LtP l c → ∀ W, Below w.heap.size w W → _) := fun h W hW => rput_at l c a2 a3 (.slice ea l.length ec) (.slice la c.lines.length lc) W (hE.grw hW) (HLn.out W hW) hc (by have := h.1.1; omega) (fit_of h.2)
  have HSa : Hid (LtP l c → ∀ W v u, EnsAt All W v (putV l c a2 a3) → EnsAt All W u (putV l c a2 a3) → _) := fun h W v u g1 g2 => same_eq (putV l c a2 a3) v u W g1 g2 (fun x hx => (put_b (fit_of h.2) (fun x hx => enb_of (h.1.2 x hx)) a2 a3 x hx).2) (by have := h.1.1; have := put_l (l := l) (c := c) a2 a3; omega)
  have HAd := Lib.hid fun W (hW : Below w.heap.size w W) => admit_any l c a3 (.slice ea l.length ec) (.slice la c.lines.length lc) W (hE.grw hW) (HLn.out W hW) hc (Cm.tab_below hT hW)
  have HRa : Hid (LtP l c → ∀ W, Below w.heap.size w W → _) := fun h W hW => radmit_any l c a3 (.slice ea l.length ec) (.slice la c.lines.length lc) W (hE.grw hW) (HLn.out W hW) hc (fit_of h.2).1
  have HFi := Lib.hid fun W (hW : Below w.heap.size w W) => find_any l c.ref (.slice ea l.length ec) W (hE.grw hW)
  have HRf := Lib.hid fun W (hW : Below w.heap.size w W) => rfind_any l c.ref (.slice ea l.length ec) W (hE.grw hW)
  have HX0 := Lib.hid (alloc_new w #[.string (mk c.id), .string (mk c.mem), .string (mk c.fam), .int .i64 c.net, .int .i64 c.does, .string (mk c.ref), .slice la c.lines.length lc] 25)
  have HB0 := Lib.hid (below_alloc w (.cells #[.string (mk c.id), .string (mk c.mem), .string (mk c.fam), .int .i64 c.net, .int .i64 c.does, .string (mk c.ref), .slice la c.lines.length lc] 25))
  clear hE he hT hL hc HLn
  go_enter Tryd.func3, Tryd.ntmps3
  go_upto_region 1 with fail
  generalize w.alloc (.cells #[.string (mk c.id), .string (mk c.mem), .string (mk c.fam), .int .i64 c.net, .int .i64 c.does, .string (mk c.ref), .slice la c.lines.length lc] 25) = w0 at *
  obtain ⟨c0, c1, c2, c3, c4, c5, c6⟩ := seven HX0.out
  go_wp2_with fail
  try (go_at_call 9)
  refine (HLi.out w0 HB0.out).mono ?_
  rintro e w1 ⟨⟨b1, rfl, hl⟩, hb1⟩
  have HB1 := Lib.hid (below_trans HB0.out hb1)
  have HLt := Lib.hid hl
  have HX1 := Lib.hid (keepB HX0.out hb1)
  clear hb1 hl HLi HB0 HX0 c0 c1 c2 c3 c4 c5 c6
  cases b1 with
  | false =>
    go_wp2_with fail
    try (go_at_call 10)
    refine (HW.out w1 HB1.out).mono ?_
    rintro e w99 ⟨rfl, hb99⟩
    have HB99 := Lib.hid (below_trans HB1.out hb99)
    clear hb99
    go_wp2
    go_ret
    exact ⟨rfl, HB99.out⟩
  | true =>
    have HL := Lib.hid (HLt.out rfl)
    clear HLt
    obtain ⟨c0, c1, c2, c3, c4, c5, c6⟩ := seven HX1.out
    go_wp2_with fail
    try (go_at_call 11)
    refine (HPu.out HL.out w1 HB1.out).mono ?_
    rintro e w2 ⟨⟨x2, k2, rfl, hs2⟩, hb2⟩
    have HB2 := Lib.hid (below_trans HB1.out hb2)
    have HS2 := Lib.hid hs2
    have HX2 := Lib.hid (keepB HX1.out hb2)
    clear hb2 hs2 HX1 HPu c0 c1 c2 c3 c4 c5 c6
    obtain ⟨c0, c1, c2, c3, c4, c5, c6⟩ := seven HX2.out
    go_wp2_with fail
    try (go_at_call 12)
    refine (HRp.out HL.out w2 HB2.out).mono ?_
    rintro e w3 ⟨⟨x3, k3, rfl, hs3⟩, hb3⟩
    have HB3 := Lib.hid (below_trans HB2.out hb3)
    have HS3 := Lib.hid hs3
    have HX3 := Lib.hid (keepB HX2.out hb3)
    have HQ3 := Lib.hid (HS2.out.grw hb3)
    clear hb3 hs3 HS2 HX2 HRp HB2 c0 c1 c2 c3 c4 c5 c6
    have HSb := Lib.hid (HSa.out HL.out)
    have HRb := Lib.hid (HRa.out HL.out)
    clear HSa HRa HL
    generalize putV l c a2 a3 = PV at *
    generalize putA l c a3 = PA at *
    generalize admE l c a3 = AE at *
    generalize findV l c.ref = FV at *
    have HXK := Lib.hid fun W' (hW : Below w3.heap.size w3 W') => seven (keepB HX3.out hW)
    have HD := Lib.hid (Below.drew (Below.refl w3.heap.size w3))
    have q1 : (AE == AE) = true := by simp
    have q2 : (PA == PA) = true := by simp
    have q3 : (FV == FV) = true := by simp
    go_upto_region 5 with fail
    refine Ri.wp_region_lasting_g (by kernel_rfl) (by kernel_rfl) (by kernel_rfl) (fun Wx => Below w3.heap.size w3 Wx) (fun kz vs wz => (fun kx vx wx => match kx with | 0 => vx = .int .i64 AE | 1 => vx = .int .i64 AE | 2 => vx = .bool true | 3 => vx = .bool true | 4 => vx = .int .i64 PA | 5 => vx = .int .i64 PA | 6 => vx = .bool true | 7 => vx = .bool true | 8 => vx = .bool true | 9 => vx = .slice x2 PV.length k2 | 10 => vx = .slice x3 PV.length k3 | 11 => vx = .bool true | 12 => vx = .bool true | 13 => vx = .bool true | 14 => vx = .slice ea l.length ec | 15 => vx = .agg #[.string (mk c.id), .string (mk c.mem), .string (mk c.fam), .int .i64 c.net, .int .i64 c.does, .string (mk c.ref), .slice la c.lines.length lc] | 16 => vx = .int .i64 a3 | 17 => vx = .int .i64 AE | 18 => vx = .slice ea l.length ec | 19 => vx = .agg #[.string (mk c.id), .string (mk c.mem), .string (mk c.fam), .int .i64 c.net, .int .i64 c.does, .string (mk c.ref), .slice la c.lines.length lc] | 20 => vx = .int .i64 a3 | 21 => vx = .int .i64 AE | 22 => vx = .bool true | 23 => vx = .bool true | 24 => vx = .bool true | 25 => vx = .slice ea l.length ec | 26 => vx = .pointer (some ⟨w.heap.size, 5, none⟩) | 27 => vx = .string (mk c.ref) | 28 => vx = .int .i64 FV | 29 => vx = .slice ea l.length ec | 30 => vx = .pointer (some ⟨w.heap.size, 5, none⟩) | 31 => vx = .string (mk c.ref) | 32 => vx = .int .i64 FV | 33 => vx = .bool true | 34 => vx = .bool true | 35 => vx = .bool true | 36 => vx = .bool true | 37 => vx = .bool true | 38 => vx = .bool true | _ => True : Nat → Value → World → Prop) kz (vs kz) wz) (fun kz => [kz]) (by kernel_rfl) (fun jz vs iz vz wz hiz hz => Ri.loc_own (F := (fun kx vx wx => match kx with | 0 => vx = .int .i64 AE | 1 => vx = .int .i64 AE | 2 => vx = .bool true | 3 => vx = .bool true | 4 => vx = .int .i64 PA | 5 => vx = .int .i64 PA | 6 => vx = .bool true | 7 => vx = .bool true | 8 => vx = .bool true | 9 => vx = .slice x2 PV.length k2 | 10 => vx = .slice x3 PV.length k3 | 11 => vx = .bool true | 12 => vx = .bool true | 13 => vx = .bool true | 14 => vx = .slice ea l.length ec | 15 => vx = .agg #[.string (mk c.id), .string (mk c.mem), .string (mk c.fam), .int .i64 c.net, .int .i64 c.does, .string (mk c.ref), .slice la c.lines.length lc] | 16 => vx = .int .i64 a3 | 17 => vx = .int .i64 AE | 18 => vx = .slice ea l.length ec | 19 => vx = .agg #[.string (mk c.id), .string (mk c.mem), .string (mk c.fam), .int .i64 c.net, .int .i64 c.does, .string (mk c.ref), .slice la c.lines.length lc] | 20 => vx = .int .i64 a3 | 21 => vx = .int .i64 AE | 22 => vx = .bool true | 23 => vx = .bool true | 24 => vx = .bool true | 25 => vx = .slice ea l.length ec | 26 => vx = .pointer (some ⟨w.heap.size, 5, none⟩) | 27 => vx = .string (mk c.ref) | 28 => vx = .int .i64 FV | 29 => vx = .slice ea l.length ec | 30 => vx = .pointer (some ⟨w.heap.size, 5, none⟩) | 31 => vx = .string (mk c.ref) | 32 => vx = .int .i64 FV | 33 => vx = .bool true | 34 => vx = .bool true | 35 => vx = .bool true | 36 => vx = .bool true | 37 => vx = .bool true | 38 => vx = .bool true | _ => True : Nat → Value → World → Prop)) jz vs iz vz wz hiz hz) HD.out ⟨Or.inl ⟨rfl, ?_⟩, Or.inl ⟨rfl, ?_⟩, Or.inl ⟨rfl, ?_⟩, Or.inl ⟨rfl, ?_⟩, Or.inr ⟨3, true, 41, rfl, rfl, ?_⟩, Or.inr ⟨3, true, 41, rfl, rfl, ?_⟩, Or.inr ⟨3, true, 41, rfl, rfl, ?_⟩, Or.inl ⟨rfl, ?_⟩, Or.inl ⟨rfl, ?_⟩, Or.inr ⟨8, true, 46, rfl, rfl, ?_⟩, Or.inr ⟨8, true, 46, rfl, rfl, ?_⟩, Or.inr ⟨8, true, 46, rfl, rfl, ?_⟩, Or.inl ⟨rfl, ?_⟩, Or.inl ⟨rfl, ?_⟩, Or.inr ⟨13, true, 51, rfl, rfl, ?_⟩, Or.inr ⟨13, true, 51, rfl, rfl, ?_⟩, Or.inr ⟨13, true, 51, rfl, rfl, ?_⟩, Or.inr ⟨13, true, 51, rfl, rfl, ?_⟩, Or.inr ⟨13, true, 51, rfl, rfl, ?_⟩, Or.inr ⟨13, true, 51, rfl, rfl, ?_⟩, Or.inr ⟨13, true, 51, rfl, rfl, ?_⟩, Or.inr ⟨13, true, 51, rfl, rfl, ?_⟩, Or.inr ⟨13, true, 51, rfl, rfl, ?_⟩, Or.inl ⟨rfl, ?_⟩, Or.inl ⟨rfl, ?_⟩, Or.inr ⟨24, true, 62, rfl, rfl, ?_⟩, Or.inr ⟨24, true, 62, rfl, rfl, ?_⟩, Or.inr ⟨24, true, 62, rfl, rfl, ?_⟩, Or.inr ⟨24, true, 62, rfl, rfl, ?_⟩, Or.inr ⟨24, true, 62, rfl, rfl, ?_⟩, Or.inr ⟨24, true, 62, rfl, rfl, ?_⟩, Or.inr ⟨24, true, 62, rfl, rfl, ?_⟩, Or.inr ⟨24, true, 62, rfl, rfl, ?_⟩, Or.inr ⟨24, true, 62, rfl, rfl, ?_⟩, Or.inl ⟨rfl, ?_⟩, Or.inl ⟨rfl, ?_⟩, Or.inr ⟨35, true, 73, rfl, rfl, ?_⟩, Or.inl ⟨rfl, ?_⟩, Or.inl ⟨rfl, ?_⟩, trivial⟩ ?_
    · intro vs Wx A hA hB hpre K hK
      have e11 := (hA 11).trans (show _ = Value.int .i64 AE by kernel_rfl)
      clear hA hpre
      go_simp
      first | exact hK _ _ hB rfl (fun _ _ h => h) | exact hK _ _ hB trivial (fun _ _ h => h) | (rw [if_neg (by omega)]; go_simp; exact hK _ _ hB rfl (fun _ _ h => h))
    · intro vs Wx A hA hB hpre K hK
      have e14 := (hA 14).trans (show _ = Value.int .i64 AE by kernel_rfl)
      clear hA hpre
      go_simp
      first | exact hK _ _ hB rfl (fun _ _ h => h) | exact hK _ _ hB trivial (fun _ _ h => h) | (rw [if_neg (by omega)]; go_simp; exact hK _ _ hB rfl (fun _ _ h => h))
    · intro vs Wx A hA hB hpre K hK
      have e38 := ((hA 38).trans (show _ = vs 0 by kernel_rfl)).trans (by first | exact hpre.1 rfl | exact hpre.2.1 rfl | exact hpre.2.2.1 rfl | exact hpre.2.2.2.1 rfl | exact hpre.2.2.2.2.1 rfl | exact hpre.2.2.2.2.2.1 rfl | exact hpre.2.2.2.2.2.2.1 rfl | exact hpre.2.2.2.2.2.2.2.1 rfl | exact hpre.2.2.2.2.2.2.2.2.1 rfl | exact hpre.2.2.2.2.2.2.2.2.2.1 rfl)
      have e39 := ((hA 39).trans (show _ = vs 1 by kernel_rfl)).trans (by first | exact hpre.1 rfl | exact hpre.2.1 rfl | exact hpre.2.2.1 rfl | exact hpre.2.2.2.1 rfl | exact hpre.2.2.2.2.1 rfl | exact hpre.2.2.2.2.2.1 rfl | exact hpre.2.2.2.2.2.2.1 rfl | exact hpre.2.2.2.2.2.2.2.1 rfl | exact hpre.2.2.2.2.2.2.2.2.1 rfl | exact hpre.2.2.2.2.2.2.2.2.2.1 rfl)
      clear hA hpre
      go_simp
      first | exact hK _ _ hB rfl (fun _ _ h => h) | exact hK _ _ hB trivial (fun _ _ h => h) | (rw [if_neg (by omega)]; go_simp; exact hK _ _ hB rfl (fun _ _ h => h))
    · intro vs Wx A hA hB hpre K hK
      have e40 := ((hA 40).trans (show _ = vs 2 by kernel_rfl)).trans (by first | exact hpre.1 rfl | exact hpre.2.1 rfl | exact hpre.2.2.1 rfl | exact hpre.2.2.2.1 rfl | exact hpre.2.2.2.2.1 rfl | exact hpre.2.2.2.2.2.1 rfl | exact hpre.2.2.2.2.2.2.1 rfl | exact hpre.2.2.2.2.2.2.2.1 rfl | exact hpre.2.2.2.2.2.2.2.2.1 rfl | exact hpre.2.2.2.2.2.2.2.2.2.1 rfl)
      clear hA hpre
      go_simp
      first | exact hK _ _ hB rfl (fun _ _ h => h) | exact hK _ _ hB trivial (fun _ _ h => h) | (rw [if_neg (by omega)]; go_simp; exact hK _ _ hB rfl (fun _ _ h => h))
    · intro vs Wx A hA hB hpre
      have eg := ((hA 41).trans (show _ = vs 3 by kernel_rfl)).trans (by first | exact hpre.1 rfl | exact hpre.2.1 rfl | exact hpre.2.2.1 rfl | exact hpre.2.2.2.1 rfl | exact hpre.2.2.2.2.1 rfl | exact hpre.2.2.2.2.2.1 rfl | exact hpre.2.2.2.2.2.2.1 rfl | exact hpre.2.2.2.2.2.2.2.1 rfl | exact hpre.2.2.2.2.2.2.2.2.1 rfl | exact hpre.2.2.2.2.2.2.2.2.2.1 rfl)
      refine ⟨true, eg, fun _ K hK => ?_, fun h => absurd rfl h⟩
      have e10 := (hA 10).trans (show _ = Value.int .i64 PA by kernel_rfl)
      clear hA hpre
      go_simp
      first | exact hK _ _ hB rfl (fun _ _ h => h) | exact hK _ _ hB trivial (fun _ _ h => h) | (rw [if_neg (by omega)]; go_simp; exact hK _ _ hB rfl (fun _ _ h => h))
    · intro vs Wx A hA hB hpre
      have eg := ((hA 41).trans (show _ = vs 3 by kernel_rfl)).trans (by first | exact hpre.1 rfl | exact hpre.2.1 rfl | exact hpre.2.2.1 rfl | exact hpre.2.2.2.1 rfl | exact hpre.2.2.2.2.1 rfl | exact hpre.2.2.2.2.2.1 rfl | exact hpre.2.2.2.2.2.2.1 rfl | exact hpre.2.2.2.2.2.2.2.1 rfl | exact hpre.2.2.2.2.2.2.2.2.1 rfl | exact hpre.2.2.2.2.2.2.2.2.2.1 rfl)
      refine ⟨true, eg, fun _ K hK => ?_, fun h => absurd rfl h⟩
      have e13 := (hA 13).trans (show _ = Value.int .i64 PA by kernel_rfl)
      clear hA hpre
      go_simp
      first | exact hK _ _ hB rfl (fun _ _ h => h) | exact hK _ _ hB trivial (fun _ _ h => h) | (rw [if_neg (by omega)]; go_simp; exact hK _ _ hB rfl (fun _ _ h => h))
    · intro vs Wx A hA hB hpre
      have eg := ((hA 41).trans (show _ = vs 3 by kernel_rfl)).trans (by first | exact hpre.1 rfl | exact hpre.2.1 rfl | exact hpre.2.2.1 rfl | exact hpre.2.2.2.1 rfl | exact hpre.2.2.2.2.1 rfl | exact hpre.2.2.2.2.2.1 rfl | exact hpre.2.2.2.2.2.2.1 rfl | exact hpre.2.2.2.2.2.2.2.1 rfl | exact hpre.2.2.2.2.2.2.2.2.1 rfl | exact hpre.2.2.2.2.2.2.2.2.2.1 rfl)
      refine ⟨true, eg, fun _ K hK => ?_, fun h => absurd rfl h⟩
      have e42 := ((hA 42).trans (show _ = vs 4 by kernel_rfl)).trans (by first | exact hpre.1 rfl | exact hpre.2.1 rfl | exact hpre.2.2.1 rfl | exact hpre.2.2.2.1 rfl | exact hpre.2.2.2.2.1 rfl | exact hpre.2.2.2.2.2.1 rfl | exact hpre.2.2.2.2.2.2.1 rfl | exact hpre.2.2.2.2.2.2.2.1 rfl | exact hpre.2.2.2.2.2.2.2.2.1 rfl | exact hpre.2.2.2.2.2.2.2.2.2.1 rfl)
      have e43 := ((hA 43).trans (show _ = vs 5 by kernel_rfl)).trans (by first | exact hpre.1 rfl | exact hpre.2.1 rfl | exact hpre.2.2.1 rfl | exact hpre.2.2.2.1 rfl | exact hpre.2.2.2.2.1 rfl | exact hpre.2.2.2.2.2.1 rfl | exact hpre.2.2.2.2.2.2.1 rfl | exact hpre.2.2.2.2.2.2.2.1 rfl | exact hpre.2.2.2.2.2.2.2.2.1 rfl | exact hpre.2.2.2.2.2.2.2.2.2.1 rfl)
      clear hA hpre
      go_simp
      first | exact hK _ _ hB rfl (fun _ _ h => h) | exact hK _ _ hB trivial (fun _ _ h => h) | (rw [if_neg (by omega)]; go_simp; exact hK _ _ hB rfl (fun _ _ h => h))
    · intro vs Wx A hA hB hpre K hK
      have e41 := ((hA 41).trans (show _ = vs 3 by kernel_rfl)).trans (by first | exact hpre.1 rfl | exact hpre.2.1 rfl | exact hpre.2.2.1 rfl | exact hpre.2.2.2.1 rfl | exact hpre.2.2.2.2.1 rfl | exact hpre.2.2.2.2.2.1 rfl | exact hpre.2.2.2.2.2.2.1 rfl | exact hpre.2.2.2.2.2.2.2.1 rfl | exact hpre.2.2.2.2.2.2.2.2.1 rfl | exact hpre.2.2.2.2.2.2.2.2.2.1 rfl)
      have e44 := ((hA 44).trans (show _ = vs 6 by kernel_rfl)).trans (by first | exact hpre.1 rfl | exact hpre.2.1 rfl | exact hpre.2.2.1 rfl | exact hpre.2.2.2.1 rfl | exact hpre.2.2.2.2.1 rfl | exact hpre.2.2.2.2.2.1 rfl | exact hpre.2.2.2.2.2.2.1 rfl | exact hpre.2.2.2.2.2.2.2.1 rfl | exact hpre.2.2.2.2.2.2.2.2.1 rfl | exact hpre.2.2.2.2.2.2.2.2.2.1 rfl)
      clear hA hpre
      go_simp
      first | exact hK _ _ hB rfl (fun _ _ h => h) | exact hK _ _ hB trivial (fun _ _ h => h) | (rw [if_neg (by omega)]; go_simp; exact hK _ _ hB rfl (fun _ _ h => h))
    · intro vs Wx A hA hB hpre K hK
      have e45 := ((hA 45).trans (show _ = vs 7 by kernel_rfl)).trans (by first | exact hpre.1 rfl | exact hpre.2.1 rfl | exact hpre.2.2.1 rfl | exact hpre.2.2.2.1 rfl | exact hpre.2.2.2.2.1 rfl | exact hpre.2.2.2.2.2.1 rfl | exact hpre.2.2.2.2.2.2.1 rfl | exact hpre.2.2.2.2.2.2.2.1 rfl | exact hpre.2.2.2.2.2.2.2.2.1 rfl | exact hpre.2.2.2.2.2.2.2.2.2.1 rfl)
      clear hA hpre
      go_simp
      first | exact hK _ _ hB rfl (fun _ _ h => h) | exact hK _ _ hB trivial (fun _ _ h => h) | (rw [if_neg (by omega)]; go_simp; exact hK _ _ hB rfl (fun _ _ h => h))
    · intro vs Wx A hA hB hpre
      have eg := ((hA 46).trans (show _ = vs 8 by kernel_rfl)).trans (by first | exact hpre.1 rfl | exact hpre.2.1 rfl | exact hpre.2.2.1 rfl | exact hpre.2.2.2.1 rfl | exact hpre.2.2.2.2.1 rfl | exact hpre.2.2.2.2.2.1 rfl | exact hpre.2.2.2.2.2.2.1 rfl | exact hpre.2.2.2.2.2.2.2.1 rfl | exact hpre.2.2.2.2.2.2.2.2.1 rfl | exact hpre.2.2.2.2.2.2.2.2.2.1 rfl)
      refine ⟨true, eg, fun _ K hK => ?_, fun h => absurd rfl h⟩
      have e9 := (hA 9).trans (show _ = Value.slice x2 PV.length k2 by kernel_rfl)
      clear hA hpre
      go_simp
      first | exact hK _ _ hB rfl (fun _ _ h => h) | exact hK _ _ hB trivial (fun _ _ h => h) | (rw [if_neg (by omega)]; go_simp; exact hK _ _ hB rfl (fun _ _ h => h))
    · intro vs Wx A hA hB hpre
      have eg := ((hA 46).trans (show _ = vs 8 by kernel_rfl)).trans (by first | exact hpre.1 rfl | exact hpre.2.1 rfl | exact hpre.2.2.1 rfl | exact hpre.2.2.2.1 rfl | exact hpre.2.2.2.2.1 rfl | exact hpre.2.2.2.2.2.1 rfl | exact hpre.2.2.2.2.2.2.1 rfl | exact hpre.2.2.2.2.2.2.2.1 rfl | exact hpre.2.2.2.2.2.2.2.2.1 rfl | exact hpre.2.2.2.2.2.2.2.2.2.1 rfl)
      refine ⟨true, eg, fun _ K hK => ?_, fun h => absurd rfl h⟩
      have e12 := (hA 12).trans (show _ = Value.slice x3 PV.length k3 by kernel_rfl)
      clear hA hpre
      go_simp
      first | exact hK _ _ hB rfl (fun _ _ h => h) | exact hK _ _ hB trivial (fun _ _ h => h) | (rw [if_neg (by omega)]; go_simp; exact hK _ _ hB rfl (fun _ _ h => h))
    · intro vs Wx A hA hB hpre
      have eg := ((hA 46).trans (show _ = vs 8 by kernel_rfl)).trans (by first | exact hpre.1 rfl | exact hpre.2.1 rfl | exact hpre.2.2.1 rfl | exact hpre.2.2.2.1 rfl | exact hpre.2.2.2.2.1 rfl | exact hpre.2.2.2.2.2.1 rfl | exact hpre.2.2.2.2.2.2.1 rfl | exact hpre.2.2.2.2.2.2.2.1 rfl | exact hpre.2.2.2.2.2.2.2.2.1 rfl | exact hpre.2.2.2.2.2.2.2.2.2.1 rfl)
      refine ⟨true, eg, fun _ K hK => ?_, fun h => absurd rfl h⟩
      have e47 := ((hA 47).trans (show _ = vs 9 by kernel_rfl)).trans (by first | exact hpre.1 rfl | exact hpre.2.1 rfl | exact hpre.2.2.1 rfl | exact hpre.2.2.2.1 rfl | exact hpre.2.2.2.2.1 rfl | exact hpre.2.2.2.2.2.1 rfl | exact hpre.2.2.2.2.2.2.1 rfl | exact hpre.2.2.2.2.2.2.2.1 rfl | exact hpre.2.2.2.2.2.2.2.2.1 rfl | exact hpre.2.2.2.2.2.2.2.2.2.1 rfl)
      have e48 := ((hA 48).trans (show _ = vs 10 by kernel_rfl)).trans (by first | exact hpre.1 rfl | exact hpre.2.1 rfl | exact hpre.2.2.1 rfl | exact hpre.2.2.2.1 rfl | exact hpre.2.2.2.2.1 rfl | exact hpre.2.2.2.2.2.1 rfl | exact hpre.2.2.2.2.2.2.1 rfl | exact hpre.2.2.2.2.2.2.2.1 rfl | exact hpre.2.2.2.2.2.2.2.2.1 rfl | exact hpre.2.2.2.2.2.2.2.2.2.1 rfl)
      clear hA hpre
      go_simp
      try (go_at_call 13)
      refine (HSb.out Wx _ _ (HQ3.out.grw hB) (HS3.out.grw hB)).mono ?_
      rintro e w4 ⟨rfl, hg⟩
      exact hK _ _ (below_trans hB hg) rfl (fun _ _ h => h)
    · intro vs Wx A hA hB hpre K hK
      have e46 := ((hA 46).trans (show _ = vs 8 by kernel_rfl)).trans (by first | exact hpre.1 rfl | exact hpre.2.1 rfl | exact hpre.2.2.1 rfl | exact hpre.2.2.2.1 rfl | exact hpre.2.2.2.2.1 rfl | exact hpre.2.2.2.2.2.1 rfl | exact hpre.2.2.2.2.2.2.1 rfl | exact hpre.2.2.2.2.2.2.2.1 rfl | exact hpre.2.2.2.2.2.2.2.2.1 rfl | exact hpre.2.2.2.2.2.2.2.2.2.1 rfl)
      have e49 := ((hA 49).trans (show _ = vs 11 by kernel_rfl)).trans (by first | exact hpre.1 rfl | exact hpre.2.1 rfl | exact hpre.2.2.1 rfl | exact hpre.2.2.2.1 rfl | exact hpre.2.2.2.2.1 rfl | exact hpre.2.2.2.2.2.1 rfl | exact hpre.2.2.2.2.2.2.1 rfl | exact hpre.2.2.2.2.2.2.2.1 rfl | exact hpre.2.2.2.2.2.2.2.2.1 rfl | exact hpre.2.2.2.2.2.2.2.2.2.1 rfl)
      clear hA hpre
      go_simp
      first | exact hK _ _ hB rfl (fun _ _ h => h) | exact hK _ _ hB trivial (fun _ _ h => h) | (rw [if_neg (by omega)]; go_simp; exact hK _ _ hB rfl (fun _ _ h => h))
    · intro vs Wx A hA hB hpre K hK
      have e50 := ((hA 50).trans (show _ = vs 12 by kernel_rfl)).trans (by first | exact hpre.1 rfl | exact hpre.2.1 rfl | exact hpre.2.2.1 rfl | exact hpre.2.2.2.1 rfl | exact hpre.2.2.2.2.1 rfl | exact hpre.2.2.2.2.2.1 rfl | exact hpre.2.2.2.2.2.2.1 rfl | exact hpre.2.2.2.2.2.2.2.1 rfl | exact hpre.2.2.2.2.2.2.2.2.1 rfl | exact hpre.2.2.2.2.2.2.2.2.2.1 rfl)
      clear hA hpre
      go_simp
      first | exact hK _ _ hB rfl (fun _ _ h => h) | exact hK _ _ hB trivial (fun _ _ h => h) | (rw [if_neg (by omega)]; go_simp; exact hK _ _ hB rfl (fun _ _ h => h))
    · intro vs Wx A hA hB hpre
      have eg := ((hA 51).trans (show _ = vs 13 by kernel_rfl)).trans (by first | exact hpre.1 rfl | exact hpre.2.1 rfl | exact hpre.2.2.1 rfl | exact hpre.2.2.2.1 rfl | exact hpre.2.2.2.2.1 rfl | exact hpre.2.2.2.2.2.1 rfl | exact hpre.2.2.2.2.2.2.1 rfl | exact hpre.2.2.2.2.2.2.2.1 rfl | exact hpre.2.2.2.2.2.2.2.2.1 rfl | exact hpre.2.2.2.2.2.2.2.2.2.1 rfl)
      refine ⟨true, eg, fun _ K hK => ?_, fun h => absurd rfl h⟩
      have e0 := (hA 0).trans (show _ = Value.slice ea l.length ec by kernel_rfl)
      clear hA hpre
      go_simp
      first | exact hK _ _ hB rfl (fun _ _ h => h) | exact hK _ _ hB trivial (fun _ _ h => h) | (rw [if_neg (by omega)]; go_simp; exact hK _ _ hB rfl (fun _ _ h => h))
    · intro vs Wx A hA hB hpre
      have eg := ((hA 51).trans (show _ = vs 13 by kernel_rfl)).trans (by first | exact hpre.1 rfl | exact hpre.2.1 rfl | exact hpre.2.2.1 rfl | exact hpre.2.2.2.1 rfl | exact hpre.2.2.2.2.1 rfl | exact hpre.2.2.2.2.2.1 rfl | exact hpre.2.2.2.2.2.2.1 rfl | exact hpre.2.2.2.2.2.2.2.1 rfl | exact hpre.2.2.2.2.2.2.2.2.1 rfl | exact hpre.2.2.2.2.2.2.2.2.2.1 rfl)
      refine ⟨true, eg, fun _ K hK => ?_, fun h => absurd rfl h⟩
      have e5 := (hA 5).trans (show _ = Value.pointer (some ⟨w.heap.size, 0, none⟩) by kernel_rfl)
      obtain ⟨y0, y1, y2, y3, y4, y5, y6⟩ := HXK.out Wx hB
      clear hA hpre
      go_simp
      first | exact hK _ _ hB rfl (fun _ _ h => h) | exact hK _ _ hB trivial (fun _ _ h => h) | (rw [if_neg (by omega)]; go_simp; exact hK _ _ hB rfl (fun _ _ h => h))
    · intro vs Wx A hA hB hpre
      have eg := ((hA 51).trans (show _ = vs 13 by kernel_rfl)).trans (by first | exact hpre.1 rfl | exact hpre.2.1 rfl | exact hpre.2.2.1 rfl | exact hpre.2.2.2.1 rfl | exact hpre.2.2.2.2.1 rfl | exact hpre.2.2.2.2.2.1 rfl | exact hpre.2.2.2.2.2.2.1 rfl | exact hpre.2.2.2.2.2.2.2.1 rfl | exact hpre.2.2.2.2.2.2.2.2.1 rfl | exact hpre.2.2.2.2.2.2.2.2.2.1 rfl)
      refine ⟨true, eg, fun _ K hK => ?_, fun h => absurd rfl h⟩
      have e3 := (hA 3).trans (show _ = Value.int .i64 a3 by kernel_rfl)
      clear hA hpre
      go_simp
      first | exact hK _ _ hB rfl (fun _ _ h => h) | exact hK _ _ hB trivial (fun _ _ h => h) | (rw [if_neg (by omega)]; go_simp; exact hK _ _ hB rfl (fun _ _ h => h))
    · intro vs Wx A hA hB hpre
      have eg := ((hA 51).trans (show _ = vs 13 by kernel_rfl)).trans (by first | exact hpre.1 rfl | exact hpre.2.1 rfl | exact hpre.2.2.1 rfl | exact hpre.2.2.2.1 rfl | exact hpre.2.2.2.2.1 rfl | exact hpre.2.2.2.2.2.1 rfl | exact hpre.2.2.2.2.2.2.1 rfl | exact hpre.2.2.2.2.2.2.2.1 rfl | exact hpre.2.2.2.2.2.2.2.2.1 rfl | exact hpre.2.2.2.2.2.2.2.2.2.1 rfl)
      refine ⟨true, eg, fun _ K hK => ?_, fun h => absurd rfl h⟩
      have e52 := ((hA 52).trans (show _ = vs 14 by kernel_rfl)).trans (by first | exact hpre.1 rfl | exact hpre.2.1 rfl | exact hpre.2.2.1 rfl | exact hpre.2.2.2.1 rfl | exact hpre.2.2.2.2.1 rfl | exact hpre.2.2.2.2.2.1 rfl | exact hpre.2.2.2.2.2.2.1 rfl | exact hpre.2.2.2.2.2.2.2.1 rfl | exact hpre.2.2.2.2.2.2.2.2.1 rfl | exact hpre.2.2.2.2.2.2.2.2.2.1 rfl)
      have e53 := ((hA 53).trans (show _ = vs 15 by kernel_rfl)).trans (by first | exact hpre.1 rfl | exact hpre.2.1 rfl | exact hpre.2.2.1 rfl | exact hpre.2.2.2.1 rfl | exact hpre.2.2.2.2.1 rfl | exact hpre.2.2.2.2.2.1 rfl | exact hpre.2.2.2.2.2.2.1 rfl | exact hpre.2.2.2.2.2.2.2.1 rfl | exact hpre.2.2.2.2.2.2.2.2.1 rfl | exact hpre.2.2.2.2.2.2.2.2.2.1 rfl)
      have e54 := ((hA 54).trans (show _ = vs 16 by kernel_rfl)).trans (by first | exact hpre.1 rfl | exact hpre.2.1 rfl | exact hpre.2.2.1 rfl | exact hpre.2.2.2.1 rfl | exact hpre.2.2.2.2.1 rfl | exact hpre.2.2.2.2.2.1 rfl | exact hpre.2.2.2.2.2.2.1 rfl | exact hpre.2.2.2.2.2.2.2.1 rfl | exact hpre.2.2.2.2.2.2.2.2.1 rfl | exact hpre.2.2.2.2.2.2.2.2.2.1 rfl)
      clear hA hpre
      go_simp
      try (go_at_call 14)
      refine (HAd.out Wx (below_trans HB3.out hB)).mono ?_
      rintro e w4 ⟨rfl, hg⟩
      exact hK _ _ (below_trans hB hg) rfl (fun _ _ h => h)
    · intro vs Wx A hA hB hpre
      have eg := ((hA 51).trans (show _ = vs 13 by kernel_rfl)).trans (by first | exact hpre.1 rfl | exact hpre.2.1 rfl | exact hpre.2.2.1 rfl | exact hpre.2.2.2.1 rfl | exact hpre.2.2.2.2.1 rfl | exact hpre.2.2.2.2.2.1 rfl | exact hpre.2.2.2.2.2.2.1 rfl | exact hpre.2.2.2.2.2.2.2.1 rfl | exact hpre.2.2.2.2.2.2.2.2.1 rfl | exact hpre.2.2.2.2.2.2.2.2.2.1 rfl)
      refine ⟨true, eg, fun _ K hK => ?_, fun h => absurd rfl h⟩
      have e0 := (hA 0).trans (show _ = Value.slice ea l.length ec by kernel_rfl)
      clear hA hpre
      go_simp
      first | exact hK _ _ hB rfl (fun _ _ h => h) | exact hK _ _ hB trivial (fun _ _ h => h) | (rw [if_neg (by omega)]; go_simp; exact hK _ _ hB rfl (fun _ _ h => h))
    · intro vs Wx A hA hB hpre
      have eg := ((hA 51).trans (show _ = vs 13 by kernel_rfl)).trans (by first | exact hpre.1 rfl | exact hpre.2.1 rfl | exact hpre.2.2.1 rfl | exact hpre.2.2.2.1 rfl | exact hpre.2.2.2.2.1 rfl | exact hpre.2.2.2.2.2.1 rfl | exact hpre.2.2.2.2.2.2.1 rfl | exact hpre.2.2.2.2.2.2.2.1 rfl | exact hpre.2.2.2.2.2.2.2.2.1 rfl | exact hpre.2.2.2.2.2.2.2.2.2.1 rfl)
      refine ⟨true, eg, fun _ K hK => ?_, fun h => absurd rfl h⟩
      have e5 := (hA 5).trans (show _ = Value.pointer (some ⟨w.heap.size, 0, none⟩) by kernel_rfl)
      obtain ⟨y0, y1, y2, y3, y4, y5, y6⟩ := HXK.out Wx hB
      clear hA hpre
      go_simp
      first | exact hK _ _ hB rfl (fun _ _ h => h) | exact hK _ _ hB trivial (fun _ _ h => h) | (rw [if_neg (by omega)]; go_simp; exact hK _ _ hB rfl (fun _ _ h => h))
    · intro vs Wx A hA hB hpre
      have eg := ((hA 51).trans (show _ = vs 13 by kernel_rfl)).trans (by first | exact hpre.1 rfl | exact hpre.2.1 rfl | exact hpre.2.2.1 rfl | exact hpre.2.2.2.1 rfl | exact hpre.2.2.2.2.1 rfl | exact hpre.2.2.2.2.2.1 rfl | exact hpre.2.2.2.2.2.2.1 rfl | exact hpre.2.2.2.2.2.2.2.1 rfl | exact hpre.2.2.2.2.2.2.2.2.1 rfl | exact hpre.2.2.2.2.2.2.2.2.2.1 rfl)
      refine ⟨true, eg, fun _ K hK => ?_, fun h => absurd rfl h⟩
      have e3 := (hA 3).trans (show _ = Value.int .i64 a3 by kernel_rfl)
      clear hA hpre
      go_simp
      first | exact hK _ _ hB rfl (fun _ _ h => h) | exact hK _ _ hB trivial (fun _ _ h => h) | (rw [if_neg (by omega)]; go_simp; exact hK _ _ hB rfl (fun _ _ h => h))
    · intro vs Wx A hA hB hpre
      have eg := ((hA 51).trans (show _ = vs 13 by kernel_rfl)).trans (by first | exact hpre.1 rfl | exact hpre.2.1 rfl | exact hpre.2.2.1 rfl | exact hpre.2.2.2.1 rfl | exact hpre.2.2.2.2.1 rfl | exact hpre.2.2.2.2.2.1 rfl | exact hpre.2.2.2.2.2.2.1 rfl | exact hpre.2.2.2.2.2.2.2.1 rfl | exact hpre.2.2.2.2.2.2.2.2.1 rfl | exact hpre.2.2.2.2.2.2.2.2.2.1 rfl)
      refine ⟨true, eg, fun _ K hK => ?_, fun h => absurd rfl h⟩
      have e56 := ((hA 56).trans (show _ = vs 18 by kernel_rfl)).trans (by first | exact hpre.1 rfl | exact hpre.2.1 rfl | exact hpre.2.2.1 rfl | exact hpre.2.2.2.1 rfl | exact hpre.2.2.2.2.1 rfl | exact hpre.2.2.2.2.2.1 rfl | exact hpre.2.2.2.2.2.2.1 rfl | exact hpre.2.2.2.2.2.2.2.1 rfl | exact hpre.2.2.2.2.2.2.2.2.1 rfl | exact hpre.2.2.2.2.2.2.2.2.2.1 rfl)
      have e57 := ((hA 57).trans (show _ = vs 19 by kernel_rfl)).trans (by first | exact hpre.1 rfl | exact hpre.2.1 rfl | exact hpre.2.2.1 rfl | exact hpre.2.2.2.1 rfl | exact hpre.2.2.2.2.1 rfl | exact hpre.2.2.2.2.2.1 rfl | exact hpre.2.2.2.2.2.2.1 rfl | exact hpre.2.2.2.2.2.2.2.1 rfl | exact hpre.2.2.2.2.2.2.2.2.1 rfl | exact hpre.2.2.2.2.2.2.2.2.2.1 rfl)
      have e58 := ((hA 58).trans (show _ = vs 20 by kernel_rfl)).trans (by first | exact hpre.1 rfl | exact hpre.2.1 rfl | exact hpre.2.2.1 rfl | exact hpre.2.2.2.1 rfl | exact hpre.2.2.2.2.1 rfl | exact hpre.2.2.2.2.2.1 rfl | exact hpre.2.2.2.2.2.2.1 rfl | exact hpre.2.2.2.2.2.2.2.1 rfl | exact hpre.2.2.2.2.2.2.2.2.1 rfl | exact hpre.2.2.2.2.2.2.2.2.2.1 rfl)
      clear hA hpre
      go_simp
      try (go_at_call 15)
      refine (HRb.out Wx (below_trans HB3.out hB)).mono ?_
      rintro e w4 ⟨rfl, hg⟩
      exact hK _ _ (below_trans hB hg) rfl (fun _ _ h => h)
    · intro vs Wx A hA hB hpre
      have eg := ((hA 51).trans (show _ = vs 13 by kernel_rfl)).trans (by first | exact hpre.1 rfl | exact hpre.2.1 rfl | exact hpre.2.2.1 rfl | exact hpre.2.2.2.1 rfl | exact hpre.2.2.2.2.1 rfl | exact hpre.2.2.2.2.2.1 rfl | exact hpre.2.2.2.2.2.2.1 rfl | exact hpre.2.2.2.2.2.2.2.1 rfl | exact hpre.2.2.2.2.2.2.2.2.1 rfl | exact hpre.2.2.2.2.2.2.2.2.2.1 rfl)
      refine ⟨true, eg, fun _ K hK => ?_, fun h => absurd rfl h⟩
      have e55 := ((hA 55).trans (show _ = vs 17 by kernel_rfl)).trans (by first | exact hpre.1 rfl | exact hpre.2.1 rfl | exact hpre.2.2.1 rfl | exact hpre.2.2.2.1 rfl | exact hpre.2.2.2.2.1 rfl | exact hpre.2.2.2.2.2.1 rfl | exact hpre.2.2.2.2.2.2.1 rfl | exact hpre.2.2.2.2.2.2.2.1 rfl | exact hpre.2.2.2.2.2.2.2.2.1 rfl | exact hpre.2.2.2.2.2.2.2.2.2.1 rfl)
      have e59 := ((hA 59).trans (show _ = vs 21 by kernel_rfl)).trans (by first | exact hpre.1 rfl | exact hpre.2.1 rfl | exact hpre.2.2.1 rfl | exact hpre.2.2.2.1 rfl | exact hpre.2.2.2.2.1 rfl | exact hpre.2.2.2.2.2.1 rfl | exact hpre.2.2.2.2.2.2.1 rfl | exact hpre.2.2.2.2.2.2.2.1 rfl | exact hpre.2.2.2.2.2.2.2.2.1 rfl | exact hpre.2.2.2.2.2.2.2.2.2.1 rfl)
      clear hA hpre
      go_simp
      first | exact hK _ _ hB rfl (fun _ _ h => h) | exact hK _ _ hB trivial (fun _ _ h => h) | (rw [if_neg (by omega)]; go_simp; exact hK _ _ hB rfl (fun _ _ h => h))
    · intro vs Wx A hA hB hpre K hK
      have e51 := ((hA 51).trans (show _ = vs 13 by kernel_rfl)).trans (by first | exact hpre.1 rfl | exact hpre.2.1 rfl | exact hpre.2.2.1 rfl | exact hpre.2.2.2.1 rfl | exact hpre.2.2.2.2.1 rfl | exact hpre.2.2.2.2.2.1 rfl | exact hpre.2.2.2.2.2.2.1 rfl | exact hpre.2.2.2.2.2.2.2.1 rfl | exact hpre.2.2.2.2.2.2.2.2.1 rfl | exact hpre.2.2.2.2.2.2.2.2.2.1 rfl)
      have e60 := ((hA 60).trans (show _ = vs 22 by kernel_rfl)).trans (by first | exact hpre.1 rfl | exact hpre.2.1 rfl | exact hpre.2.2.1 rfl | exact hpre.2.2.2.1 rfl | exact hpre.2.2.2.2.1 rfl | exact hpre.2.2.2.2.2.1 rfl | exact hpre.2.2.2.2.2.2.1 rfl | exact hpre.2.2.2.2.2.2.2.1 rfl | exact hpre.2.2.2.2.2.2.2.2.1 rfl | exact hpre.2.2.2.2.2.2.2.2.2.1 rfl)
      clear hA hpre
      go_simp
      first | exact hK _ _ hB rfl (fun _ _ h => h) | exact hK _ _ hB trivial (fun _ _ h => h) | (rw [if_neg (by omega)]; go_simp; exact hK _ _ hB rfl (fun _ _ h => h))
    · intro vs Wx A hA hB hpre K hK
      have e61 := ((hA 61).trans (show _ = vs 23 by kernel_rfl)).trans (by first | exact hpre.1 rfl | exact hpre.2.1 rfl | exact hpre.2.2.1 rfl | exact hpre.2.2.2.1 rfl | exact hpre.2.2.2.2.1 rfl | exact hpre.2.2.2.2.2.1 rfl | exact hpre.2.2.2.2.2.2.1 rfl | exact hpre.2.2.2.2.2.2.2.1 rfl | exact hpre.2.2.2.2.2.2.2.2.1 rfl | exact hpre.2.2.2.2.2.2.2.2.2.1 rfl)
      clear hA hpre
      go_simp
      first | exact hK _ _ hB rfl (fun _ _ h => h) | exact hK _ _ hB trivial (fun _ _ h => h) | (rw [if_neg (by omega)]; go_simp; exact hK _ _ hB rfl (fun _ _ h => h))
    · intro vs Wx A hA hB hpre
      have eg := ((hA 62).trans (show _ = vs 24 by kernel_rfl)).trans (by first | exact hpre.1 rfl | exact hpre.2.1 rfl | exact hpre.2.2.1 rfl | exact hpre.2.2.2.1 rfl | exact hpre.2.2.2.2.1 rfl | exact hpre.2.2.2.2.2.1 rfl | exact hpre.2.2.2.2.2.2.1 rfl | exact hpre.2.2.2.2.2.2.2.1 rfl | exact hpre.2.2.2.2.2.2.2.2.1 rfl | exact hpre.2.2.2.2.2.2.2.2.2.1 rfl)
      refine ⟨true, eg, fun _ K hK => ?_, fun h => absurd rfl h⟩
      have e0 := (hA 0).trans (show _ = Value.slice ea l.length ec by kernel_rfl)
      clear hA hpre
      go_simp
      first | exact hK _ _ hB rfl (fun _ _ h => h) | exact hK _ _ hB trivial (fun _ _ h => h) | (rw [if_neg (by omega)]; go_simp; exact hK _ _ hB rfl (fun _ _ h => h))
    · intro vs Wx A hA hB hpre
      have eg := ((hA 62).trans (show _ = vs 24 by kernel_rfl)).trans (by first | exact hpre.1 rfl | exact hpre.2.1 rfl | exact hpre.2.2.1 rfl | exact hpre.2.2.2.1 rfl | exact hpre.2.2.2.2.1 rfl | exact hpre.2.2.2.2.2.1 rfl | exact hpre.2.2.2.2.2.2.1 rfl | exact hpre.2.2.2.2.2.2.2.1 rfl | exact hpre.2.2.2.2.2.2.2.2.1 rfl | exact hpre.2.2.2.2.2.2.2.2.2.1 rfl)
      refine ⟨true, eg, fun _ K hK => ?_, fun h => absurd rfl h⟩
      have e5 := (hA 5).trans (show _ = Value.pointer (some ⟨w.heap.size, 0, none⟩) by kernel_rfl)
      clear hA hpre
      go_simp
      first | exact hK _ _ hB rfl (fun _ _ h => h) | exact hK _ _ hB trivial (fun _ _ h => h) | (rw [if_neg (by omega)]; go_simp; exact hK _ _ hB rfl (fun _ _ h => h))
    · intro vs Wx A hA hB hpre
      have eg := ((hA 62).trans (show _ = vs 24 by kernel_rfl)).trans (by first | exact hpre.1 rfl | exact hpre.2.1 rfl | exact hpre.2.2.1 rfl | exact hpre.2.2.2.1 rfl | exact hpre.2.2.2.2.1 rfl | exact hpre.2.2.2.2.2.1 rfl | exact hpre.2.2.2.2.2.2.1 rfl | exact hpre.2.2.2.2.2.2.2.1 rfl | exact hpre.2.2.2.2.2.2.2.2.1 rfl | exact hpre.2.2.2.2.2.2.2.2.2.1 rfl)
      refine ⟨true, eg, fun _ K hK => ?_, fun h => absurd rfl h⟩
      have e64 := ((hA 64).trans (show _ = vs 26 by kernel_rfl)).trans (by first | exact hpre.1 rfl | exact hpre.2.1 rfl | exact hpre.2.2.1 rfl | exact hpre.2.2.2.1 rfl | exact hpre.2.2.2.2.1 rfl | exact hpre.2.2.2.2.2.1 rfl | exact hpre.2.2.2.2.2.2.1 rfl | exact hpre.2.2.2.2.2.2.2.1 rfl | exact hpre.2.2.2.2.2.2.2.2.1 rfl | exact hpre.2.2.2.2.2.2.2.2.2.1 rfl)
      obtain ⟨y0, y1, y2, y3, y4, y5, y6⟩ := HXK.out Wx hB
      clear hA hpre
      go_simp
      first | exact hK _ _ hB rfl (fun _ _ h => h) | exact hK _ _ hB trivial (fun _ _ h => h) | (rw [if_neg (by omega)]; go_simp; exact hK _ _ hB rfl (fun _ _ h => h))
    · intro vs Wx A hA hB hpre
      have eg := ((hA 62).trans (show _ = vs 24 by kernel_rfl)).trans (by first | exact hpre.1 rfl | exact hpre.2.1 rfl | exact hpre.2.2.1 rfl | exact hpre.2.2.2.1 rfl | exact hpre.2.2.2.2.1 rfl | exact hpre.2.2.2.2.2.1 rfl | exact hpre.2.2.2.2.2.2.1 rfl | exact hpre.2.2.2.2.2.2.2.1 rfl | exact hpre.2.2.2.2.2.2.2.2.1 rfl | exact hpre.2.2.2.2.2.2.2.2.2.1 rfl)
      refine ⟨true, eg, fun _ K hK => ?_, fun h => absurd rfl h⟩
      have e63 := ((hA 63).trans (show _ = vs 25 by kernel_rfl)).trans (by first | exact hpre.1 rfl | exact hpre.2.1 rfl | exact hpre.2.2.1 rfl | exact hpre.2.2.2.1 rfl | exact hpre.2.2.2.2.1 rfl | exact hpre.2.2.2.2.2.1 rfl | exact hpre.2.2.2.2.2.2.1 rfl | exact hpre.2.2.2.2.2.2.2.1 rfl | exact hpre.2.2.2.2.2.2.2.2.1 rfl | exact hpre.2.2.2.2.2.2.2.2.2.1 rfl)
      have e65 := ((hA 65).trans (show _ = vs 27 by kernel_rfl)).trans (by first | exact hpre.1 rfl | exact hpre.2.1 rfl | exact hpre.2.2.1 rfl | exact hpre.2.2.2.1 rfl | exact hpre.2.2.2.2.1 rfl | exact hpre.2.2.2.2.2.1 rfl | exact hpre.2.2.2.2.2.2.1 rfl | exact hpre.2.2.2.2.2.2.2.1 rfl | exact hpre.2.2.2.2.2.2.2.2.1 rfl | exact hpre.2.2.2.2.2.2.2.2.2.1 rfl)
      clear hA hpre
      go_simp
      try (go_at_call 16)
      refine (HFi.out Wx (below_trans HB3.out hB)).mono ?_
      rintro e w4 ⟨rfl, hg⟩
      rw [hg]
      clear hg w4
      exact hK _ _ hB rfl (fun _ _ h => h)
    · intro vs Wx A hA hB hpre
      have eg := ((hA 62).trans (show _ = vs 24 by kernel_rfl)).trans (by first | exact hpre.1 rfl | exact hpre.2.1 rfl | exact hpre.2.2.1 rfl | exact hpre.2.2.2.1 rfl | exact hpre.2.2.2.2.1 rfl | exact hpre.2.2.2.2.2.1 rfl | exact hpre.2.2.2.2.2.2.1 rfl | exact hpre.2.2.2.2.2.2.2.1 rfl | exact hpre.2.2.2.2.2.2.2.2.1 rfl | exact hpre.2.2.2.2.2.2.2.2.2.1 rfl)
      refine ⟨true, eg, fun _ K hK => ?_, fun h => absurd rfl h⟩
      have e0 := (hA 0).trans (show _ = Value.slice ea l.length ec by kernel_rfl)
      clear hA hpre
      go_simp
      first | exact hK _ _ hB rfl (fun _ _ h => h) | exact hK _ _ hB trivial (fun _ _ h => h) | (rw [if_neg (by omega)]; go_simp; exact hK _ _ hB rfl (fun _ _ h => h))
    · intro vs Wx A hA hB hpre
      have eg := ((hA 62).trans (show _ = vs 24 by kernel_rfl)).trans (by first | exact hpre.1 rfl | exact hpre.2.1 rfl | exact hpre.2.2.1 rfl | exact hpre.2.2.2.1 rfl | exact hpre.2.2.2.2.1 rfl | exact hpre.2.2.2.2.2.1 rfl | exact hpre.2.2.2.2.2.2.1 rfl | exact hpre.2.2.2.2.2.2.2.1 rfl | exact hpre.2.2.2.2.2.2.2.2.1 rfl | exact hpre.2.2.2.2.2.2.2.2.2.1 rfl)
      refine ⟨true, eg, fun _ K hK => ?_, fun h => absurd rfl h⟩
      have e5 := (hA 5).trans (show _ = Value.pointer (some ⟨w.heap.size, 0, none⟩) by kernel_rfl)
      clear hA hpre
      go_simp
      first | exact hK _ _ hB rfl (fun _ _ h => h) | exact hK _ _ hB trivial (fun _ _ h => h) | (rw [if_neg (by omega)]; go_simp; exact hK _ _ hB rfl (fun _ _ h => h))
    · intro vs Wx A hA hB hpre
      have eg := ((hA 62).trans (show _ = vs 24 by kernel_rfl)).trans (by first | exact hpre.1 rfl | exact hpre.2.1 rfl | exact hpre.2.2.1 rfl | exact hpre.2.2.2.1 rfl | exact hpre.2.2.2.2.1 rfl | exact hpre.2.2.2.2.2.1 rfl | exact hpre.2.2.2.2.2.2.1 rfl | exact hpre.2.2.2.2.2.2.2.1 rfl | exact hpre.2.2.2.2.2.2.2.2.1 rfl | exact hpre.2.2.2.2.2.2.2.2.2.1 rfl)
      refine ⟨true, eg, fun _ K hK => ?_, fun h => absurd rfl h⟩
      have e68 := ((hA 68).trans (show _ = vs 30 by kernel_rfl)).trans (by first | exact hpre.1 rfl | exact hpre.2.1 rfl | exact hpre.2.2.1 rfl | exact hpre.2.2.2.1 rfl | exact hpre.2.2.2.2.1 rfl | exact hpre.2.2.2.2.2.1 rfl | exact hpre.2.2.2.2.2.2.1 rfl | exact hpre.2.2.2.2.2.2.2.1 rfl | exact hpre.2.2.2.2.2.2.2.2.1 rfl | exact hpre.2.2.2.2.2.2.2.2.2.1 rfl)
      obtain ⟨y0, y1, y2, y3, y4, y5, y6⟩ := HXK.out Wx hB
      clear hA hpre
      go_simp
      first | exact hK _ _ hB rfl (fun _ _ h => h) | exact hK _ _ hB trivial (fun _ _ h => h) | (rw [if_neg (by omega)]; go_simp; exact hK _ _ hB rfl (fun _ _ h => h))
    · intro vs Wx A hA hB hpre
      have eg := ((hA 62).trans (show _ = vs 24 by kernel_rfl)).trans (by first | exact hpre.1 rfl | exact hpre.2.1 rfl | exact hpre.2.2.1 rfl | exact hpre.2.2.2.1 rfl | exact hpre.2.2.2.2.1 rfl | exact hpre.2.2.2.2.2.1 rfl | exact hpre.2.2.2.2.2.2.1 rfl | exact hpre.2.2.2.2.2.2.2.1 rfl | exact hpre.2.2.2.2.2.2.2.2.1 rfl | exact hpre.2.2.2.2.2.2.2.2.2.1 rfl)
      refine ⟨true, eg, fun _ K hK => ?_, fun h => absurd rfl h⟩
      have e67 := ((hA 67).trans (show _ = vs 29 by kernel_rfl)).trans (by first | exact hpre.1 rfl | exact hpre.2.1 rfl | exact hpre.2.2.1 rfl | exact hpre.2.2.2.1 rfl | exact hpre.2.2.2.2.1 rfl | exact hpre.2.2.2.2.2.1 rfl | exact hpre.2.2.2.2.2.2.1 rfl | exact hpre.2.2.2.2.2.2.2.1 rfl | exact hpre.2.2.2.2.2.2.2.2.1 rfl | exact hpre.2.2.2.2.2.2.2.2.2.1 rfl)
      have e69 := ((hA 69).trans (show _ = vs 31 by kernel_rfl)).trans (by first | exact hpre.1 rfl | exact hpre.2.1 rfl | exact hpre.2.2.1 rfl | exact hpre.2.2.2.1 rfl | exact hpre.2.2.2.2.1 rfl | exact hpre.2.2.2.2.2.1 rfl | exact hpre.2.2.2.2.2.2.1 rfl | exact hpre.2.2.2.2.2.2.2.1 rfl | exact hpre.2.2.2.2.2.2.2.2.1 rfl | exact hpre.2.2.2.2.2.2.2.2.2.1 rfl)
      clear hA hpre
      go_simp
      try (go_at_call 17)
      refine (HRf.out Wx (below_trans HB3.out hB)).mono ?_
      rintro e w4 ⟨rfl, hg⟩
      rw [hg]
      clear hg w4
      exact hK _ _ hB rfl (fun _ _ h => h)
    · intro vs Wx A hA hB hpre
      have eg := ((hA 62).trans (show _ = vs 24 by kernel_rfl)).trans (by first | exact hpre.1 rfl | exact hpre.2.1 rfl | exact hpre.2.2.1 rfl | exact hpre.2.2.2.1 rfl | exact hpre.2.2.2.2.1 rfl | exact hpre.2.2.2.2.2.1 rfl | exact hpre.2.2.2.2.2.2.1 rfl | exact hpre.2.2.2.2.2.2.2.1 rfl | exact hpre.2.2.2.2.2.2.2.2.1 rfl | exact hpre.2.2.2.2.2.2.2.2.2.1 rfl)
      refine ⟨true, eg, fun _ K hK => ?_, fun h => absurd rfl h⟩
      have e66 := ((hA 66).trans (show _ = vs 28 by kernel_rfl)).trans (by first | exact hpre.1 rfl | exact hpre.2.1 rfl | exact hpre.2.2.1 rfl | exact hpre.2.2.2.1 rfl | exact hpre.2.2.2.2.1 rfl | exact hpre.2.2.2.2.2.1 rfl | exact hpre.2.2.2.2.2.2.1 rfl | exact hpre.2.2.2.2.2.2.2.1 rfl | exact hpre.2.2.2.2.2.2.2.2.1 rfl | exact hpre.2.2.2.2.2.2.2.2.2.1 rfl)
      have e70 := ((hA 70).trans (show _ = vs 32 by kernel_rfl)).trans (by first | exact hpre.1 rfl | exact hpre.2.1 rfl | exact hpre.2.2.1 rfl | exact hpre.2.2.2.1 rfl | exact hpre.2.2.2.2.1 rfl | exact hpre.2.2.2.2.2.1 rfl | exact hpre.2.2.2.2.2.2.1 rfl | exact hpre.2.2.2.2.2.2.2.1 rfl | exact hpre.2.2.2.2.2.2.2.2.1 rfl | exact hpre.2.2.2.2.2.2.2.2.2.1 rfl)
      clear hA hpre
      go_simp
      first | exact hK _ _ hB rfl (fun _ _ h => h) | exact hK _ _ hB trivial (fun _ _ h => h) | (rw [if_neg (by omega)]; go_simp; exact hK _ _ hB rfl (fun _ _ h => h))
    · intro vs Wx A hA hB hpre K hK
      have e62 := ((hA 62).trans (show _ = vs 24 by kernel_rfl)).trans (by first | exact hpre.1 rfl | exact hpre.2.1 rfl | exact hpre.2.2.1 rfl | exact hpre.2.2.2.1 rfl | exact hpre.2.2.2.2.1 rfl | exact hpre.2.2.2.2.2.1 rfl | exact hpre.2.2.2.2.2.2.1 rfl | exact hpre.2.2.2.2.2.2.2.1 rfl | exact hpre.2.2.2.2.2.2.2.2.1 rfl | exact hpre.2.2.2.2.2.2.2.2.2.1 rfl)
      have e71 := ((hA 71).trans (show _ = vs 33 by kernel_rfl)).trans (by first | exact hpre.1 rfl | exact hpre.2.1 rfl | exact hpre.2.2.1 rfl | exact hpre.2.2.2.1 rfl | exact hpre.2.2.2.2.1 rfl | exact hpre.2.2.2.2.2.1 rfl | exact hpre.2.2.2.2.2.2.1 rfl | exact hpre.2.2.2.2.2.2.2.1 rfl | exact hpre.2.2.2.2.2.2.2.2.1 rfl | exact hpre.2.2.2.2.2.2.2.2.2.1 rfl)
      clear hA hpre
      go_simp
      first | exact hK _ _ hB rfl (fun _ _ h => h) | exact hK _ _ hB trivial (fun _ _ h => h) | (rw [if_neg (by omega)]; go_simp; exact hK _ _ hB rfl (fun _ _ h => h))
    · intro vs Wx A hA hB hpre K hK
      have e72 := ((hA 72).trans (show _ = vs 34 by kernel_rfl)).trans (by first | exact hpre.1 rfl | exact hpre.2.1 rfl | exact hpre.2.2.1 rfl | exact hpre.2.2.2.1 rfl | exact hpre.2.2.2.2.1 rfl | exact hpre.2.2.2.2.2.1 rfl | exact hpre.2.2.2.2.2.2.1 rfl | exact hpre.2.2.2.2.2.2.2.1 rfl | exact hpre.2.2.2.2.2.2.2.2.1 rfl | exact hpre.2.2.2.2.2.2.2.2.2.1 rfl)
      clear hA hpre
      go_simp
      first | exact hK _ _ hB rfl (fun _ _ h => h) | exact hK _ _ hB trivial (fun _ _ h => h) | (rw [if_neg (by omega)]; go_simp; exact hK _ _ hB rfl (fun _ _ h => h))
    · intro vs Wx A hA hB hpre
      have eg := ((hA 73).trans (show _ = vs 35 by kernel_rfl)).trans (by first | exact hpre.1 rfl | exact hpre.2.1 rfl | exact hpre.2.2.1 rfl | exact hpre.2.2.2.1 rfl | exact hpre.2.2.2.2.1 rfl | exact hpre.2.2.2.2.2.1 rfl | exact hpre.2.2.2.2.2.2.1 rfl | exact hpre.2.2.2.2.2.2.2.1 rfl | exact hpre.2.2.2.2.2.2.2.2.1 rfl | exact hpre.2.2.2.2.2.2.2.2.2.1 rfl)
      refine ⟨true, eg, fun _ K hK => ?_, fun h => absurd rfl h⟩
      clear hA hpre
      go_simp
      try (go_at_call 10)
      refine (HW.out Wx (below_trans HB3.out hB)).mono ?_
      rintro e w4 ⟨rfl, hg⟩
      exact hK _ _ (below_trans hB hg) rfl (fun _ _ h => h)
    · intro vs Wx A hA hB hpre K hK
      have e73 := ((hA 73).trans (show _ = vs 35 by kernel_rfl)).trans (by first | exact hpre.1 rfl | exact hpre.2.1 rfl | exact hpre.2.2.1 rfl | exact hpre.2.2.2.1 rfl | exact hpre.2.2.2.2.1 rfl | exact hpre.2.2.2.2.2.1 rfl | exact hpre.2.2.2.2.2.2.1 rfl | exact hpre.2.2.2.2.2.2.2.1 rfl | exact hpre.2.2.2.2.2.2.2.2.1 rfl | exact hpre.2.2.2.2.2.2.2.2.2.1 rfl)
      have e74 := ((hA 74).trans (show _ = vs 36 by kernel_rfl)).trans (by first | exact hpre.1 rfl | exact hpre.2.1 rfl | exact hpre.2.2.1 rfl | exact hpre.2.2.2.1 rfl | exact hpre.2.2.2.2.1 rfl | exact hpre.2.2.2.2.2.1 rfl | exact hpre.2.2.2.2.2.2.1 rfl | exact hpre.2.2.2.2.2.2.2.1 rfl | exact hpre.2.2.2.2.2.2.2.2.1 rfl | exact hpre.2.2.2.2.2.2.2.2.2.1 rfl)
      clear hA hpre
      go_simp
      first | exact hK _ _ hB rfl (fun _ _ h => h) | exact hK _ _ hB trivial (fun _ _ h => h) | (rw [if_neg (by omega)]; go_simp; exact hK _ _ hB rfl (fun _ _ h => h))
    · intro vs Wx A hA hB hpre K hK
      have e75 := ((hA 75).trans (show _ = vs 37 by kernel_rfl)).trans (by first | exact hpre.1 rfl | exact hpre.2.1 rfl | exact hpre.2.2.1 rfl | exact hpre.2.2.2.1 rfl | exact hpre.2.2.2.2.1 rfl | exact hpre.2.2.2.2.2.1 rfl | exact hpre.2.2.2.2.2.2.1 rfl | exact hpre.2.2.2.2.2.2.2.1 rfl | exact hpre.2.2.2.2.2.2.2.2.1 rfl | exact hpre.2.2.2.2.2.2.2.2.2.1 rfl)
      clear hA hpre
      go_simp
      first | exact hK _ _ hB rfl (fun _ _ h => h) | exact hK _ _ hB trivial (fun _ _ h => h) | (rw [if_neg (by omega)]; go_simp; exact hK _ _ hB rfl (fun _ _ h => h))
    · intro vs Wx hB hF
      have hL : vs 38 = .bool true := hF 38 (by decide)
      have HB4 := Lib.hid (below_trans HB3.out hB)
      clear hF hB HXK HD
      simp only [Ri.puts]
      rw [hL]
      clear hL
      go_simp
      go_wp2
      go_ret
      exact ⟨rfl, HB4.out⟩

/-! ### the row's step -/
theorem laidOut : laidOutB Tryd.prog = true := by kernel_rfl
set_option maxRecDepth 100000 in
theorem lifted (os : Os) (started : os.Started) (H : Type) (enc : TypeId × Value → H) :
    ReturnsInHanded {} Tryd.checked os 3 .any (fun w args => (Rows.bookPutsSpec.pre enc Tryd.prog Tryd.f3 [] false w args ∧ laidMetH Tryd.prog laidL w) ∧ sizedMet enc Tryd.prog Tryd.f3 (OpenSpec.ofChange Rows.bookPutsSpec) false w args) (Rows.bookPutsSpec.post enc Tryd.prog Tryd.f3 false true false false) := by
  refine lift own started (by kernel_rfl) Tryd.func3
    (ChangeSpec.witness_shaped (enc := enc) (C := Tryd.checked) (os := os) (X := fun w _ => laidMetH Tryd.prog laidL w) false (World.laidAll Tryd.prog os laidL) #[.slice none 0 0, .agg #[.string ByteArray.empty, .string ByteArray.empty, .string ByteArray.empty, .int .i64 0, .int .i64 0, .string ByteArray.empty, .slice none 0 0], .int .i64 0, .int .i64 0] 8 (World.laidAll_os _ _ _)
      (World.shaped_of_ZipB (by kernel_rfl) (by kernel_rfl)) (by kernel_rfl) (by kernel_rfl) (by kernel_rfl)
      (by rw [MakeChecks.laidMetH_plain _ _ _ (by kernel_rfl)]; exact laidMet_laidAll _ (by kernel_rfl) (by kernel_rfl))) ?_
  intro W base args ds gs before hval0 hW hwt hT
  have hval : ∀ (j : Nat) t v, Tryd.f3.params[j]? = some t → args[j]? = some v → Value.okWide Tryd.prog W .any base t v := hval0
  have hW' := hW
  obtain ⟨p, q, hA0, hV, rfl, hfz, hnd⟩ := hW
  have hA : DataW.TrodAll enc Tryd.prog W 0 (fun _ => true) true Tryd.f3.params.toList args.toList ds p := hA0
  rw [Tryd.params3] at hA hval hwt
  obtain ⟨v0, vs0, d0, ds0, p0, q0, hargs, rfl, rfl, h0, r0⟩ := trodAll_cons hA
  obtain ⟨v1, vs1, d1, ds1, p1, q1, rfl, rfl, rfl, h1, r1⟩ := trodAll_cons r0
  obtain ⟨v2, vs2, d2, ds2, p2, q2, rfl, rfl, rfl, h2, r2⟩ := trodAll_cons r1
  obtain ⟨v3, vs3, d3, ds3, p3, q3, rfl, rfl, rfl, h3, r3⟩ := trodAll_cons r2
  obtain ⟨rfl, rfl, rfl⟩ := trodAll_nil r3
  obtain rfl : args = #[v0, v1, v2, v3] := by cases args; simp_all
  obtain ⟨rfl, rfl⟩ := trodVars_none hV
  have hwl : ∀ z, (z ∈ d0.weights Tryd.prog 22 → z ≤ reachBytes) ∧ (z ∈ d1.weights Tryd.prog 25 → z ≤ reachBytes) ∧ (z ∈ d2.weights Tryd.prog 3 → z ≤ reachBytes) ∧ (z ∈ d3.weights Tryd.prog 3 → z ≤ reachBytes) := fun z => by
    have h := List.all_eq_true.1 hwt z
    simp only [decide_eq_true_eq] at h
    refine ⟨fun hz => h ?_, fun hz => h ?_, fun hz => h ?_, fun hz => h ?_⟩
    all_goals
      simp only [List.cons_append, List.nil_append, List.toList_toArray, List.append_nil, DataW.weightsEach, List.mem_append]
      simp [hz]
  have k0 := h0
  have lt0 : ∀ x ∈ p0, x.block < W.heap.size := by obtain ⟨m, hm⟩ := k0; exact DataW.trod_lt m _ _ _ hm
  obtain ⟨l0, g0, z0⟩ := Bo.open_ens (okWide_slice Tryd.underlying22 (hval 0 22 v0 rfl rfl)) h0 (fun z hz => (hwl z).1 hz)
  have k1 := h1
  have lt1 : ∀ x ∈ p1, x.block < W.heap.size := by obtain ⟨m, hm⟩ := k1; exact DataW.trod_lt m _ _ _ hm
  obtain ⟨x1, m1, rfl, g1, z1⟩ := open_claim (hval 1 25 v1 rfl rfl) h1 (fun z hz => (hwl z).2.1 hz)
  have k2 := h2
  have lt2 : ∀ x ∈ p2, x.block < W.heap.size := by obtain ⟨m, hm⟩ := k2; exact DataW.trod_lt m _ _ _ hm
  obtain ⟨a2, rfl, _, _, w2⟩ := open_int Tryd.underlying3 (hval 2 3 v2 rfl rfl) h2
  have k3 := h3
  have lt3 : ∀ x ∈ p3, x.block < W.heap.size := by obtain ⟨m, hm⟩ := k3; exact DataW.trod_lt m _ _ _ hm
  obtain ⟨a3, rfl, _, _, w3⟩ := open_int Tryd.underlying3 (hval 3 3 v3 rfl rfl) h3
  clear hA0 hval0
  refine (walk W v0 l0 g0 z0 x1 m1 g1 z1 a2 w2 a3 w3 hT).mono fun e W' ⟨he, bel⟩ => ?_
  subst he
  exact ⟨_, rfl, _, _, _, [], _, [], hW', (trodAll_cons_mk (shut_bool Tryd.underlying4 _) trodAll_mk0), (trodAll_cons_mk (Below.trod laidOut (by kernel_rfl) (of_decide_eq_true (by kernel_rfl)) k0 bel lt0) (trodAll_cons_mk (Below.trod laidOut (by kernel_rfl) (of_decide_eq_true (by kernel_rfl)) k1 bel lt1) (trodAll_cons_mk (Below.trod laidOut (by kernel_rfl) (of_decide_eq_true (by kernel_rfl)) k2 bel lt2) (trodAll_cons_mk (Below.trod laidOut (by kernel_rfl) (of_decide_eq_true (by kernel_rfl)) k3 bel lt3) trodAll_mk0)))), rfl, bel.frame _, fun h => by cases h⟩

theorem over : Rows.bookPutsRow.holds Tryd.pinned (OpenSpec.ofChange Rows.bookPutsSpec) :=
  OpenClaim.holds_of_wide 3 Tryd.f3 rfl rfl rfl rfl rfl rfl rfl ⟨rfl, rfl, rfl, rfl, rfl⟩ rfl rfl rfl rfl rfl (by kernel_rfl) Tryd.func3 (by kernel_rfl)
    (of_decide_eq_true (by kernel_rfl)) (by unfold Func.isWrapper; first | (rw [if_pos (by decide +kernel)]; kernel_rfl) | (rw [if_neg (by decide +kernel)]; exact ⟨rfl, rfl⟩))
    (fun os started H enc _ => lifted os started H enc)

/-- The row's statement. -/
theorem proved : Rows.BookPutsSaid := over
end Go.Proofs.YtjgceppbhmmbjaaDoor.bookPuts
namespace Go.Proofs.YtjgceppbhmmbjaaDoor
theorem bookPuts_holds : Rows.BookPutsCardSaid :=
  Claim7.holds_tied_plain_at .later [] [.data] true (true, "f2479070b03f171d82c90618c5dc1cf43e6570ed6b4a30a463a32bd4503c9e70") false
    bookPuts.proved (fun _ h => by cases h) (by kernel_rfl) (fun _ h => by cases h) bookPuts_row_tie rfl ⟨rfl, rfl⟩ (by kernel_rfl) rfl
    (fun f fn hf hfn => by
      obtain rfl : f = 3 := Option.some.inj ((show Tryd.prog.funcNamed "leechbook/leechbooklaw18.BookPuts" = some 3 by kernel_rfl).symm.trans hf) |>.symm
      obtain rfl : fn = Tryd.f3 := (Option.some.inj (Tryd.func3.symm.trans hfn)).symm
      exact ⟨by kernel_rfl, fun j t ht => by
        rw [Tryd.params3] at ht
        have hm : t ∈ [22, 25, 3, 3] := by simpa using Array.mem_of_getElem? ht
        have hall : ([22, 25, 3, 3].all fun u => !Tryd.prog.wantsStandIn u) = true := by kernel_rfl
        exact (show Tryd.prog.wantsStandIn t = false by simpa using List.all_eq_true.1 hall t hm)⟩)
    (by kernel_rfl)
#print axioms bookPuts_holds
end Go.Proofs.YtjgceppbhmmbjaaDoor
