/-
  PlanJoins holds for every plan and rule: the plan's text with the rule's words behind it is that plan with the rule, too, if there are not too many.
-/
import Derived.WalkKit
import Derived.ProofKit
import Derived.OpenShut
import Derived.ShutString
import Derived.Below
import Derived.Carry
import Derived.LaidMore
import Derived.Stop.Joined
import Derived.SevenTiedAt
import Derived.Deep.DeepCutAuto
import Derived.Test.YtoibhgoaibjopaaGreatDoorRows
import Derived.Test.YtoibhgoaibjopaaGreatDoorTie
import Derived.Test.YtoibhgoaibjopaaGreatDoorCards
import Derived.Test.YtoibhgoaibjopaaGreatDoorMj1
import Derived.Test.YtoibhgoaibjopaaGreatDoorMj2
import Derived.Test.YtoibhgoaibjopaaGreatDoorMj3
import Derived.Test.YtoibhgoaibjopaaGreatDoorMj4
import Derived.Test.YtoibhgoaibjopaaGreatDoorMj5
import Derived.Test.YtoibhgoaibjopaaGreatDoorMj6
import Derived.Test.YtoibhgoaibjopaaGreatDoorMj7
import Derived.Test.YtoibhgoaibjopaaGreatDoorMj8
import Derived.Test.YtoibhgoaibjopaaGreatDoorMj9
import Derived.Test.YtoibhgoaibjopaaGreatDoorMj10
import Derived.Test.YtoibhgoaibjopaaGreatDoorMj11
import Derived.Test.YtoibhgoaibjopaaGreatDoorMj12
import Derived.Test.YtoibhgoaibjopaaGreatDoorMj13
import Derived.Test.YtoibhgoaibjopaaGreatDoorMj14
import Derived.Test.YtoibhgoaibjopaaGreatDoorMj15
import Derived.Test.YtoibhgoaibjopaaGreatDoorMj16
import Derived.Test.YtoibhgoaibjopaaGreatDoorMj17
import Derived.Test.YtoibhgoaibjopaaGreatDoorMj18
import Derived.Test.YtoibhgoaibjopaaGreatDoorMj19
import Derived.Test.YtoibhgoaibjopaaGreatDoorMj20
import Derived.Test.YtoibhgoaibjopaaGreatDoorMj21
import Derived.Test.YtoibhgoaibjopaaGreatDoorMj22
import Derived.Test.YtoibhgoaibjopaaGreatDoorMj23
import Derived.Test.YtoibhgoaibjopaaGreatDoorMj24
import Derived.Test.YtoibhgoaibjopaaGreatDoorMj25
import Derived.Test.YtoibhgoaibjopaaGreatDoorMj26
import Derived.Test.YtoibhgoaibjopaaGreatDoorMj27
import Derived.Test.YtoibhgoaibjopaaGreatDoorMj28
import Derived.Test.YtoibhgoaibjopaaGreatDoorMj29
import Derived.Test.YtoibhgoaibjopaaGreatDoorMj30
import Derived.Test.YtoibhgoaibjopaaGreatDoorMj31
import Derived.Test.YtoibhgoaibjopaaGreatDoorMj32
import Derived.Test.YtoibhgoaibjopaaGreatDoorMj33
import Derived.Test.YtoibhgoaibjopaaGreatDoorMj34
import Derived.Test.YtoibhgoaibjopaaGreatDoorMj35
namespace Go.Proofs.YtoibhgoaibjopaaGreatDoor.planJoins
open Go.ChangeShapes Go.WideShapes Go.ChangeAt Go.RowKit
open Pl
open Wo (Wd WdsAt box_cell box_two keepB heap_far)
open Go.ChangeMaps (open_string)
set_option linter.unusedVariables false
set_option linter.unusedSimpArgs false


theorem own : ownKnob Tryz.prog.godebug = none := by kernel_rfl

/-! ### the walk: the law returns true -/
set_option maxHeartbeats 8000000 in
theorem walk (w : World) (x0 : Pn) (m0 : Value) (h0 : RusAt All w m0 x0.rules) (z0 : PnOk x0) (x1 : Ru) (k1 u1 s1 : Value) (h1 : RuIn All w x1 k1 u1 s1) (hT : Nu.Tab w) :
    Calls Tryz.prog 4 #[pnv x0 m0, ruv x1 k1 u1 s1] w fun e w' => e = .returned (.bool true) ∧ Below w.heap.size w w' := by
  have HWK := Lib.hid fun W (hW : Below w.heap.size w W) => works_any W (Nu.tab_grw hT hW)
  obtain ⟨hb, hz1, hz2⟩ := Pj.box_pr w x0 m0 x1 k1 u1 s1
  have HB := Lib.hid hb
  have HX := Lib.hid hz1
  have HR := Lib.hid hz2
  have HM := Lib.hid fun W (hW : Below w.heap.size w W) => h0.grw hW
  have HIn := Lib.hid fun W (hW : Below w.heap.size w W) => h1.move (Below.moves hW)
  have HTb := Lib.hid fun W (hW : Below w.heap.size w W) => Nu.tab_grw hT hW
  obtain ⟨ma, mc, rfl, hm1, hm2, hm3⟩ := h0.form
  have hm3 : x0.rules.length ≤ 281474976710656 := hm3
  obtain ⟨-, -, -, hk, hu, hs⟩ := h1
  obtain ⟨ka, kc, rfl, -, -⟩ := hk.form
  obtain ⟨ua, uc, rfl, -, -⟩ := hu.form
  obtain ⟨sa, sc, rfl, -, -, -⟩ := hs.form
  clear h0 hk hu hs hb hz1 hz2 hT z0
  go_enter Tryz.func4, Tryz.ntmps4
  go_upto_region 1 with fail
  generalize (w.alloc (.cells #[.int .i64 x0.mode, .int .i64 x0.indDed, .int .i64 x0.famDed, .int .i64 x0.indOop, .int .i64 x0.famOop, .slice ma x0.rules.length mc] 24)).alloc (.cells #[.int .i64 x1.rank, .int .i64 x1.cif.kind, .string (mk x1.cif.lo), .string (mk x1.cif.hi), .int .i64 x1.cif.n, .slice ka x1.cif.kids.length kc, .slice ua x1.unl.length uc, .slice sa x1.sets.length sc] 35) = W at *
  generalize hp : w.heap.size = p0 at *
  obtain ⟨q1, hq1⟩ : ∃ q1, q1 = p0 + 1 := ⟨_, rfl⟩
  rw [← hq1] at HR ⊢
  clear hq1
  have ba := below_alloc W (.cells #[.int .i64 x1.rank, .int .i64 x1.cif.kind, .string (mk x1.cif.lo), .string (mk x1.cif.hi), .int .i64 x1.cif.n, .slice ka x1.cif.kids.length kc, .slice ua x1.unl.length uc, .slice sa x1.sets.length sc] 35)
  have bb := below_alloc (W.alloc (.cells #[.int .i64 x1.rank, .int .i64 x1.cif.kind, .string (mk x1.cif.lo), .string (mk x1.cif.hi), .int .i64 x1.cif.n, .slice ka x1.cif.kids.length kc, .slice ua x1.unl.length uc, .slice sa x1.sets.length sc] 35)) (.cells #[.int .i64 0, .int .i64 0, .int .i64 0, .int .i64 0, .int .i64 0, .slice (some ⟨W.heap.size, 0, none⟩) 1 1] 24)
  have za := keepB (heap_alloc_new W (.cells #[.int .i64 x1.rank, .int .i64 x1.cif.kind, .string (mk x1.cif.lo), .string (mk x1.cif.hi), .int .i64 x1.cif.n, .slice ka x1.cif.kids.length kc, .slice ua x1.unl.length uc, .slice sa x1.sets.length sc] 35)) bb
  have zb := heap_alloc_new (W.alloc (.cells #[.int .i64 x1.rank, .int .i64 x1.cif.kind, .string (mk x1.cif.lo), .string (mk x1.cif.hi), .int .i64 x1.cif.n, .slice ka x1.cif.kids.length kc, .slice ua x1.unl.length uc, .slice sa x1.sets.length sc] 35)) (.cells #[.int .i64 0, .int .i64 0, .int .i64 0, .int .i64 0, .int .i64 0, .slice (some ⟨W.heap.size, 0, none⟩) 1 1] 24)
  rw [show (W.alloc (.cells #[.int .i64 x1.rank, .int .i64 x1.cif.kind, .string (mk x1.cif.lo), .string (mk x1.cif.hi), .int .i64 x1.cif.n, .slice ka x1.cif.kids.length kc, .slice ua x1.unl.length uc, .slice sa x1.sets.length sc] 35)).heap.size = W.heap.size + 1 by simp] at zb
  have hb2 := below_trans ba bb
  have HB2 := Lib.hid (below_tr hp HB.out hb2)
  have HK := Lib.hid fun W' (hW : Below ((W.alloc (.cells #[.int .i64 x1.rank, .int .i64 x1.cif.kind, .string (mk x1.cif.lo), .string (mk x1.cif.hi), .int .i64 x1.cif.n, .slice ka x1.cif.kids.length kc, .slice ua x1.unl.length uc, .slice sa x1.sets.length sc] 35)).alloc (.cells #[.int .i64 0, .int .i64 0, .int .i64 0, .int .i64 0, .int .i64 0, .slice (some ⟨W.heap.size, 0, none⟩) 1 1] 24)).heap.size ((W.alloc (.cells #[.int .i64 x1.rank, .int .i64 x1.cif.kind, .string (mk x1.cif.lo), .string (mk x1.cif.hi), .int .i64 x1.cif.n, .slice ka x1.cif.kids.length kc, .slice ua x1.unl.length uc, .slice sa x1.sets.length sc] 35)).alloc (.cells #[.int .i64 0, .int .i64 0, .int .i64 0, .int .i64 0, .int .i64 0, .slice (some ⟨W.heap.size, 0, none⟩) 1 1] 24)) W') => And.intro (bsix (keepB HX.out (below_trans hb2 hW))) (And.intro (beight (keepB HR.out (below_trans hb2 hW))) (bsix (keepB zb hW)))
  have HUP := Lib.hid fun W' (hW : Below ((W.alloc (.cells #[.int .i64 x1.rank, .int .i64 x1.cif.kind, .string (mk x1.cif.lo), .string (mk x1.cif.hi), .int .i64 x1.cif.n, .slice ka x1.cif.kids.length kc, .slice ua x1.unl.length uc, .slice sa x1.sets.length sc] 35)).alloc (.cells #[.int .i64 0, .int .i64 0, .int .i64 0, .int .i64 0, .int .i64 0, .slice (some ⟨W.heap.size, 0, none⟩) 1 1] 24)).heap.size ((W.alloc (.cells #[.int .i64 x1.rank, .int .i64 x1.cif.kind, .string (mk x1.cif.lo), .string (mk x1.cif.hi), .int .i64 x1.cif.n, .slice ka x1.cif.kids.length kc, .slice ua x1.unl.length uc, .slice sa x1.sets.length sc] 35)).alloc (.cells #[.int .i64 0, .int .i64 0, .int .i64 0, .int .i64 0, .int .i64 0, .slice (some ⟨W.heap.size, 0, none⟩) 1 1] 24)) W') => below_tr hp HB2.out hW
  have HOne := Lib.hid fun W' (hW : Below ((W.alloc (.cells #[.int .i64 x1.rank, .int .i64 x1.cif.kind, .string (mk x1.cif.lo), .string (mk x1.cif.hi), .int .i64 x1.cif.n, .slice ka x1.cif.kids.length kc, .slice ua x1.unl.length uc, .slice sa x1.sets.length sc] 35)).alloc (.cells #[.int .i64 0, .int .i64 0, .int .i64 0, .int .i64 0, .int .i64 0, .slice (some ⟨W.heap.size, 0, none⟩) 1 1] 24)).heap.size ((W.alloc (.cells #[.int .i64 x1.rank, .int .i64 x1.cif.kind, .string (mk x1.cif.lo), .string (mk x1.cif.hi), .int .i64 x1.cif.n, .slice ka x1.cif.kids.length kc, .slice ua x1.unl.length uc, .slice sa x1.sets.length sc] 35)).alloc (.cells #[.int .i64 0, .int .i64 0, .int .i64 0, .int .i64 0, .int .i64 0, .slice (some ⟨W.heap.size, 0, none⟩) 1 1] 24)) W') => Pj.rus_one (keepB za hW) (HIn.out W' (HUP.out W' hW))
  obtain ⟨r0, r1, r2, r3, r4, r5, r6, r7⟩ := beight HR.out
  clear ba bb za zb hb2 HB HX HR
  go_upto_region 2 with fail
  clear r0 r1 r2 r3 r4 r5 r6 r7
  generalize ((W.alloc (.cells #[.int .i64 x1.rank, .int .i64 x1.cif.kind, .string (mk x1.cif.lo), .string (mk x1.cif.hi), .int .i64 x1.cif.n, .slice ka x1.cif.kids.length kc, .slice ua x1.unl.length uc, .slice sa x1.sets.length sc] 35)).alloc (.cells #[.int .i64 0, .int .i64 0, .int .i64 0, .int .i64 0, .int .i64 0, .slice (some ⟨W.heap.size, 0, none⟩) 1 1] 24)) = W2 at *
  generalize W.heap.size + 1 = p5 at *
  generalize W.heap.size = g1 at *
  have HR2 := Lib.hid (Below.refl W2.heap.size W2)
  obtain ⟨⟨p0a, p1a, p2a, p3a, p4a, p5a⟩, ⟨r0, r1, r2, r3, r4, r5, r6, r7⟩, ⟨o0, o1, o2, o3, o4, o5⟩⟩ := HK.out _ HR2.out
  go_wp2_with fail
  go_at_call 5
  refine (light_any x0 _ W2 (HM.out _ HB2.out)).mono ?_
  rintro e w1 ⟨⟨b1, rfl, hl1⟩, hb1⟩
  have HC1 := Lib.hid hb1
  clear hb1 p0a p1a p2a p3a p4a p5a r0 r1 r2 r3 r4 r5 r6 r7 o0 o1 o2 o3 o4 o5
  obtain ⟨⟨p0a, p1a, p2a, p3a, p4a, p5a⟩, ⟨r0, r1, r2, r3, r4, r5, r6, r7⟩, ⟨o0, o1, o2, o3, o4, o5⟩⟩ := HK.out _ HC1.out
  cases b1
  · clear hl1
    go_wp2_with (go_at_call 6; refine (HWK.out _ (HUP.out _ HC1.out)).mono ?_; rintro x w9 ⟨rfl, hb9⟩; have HB9 := Lib.hid (below_tr hp (HUP.out _ HC1.out) hb9); clear hb9)
    go_ret
    exact ⟨rfl, by first | exact HB9.out | (rw [hp]; exact HB9.out)⟩
  have hc1 := hl1 rfl
  clear hl1
  go_wp2_with fail
  go_at_call 5
  refine (light_any (⟨0, 0, 0, 0, 0, [x1]⟩ : Pn) _ w1 (HOne.out _ HC1.out)).mono ?_
  rintro e w2 ⟨⟨b2, rfl, hl2⟩, hb2⟩
  have HC2 := Lib.hid (below_trans HC1.out hb2)
  clear hb2 p0a p1a p2a p3a p4a p5a r0 r1 r2 r3 r4 r5 r6 r7 o0 o1 o2 o3 o4 o5
  obtain ⟨⟨p0a, p1a, p2a, p3a, p4a, p5a⟩, ⟨r0, r1, r2, r3, r4, r5, r6, r7⟩, ⟨o0, o1, o2, o3, o4, o5⟩⟩ := HK.out _ HC2.out
  cases b2
  · clear hl2
    go_wp2_with (go_at_call 6; refine (HWK.out _ (HUP.out _ HC2.out)).mono ?_; rintro x w9 ⟨rfl, hb9⟩; have HB9 := Lib.hid (below_tr hp (HUP.out _ HC2.out) hb9); clear hb9)
    go_ret
    exact ⟨rfl, by first | exact HB9.out | (rw [hp]; exact HB9.out)⟩
  have hc2 := hl2 rfl
  clear hl2
  have HCk := Lib.hid (rcheck_any x0 _ w2 (HM.out _ (HUP.out _ HC2.out)))
  by_cases hk0 : checkE x0 = 0
  case neg =>
    have bk : (checkE x0 != 0) = true := by simpa using hk0
    clear hk0
    generalize checkE x0 = E at *
    go_wp2_with fail
    go_at_call 9
    refine HCk.out.mono ?_
    rintro e w3 ⟨rfl, hb3⟩
    have HC3 := Lib.hid (below_trans HC2.out hb3)
    clear hb3 p0a p1a p2a p3a p4a p5a r0 r1 r2 r3 r4 r5 r6 r7 o0 o1 o2 o3 o4 o5
    go_wp2_with (go_at_call 6; refine (HWK.out _ (HUP.out _ HC3.out)).mono ?_; rintro x w9 ⟨rfl, hb9⟩; have HB9 := Lib.hid (below_tr hp (HUP.out _ HC3.out) hb9); clear hb9)
    go_ret
    exact ⟨rfl, by first | exact HB9.out | (rw [hp]; exact HB9.out)⟩
  rw [hk0] at HCk
  have hpb : planB x0 = true := by
    unfold checkE at hk0
    split at hk0
    · assumption
    · cases hk0
  clear hk0
  go_wp2_with fail
  go_at_call 9
  refine HCk.out.mono ?_
  rintro e w3 ⟨rfl, hb3⟩
  have HC3 := Lib.hid (below_trans HC2.out hb3)
  clear hb3 HCk p0a p1a p2a p3a p4a p5a r0 r1 r2 r3 r4 r5 r6 r7 o0 o1 o2 o3 o4 o5
  obtain ⟨⟨p0a, p1a, p2a, p3a, p4a, p5a⟩, ⟨r0, r1, r2, r3, r4, r5, r6, r7⟩, ⟨o0, o1, o2, o3, o4, o5⟩⟩ := HK.out _ HC3.out
  have HCk := Lib.hid (rcheck_any (⟨0, 0, 0, 0, 0, [x1]⟩ : Pn) _ w3 (HOne.out _ HC3.out))
  by_cases hk0 : checkE (⟨0, 0, 0, 0, 0, [x1]⟩ : Pn) = 0
  case neg =>
    have bk : (checkE (⟨0, 0, 0, 0, 0, [x1]⟩ : Pn) != 0) = true := by simpa using hk0
    clear hk0
    generalize checkE (⟨0, 0, 0, 0, 0, [x1]⟩ : Pn) = E at *
    go_wp2_with fail
    go_at_call 9
    refine HCk.out.mono ?_
    rintro e w4 ⟨rfl, hb4⟩
    have HC4 := Lib.hid (below_trans HC3.out hb4)
    clear hb4 p0a p1a p2a p3a p4a p5a r0 r1 r2 r3 r4 r5 r6 r7 o0 o1 o2 o3 o4 o5
    go_wp2_with (go_at_call 6; refine (HWK.out _ (HUP.out _ HC4.out)).mono ?_; rintro x w9 ⟨rfl, hb9⟩; have HB9 := Lib.hid (below_tr hp (HUP.out _ HC4.out) hb9); clear hb9)
    go_ret
    exact ⟨rfl, by first | exact HB9.out | (rw [hp]; exact HB9.out)⟩
  rw [hk0] at HCk
  have hob : planB (⟨0, 0, 0, 0, 0, [x1]⟩ : Pn) = true := by
    unfold checkE at hk0
    split at hk0
    · assumption
    · cases hk0
  clear hk0
  go_wp2_with fail
  go_at_call 9
  refine HCk.out.mono ?_
  rintro e w4 ⟨rfl, hb4⟩
  have HC4 := Lib.hid (below_trans HC3.out hb4)
  clear hb4 HCk p0a p1a p2a p3a p4a p5a r0 r1 r2 r3 r4 r5 r6 r7 o0 o1 o2 o3 o4 o5
  obtain ⟨⟨p0a, p1a, p2a, p3a, p4a, p5a⟩, ⟨r0, r1, r2, r3, r4, r5, r6, r7⟩, ⟨o0, o1, o2, o3, o4, o5⟩⟩ := HK.out _ HC4.out
  by_cases hge : 64 ≤ x0.rules.length
  · have hge' : (64 : Int) ≤ (x0.rules.length : Int) := by omega
    go_wp2_with (go_at_call 6; refine (HWK.out _ (HUP.out _ HC4.out)).mono ?_; rintro x w9 ⟨rfl, hb9⟩; have HB9 := Lib.hid (below_tr hp (HUP.out _ HC4.out) hb9); clear hb9)
    go_ret
    exact ⟨rfl, by first | exact HB9.out | (rw [hp]; exact HB9.out)⟩
  have hge' : ¬ (64 : Int) ≤ (x0.rules.length : Int) := by omega
  obtain ⟨L, hL1, hL2, hL3⟩ := Pj.rows_any (HM.out _ HB2.out)
  have HLk : Hid (L.length = x0.rules.length) := by show _ = _; rw [← hL1]; simp
  have HL1 := Lib.hid hL1
  have hbz := below_alloc w4 (.cells #[.int .i64 x0.mode, .int .i64 x0.indDed, .int .i64 x0.famDed, .int .i64 x0.indOop, .int .i64 x0.famOop, .slice none 0 0] 24)
  have HZ := Lib.hid (heap_alloc_new w4 (.cells #[.int .i64 x0.mode, .int .i64 x0.indDed, .int .i64 x0.famDed, .int .i64 x0.indOop, .int .i64 x0.famOop, .slice none 0 0] 24))
  have hqs : W2.heap.size ≤ w4.heap.size := HC4.out.size
  have HT := Lib.hid fun W' (hW : Below w4.heap.size (w4.alloc (.cells #[.int .i64 x0.mode, .int .i64 x0.indDed, .int .i64 x0.famDed, .int .i64 x0.indOop, .int .i64 x0.famOop, .slice none 0 0] 24)) W') => (below_trans HC4.out hbz).trans (hW.mono hqs)
  have HIN := Lib.hid fun W' (hW : Below w4.heap.size (w4.alloc (.cells #[.int .i64 x0.mode, .int .i64 x0.indDed, .int .i64 x0.famDed, .int .i64 x0.indOop, .int .i64 x0.famOop, .slice none 0 0] 24)) W') (t : Rr.Rw) (ht : t ∈ L ++ [(x1, Value.slice ka x1.cif.kids.length kc, Value.slice ua x1.unl.length uc, Value.slice sa x1.sets.length sc)]) => (show RuIn (fun b => b < w4.heap.size) W' t.1 t.2.1 t.2.2.1 t.2.2.2 by
    rcases List.mem_append.1 ht with h | h
    · exact Pj.ru_lo (q := w4.heap.size) (hL3 t h) (HT.out W' hW) hqs
    · rcases List.mem_singleton.1 h with rfl
      exact Pj.ru_lo (q := w4.heap.size) (HIn.out W2 HB2.out) (HT.out W' hW) hqs)
  have HCL : Hid (x0.rules.length = 0 ∨ ∃ b o, ma = some ⟨b, o, none⟩ ∧ ∀ j u, (Rr.rcs L)[j]? = some u → (w4.alloc (.cells #[.int .i64 x0.mode, .int .i64 x0.indDed, .int .i64 x0.famDed, .int .i64 x0.indOop, .int .i64 x0.famOop, .slice none 0 0] 24)).cell? ⟨b, o + j, none⟩ = some u) := hL2.imp id (by
    rintro ⟨b, o, e, hb, hc⟩
    exact ⟨b, o, e, fun j u h => by rw [World.cell?_of_block (w := W2) ((below_trans HC4.out hbz).block b hb)]; exact hc j u h⟩)
  have HQW : Hid (w4.heap.size < (w4.alloc (.cells #[.int .i64 x0.mode, .int .i64 x0.indDed, .int .i64 x0.famDed, .int .i64 x0.indOop, .int .i64 x0.famOop, .slice none 0 0] 24)).heap.size) := by show _ < _; simp
  have HPQ : Hid (p0 ≤ w4.heap.size) := by
    have h1 := (HUP.out _ HC4.out).size
    rw [hp] at h1
    exact h1
  clear hbz hqs hL1 hL2 hL3
  go_upto_region 6 with fail
  clear p0a p1a p2a p3a p4a p5a r0 r1 r2 r3 r4 r5 r6 r7 o0 o1 o2 o3 o4 o5
  generalize w4.alloc (.cells #[.int .i64 x0.mode, .int .i64 x0.indDed, .int .i64 x0.famDed, .int .i64 x0.indOop, .int .i64 x0.famOop, .slice none 0 0] 24) = W5 at *
  generalize w4.heap.size = qb at *
  have HQ5 := Lib.hid (Below.refl qb W5)
  obtain ⟨⟨p0a, p1a, p2a, p3a, p4a, p5a⟩, ⟨r0, r1, r2, r3, r4, r5, r6, r7⟩, ⟨o0, o1, o2, o3, o4, o5⟩⟩ := HK.out _ (HT.out _ HQ5.out)
  obtain ⟨c0, c1, c2, c3, c4, c5⟩ := bsix HZ.out
  have HNil : Hid (W5.ownsRow (qb + 1) 35 8 (.slice none 0 0) (([] : List Rr.Rw)).length (Rr.rcs (([] : List Rr.Rw)))) := World.ownsRow_nil _ _ _ _
  have HLB : Hid (([] : List Rr.Rw).length + L.length ≤ 1000) := by show _ ≤ _; have := HLk.out; simp; omega
  have HONE := Lib.hid (Rr.rcs_one (K := fun b => b < qb) (w := W5) L (fun t ht => HIN.out W5 HQ5.out t (List.mem_append_left _ ht)))
  have HQ1 : Hid (qb + 1 ≤ W5.heap.size) := HQW.out
  go_wp2_with (at_builtin; refine wpList_plain (by rfl) (fun K hK => ?_); refine Rr.wp_app _ _ (by rfl) (qb + 1) (.slice none 0 0) [] (by rfl) HNil.out ma x0.rules.length mc L (by rfl) HLk.out.symm HCL.out HONE.out HLB.out HQ1.out ?_)
  intro vn w6 hown hgr hat
  have HBQ := Lib.hid (Pj.grow_below (B := qb) hgr (Nat.le_of_lt HQW.out) (fun b hb => by cases hb))
  have HBX := Lib.hid (Pj.grow_box hgr HNil.out (Nat.lt_succ_self qb) HZ.out)
  obtain ⟨fa, fn, fc, rfl⟩ := Pj.own_form hown
  have HOW : Hid (w6.ownsRow (qb + 1) 35 8 (.slice fa fn fc) (L).length (Rr.rcs (L))) := hown
  refine hK _ _ ?_
  clear hK hown hgr hat HNil HLB HONE HZ HQ1 HCL c0 c1 c2 c3 c4 c5 p0a p1a p2a p3a p4a p5a r0 r1 r2 r3 r4 r5 r6 r7 o0 o1 o2 o3 o4 o5
  obtain ⟨c0, c1, c2, c3, c4, c5⟩ := bsix HBX.out
  have fz := Pj.bsix_soft HBX.out 5
  have HS6 := Lib.hid (Pj.set5 HBX.out (.slice fa fn fc))
  have HOS := Lib.hid (Pj.own_set HOW.out (Nat.lt_succ_self qb) 5 (.slice fa fn fc))
  have HBS := Lib.hid (HBQ.out.setCell (p := ⟨qb, 5, none⟩) (Nat.le_refl _) (.slice fa fn fc))
  go_upto_region 7 with fail
  clear HBX HOW HBQ c0 c1 c2 c3 c4 c5 fz
  generalize w6.setCell ⟨qb, 5, none⟩ (.slice fa fn fc) = w7 at *
  have HQ7 : Hid (qb < w7.heap.size) := (Array.getElem?_eq_some_iff.1 HS6.out).1
  obtain ⟨⟨p0a, p1a, p2a, p3a, p4a, p5a⟩, ⟨r0, r1, r2, r3, r4, r5, r6, r7⟩, ⟨o0, o1, o2, o3, o4, o5⟩⟩ := HK.out _ (HT.out _ HBS.out)
  obtain ⟨c0, c1, c2, c3, c4, c5⟩ := bsix HS6.out
  have hb8 := below_alloc w7 (.cells #[.int .i64 x1.rank, .int .i64 x1.cif.kind, .string (mk x1.cif.lo), .string (mk x1.cif.hi), .int .i64 x1.cif.n, .slice ka x1.cif.kids.length kc, .slice ua x1.unl.length uc, .slice sa x1.sets.length sc] 35)
  have HZb := Lib.hid (heap_alloc_new w7 (.cells #[.int .i64 x1.rank, .int .i64 x1.cif.kind, .string (mk x1.cif.lo), .string (mk x1.cif.hi), .int .i64 x1.cif.n, .slice ka x1.cif.kids.length kc, .slice ua x1.unl.length uc, .slice sa x1.sets.length sc] 35))
  have HOW8 := Lib.hid (Pj.own_far HOS.out hb8)
  have HBX8 := Lib.hid (keepB HS6.out hb8)
  have HBq8 := Lib.hid (HBS.out.trans (hb8.mono (Nat.le_of_lt HQ7.out)))
  have HQ8 : Hid (qb + 1 ≤ (w7.alloc (.cells #[.int .i64 x1.rank, .int .i64 x1.cif.kind, .string (mk x1.cif.lo), .string (mk x1.cif.hi), .int .i64 x1.cif.n, .slice ka x1.cif.kids.length kc, .slice ua x1.unl.length uc, .slice sa x1.sets.length sc] 35)).heap.size) := Nat.lt_of_lt_of_le HQ7.out hb8.size
  have HLB : Hid (L.length + [(x1, Value.slice ka x1.cif.kids.length kc, Value.slice ua x1.unl.length uc, Value.slice sa x1.sets.length sc)].length ≤ 1000) := by show _ ≤ _; rw [HLk.out]; simp; omega
  have HONE := Lib.hid (Rr.rcs_one (K := fun b => b < qb) (w := w7.alloc (.cells #[.int .i64 x1.rank, .int .i64 x1.cif.kind, .string (mk x1.cif.lo), .string (mk x1.cif.hi), .int .i64 x1.cif.n, .slice ka x1.cif.kids.length kc, .slice ua x1.unl.length uc, .slice sa x1.sets.length sc] 35)) [(x1, Value.slice ka x1.cif.kids.length kc, Value.slice ua x1.unl.length uc, Value.slice sa x1.sets.length sc)] (fun t ht => HIN.out _ HBq8.out t (List.mem_append_right _ ht)))
  clear hb8
  go_wp2_with (at_builtin; refine wpList_plain (by rfl) (fun K hK => ?_); refine Rr.wp_app _ _ (by rfl) (qb + 1) (.slice fa fn fc) L (by rfl) HOW8.out (some ⟨w7.heap.size, 0, none⟩) 1 1 [(x1, Value.slice ka x1.cif.kids.length kc, Value.slice ua x1.unl.length uc, Value.slice sa x1.sets.length sc)] (by rfl) rfl (Or.inr ⟨w7.heap.size, 0, rfl, fun j u hj => Pj.one_cells (t := (x1, Value.slice ka x1.cif.kids.length kc, Value.slice ua x1.unl.length uc, Value.slice sa x1.sets.length sc)) HZb.out j u hj⟩) HONE.out HLB.out HQ8.out ?_)
  intro vn w9 hown hgr hat
  have HBQ := Lib.hid (HBq8.out.trans (Pj.grow_below (B := qb) hgr (Nat.le_of_succ_le HQ8.out) (fun b hb => Nat.le_of_succ_le (Pj.own_ge HOW8.out b hb))))
  have HBX := Lib.hid (Pj.grow_box hgr HOW8.out (Nat.lt_succ_self qb) HBX8.out)
  obtain ⟨fa3, fn3, fc3, rfl⟩ := Pj.own_form hown
  have HOW := Lib.hid hown
  refine hK _ _ ?_
  clear hK hown hgr hat HLB HONE HZb HOW8 HBX8 HBq8 c0 c1 c2 c3 c4 c5 p0a p1a p2a p3a p4a p5a r0 r1 r2 r3 r4 r5 r6 r7 o0 o1 o2 o3 o4 o5
  obtain ⟨c0, c1, c2, c3, c4, c5⟩ := bsix HBX.out
  have fz := Pj.bsix_soft HBX.out 5
  have HBX3 := Lib.hid (Pj.set5 HBX.out (.slice fa3 fn3 fc3))
  have HOW3 := Lib.hid (Pj.own_set HOW.out (Nat.lt_succ_self qb) 5 (.slice fa3 fn3 fc3))
  have HBq3 := Lib.hid (HBQ.out.setCell (p := ⟨qb, 5, none⟩) (Nat.le_refl _) (.slice fa3 fn3 fc3))
  go_upto_region 8 with fail
  clear HBX HOW HBQ c0 c1 c2 c3 c4 c5 fz HOS HS6 HBS
  generalize w9.setCell ⟨qb, 5, none⟩ (.slice fa3 fn3 fc3) = w10 at *
  have HLen : Hid ((L ++ [(x1, Value.slice ka x1.cif.kids.length kc, Value.slice ua x1.unl.length uc, Value.slice sa x1.sets.length sc)]).length ≤ 1000) := by show _ ≤ _; rw [List.length_append, HLk.out]; simp; omega
  have HOW4 : Hid (w10.ownsRow (qb + 1) 35 8 (.slice fa3 fn3 fc3) (L ++ [(x1, Value.slice ka x1.cif.kids.length kc, Value.slice ua x1.unl.length uc, Value.slice sa x1.sets.length sc)]).length (Rr.rcs (L ++ [(x1, Value.slice ka x1.cif.kids.length kc, Value.slice ua x1.unl.length uc, Value.slice sa x1.sets.length sc)]))) := by
    have h := HOW3.out
    unfold World.ownsRow at h ⊢
    rw [List.length_append]
    exact h
  have HQ10 : Hid (qb < w10.heap.size) := (Array.getElem?_eq_some_iff.1 HBX3.out).1
  have HU2 := Lib.hid fun W' (hW : Below w10.heap.size w10 W') => HT.out W' (HBq3.out.trans (hW.mono (Nat.le_of_lt HQ10.out)))
  have HU0 := Lib.hid fun W' (hW : Below w10.heap.size w10 W') => HUP.out W' (HU2.out W' hW)
  have HBoth := Lib.hid fun W' (hW : Below w10.heap.size w10 W') => (show RusAt All W' (.slice fa3 fn3 fc3) ({ x0 with rules := x0.rules ++ [x1] } : Pn).rules by
    have h := Rr.own_rus (K := fun b => b < qb) (Pj.own_far HOW4.out hW) (fun t ht => HIN.out W' (HBq3.out.trans (hW.mono (Nat.le_of_lt HQ10.out))) t ht) HLen.out
    rw [List.map_append, HL1.out] at h
    exact h)
  have hrb : ruleB x1 = true := rules_ok hob x1 (by simp)
  have hbb : planB ({ x0 with rules := x0.rules ++ [x1] } : Pn) = true := planB_more hpb hrb (by omega)
  have hcb : cntP ({ x0 with rules := x0.rules ++ [x1] } : Pn) ≤ 1300 := by
    have h1 := cnt_more x0 x1
    have h2 : cntP (⟨0, 0, 0, 0, 0, [x1]⟩ : Pn) = cntR x1 := by unfold cntP; simp
    rw [h2] at hc2
    omega
  obtain ⟨e0, v0, l0⟩ := Pj.pr_ok hpb (show cntP x0 ≤ 1300 by omega)
  obtain ⟨e1, v1, l1⟩ := Pj.pr_ok hob (show cntP (⟨0, 0, 0, 0, 0, [x1]⟩ : Pn) ≤ 1300 by omega)
  obtain ⟨e3, v3, l3⟩ := Pj.pr_ok hbb hcb
  obtain ⟨e2, v2, l2⟩ := Pj.pr_ok (p := pn0) (by decide +kernel) (show cntP pn0 ≤ 1300 by decide +kernel)
  have HP0 := Lib.hid fun W' (hW : Below w10.heap.size w10 W') => print_any x0 _ W' (HM.out W' (HU0.out W' hW)) (HTb.out W' (HU0.out W' hW)) (fun h => by have := planW_size h; omega)
  have HP1 := Lib.hid fun W' (hW : Below w10.heap.size w10 W') => print_any (⟨0, 0, 0, 0, 0, [x1]⟩ : Pn) _ W' (HOne.out W' (HU2.out W' hW)) (HTb.out W' (HU0.out W' hW)) (fun h => by have := planW_size h; omega)
  have HP2 := Lib.hid fun W' (hW : Below w10.heap.size w10 W') => print_any pn0 (.slice none 0 0) W' (RusAt.nil _ _) (HTb.out W' (HU0.out W' hW)) (fun h => by decide +kernel)
  rw [e0, v0] at HP0
  rw [e1, v1] at HP1
  rw [e2, v2] at HP2
  have HJ := Lib.hid (Pj.join_text x0 x1)
  have hl21 : (prT pn0).length ≤ (prT (⟨0, 0, 0, 0, 0, [x1]⟩ : Pn)).length := Pj.head_le x1
  have hpk : paR (prT ({ x0 with rules := x0.rules ++ [x1] } : Pn)) = .ok ({ x0 with rules := x0.rules ++ [x1] } : Pn) := by have := text_back e3; rwa [v3] at this
  have HPs := Lib.hid fun (W' : World) => parse_ok (s := mk (prT ({ x0 with rules := x0.rules ++ [x1] } : Pn))) W' (by rw [mk_size]; unfold maxLen; omega) (by rw [mk_list]; exact hpk)
  have HSm := Lib.hid fun (W' : World) m m' (hm : RusAt All W' m ({ x0 with rules := x0.rules ++ [x1] } : Pn).rules) (hm' : RusAt All W' m' ({ x0 with rules := x0.rules ++ [x1] } : Pn).rules) => same_plan ({ x0 with rules := x0.rules ++ [x1] } : Pn) m m' W' (rules_ok hbb) hm hm'
  have z0' : (mk (prT x0)).size ≤ 65536 := by rw [mk_size]; exact l0
  have z1' : (mk (prT (⟨0, 0, 0, 0, 0, [x1]⟩ : Pn))).size ≤ 65536 := by rw [mk_size]; exact l1
  have z2' : ((mk (prT pn0)).size : Int) ≤ ((mk (prT (⟨0, 0, 0, 0, 0, [x1]⟩ : Pn))).size : Int) := by rw [mk_size, mk_size]; omega
  have HSZ : Hid ((mk (prT ({ x0 with rules := x0.rules ++ [x1] } : Pn))).size ≤ 65536) := by show _ ≤ _; rw [mk_size]; exact l3
  clear e0 v0 l0 e1 v1 l1 e2 v2 l2 e3 v3 l3 hpk hl21 hbb hrb hcb hob hpb hc1 hc2 HIn HIN HOW3 HOW4 HLen HL1 HLk HM HTb HUP HOne HC1 HC2 HC3 HC4
  generalize mk (prT x0) = S0 at *
  generalize mk (prT (⟨0, 0, 0, 0, 0, [x1]⟩ : Pn)) = S1 at *
  generalize mk (prT pn0) = S2 at *
  generalize mk (prT ({ x0 with rules := x0.rules ++ [x1] } : Pn)) = S3 at *
  have HR10 := Lib.hid (Below.refl w10.heap.size w10)
  obtain ⟨⟨p0a, p1a, p2a, p3a, p4a, p5a⟩, ⟨r0, r1, r2, r3, r4, r5, r6, r7⟩, ⟨o0, o1, o2, o3, o4, o5⟩⟩ := HK.out _ (HU2.out _ HR10.out)
  go_wp2_with fail
  go_at_call 7
  refine (HP0.out _ HR10.out).mono ?_
  rintro e w11 ⟨rfl, hb11⟩
  have HD1 := Lib.hid hb11
  clear hb11 p0a p1a p2a p3a p4a p5a r0 r1 r2 r3 r4 r5 r6 r7 o0 o1 o2 o3 o4 o5
  obtain ⟨⟨p0a, p1a, p2a, p3a, p4a, p5a⟩, ⟨r0, r1, r2, r3, r4, r5, r6, r7⟩, ⟨o0, o1, o2, o3, o4, o5⟩⟩ := HK.out _ (HU2.out _ HD1.out)
  go_wp2_with fail
  go_at_call 7
  refine (HP1.out _ HD1.out).mono ?_
  rintro e w12 ⟨rfl, hb12⟩
  have HD2 := Lib.hid (below_trans HD1.out hb12)
  clear hb12 p0a p1a p2a p3a p4a p5a r0 r1 r2 r3 r4 r5 r6 r7 o0 o1 o2 o3 o4 o5
  go_wp2_with fail
  go_at_call 7
  refine (HP2.out _ HD2.out).mono ?_
  rintro e w13 ⟨rfl, hb13⟩
  have HD3 := Lib.hid (below_trans HD2.out hb13)
  clear hb13 HP0 HP1 HP2
  obtain ⟨NB, hNB⟩ : ∃ N, N = (x0.rules ++ [x1]).length := ⟨_, rfl⟩
  change Hid (∀ W', Calls _ _ _ _ fun e w' => (∃ (a : Option Addr) (c : Nat), e = .returned (.tuple #[pnv ({ x0 with rules := x0.rules ++ [x1] } : Pn) (.slice a (x0.rules ++ [x1]).length c), .agg #[.int .i64 0, .int .i64 0]]) ∧ RusAt All w' (.slice a (x0.rules ++ [x1]).length c) (x0.rules ++ [x1])) ∧ _) at HPs
  rw [← hNB] at HPs
  clear hNB
  go_upto_region 13 with fail
  have hj := HJ.out
  have hsz := HSZ.out
  have hn : ¬ (S1.size : Int) < (S2.size : Int) := by omega
  have hn2 : S2.size ≤ S1.size := by omega
  go_wp2_with fail
  go_at_call 10
  refine (HPs.out _).mono ?_
  rintro x w14 ⟨⟨a', c', rfl, hr⟩, hb14⟩
  obtain ⟨hb15, hp15, hf15⟩ := box_pf w14 (.int .i64 x0.mode) (.int .i64 x0.indDed) (.int .i64 x0.famDed) (.int .i64 x0.indOop) (.int .i64 x0.famOop) (.slice a' NB c') (.int .i64 0) (.int .i64 0)
  have HD4 := Lib.hid (below_trans HD3.out (below_trans hb14 hb15))
  have HQ15 := Lib.hid (hr.grw hb15)
  have HP15 := Lib.hid hp15
  have HF15 := Lib.hid hf15
  have HBX4 := Lib.hid (keepB HBX3.out HD4.out)
  have HU4 := Lib.hid (HU0.out _ HD4.out)
  have HBo4 := Lib.hid (HBoth.out _ HD4.out)
  clear hb14 hb15 hp15 hf15 hr HPs hj hsz hn hn2 z0' z1' z2' HSZ HJ HD1 HD2 HD3 HBoth HU0 HU2
  go_upto_region 14 with fail
  generalize (w14.alloc (.cells #[.int .i64 x0.mode, .int .i64 x0.indDed, .int .i64 x0.famDed, .int .i64 x0.indOop, .int .i64 x0.famOop, .slice a' NB c'] 24)).alloc (.cells #[.int .i64 0, .int .i64 0] 38) = w15 at *
  generalize hq4 : w14.heap.size = q4 at *
  obtain ⟨q5, hq5⟩ : ∃ q5, q5 = q4 + 1 := ⟨_, rfl⟩
  rw [← hq5] at HF15 ⊢
  clear hq4 hq5
  obtain ⟨p0a, p1a, p2a, p3a, p4a, p5a⟩ := bsix HBX4.out
  obtain ⟨g0, g1', g2, g3, g4, g5⟩ := bsix HP15.out
  obtain ⟨y0, y1⟩ := pair_cells HF15.out
  have HS5 := Lib.hid (HSm.out _ _ _ HQ15.out HBo4.out)
  go_wp2_with (first | (go_at_call 11; refine HS5.out.mono ?_; rintro x w16 ⟨rfl, hb16⟩; have HB16 := Lib.hid (below_tr hp HU4.out hb16); clear hb16) | (go_at_call 6; refine (HWK.out _ HB16.out).mono ?_; rintro x w17 ⟨rfl, hb17⟩; have HB17 := Lib.hid (below_tr hp HB16.out hb17); clear hb17))
  go_ret
  exact ⟨rfl, by first | exact HB17.out | (rw [hp]; exact HB17.out)⟩

/-! ### the row's step -/
theorem laidOut : laidOutB Tryz.prog = true := by kernel_rfl
set_option maxRecDepth 100000 in
theorem lifted (os : Os) (started : os.Started) (H : Type) (enc : TypeId × Value → H) :
    ReturnsInHanded {} Tryz.checked os 4 .any (fun w args => (Rows.planJoinsSpec.pre enc Tryz.prog Tryz.f4 [] false w args ∧ laidMetH Tryz.prog laidL w) ∧ sizedMet enc Tryz.prog Tryz.f4 (OpenSpec.ofChange Rows.planJoinsSpec) false w args) (Rows.planJoinsSpec.post enc Tryz.prog Tryz.f4 false true false false) := by
  refine lift own started (by kernel_rfl) Tryz.func4
    (ChangeSpec.witness_shaped (enc := enc) (C := Tryz.checked) (os := os) (X := fun w _ => laidMetH Tryz.prog laidL w) false (World.laidAll Tryz.prog os laidL) #[.agg #[.int .i64 0, .int .i64 0, .int .i64 0, .int .i64 0, .int .i64 0, .slice none 0 0], .agg #[.int .i64 0, .int .i64 0, .string ByteArray.empty, .string ByteArray.empty, .int .i64 0, .slice none 0 0, .slice none 0 0, .slice none 0 0]] 8 (World.laidAll_os _ _ _)
      (World.shaped_of_ZipB (by kernel_rfl) (by kernel_rfl)) (by kernel_rfl) (by kernel_rfl) (by kernel_rfl)
      (by rw [MakeChecks.laidMetH_plain _ _ _ (by kernel_rfl)]; exact laidMet_laidAll _ (by kernel_rfl) (by kernel_rfl))) ?_
  intro W base args ds gs before hval0 hW hwt hT
  have hval : ∀ (j : Nat) t v, Tryz.f4.params[j]? = some t → args[j]? = some v → Value.okWide Tryz.prog W .any base t v := hval0
  have hW' := hW
  obtain ⟨p, q, hA0, hV, rfl, hfz, hnd⟩ := hW
  have hA : DataW.TrodAll enc Tryz.prog W 0 (fun _ => true) true Tryz.f4.params.toList args.toList ds p := hA0
  rw [Tryz.params4] at hA hval hwt
  obtain ⟨v0, vs0, d0, ds0, p0, q0, hargs, rfl, rfl, h0, r0⟩ := trodAll_cons hA
  obtain ⟨v1, vs1, d1, ds1, p1, q1, rfl, rfl, rfl, h1, r1⟩ := trodAll_cons r0
  obtain ⟨rfl, rfl, rfl⟩ := trodAll_nil r1
  obtain rfl : args = #[v0, v1] := by cases args; simp_all
  obtain ⟨rfl, rfl⟩ := trodVars_none hV
  have hwl : ∀ z, (z ∈ d0.weights Tryz.prog 24 → z ≤ reachBytes) ∧ (z ∈ d1.weights Tryz.prog 35 → z ≤ reachBytes) := fun z => by
    have h := List.all_eq_true.1 hwt z
    simp only [decide_eq_true_eq] at h
    refine ⟨fun hz => h ?_, fun hz => h ?_⟩
    all_goals
      simp only [List.cons_append, List.nil_append, List.toList_toArray, List.append_nil, DataW.weightsEach, List.mem_append]
      simp [hz]
  have k0 := h0
  have lt0 : ∀ x ∈ p0, x.block < W.heap.size := by obtain ⟨m, hm⟩ := k0; exact DataW.trod_lt m _ _ _ hm
  obtain ⟨x0, m0, rfl, g0, z0⟩ := open_plan (hval 0 24 v0 rfl rfl) h0 (fun z hz => (hwl z).1 hz)
  have k1 := h1
  have lt1 : ∀ x ∈ p1, x.block < W.heap.size := by obtain ⟨m, hm⟩ := k1; exact DataW.trod_lt m _ _ _ hm
  obtain ⟨x1, kk1, uu1, ss1, rfl, g1⟩ := open_rule (hval 1 35 v1 rfl rfl) h1 (fun z hz => (hwl z).2 hz)
  clear hA0 hval0
  refine (walk W x0 m0 g0 z0 x1 kk1 uu1 ss1 g1 hT).mono fun e W' ⟨he, bel⟩ => ?_
  subst he
  exact ⟨_, rfl, _, _, _, [], _, [], hW', (trodAll_cons_mk (shut_bool Tryz.underlying4 _) trodAll_mk0), (trodAll_cons_mk (Below.trod laidOut (by kernel_rfl) (of_decide_eq_true (by kernel_rfl)) k0 bel lt0) (trodAll_cons_mk (Below.trod laidOut (by kernel_rfl) (of_decide_eq_true (by kernel_rfl)) k1 bel lt1) trodAll_mk0)), rfl, bel.frame _, fun h => by cases h⟩

theorem over : Rows.planJoinsRow.holds Tryz.pinned (OpenSpec.ofChange Rows.planJoinsSpec) :=
  OpenClaim.holds_of_wide 4 Tryz.f4 rfl rfl rfl rfl rfl rfl rfl ⟨rfl, rfl, rfl, rfl, rfl⟩ rfl rfl rfl rfl rfl (by kernel_rfl) Tryz.func4 (by kernel_rfl)
    (of_decide_eq_true (by kernel_rfl)) (by unfold Func.isWrapper; first | (rw [if_pos (by decide +kernel)]; kernel_rfl) | (rw [if_neg (by decide +kernel)]; exact ⟨rfl, rfl⟩))
    (fun os started H enc _ => lifted os started H enc)

/-- The row's statement. -/
theorem proved : Rows.PlanJoinsSaid := over
end Go.Proofs.YtoibhgoaibjopaaGreatDoor.planJoins
namespace Go.Proofs.YtoibhgoaibjopaaGreatDoor
theorem planJoins_holds : Rows.PlanJoinsCardSaid :=
  Claim7.holds_tied_plain_at .later [] [.data, .data, .data] true (true, "5fa3567b00d2522b7f41859687579a05d72e1abf6b5d4ea5e4abd50f9cf896ad") true
    planJoins.proved (fun _ h => by cases h) (by kernel_rfl) (fun _ h => by cases h) planJoins_row_tie rfl ⟨rfl, rfl⟩ (by kernel_rfl) rfl
    (fun f fn hf hfn => by
      obtain rfl : f = 4 := Option.some.inj ((show Tryz.prog.funcNamed "leechbook/leechbooklaw10.PlanJoins" = some 4 by kernel_rfl).symm.trans hf) |>.symm
      obtain rfl : fn = Tryz.f4 := (Option.some.inj (Tryz.func4.symm.trans hfn)).symm
      exact ⟨by kernel_rfl, fun j t ht => by
        rw [Tryz.params4] at ht
        have hm : t ∈ [24, 35] := by simpa using Array.mem_of_getElem? ht
        have hall : ([24, 35].all fun u => !Tryz.prog.wantsStandIn u) = true := by kernel_rfl
        exact (show Tryz.prog.wantsStandIn t = false by simpa using List.all_eq_true.1 hall t hm)⟩)
    (by kernel_rfl)
#print axioms planJoins_holds
end Go.Proofs.YtoibhgoaibjopaaGreatDoor
