/-
  RulesExcept holds for every rule, service and number: a rule with an exception that always holds is as none; one with the exception turned round holds just where both do.
-/
import Derived.Test.YtbokhiaiihpeeaaRows
import Derived.WalkKit
import Derived.ProofKit
import Derived.OpenShut
import Derived.ShutString
import Derived.Below
import Derived.Carry
import Derived.Laws.Cover2
import Derived.HandedShaped
import Derived.Test.YtbokhiaiihpeeaaURow
import Derived.Test.YtbokhiaiihpeeaaRInv
import Derived.Test.YtbokhiaiihpeeaaPOpen
import Derived.Test.YtbokhiaiihpeeaaULine
namespace Go.Proofs.Ytbokhiaiihpeeaa.rulesExcept
open Go.ChangeShapes Go.WideShapes Go.ChangeAt Go.RowKit
open Pl (Cd St Ru Pn KsAt StsAt RusAt RuIn Ok1 cdv stv ruv pnv below_alloc below_trans bfive bsix beight below_tr)
open Wo (box_cell box_two keepB heap_far)
open Cm (Ln)
open Ul
set_option linter.unusedVariables false
set_option linter.unusedSimpArgs false
set_option maxRecDepth 100000

theorem own : ownKnob Try.prog.godebug = none := by kernel_rfl

/-! ### the walk: the law returns true -/
set_option maxHeartbeats 16000000 in
theorem walk (w : World) (x0 : Ru) (k0 u0 s0 : Value) (h0 : RuIn All w x0 k0 u0 s0) (x1 : Ln) (m1 : Value) (h1 : TxAt All w m1 x1.mods) (a2 : Int) (z2 : Cm.I64 a2) :
    Calls Try.prog 8 #[ruv x0 k0 u0 s0, lnv x1 m1, .int .i64 a2] w fun e w' => e = .returned (.bool true) ∧ Below w.heap.size w w' := by
  obtain ⟨hb, hz1, hz2⟩ := box_rl w x0 k0 u0 s0 x1 m1
  have HB := Lib.hid hb
  have HX := Lib.hid hz1
  have HL := Lib.hid hz2
  have HIn := Lib.hid (h0.move (Below.moves hb))
  have HM := Lib.hid (tx_grw h1 hb)
  obtain ⟨hr0, hr1, hr2, hk, hu, hs⟩ := h0
  obtain ⟨ka, kc, rfl, -, -⟩ := hk.form
  obtain ⟨ua, uc, rfl, hu1, hu2⟩ := hu.form
  obtain ⟨sa, sc, rfl, -, -, -⟩ := hs.form
  obtain ⟨la, lk, rfl, hl1, hl2⟩ := tx_form h1
  have hr2 : x0.unl.length ≤ 281474976710656 := hr2
  clear hr0 hr1 hk hu hs h1 hb hz1 hz2
  go_enter Try.func8, Try.ntmps8
  go_upto_region 1 with fail
  generalize (w.alloc (.cells #[.int .i64 x0.rank, .int .i64 x0.cif.kind, .string (mk x0.cif.lo), .string (mk x0.cif.hi), .int .i64 x0.cif.n, .slice ka x0.cif.kids.length kc, .slice ua x0.unl.length uc, .slice sa x0.sets.length sc] 27)).alloc (.cells #[.string (mk x1.proc), .slice la x1.mods.length lk, .int .i64 x1.date, .int .i64 x1.units, .int .i64 x1.billed, .int .i64 x1.prior] 30) = W at *
  generalize hp : w.heap.size = p0 at *
  obtain ⟨q1, hq1⟩ : ∃ q1, q1 = p0 + 1 := ⟨_, rfl⟩
  rw [← hq1] at HL ⊢
  clear hq1
  have hbz := below_alloc W (.cells #[.int .i64 x0.rank, .int .i64 x0.cif.kind, .string (mk x0.cif.lo), .string (mk x0.cif.hi), .int .i64 x0.cif.n, .slice ka x0.cif.kids.length kc, .slice ua x0.unl.length uc, .slice sa x0.sets.length sc] 27)
  have HZ := heap_alloc_new W (.cells #[.int .i64 x0.rank, .int .i64 x0.cif.kind, .string (mk x0.cif.lo), .string (mk x0.cif.hi), .int .i64 x0.cif.n, .slice ka x0.cif.kids.length kc, .slice ua x0.unl.length uc, .slice sa x0.sets.length sc] 27)
  have HLt := Lib.hid (light_any ⟨0, 0, 0, 0, 0, [x0]⟩ (.slice (some ⟨W.heap.size, 0, none⟩) 1 1) x1 _ _ (rus_one HZ (HIn.out.move (Below.moves hbz))) (tx_grw HM.out hbz))
  have HBz := Lib.hid hbz
  have HLz := Lib.hid (bsix (keepB HL.out hbz))
  clear HZ hbz
  obtain ⟨z0, z1, z2, z3, z4, z5, z6, z7⟩ := beight HX.out
  obtain ⟨y0', y1', y2', y3', y4', y5'⟩ := bsix HL.out
  obtain ⟨t0, t1, t2, t3, t4, t5⟩ := HLz.out
  go_wp2_with fail
  go_at_call 9
  refine HLt.out.mono ?_
  rintro e w1 ⟨⟨bl, rfl, hbl⟩, hb1⟩
  have hb1 := below_trans HBz.out hb1
  have HB1 := Lib.hid (below_tr hp HB.out hb1)
  have HX1 := Lib.hid (keepB HX.out hb1)
  have HL1 := Lib.hid (keepB HL.out hb1)
  have HIn1 := Lib.hid (HIn.out.move (Below.moves hb1))
  have HM1 := Lib.hid (tx_grw HM.out hb1)
  clear hb1 hbl HB HX HL HIn HM HLt HBz HLz z0 z1 z2 z3 z4 z5 z6 z7 y0' y1' y2' y3' y4' y5' t0 t1 t2 t3 t4 t5
  obtain ⟨z0, z1, z2, z3, z4, z5, z6, z7⟩ := beight HX1.out
  obtain ⟨y0', y1', y2', y3', y4', y5'⟩ := bsix HL1.out
  cases bl
  · skip
    go_wp2_with (go_at_call 10; refine (works_any _).mono ?_; rintro e w9 ⟨rfl, hb9⟩; have HB9 := Lib.hid (below_tr hp HB1.out hb9); clear hb9)
    go_ret
    exact ⟨rfl, by first | exact HB9.out | (rw [hp]; exact HB9.out)⟩
  · have hbase : ∃ z : Nat, z = w1.heap.size := ⟨_, rfl⟩
    have ba := below_alloc w1 (.cells #[.int .i64 0, .string ⟨#[]⟩, .string ⟨#[]⟩, .int .i64 0, .slice none 0 0] 24)
    have bb := below_alloc (w1.alloc (.cells #[.int .i64 0, .string ⟨#[]⟩, .string ⟨#[]⟩, .int .i64 0, .slice none 0 0] 24)) (.cells #[.int .i64 x0.rank, .int .i64 x0.cif.kind, .string (mk x0.cif.lo), .string (mk x0.cif.hi), .int .i64 x0.cif.n, .slice ka x0.cif.kids.length kc, .slice (some ⟨w1.heap.size, 0, none⟩) 1 1, .slice sa x0.sets.length sc] 27)
    have hb2 := below_trans ba bb
    have za := keepB (heap_alloc_new w1 (.cells #[.int .i64 0, .string ⟨#[]⟩, .string ⟨#[]⟩, .int .i64 0, .slice none 0 0] 24)) bb
    have zb := heap_alloc_new (w1.alloc (.cells #[.int .i64 0, .string ⟨#[]⟩, .string ⟨#[]⟩, .int .i64 0, .slice none 0 0] 24)) (.cells #[.int .i64 x0.rank, .int .i64 x0.cif.kind, .string (mk x0.cif.lo), .string (mk x0.cif.hi), .int .i64 x0.cif.n, .slice ka x0.cif.kids.length kc, .slice (some ⟨w1.heap.size, 0, none⟩) 1 1, .slice sa x0.sets.length sc] 27)
    rw [show (w1.alloc (.cells #[.int .i64 0, .string ⟨#[]⟩, .string ⟨#[]⟩, .int .i64 0, .slice none 0 0] 24)).heap.size = w1.heap.size + 1 by simp] at zb
    obtain ⟨t0, t1, t2, t3, t4, t5, t6, t7⟩ := beight (keepB HX1.out ba)
    have HIn2 := HIn1.out.move (Below.moves hb2)
    have HA := Lib.hid (app_any x1 a2 _ ⟨x0.rank, x0.cif, [⟨0, [], [], 0, []⟩], x0.sets⟩ _ (.slice (some ⟨w1.heap.size, 0, none⟩) 1 1) _ ((w1.alloc (.cells #[.int .i64 0, .string ⟨#[]⟩, .string ⟨#[]⟩, .int .i64 0, .slice none 0 0] 24)).alloc (.cells #[.int .i64 x0.rank, .int .i64 x0.cif.kind, .string (mk x0.cif.lo), .string (mk x0.cif.hi), .int .i64 x0.cif.n, .slice ka x0.cif.kids.length kc, .slice (some ⟨w1.heap.size, 0, none⟩) 1 1, .slice sa x0.sets.length sc] 27)) ⟨HIn2.1, HIn2.2.1, by unfold Pl.Big; simp, HIn2.2.2.2.1, ks_one (c := ⟨0, [], [], 0, []⟩) za (KsAt.nil _ _) ⟨by unfold Cm.I64; decide, by unfold Cm.I64; decide, by decide, by decide, by decide⟩, HIn2.2.2.2.2.2⟩ (tx_grw HM1.out hb2))
    rw [app_never] at HA
    have HBn := Lib.hid (below_tr hp HB1.out hb2)
    have HXn := Lib.hid (keepB HX1.out hb2)
    have HLn := Lib.hid (keepB HL1.out hb2)
    have HInn := Lib.hid HIn2
    have HMn := Lib.hid (tx_grw HM1.out hb2)
    have HZn := Lib.hid zb
    clear ba bb hb2 za zb HIn2 hbase HB1 HX1 HL1 HIn1 HM1
    go_upto_region 4 with fail
    clear z0 z1 z2 z3 z4 z5 z6 z7 y0' y1' y2' y3' y4' y5' t0 t1 t2 t3 t4 t5 t6 t7
    generalize (w1.alloc (.cells #[.int .i64 0, .string ⟨#[]⟩, .string ⟨#[]⟩, .int .i64 0, .slice none 0 0] 24)).alloc (.cells #[.int .i64 x0.rank, .int .i64 x0.cif.kind, .string (mk x0.cif.lo), .string (mk x0.cif.hi), .int .i64 x0.cif.n, .slice ka x0.cif.kids.length kc, .slice (some ⟨w1.heap.size, 0, none⟩) 1 1, .slice sa x0.sets.length sc] 27) = W3 at *
    generalize w1.heap.size + 1 = nb at *
    generalize w1.heap.size = cb at *
    obtain ⟨z0, z1, z2, z3, z4, z5, z6, z7⟩ := beight HZn.out
    obtain ⟨y0', y1', y2', y3', y4', y5'⟩ := bsix HLn.out
    go_wp2_with fail
    go_at_call 13
    refine HA.out.mono ?_
    rintro e w2 ⟨rfl, hb3⟩
    have HB2 := Lib.hid (below_tr hp HBn.out hb3)
    have HX2 := Lib.hid (keepB HXn.out hb3)
    have HL2 := Lib.hid (keepB HLn.out hb3)
    have HIn2 := Lib.hid (HInn.out.move (Below.moves hb3))
    have HM2 := Lib.hid (tx_grw HMn.out hb3)
    clear hb3 HA HBn HXn HLn HInn HMn HZn z0 z1 z2 z3 z4 z5 z6 z7 y0' y1' y2' y3' y4' y5'
    obtain ⟨z0, z1, z2, z3, z4, z5, z6, z7⟩ := beight HX2.out
    obtain ⟨y0', y1', y2', y3', y4', y5'⟩ := bsix HL2.out
    generalize hnu : x0.unl.length = nu at *
    have HNU := Lib.hid hnu
    clear hnu
    by_cases hone : nu = 1
    case neg =>
      have bn : ((nu : Int) != 1) = true := by simp; omega
      clear hone
      go_wp2_with (go_at_call 10; refine (works_any _).mono ?_; rintro e w9 ⟨rfl, hb9⟩; have HB9 := Lib.hid (below_tr hp HB2.out hb9); clear hb9)
      go_ret
      exact ⟨rfl, by first | exact HB9.out | (rw [hp]; exact HB9.out)⟩
    subst hone
    have HPU : Hid (0 < x0.unl.length) := by have := HNU.out; show 0 < _; omega
    obtain ⟨b, o, mv, rfl, hbs, hxx, hcc, hkk, hok⟩ := KsAt.get HIn2.out.2.2.2.2.1 0 HPU.out
    have HKD := Lib.hid (kid_some x1 a2 x0.unl 0 _ hxx)
    have hc6 : Ok1 ⟨6, [], [], 0, x0.unl⟩ := ⟨by show Cm.I64 6; unfold Cm.I64; decide, by show Cm.I64 0; unfold Cm.I64; decide, Nat.zero_le _, Nat.zero_le _, by show x0.unl.length ≤ _; rw [HNU.out]; unfold Pl.Big; omega⟩
    have ba := below_alloc w2 (.cells #[.int .i64 6, .string ⟨#[]⟩, .string ⟨#[]⟩, .int .i64 0, .slice (some ⟨b, o, none⟩) 1 uc] 24)
    have bb := below_alloc (w2.alloc (.cells #[.int .i64 6, .string ⟨#[]⟩, .string ⟨#[]⟩, .int .i64 0, .slice (some ⟨b, o, none⟩) 1 uc] 24)) (.cells #[.int .i64 0, .int .i64 x0.cif.kind, .string (mk x0.cif.lo), .string (mk x0.cif.hi), .int .i64 x0.cif.n, .slice ka x0.cif.kids.length kc, .slice (some ⟨w2.heap.size, 0, none⟩) 1 1, .slice none 0 0] 27)
    have hb2 := below_trans ba bb
    have za := keepB (heap_alloc_new w2 (.cells #[.int .i64 6, .string ⟨#[]⟩, .string ⟨#[]⟩, .int .i64 0, .slice (some ⟨b, o, none⟩) 1 uc] 24)) bb
    have zb := heap_alloc_new (w2.alloc (.cells #[.int .i64 6, .string ⟨#[]⟩, .string ⟨#[]⟩, .int .i64 0, .slice (some ⟨b, o, none⟩) 1 uc] 24)) (.cells #[.int .i64 0, .int .i64 x0.cif.kind, .string (mk x0.cif.lo), .string (mk x0.cif.hi), .int .i64 x0.cif.n, .slice ka x0.cif.kids.length kc, .slice (some ⟨w2.heap.size, 0, none⟩) 1 1, .slice none 0 0] 27)
    rw [show (w2.alloc (.cells #[.int .i64 6, .string ⟨#[]⟩, .string ⟨#[]⟩, .int .i64 0, .slice (some ⟨b, o, none⟩) 1 uc] 24)).heap.size = w2.heap.size + 1 by simp] at zb
    have HIn3 := HIn2.out.move (Below.moves hb2)
    have HA := Lib.hid fun W' (hW : Below ((w2.alloc (.cells #[.int .i64 6, .string ⟨#[]⟩, .string ⟨#[]⟩, .int .i64 0, .slice (some ⟨b, o, none⟩) 1 uc] 24)).alloc (.cells #[.int .i64 0, .int .i64 x0.cif.kind, .string (mk x0.cif.lo), .string (mk x0.cif.hi), .int .i64 x0.cif.n, .slice ka x0.cif.kids.length kc, .slice (some ⟨w2.heap.size, 0, none⟩) 1 1, .slice none 0 0] 27)).heap.size ((w2.alloc (.cells #[.int .i64 6, .string ⟨#[]⟩, .string ⟨#[]⟩, .int .i64 0, .slice (some ⟨b, o, none⟩) 1 uc] 24)).alloc (.cells #[.int .i64 0, .int .i64 x0.cif.kind, .string (mk x0.cif.lo), .string (mk x0.cif.hi), .int .i64 x0.cif.n, .slice ka x0.cif.kids.length kc, .slice (some ⟨w2.heap.size, 0, none⟩) 1 1, .slice none 0 0] 27)) W') => app_any x1 a2 _ ⟨0, x0.cif, [⟨6, [], [], 0, x0.unl⟩], []⟩ _ (.slice (some ⟨w2.heap.size, 0, none⟩) 1 1) (.slice none 0 0) W' (RuIn.move (w := (w2.alloc (.cells #[.int .i64 6, .string ⟨#[]⟩, .string ⟨#[]⟩, .int .i64 0, .slice (some ⟨b, o, none⟩) 1 uc] 24)).alloc (.cells #[.int .i64 0, .int .i64 x0.cif.kind, .string (mk x0.cif.lo), .string (mk x0.cif.hi), .int .i64 x0.cif.n, .slice ka x0.cif.kids.length kc, .slice (some ⟨w2.heap.size, 0, none⟩) 1 1, .slice none 0 0] 27)) ⟨by show Cm.I64 0; unfold Cm.I64; decide, HIn3.2.1, by unfold Pl.Big; simp, HIn3.2.2.2.1, ks_one (c := ⟨6, [], [], 0, x0.unl⟩) za HIn3.2.2.2.2.1 hc6, StsAt.nil _ _⟩ (Below.moves hW)) (tx_grw HM2.out (below_trans hb2 hW))
    rw [app_turned, HKD.out] at HA
    have HH := Lib.hid fun W' (hW : Below ((w2.alloc (.cells #[.int .i64 6, .string ⟨#[]⟩, .string ⟨#[]⟩, .int .i64 0, .slice (some ⟨b, o, none⟩) 1 uc] 24)).alloc (.cells #[.int .i64 0, .int .i64 x0.cif.kind, .string (mk x0.cif.lo), .string (mk x0.cif.hi), .int .i64 x0.cif.n, .slice ka x0.cif.kids.length kc, .slice (some ⟨w2.heap.size, 0, none⟩) 1 1, .slice none 0 0] 27)).heap.size ((w2.alloc (.cells #[.int .i64 6, .string ⟨#[]⟩, .string ⟨#[]⟩, .int .i64 0, .slice (some ⟨b, o, none⟩) 1 uc] 24)).alloc (.cells #[.int .i64 0, .int .i64 x0.cif.kind, .string (mk x0.cif.lo), .string (mk x0.cif.hi), .int .i64 x0.cif.n, .slice ka x0.cif.kids.length kc, .slice (some ⟨w2.heap.size, 0, none⟩) 1 1, .slice none 0 0] 27)) W') => hold_any x1 a2 _ _ x0.cif (Nat.lt_succ_self _) _ W' ((HIn3.move (Below.moves hW)).2.2.2.1) (tx_grw HM2.out (below_trans hb2 hW))
    have HG := Lib.hid fun W' (hW : Below ((w2.alloc (.cells #[.int .i64 6, .string ⟨#[]⟩, .string ⟨#[]⟩, .int .i64 0, .slice (some ⟨b, o, none⟩) 1 uc] 24)).alloc (.cells #[.int .i64 0, .int .i64 x0.cif.kind, .string (mk x0.cif.lo), .string (mk x0.cif.hi), .int .i64 x0.cif.n, .slice ka x0.cif.kids.length kc, .slice (some ⟨w2.heap.size, 0, none⟩) 1 1, .slice none 0 0] 27)).heap.size ((w2.alloc (.cells #[.int .i64 6, .string ⟨#[]⟩, .string ⟨#[]⟩, .int .i64 0, .slice (some ⟨b, o, none⟩) 1 uc] 24)).alloc (.cells #[.int .i64 0, .int .i64 x0.cif.kind, .string (mk x0.cif.lo), .string (mk x0.cif.hi), .int .i64 x0.cif.n, .slice ka x0.cif.kids.length kc, .slice (some ⟨w2.heap.size, 0, none⟩) 1 1, .slice none 0 0] 27)) W') => hold_any x1 a2 _ _ (x0.unl[0]'HPU.out) (Nat.lt_succ_self _) _ W' (hkk.grw (below_trans hb2 hW)) (tx_grw HM2.out (below_trans hb2 hW))
    have HXK := Lib.hid fun W' (hW : Below ((w2.alloc (.cells #[.int .i64 6, .string ⟨#[]⟩, .string ⟨#[]⟩, .int .i64 0, .slice (some ⟨b, o, none⟩) 1 uc] 24)).alloc (.cells #[.int .i64 0, .int .i64 x0.cif.kind, .string (mk x0.cif.lo), .string (mk x0.cif.hi), .int .i64 x0.cif.n, .slice ka x0.cif.kids.length kc, .slice (some ⟨w2.heap.size, 0, none⟩) 1 1, .slice none 0 0] 27)).heap.size ((w2.alloc (.cells #[.int .i64 6, .string ⟨#[]⟩, .string ⟨#[]⟩, .int .i64 0, .slice (some ⟨b, o, none⟩) 1 uc] 24)).alloc (.cells #[.int .i64 0, .int .i64 x0.cif.kind, .string (mk x0.cif.lo), .string (mk x0.cif.hi), .int .i64 x0.cif.n, .slice ka x0.cif.kids.length kc, .slice (some ⟨w2.heap.size, 0, none⟩) 1 1, .slice none 0 0] 27)) W') => And.intro (And.intro (beight (keepB HX2.out (below_trans hb2 hW))) (bsix (keepB HL2.out (below_trans hb2 hW)))) (And.intro (hcc.of ((below_trans hb2 hW).block b hbs)) (beight (keepB zb hW)))
    obtain ⟨va, vc, rfl, -, -⟩ := hkk.form
    have HBt := Lib.hid (below_tr hp HB2.out hb2)
    unfold HoldsC at HH HG
    unfold Pl.CdCells at HXK
    clear ba bb hb2 za zb HIn3 HB2 HX2 HL2 HIn2 HM2 hkk hok hcc hbs hxx HKD hc6
    go_upto_region 9 with fail
    clear z0 z1 z2 z3 z4 z5 z6 z7 y0' y1' y2' y3' y4' y5'
    generalize (w2.alloc (.cells #[.int .i64 6, .string ⟨#[]⟩, .string ⟨#[]⟩, .int .i64 0, .slice (some ⟨b, o, none⟩) 1 uc] 24)).alloc (.cells #[.int .i64 0, .int .i64 x0.cif.kind, .string (mk x0.cif.lo), .string (mk x0.cif.hi), .int .i64 x0.cif.n, .slice ka x0.cif.kids.length kc, .slice (some ⟨w2.heap.size, 0, none⟩) 1 1, .slice none 0 0] 27) = W4 at *
    generalize w2.heap.size + 1 = tb at *
    generalize w2.heap.size = cb at *
    generalize x0.unl[0]'HPU.out = kd at *
    have HD := Lib.hid (Below.drew (Below.refl W4.heap.size W4))
    cases hB1 : holdsB x1 a2 x0.cif
    · rw [hB1] at HH HA
      clear hB1
      go_cut [9] (fun s wx => s = .bool false ∧ Hid (Below W4.heap.size W4 wx))
      case first =>
        refine Ri.wp_region_lasting_g (by kernel_rfl) (by kernel_rfl) (by kernel_rfl) (fun Wx => Below W4.heap.size W4 Wx) (fun kz vs wz => (fun kx vx wx => match kx with | 0 => vx = .pointer (some ⟨p0, 1, none⟩) | 1 => vx = cdv x0.cif (.slice ka x0.cif.kids.length kc) | 2 => vx = lnv x1 (.slice la x1.mods.length lk) | 3 => vx = .int .i64 a2 | 4 => vx = .bool false | 5 => vx = .bool false | 6 => True | 7 => True | 8 => True | 9 => True | 10 => True | 11 => True | 12 => True | 13 => vx = .bool false | 14 => vx = .bool false | _ => True : Nat → Value → World → Prop) kz (vs kz) wz) (fun kz => [kz]) (by kernel_rfl) (fun jz vs iz vz wz hiz hz => Ri.loc_own (F := (fun kx vx wx => match kx with | 0 => vx = .pointer (some ⟨p0, 1, none⟩) | 1 => vx = cdv x0.cif (.slice ka x0.cif.kids.length kc) | 2 => vx = lnv x1 (.slice la x1.mods.length lk) | 3 => vx = .int .i64 a2 | 4 => vx = .bool false | 5 => vx = .bool false | 6 => True | 7 => True | 8 => True | 9 => True | 10 => True | 11 => True | 12 => True | 13 => vx = .bool false | 14 => vx = .bool false | _ => True : Nat → Value → World → Prop)) jz vs iz vz wz hiz hz) HD.out ⟨Or.inl ⟨rfl, ?_⟩, Or.inl ⟨rfl, ?_⟩, Or.inl ⟨rfl, ?_⟩, Or.inl ⟨rfl, ?_⟩, Or.inl ⟨rfl, ?_⟩, Or.inl ⟨rfl, ?_⟩, Or.inr ⟨5, true, 47, rfl, rfl, ?_⟩, Or.inr ⟨5, true, 47, rfl, rfl, ?_⟩, Or.inr ⟨5, true, 47, rfl, rfl, ?_⟩, Or.inr ⟨5, true, 47, rfl, rfl, ?_⟩, Or.inr ⟨5, true, 47, rfl, rfl, ?_⟩, Or.inr ⟨5, true, 47, rfl, rfl, ?_⟩, Or.inr ⟨5, true, 47, rfl, rfl, ?_⟩, Or.inl ⟨rfl, ?_⟩, Or.inl ⟨rfl, ?_⟩, trivial⟩ ?_
        · intro vs Wx A hA hB hpre K hK
          have e3 := (hA 3).trans (show _ = Value.pointer (some ⟨p0, 0, none⟩) by kernel_rfl)
          clear hA hpre
          go_simp
          first | exact hK _ _ hB rfl (fun _ _ h => h) | exact hK _ _ hB trivial (fun _ _ h => h) | (rw [if_neg (by omega)]; go_simp; exact hK _ _ hB rfl (fun _ _ h => h))
        · intro vs Wx A hA hB hpre K hK
          have e42 := ((hA 42).trans (show _ = vs 0 by kernel_rfl)).trans (by first | exact hpre.1 rfl | exact hpre.2.1 rfl | exact hpre.2.2.1 rfl | exact hpre.2.2.2.1 rfl | exact hpre.2.2.2.2.1 rfl | exact hpre.2.2.2.2.2.1 rfl | exact hpre.2.2.2.2.2.2.1 rfl | exact hpre.2.2.2.2.2.2.2.1 rfl | exact hpre.2.2.2.2.2.2.2.2.1 rfl | exact hpre.2.2.2.2.2.2.2.2.2.1 rfl)
          obtain ⟨⟨⟨z0, z1, z2, z3, z4, z5, z6, z7⟩, ⟨y0', y1', y2', y3', y4', y5'⟩⟩, ⟨d0, d1, d2, d3, d4⟩, -⟩ := HXK.out Wx hB
          simp only [Nat.zero_mul, Nat.add_zero] at d0 d1 d2 d3 d4
          clear hA hpre
          go_simp
          first | exact hK _ _ hB rfl (fun _ _ h => h) | exact hK _ _ hB trivial (fun _ _ h => h) | (rw [if_neg (by omega)]; go_simp; exact hK _ _ hB rfl (fun _ _ h => h))
        · intro vs Wx A hA hB hpre K hK
          have e4 := (hA 4).trans (show _ = Value.pointer (some ⟨q1, 0, none⟩) by kernel_rfl)
          obtain ⟨⟨⟨z0, z1, z2, z3, z4, z5, z6, z7⟩, ⟨y0', y1', y2', y3', y4', y5'⟩⟩, ⟨d0, d1, d2, d3, d4⟩, -⟩ := HXK.out Wx hB
          simp only [Nat.zero_mul, Nat.add_zero] at d0 d1 d2 d3 d4
          clear hA hpre
          go_simp
          first | exact hK _ _ hB rfl (fun _ _ h => h) | exact hK _ _ hB trivial (fun _ _ h => h) | (rw [if_neg (by omega)]; go_simp; exact hK _ _ hB rfl (fun _ _ h => h))
        · intro vs Wx A hA hB hpre K hK
          have e2 := (hA 2).trans (show _ = Value.int .i64 a2 by kernel_rfl)
          clear hA hpre
          go_simp
          first | exact hK _ _ hB rfl (fun _ _ h => h) | exact hK _ _ hB trivial (fun _ _ h => h) | (rw [if_neg (by omega)]; go_simp; exact hK _ _ hB rfl (fun _ _ h => h))
        · intro vs Wx A hA hB hpre K hK
          have e43 := ((hA 43).trans (show _ = vs 1 by kernel_rfl)).trans (by first | exact hpre.1 rfl | exact hpre.2.1 rfl | exact hpre.2.2.1 rfl | exact hpre.2.2.2.1 rfl | exact hpre.2.2.2.2.1 rfl | exact hpre.2.2.2.2.2.1 rfl | exact hpre.2.2.2.2.2.2.1 rfl | exact hpre.2.2.2.2.2.2.2.1 rfl | exact hpre.2.2.2.2.2.2.2.2.1 rfl | exact hpre.2.2.2.2.2.2.2.2.2.1 rfl)
          have e44 := ((hA 44).trans (show _ = vs 2 by kernel_rfl)).trans (by first | exact hpre.1 rfl | exact hpre.2.1 rfl | exact hpre.2.2.1 rfl | exact hpre.2.2.2.1 rfl | exact hpre.2.2.2.2.1 rfl | exact hpre.2.2.2.2.2.1 rfl | exact hpre.2.2.2.2.2.2.1 rfl | exact hpre.2.2.2.2.2.2.2.1 rfl | exact hpre.2.2.2.2.2.2.2.2.1 rfl | exact hpre.2.2.2.2.2.2.2.2.2.1 rfl)
          have e45 := ((hA 45).trans (show _ = vs 3 by kernel_rfl)).trans (by first | exact hpre.1 rfl | exact hpre.2.1 rfl | exact hpre.2.2.1 rfl | exact hpre.2.2.2.1 rfl | exact hpre.2.2.2.2.1 rfl | exact hpre.2.2.2.2.2.1 rfl | exact hpre.2.2.2.2.2.2.1 rfl | exact hpre.2.2.2.2.2.2.2.1 rfl | exact hpre.2.2.2.2.2.2.2.2.1 rfl | exact hpre.2.2.2.2.2.2.2.2.2.1 rfl)
          clear hA hpre
          go_simp
          go_at_call 11
          refine (HH.out _ hB).mono ?_
          rintro e w3 ⟨rfl, hb3⟩
          exact hK _ _ (below_trans hB hb3) rfl (fun _ _ h => h)
        · intro vs Wx A hA hB hpre K hK
          have e46 := ((hA 46).trans (show _ = vs 4 by kernel_rfl)).trans (by first | exact hpre.1 rfl | exact hpre.2.1 rfl | exact hpre.2.2.1 rfl | exact hpre.2.2.2.1 rfl | exact hpre.2.2.2.2.1 rfl | exact hpre.2.2.2.2.2.1 rfl | exact hpre.2.2.2.2.2.2.1 rfl | exact hpre.2.2.2.2.2.2.2.1 rfl | exact hpre.2.2.2.2.2.2.2.2.1 rfl | exact hpre.2.2.2.2.2.2.2.2.2.1 rfl)
          clear hA hpre
          go_simp
          first | exact hK _ _ hB rfl (fun _ _ h => h) | exact hK _ _ hB trivial (fun _ _ h => h) | (rw [if_neg (by omega)]; go_simp; exact hK _ _ hB rfl (fun _ _ h => h))
        · intro vs Wx A hA hB hpre
          have eg := ((hA 47).trans (show _ = vs 5 by kernel_rfl)).trans (by first | exact hpre.1 rfl | exact hpre.2.1 rfl | exact hpre.2.2.1 rfl | exact hpre.2.2.2.1 rfl | exact hpre.2.2.2.2.1 rfl | exact hpre.2.2.2.2.2.1 rfl | exact hpre.2.2.2.2.2.2.1 rfl | exact hpre.2.2.2.2.2.2.2.1 rfl | exact hpre.2.2.2.2.2.2.2.2.1 rfl | exact hpre.2.2.2.2.2.2.2.2.2.1 rfl)
          exact ⟨false, eg, fun h => (by cases h), fun _ => trivial⟩
        · intro vs Wx A hA hB hpre
          have eg := ((hA 47).trans (show _ = vs 5 by kernel_rfl)).trans (by first | exact hpre.1 rfl | exact hpre.2.1 rfl | exact hpre.2.2.1 rfl | exact hpre.2.2.2.1 rfl | exact hpre.2.2.2.2.1 rfl | exact hpre.2.2.2.2.2.1 rfl | exact hpre.2.2.2.2.2.2.1 rfl | exact hpre.2.2.2.2.2.2.2.1 rfl | exact hpre.2.2.2.2.2.2.2.2.1 rfl | exact hpre.2.2.2.2.2.2.2.2.2.1 rfl)
          exact ⟨false, eg, fun h => (by cases h), fun _ => trivial⟩
        · intro vs Wx A hA hB hpre
          have eg := ((hA 47).trans (show _ = vs 5 by kernel_rfl)).trans (by first | exact hpre.1 rfl | exact hpre.2.1 rfl | exact hpre.2.2.1 rfl | exact hpre.2.2.2.1 rfl | exact hpre.2.2.2.2.1 rfl | exact hpre.2.2.2.2.2.1 rfl | exact hpre.2.2.2.2.2.2.1 rfl | exact hpre.2.2.2.2.2.2.2.1 rfl | exact hpre.2.2.2.2.2.2.2.2.1 rfl | exact hpre.2.2.2.2.2.2.2.2.2.1 rfl)
          exact ⟨false, eg, fun h => (by cases h), fun _ => trivial⟩
        · intro vs Wx A hA hB hpre
          have eg := ((hA 47).trans (show _ = vs 5 by kernel_rfl)).trans (by first | exact hpre.1 rfl | exact hpre.2.1 rfl | exact hpre.2.2.1 rfl | exact hpre.2.2.2.1 rfl | exact hpre.2.2.2.2.1 rfl | exact hpre.2.2.2.2.2.1 rfl | exact hpre.2.2.2.2.2.2.1 rfl | exact hpre.2.2.2.2.2.2.2.1 rfl | exact hpre.2.2.2.2.2.2.2.2.1 rfl | exact hpre.2.2.2.2.2.2.2.2.2.1 rfl)
          exact ⟨false, eg, fun h => (by cases h), fun _ => trivial⟩
        · intro vs Wx A hA hB hpre
          have eg := ((hA 47).trans (show _ = vs 5 by kernel_rfl)).trans (by first | exact hpre.1 rfl | exact hpre.2.1 rfl | exact hpre.2.2.1 rfl | exact hpre.2.2.2.1 rfl | exact hpre.2.2.2.2.1 rfl | exact hpre.2.2.2.2.2.1 rfl | exact hpre.2.2.2.2.2.2.1 rfl | exact hpre.2.2.2.2.2.2.2.1 rfl | exact hpre.2.2.2.2.2.2.2.2.1 rfl | exact hpre.2.2.2.2.2.2.2.2.2.1 rfl)
          exact ⟨false, eg, fun h => (by cases h), fun _ => trivial⟩
        · intro vs Wx A hA hB hpre
          have eg := ((hA 47).trans (show _ = vs 5 by kernel_rfl)).trans (by first | exact hpre.1 rfl | exact hpre.2.1 rfl | exact hpre.2.2.1 rfl | exact hpre.2.2.2.1 rfl | exact hpre.2.2.2.2.1 rfl | exact hpre.2.2.2.2.2.1 rfl | exact hpre.2.2.2.2.2.2.1 rfl | exact hpre.2.2.2.2.2.2.2.1 rfl | exact hpre.2.2.2.2.2.2.2.2.1 rfl | exact hpre.2.2.2.2.2.2.2.2.2.1 rfl)
          exact ⟨false, eg, fun h => (by cases h), fun _ => trivial⟩
        · intro vs Wx A hA hB hpre
          have eg := ((hA 47).trans (show _ = vs 5 by kernel_rfl)).trans (by first | exact hpre.1 rfl | exact hpre.2.1 rfl | exact hpre.2.2.1 rfl | exact hpre.2.2.2.1 rfl | exact hpre.2.2.2.2.1 rfl | exact hpre.2.2.2.2.2.1 rfl | exact hpre.2.2.2.2.2.2.1 rfl | exact hpre.2.2.2.2.2.2.2.1 rfl | exact hpre.2.2.2.2.2.2.2.2.1 rfl | exact hpre.2.2.2.2.2.2.2.2.2.1 rfl)
          exact ⟨false, eg, fun h => (by cases h), fun _ => trivial⟩
        · intro vs Wx A hA hB hpre K hK
          have e47 := ((hA 47).trans (show _ = vs 5 by kernel_rfl)).trans (by first | exact hpre.1 rfl | exact hpre.2.1 rfl | exact hpre.2.2.1 rfl | exact hpre.2.2.2.1 rfl | exact hpre.2.2.2.2.1 rfl | exact hpre.2.2.2.2.2.1 rfl | exact hpre.2.2.2.2.2.2.1 rfl | exact hpre.2.2.2.2.2.2.2.1 rfl | exact hpre.2.2.2.2.2.2.2.2.1 rfl | exact hpre.2.2.2.2.2.2.2.2.2.1 rfl)
          clear hA hpre
          go_simp
          first | exact hK _ _ hB rfl (fun _ _ h => h) | exact hK _ _ hB trivial (fun _ _ h => h) | (rw [if_neg (by omega)]; go_simp; exact hK _ _ hB rfl (fun _ _ h => h))
        · intro vs Wx A hA hB hpre K hK
          have e55 := ((hA 55).trans (show _ = vs 13 by kernel_rfl)).trans (by first | exact hpre.1 rfl | exact hpre.2.1 rfl | exact hpre.2.2.1 rfl | exact hpre.2.2.2.1 rfl | exact hpre.2.2.2.2.1 rfl | exact hpre.2.2.2.2.2.1 rfl | exact hpre.2.2.2.2.2.2.1 rfl | exact hpre.2.2.2.2.2.2.2.1 rfl | exact hpre.2.2.2.2.2.2.2.2.1 rfl | exact hpre.2.2.2.2.2.2.2.2.2.1 rfl)
          clear hA hpre
          go_simp
          first | exact hK _ _ hB rfl (fun _ _ h => h) | exact hK _ _ hB trivial (fun _ _ h => h) | (rw [if_neg (by omega)]; go_simp; exact hK _ _ hB rfl (fun _ _ h => h))
        · intro vs Wx hB hF
          have hL : vs 14 = .bool false := hF 14 (by decide)
          have HBW := Lib.hid hB
          clear hF hB
          simp only [Ri.puts]
          go_simp
          go_wp2_with fail
          go_meet
          exact ⟨by first | rfl | exact hL, HBW.out⟩
      case rest =>
        obtain ⟨rfl, HBx⟩ := hcut
        obtain ⟨⟨-, ⟨y0', y1', y2', y3', y4', y5'⟩⟩, -, ⟨z0, z1, z2, z3, z4, z5, z6, z7⟩⟩ := HXK.out _ HBx.out
        have HAx := Lib.hid (HA.out _ HBx.out)
        simp only [Bool.false_and, Bool.true_and] at HAx
        have HBy := Lib.hid (below_tr hp HBt.out HBx.out)
        clear HA HH HG HXK HBx HD HBt
        go_wp2_with (first | (go_at_call 13; refine HAx.out.mono ?_; rintro e w5 ⟨rfl, hb5⟩; have HB5 := Lib.hid (below_tr hp HBy.out hb5); clear hb5) | (go_at_call 10; refine (works_any _).mono ?_; rintro e w9 ⟨rfl, hb9⟩; have HB9 := Lib.hid (below_tr hp HB5.out hb9); clear hb9))
        go_ret
        exact ⟨rfl, by first | exact HB9.out | (rw [hp]; exact HB9.out)⟩
    · rw [hB1] at HH HA
      clear hB1
      go_cut [9] (fun s wx => s = .bool (holdsB x1 a2 kd) ∧ Hid (Below W4.heap.size W4 wx))
      case first =>
        refine Ri.wp_region_lasting_g (by kernel_rfl) (by kernel_rfl) (by kernel_rfl) (fun Wx => Below W4.heap.size W4 Wx) (fun kz vs wz => (fun kx vx wx => match kx with | 0 => vx = .pointer (some ⟨p0, 1, none⟩) | 1 => vx = cdv x0.cif (.slice ka x0.cif.kids.length kc) | 2 => vx = lnv x1 (.slice la x1.mods.length lk) | 3 => vx = .int .i64 a2 | 4 => vx = .bool true | 5 => vx = .bool true | 6 => vx = .pointer (some ⟨p0, 6, none⟩) | 7 => vx = .slice (some ⟨b, o, none⟩) 1 uc | 8 => vx = .pointer (some ⟨b, o, none⟩) | 9 => vx = cdv kd (.slice va kd.kids.length vc) | 10 => vx = lnv x1 (.slice la x1.mods.length lk) | 11 => vx = .int .i64 a2 | 12 => vx = .bool (holdsB x1 a2 kd) | 13 => vx = .bool (holdsB x1 a2 kd) | 14 => vx = .bool (holdsB x1 a2 kd) | _ => True : Nat → Value → World → Prop) kz (vs kz) wz) (fun kz => [kz]) (by kernel_rfl) (fun jz vs iz vz wz hiz hz => Ri.loc_own (F := (fun kx vx wx => match kx with | 0 => vx = .pointer (some ⟨p0, 1, none⟩) | 1 => vx = cdv x0.cif (.slice ka x0.cif.kids.length kc) | 2 => vx = lnv x1 (.slice la x1.mods.length lk) | 3 => vx = .int .i64 a2 | 4 => vx = .bool true | 5 => vx = .bool true | 6 => vx = .pointer (some ⟨p0, 6, none⟩) | 7 => vx = .slice (some ⟨b, o, none⟩) 1 uc | 8 => vx = .pointer (some ⟨b, o, none⟩) | 9 => vx = cdv kd (.slice va kd.kids.length vc) | 10 => vx = lnv x1 (.slice la x1.mods.length lk) | 11 => vx = .int .i64 a2 | 12 => vx = .bool (holdsB x1 a2 kd) | 13 => vx = .bool (holdsB x1 a2 kd) | 14 => vx = .bool (holdsB x1 a2 kd) | _ => True : Nat → Value → World → Prop)) jz vs iz vz wz hiz hz) HD.out ⟨Or.inl ⟨rfl, ?_⟩, Or.inl ⟨rfl, ?_⟩, Or.inl ⟨rfl, ?_⟩, Or.inl ⟨rfl, ?_⟩, Or.inl ⟨rfl, ?_⟩, Or.inl ⟨rfl, ?_⟩, Or.inr ⟨5, true, 47, rfl, rfl, ?_⟩, Or.inr ⟨5, true, 47, rfl, rfl, ?_⟩, Or.inr ⟨5, true, 47, rfl, rfl, ?_⟩, Or.inr ⟨5, true, 47, rfl, rfl, ?_⟩, Or.inr ⟨5, true, 47, rfl, rfl, ?_⟩, Or.inr ⟨5, true, 47, rfl, rfl, ?_⟩, Or.inr ⟨5, true, 47, rfl, rfl, ?_⟩, Or.inl ⟨rfl, ?_⟩, Or.inl ⟨rfl, ?_⟩, trivial⟩ ?_
        · intro vs Wx A hA hB hpre K hK
          have e3 := (hA 3).trans (show _ = Value.pointer (some ⟨p0, 0, none⟩) by kernel_rfl)
          clear hA hpre
          go_simp
          first | exact hK _ _ hB rfl (fun _ _ h => h) | exact hK _ _ hB trivial (fun _ _ h => h) | (rw [if_neg (by omega)]; go_simp; exact hK _ _ hB rfl (fun _ _ h => h))
        · intro vs Wx A hA hB hpre K hK
          have e42 := ((hA 42).trans (show _ = vs 0 by kernel_rfl)).trans (by first | exact hpre.1 rfl | exact hpre.2.1 rfl | exact hpre.2.2.1 rfl | exact hpre.2.2.2.1 rfl | exact hpre.2.2.2.2.1 rfl | exact hpre.2.2.2.2.2.1 rfl | exact hpre.2.2.2.2.2.2.1 rfl | exact hpre.2.2.2.2.2.2.2.1 rfl | exact hpre.2.2.2.2.2.2.2.2.1 rfl | exact hpre.2.2.2.2.2.2.2.2.2.1 rfl)
          obtain ⟨⟨⟨z0, z1, z2, z3, z4, z5, z6, z7⟩, ⟨y0', y1', y2', y3', y4', y5'⟩⟩, ⟨d0, d1, d2, d3, d4⟩, -⟩ := HXK.out Wx hB
          simp only [Nat.zero_mul, Nat.add_zero] at d0 d1 d2 d3 d4
          clear hA hpre
          go_simp
          first | exact hK _ _ hB rfl (fun _ _ h => h) | exact hK _ _ hB trivial (fun _ _ h => h) | (rw [if_neg (by omega)]; go_simp; exact hK _ _ hB rfl (fun _ _ h => h))
        · intro vs Wx A hA hB hpre K hK
          have e4 := (hA 4).trans (show _ = Value.pointer (some ⟨q1, 0, none⟩) by kernel_rfl)
          obtain ⟨⟨⟨z0, z1, z2, z3, z4, z5, z6, z7⟩, ⟨y0', y1', y2', y3', y4', y5'⟩⟩, ⟨d0, d1, d2, d3, d4⟩, -⟩ := HXK.out Wx hB
          simp only [Nat.zero_mul, Nat.add_zero] at d0 d1 d2 d3 d4
          clear hA hpre
          go_simp
          first | exact hK _ _ hB rfl (fun _ _ h => h) | exact hK _ _ hB trivial (fun _ _ h => h) | (rw [if_neg (by omega)]; go_simp; exact hK _ _ hB rfl (fun _ _ h => h))
        · intro vs Wx A hA hB hpre K hK
          have e2 := (hA 2).trans (show _ = Value.int .i64 a2 by kernel_rfl)
          clear hA hpre
          go_simp
          first | exact hK _ _ hB rfl (fun _ _ h => h) | exact hK _ _ hB trivial (fun _ _ h => h) | (rw [if_neg (by omega)]; go_simp; exact hK _ _ hB rfl (fun _ _ h => h))
        · intro vs Wx A hA hB hpre K hK
          have e43 := ((hA 43).trans (show _ = vs 1 by kernel_rfl)).trans (by first | exact hpre.1 rfl | exact hpre.2.1 rfl | exact hpre.2.2.1 rfl | exact hpre.2.2.2.1 rfl | exact hpre.2.2.2.2.1 rfl | exact hpre.2.2.2.2.2.1 rfl | exact hpre.2.2.2.2.2.2.1 rfl | exact hpre.2.2.2.2.2.2.2.1 rfl | exact hpre.2.2.2.2.2.2.2.2.1 rfl | exact hpre.2.2.2.2.2.2.2.2.2.1 rfl)
          have e44 := ((hA 44).trans (show _ = vs 2 by kernel_rfl)).trans (by first | exact hpre.1 rfl | exact hpre.2.1 rfl | exact hpre.2.2.1 rfl | exact hpre.2.2.2.1 rfl | exact hpre.2.2.2.2.1 rfl | exact hpre.2.2.2.2.2.1 rfl | exact hpre.2.2.2.2.2.2.1 rfl | exact hpre.2.2.2.2.2.2.2.1 rfl | exact hpre.2.2.2.2.2.2.2.2.1 rfl | exact hpre.2.2.2.2.2.2.2.2.2.1 rfl)
          have e45 := ((hA 45).trans (show _ = vs 3 by kernel_rfl)).trans (by first | exact hpre.1 rfl | exact hpre.2.1 rfl | exact hpre.2.2.1 rfl | exact hpre.2.2.2.1 rfl | exact hpre.2.2.2.2.1 rfl | exact hpre.2.2.2.2.2.1 rfl | exact hpre.2.2.2.2.2.2.1 rfl | exact hpre.2.2.2.2.2.2.2.1 rfl | exact hpre.2.2.2.2.2.2.2.2.1 rfl | exact hpre.2.2.2.2.2.2.2.2.2.1 rfl)
          clear hA hpre
          go_simp
          go_at_call 11
          refine (HH.out _ hB).mono ?_
          rintro e w3 ⟨rfl, hb3⟩
          exact hK _ _ (below_trans hB hb3) rfl (fun _ _ h => h)
        · intro vs Wx A hA hB hpre K hK
          have e46 := ((hA 46).trans (show _ = vs 4 by kernel_rfl)).trans (by first | exact hpre.1 rfl | exact hpre.2.1 rfl | exact hpre.2.2.1 rfl | exact hpre.2.2.2.1 rfl | exact hpre.2.2.2.2.1 rfl | exact hpre.2.2.2.2.2.1 rfl | exact hpre.2.2.2.2.2.2.1 rfl | exact hpre.2.2.2.2.2.2.2.1 rfl | exact hpre.2.2.2.2.2.2.2.2.1 rfl | exact hpre.2.2.2.2.2.2.2.2.2.1 rfl)
          clear hA hpre
          go_simp
          first | exact hK _ _ hB rfl (fun _ _ h => h) | exact hK _ _ hB trivial (fun _ _ h => h) | (rw [if_neg (by omega)]; go_simp; exact hK _ _ hB rfl (fun _ _ h => h))
        · intro vs Wx A hA hB hpre
          have eg := ((hA 47).trans (show _ = vs 5 by kernel_rfl)).trans (by first | exact hpre.1 rfl | exact hpre.2.1 rfl | exact hpre.2.2.1 rfl | exact hpre.2.2.2.1 rfl | exact hpre.2.2.2.2.1 rfl | exact hpre.2.2.2.2.2.1 rfl | exact hpre.2.2.2.2.2.2.1 rfl | exact hpre.2.2.2.2.2.2.2.1 rfl | exact hpre.2.2.2.2.2.2.2.2.1 rfl | exact hpre.2.2.2.2.2.2.2.2.2.1 rfl)
          refine ⟨true, eg, fun _ K hK => ?_, fun h => absurd rfl h⟩
          have e3 := (hA 3).trans (show _ = Value.pointer (some ⟨p0, 0, none⟩) by kernel_rfl)
          clear hA hpre
          go_simp
          first | exact hK _ _ hB rfl (fun _ _ h => h) | exact hK _ _ hB trivial (fun _ _ h => h) | (rw [if_neg (by omega)]; go_simp; exact hK _ _ hB rfl (fun _ _ h => h))
        · intro vs Wx A hA hB hpre
          have eg := ((hA 47).trans (show _ = vs 5 by kernel_rfl)).trans (by first | exact hpre.1 rfl | exact hpre.2.1 rfl | exact hpre.2.2.1 rfl | exact hpre.2.2.2.1 rfl | exact hpre.2.2.2.2.1 rfl | exact hpre.2.2.2.2.2.1 rfl | exact hpre.2.2.2.2.2.2.1 rfl | exact hpre.2.2.2.2.2.2.2.1 rfl | exact hpre.2.2.2.2.2.2.2.2.1 rfl | exact hpre.2.2.2.2.2.2.2.2.2.1 rfl)
          refine ⟨true, eg, fun _ K hK => ?_, fun h => absurd rfl h⟩
          have e48 := ((hA 48).trans (show _ = vs 6 by kernel_rfl)).trans (by first | exact hpre.1 rfl | exact hpre.2.1 rfl | exact hpre.2.2.1 rfl | exact hpre.2.2.2.1 rfl | exact hpre.2.2.2.2.1 rfl | exact hpre.2.2.2.2.2.1 rfl | exact hpre.2.2.2.2.2.2.1 rfl | exact hpre.2.2.2.2.2.2.2.1 rfl | exact hpre.2.2.2.2.2.2.2.2.1 rfl | exact hpre.2.2.2.2.2.2.2.2.2.1 rfl)
          obtain ⟨⟨⟨z0, z1, z2, z3, z4, z5, z6, z7⟩, ⟨y0', y1', y2', y3', y4', y5'⟩⟩, ⟨d0, d1, d2, d3, d4⟩, -⟩ := HXK.out Wx hB
          simp only [Nat.zero_mul, Nat.add_zero] at d0 d1 d2 d3 d4
          clear hA hpre
          go_simp
          first | exact hK _ _ hB rfl (fun _ _ h => h) | exact hK _ _ hB trivial (fun _ _ h => h) | (rw [if_neg (by omega)]; go_simp; exact hK _ _ hB rfl (fun _ _ h => h))
        · intro vs Wx A hA hB hpre
          have eg := ((hA 47).trans (show _ = vs 5 by kernel_rfl)).trans (by first | exact hpre.1 rfl | exact hpre.2.1 rfl | exact hpre.2.2.1 rfl | exact hpre.2.2.2.1 rfl | exact hpre.2.2.2.2.1 rfl | exact hpre.2.2.2.2.2.1 rfl | exact hpre.2.2.2.2.2.2.1 rfl | exact hpre.2.2.2.2.2.2.2.1 rfl | exact hpre.2.2.2.2.2.2.2.2.1 rfl | exact hpre.2.2.2.2.2.2.2.2.2.1 rfl)
          refine ⟨true, eg, fun _ K hK => ?_, fun h => absurd rfl h⟩
          have e49 := ((hA 49).trans (show _ = vs 7 by kernel_rfl)).trans (by first | exact hpre.1 rfl | exact hpre.2.1 rfl | exact hpre.2.2.1 rfl | exact hpre.2.2.2.1 rfl | exact hpre.2.2.2.2.1 rfl | exact hpre.2.2.2.2.2.1 rfl | exact hpre.2.2.2.2.2.2.1 rfl | exact hpre.2.2.2.2.2.2.2.1 rfl | exact hpre.2.2.2.2.2.2.2.2.1 rfl | exact hpre.2.2.2.2.2.2.2.2.2.1 rfl)
          clear hA hpre
          go_simp
          first | exact hK _ _ hB rfl (fun _ _ h => h) | exact hK _ _ hB trivial (fun _ _ h => h) | (rw [if_neg (by omega)]; go_simp; exact hK _ _ hB rfl (fun _ _ h => h))
        · intro vs Wx A hA hB hpre
          have eg := ((hA 47).trans (show _ = vs 5 by kernel_rfl)).trans (by first | exact hpre.1 rfl | exact hpre.2.1 rfl | exact hpre.2.2.1 rfl | exact hpre.2.2.2.1 rfl | exact hpre.2.2.2.2.1 rfl | exact hpre.2.2.2.2.2.1 rfl | exact hpre.2.2.2.2.2.2.1 rfl | exact hpre.2.2.2.2.2.2.2.1 rfl | exact hpre.2.2.2.2.2.2.2.2.1 rfl | exact hpre.2.2.2.2.2.2.2.2.2.1 rfl)
          refine ⟨true, eg, fun _ K hK => ?_, fun h => absurd rfl h⟩
          have e50 := ((hA 50).trans (show _ = vs 8 by kernel_rfl)).trans (by first | exact hpre.1 rfl | exact hpre.2.1 rfl | exact hpre.2.2.1 rfl | exact hpre.2.2.2.1 rfl | exact hpre.2.2.2.2.1 rfl | exact hpre.2.2.2.2.2.1 rfl | exact hpre.2.2.2.2.2.2.1 rfl | exact hpre.2.2.2.2.2.2.2.1 rfl | exact hpre.2.2.2.2.2.2.2.2.1 rfl | exact hpre.2.2.2.2.2.2.2.2.2.1 rfl)
          obtain ⟨⟨⟨z0, z1, z2, z3, z4, z5, z6, z7⟩, ⟨y0', y1', y2', y3', y4', y5'⟩⟩, ⟨d0, d1, d2, d3, d4⟩, -⟩ := HXK.out Wx hB
          simp only [Nat.zero_mul, Nat.add_zero] at d0 d1 d2 d3 d4
          clear hA hpre
          go_simp
          first | exact hK _ _ hB rfl (fun _ _ h => h) | exact hK _ _ hB trivial (fun _ _ h => h) | (rw [if_neg (by omega)]; go_simp; exact hK _ _ hB rfl (fun _ _ h => h))
        · intro vs Wx A hA hB hpre
          have eg := ((hA 47).trans (show _ = vs 5 by kernel_rfl)).trans (by first | exact hpre.1 rfl | exact hpre.2.1 rfl | exact hpre.2.2.1 rfl | exact hpre.2.2.2.1 rfl | exact hpre.2.2.2.2.1 rfl | exact hpre.2.2.2.2.2.1 rfl | exact hpre.2.2.2.2.2.2.1 rfl | exact hpre.2.2.2.2.2.2.2.1 rfl | exact hpre.2.2.2.2.2.2.2.2.1 rfl | exact hpre.2.2.2.2.2.2.2.2.2.1 rfl)
          refine ⟨true, eg, fun _ K hK => ?_, fun h => absurd rfl h⟩
          have e4 := (hA 4).trans (show _ = Value.pointer (some ⟨q1, 0, none⟩) by kernel_rfl)
          obtain ⟨⟨⟨z0, z1, z2, z3, z4, z5, z6, z7⟩, ⟨y0', y1', y2', y3', y4', y5'⟩⟩, ⟨d0, d1, d2, d3, d4⟩, -⟩ := HXK.out Wx hB
          simp only [Nat.zero_mul, Nat.add_zero] at d0 d1 d2 d3 d4
          clear hA hpre
          go_simp
          first | exact hK _ _ hB rfl (fun _ _ h => h) | exact hK _ _ hB trivial (fun _ _ h => h) | (rw [if_neg (by omega)]; go_simp; exact hK _ _ hB rfl (fun _ _ h => h))
        · intro vs Wx A hA hB hpre
          have eg := ((hA 47).trans (show _ = vs 5 by kernel_rfl)).trans (by first | exact hpre.1 rfl | exact hpre.2.1 rfl | exact hpre.2.2.1 rfl | exact hpre.2.2.2.1 rfl | exact hpre.2.2.2.2.1 rfl | exact hpre.2.2.2.2.2.1 rfl | exact hpre.2.2.2.2.2.2.1 rfl | exact hpre.2.2.2.2.2.2.2.1 rfl | exact hpre.2.2.2.2.2.2.2.2.1 rfl | exact hpre.2.2.2.2.2.2.2.2.2.1 rfl)
          refine ⟨true, eg, fun _ K hK => ?_, fun h => absurd rfl h⟩
          have e2 := (hA 2).trans (show _ = Value.int .i64 a2 by kernel_rfl)
          clear hA hpre
          go_simp
          first | exact hK _ _ hB rfl (fun _ _ h => h) | exact hK _ _ hB trivial (fun _ _ h => h) | (rw [if_neg (by omega)]; go_simp; exact hK _ _ hB rfl (fun _ _ h => h))
        · intro vs Wx A hA hB hpre
          have eg := ((hA 47).trans (show _ = vs 5 by kernel_rfl)).trans (by first | exact hpre.1 rfl | exact hpre.2.1 rfl | exact hpre.2.2.1 rfl | exact hpre.2.2.2.1 rfl | exact hpre.2.2.2.2.1 rfl | exact hpre.2.2.2.2.2.1 rfl | exact hpre.2.2.2.2.2.2.1 rfl | exact hpre.2.2.2.2.2.2.2.1 rfl | exact hpre.2.2.2.2.2.2.2.2.1 rfl | exact hpre.2.2.2.2.2.2.2.2.2.1 rfl)
          refine ⟨true, eg, fun _ K hK => ?_, fun h => absurd rfl h⟩
          have e51 := ((hA 51).trans (show _ = vs 9 by kernel_rfl)).trans (by first | exact hpre.1 rfl | exact hpre.2.1 rfl | exact hpre.2.2.1 rfl | exact hpre.2.2.2.1 rfl | exact hpre.2.2.2.2.1 rfl | exact hpre.2.2.2.2.2.1 rfl | exact hpre.2.2.2.2.2.2.1 rfl | exact hpre.2.2.2.2.2.2.2.1 rfl | exact hpre.2.2.2.2.2.2.2.2.1 rfl | exact hpre.2.2.2.2.2.2.2.2.2.1 rfl)
          have e52 := ((hA 52).trans (show _ = vs 10 by kernel_rfl)).trans (by first | exact hpre.1 rfl | exact hpre.2.1 rfl | exact hpre.2.2.1 rfl | exact hpre.2.2.2.1 rfl | exact hpre.2.2.2.2.1 rfl | exact hpre.2.2.2.2.2.1 rfl | exact hpre.2.2.2.2.2.2.1 rfl | exact hpre.2.2.2.2.2.2.2.1 rfl | exact hpre.2.2.2.2.2.2.2.2.1 rfl | exact hpre.2.2.2.2.2.2.2.2.2.1 rfl)
          have e53 := ((hA 53).trans (show _ = vs 11 by kernel_rfl)).trans (by first | exact hpre.1 rfl | exact hpre.2.1 rfl | exact hpre.2.2.1 rfl | exact hpre.2.2.2.1 rfl | exact hpre.2.2.2.2.1 rfl | exact hpre.2.2.2.2.2.1 rfl | exact hpre.2.2.2.2.2.2.1 rfl | exact hpre.2.2.2.2.2.2.2.1 rfl | exact hpre.2.2.2.2.2.2.2.2.1 rfl | exact hpre.2.2.2.2.2.2.2.2.2.1 rfl)
          clear hA hpre
          go_simp
          go_at_call 11
          refine (HG.out _ hB).mono ?_
          rintro e w3 ⟨rfl, hb3⟩
          exact hK _ _ (below_trans hB hb3) rfl (fun _ _ h => h)
        · intro vs Wx A hA hB hpre K hK
          have e47 := ((hA 47).trans (show _ = vs 5 by kernel_rfl)).trans (by first | exact hpre.1 rfl | exact hpre.2.1 rfl | exact hpre.2.2.1 rfl | exact hpre.2.2.2.1 rfl | exact hpre.2.2.2.2.1 rfl | exact hpre.2.2.2.2.2.1 rfl | exact hpre.2.2.2.2.2.2.1 rfl | exact hpre.2.2.2.2.2.2.2.1 rfl | exact hpre.2.2.2.2.2.2.2.2.1 rfl | exact hpre.2.2.2.2.2.2.2.2.2.1 rfl)
          have e54 := ((hA 54).trans (show _ = vs 12 by kernel_rfl)).trans (by first | exact hpre.1 rfl | exact hpre.2.1 rfl | exact hpre.2.2.1 rfl | exact hpre.2.2.2.1 rfl | exact hpre.2.2.2.2.1 rfl | exact hpre.2.2.2.2.2.1 rfl | exact hpre.2.2.2.2.2.2.1 rfl | exact hpre.2.2.2.2.2.2.2.1 rfl | exact hpre.2.2.2.2.2.2.2.2.1 rfl | exact hpre.2.2.2.2.2.2.2.2.2.1 rfl)
          clear hA hpre
          go_simp
          first | exact hK _ _ hB rfl (fun _ _ h => h) | exact hK _ _ hB trivial (fun _ _ h => h) | (rw [if_neg (by omega)]; go_simp; exact hK _ _ hB rfl (fun _ _ h => h))
        · intro vs Wx A hA hB hpre K hK
          have e55 := ((hA 55).trans (show _ = vs 13 by kernel_rfl)).trans (by first | exact hpre.1 rfl | exact hpre.2.1 rfl | exact hpre.2.2.1 rfl | exact hpre.2.2.2.1 rfl | exact hpre.2.2.2.2.1 rfl | exact hpre.2.2.2.2.2.1 rfl | exact hpre.2.2.2.2.2.2.1 rfl | exact hpre.2.2.2.2.2.2.2.1 rfl | exact hpre.2.2.2.2.2.2.2.2.1 rfl | exact hpre.2.2.2.2.2.2.2.2.2.1 rfl)
          clear hA hpre
          go_simp
          first | exact hK _ _ hB rfl (fun _ _ h => h) | exact hK _ _ hB trivial (fun _ _ h => h) | (rw [if_neg (by omega)]; go_simp; exact hK _ _ hB rfl (fun _ _ h => h))
        · intro vs Wx hB hF
          have hL : vs 14 = .bool (holdsB x1 a2 kd) := hF 14 (by decide)
          have HBW := Lib.hid hB
          clear hF hB
          simp only [Ri.puts]
          go_simp
          go_wp2_with fail
          go_meet
          exact ⟨by first | rfl | exact hL, HBW.out⟩
      case rest =>
        obtain ⟨rfl, HBx⟩ := hcut
        obtain ⟨⟨-, ⟨y0', y1', y2', y3', y4', y5'⟩⟩, -, ⟨z0, z1, z2, z3, z4, z5, z6, z7⟩⟩ := HXK.out _ HBx.out
        have HAx := Lib.hid (HA.out _ HBx.out)
        simp only [Bool.false_and, Bool.true_and] at HAx
        have HBy := Lib.hid (below_tr hp HBt.out HBx.out)
        clear HA HH HG HXK HBx HD HBt
        generalize holdsB x1 a2 kd = BK at *
        have hkk : (BK == BK) = true := by simp
        go_wp2_with (first | (go_at_call 13; refine HAx.out.mono ?_; rintro e w5 ⟨rfl, hb5⟩; have HB5 := Lib.hid (below_tr hp HBy.out hb5); clear hb5) | (go_at_call 10; refine (works_any _).mono ?_; rintro e w9 ⟨rfl, hb9⟩; have HB9 := Lib.hid (below_tr hp HB5.out hb9); clear hb9))
        go_ret
        exact ⟨rfl, by first | exact HB9.out | (rw [hp]; exact HB9.out)⟩

/-! ### the row's step -/
theorem laidOut : laidOutB Try.prog = true := by kernel_rfl
theorem lifted (os : Os) (started : os.Started) (H : Type) (enc : TypeId × Value → H) :
    ReturnsInHanded {} Try.checked os 8 .any (Rows.rulesExceptSpec.pre6 enc Try.prog Try.f8 Rows.rulesExceptRow.domain false) (Rows.rulesExceptSpec.post enc Try.prog Try.f8 false true false false) := by
  refine returnsInHanded_of_change_shaped (C := Try.checked) own started (by kernel_rfl) Try.func8
    (ChangeSpec.witness6 (enc := enc) (C := Try.checked) false ⟨#[], #[.agg #[.int .i64 0, .int .i64 0, .string ByteArray.empty, .string ByteArray.empty, .int .i64 0, .slice none 0 0, .slice none 0 0, .slice none 0 0], .agg #[.string ByteArray.empty, .slice none 0 0, .int .i64 0, .int .i64 0, .int .i64 0, .int .i64 0], .int .i64 0], []⟩ 8 (by kernel_rfl) (by kernel_rfl) (by kernel_rfl) (by kernel_rfl)) ?_
  intro W base args ds gs before hval0 hW hcnd hwt _ _
  have hval : ∀ (j : Nat) t v, Try.f8.params[j]? = some t → args[j]? = some v → Value.okWide Try.prog W .any base t v := hval0
  have hW' := hW
  obtain ⟨p, q, hA0, hV, rfl, hfz, hnd⟩ := hW
  have hA : DataW.TrodAll enc Try.prog W 0 (fun _ => true) true Try.f8.params.toList args.toList ds p := hA0
  rw [Try.params8] at hA hval hwt
  obtain ⟨v0, vs0, d0, ds0, p0, q0, hargs, rfl, rfl, h0, r0⟩ := trodAll_cons hA
  obtain ⟨v1, vs1, d1, ds1, p1, q1, rfl, rfl, rfl, h1, r1⟩ := trodAll_cons r0
  obtain ⟨v2, vs2, d2, ds2, p2, q2, rfl, rfl, rfl, h2, r2⟩ := trodAll_cons r1
  obtain ⟨rfl, rfl, rfl⟩ := trodAll_nil r2
  obtain rfl : args = #[v0, v1, v2] := by cases args; simp_all
  obtain ⟨rfl, rfl⟩ := trodVars_none hV
  have hwl : ∀ z, (z ∈ d0.weights Try.prog 27 → z ≤ reachBytes) ∧ (z ∈ d1.weights Try.prog 30 → z ≤ reachBytes) ∧ (z ∈ d2.weights Try.prog 3 → z ≤ reachBytes) := fun z => by
    have h := List.all_eq_true.1 hwt z
    simp only [decide_eq_true_eq] at h
    refine ⟨fun hz => h ?_, fun hz => h ?_, fun hz => h ?_⟩
    all_goals
      simp only [List.cons_append, List.nil_append, List.toList_toArray, List.append_nil, DataW.weightsEach, List.mem_append]
      first | exact Or.inl hz | exact Or.inr (Or.inl hz) | exact Or.inr (Or.inr (Or.inl hz)) | exact Or.inr (Or.inr (Or.inr (Or.inl hz))) | simp [hz]
  have k0 := h0
  have lt0 : ∀ x ∈ p0, x.block < W.heap.size := by obtain ⟨m, hm⟩ := k0; exact DataW.trod_lt m _ _ _ hm
  obtain ⟨x0, kk0, uu0, ss0, rfl, g0⟩ := Pl.open_rule (hval 0 27 v0 rfl rfl) h0 (fun z hz => (hwl z).1 hz)
  have k1 := h1
  have lt1 : ∀ x ∈ p1, x.block < W.heap.size := by obtain ⟨m, hm⟩ := k1; exact DataW.trod_lt m _ _ _ hm
  obtain ⟨x1, m1, rfl, g1⟩ := Pl.open_line (hval 1 30 v1 rfl rfl) h1
  have k2 := h2
  have lt2 : ∀ x ∈ p2, x.block < W.heap.size := by obtain ⟨m, hm⟩ := k2; exact DataW.trod_lt m _ _ _ hm
  obtain ⟨a2, rfl, _, _, w2⟩ := open_int Try.underlying3 (hval 2 3 v2 rfl rfl) h2
  clear hA0 hval0
  refine (walk W x0 kk0 uu0 ss0 g0 x1 m1 g1 a2 (by simpa [Cm.I64, Lit.wf, IntKind.min, IntKind.max, IntKind.signed, IntKind.bits] using w2)).mono fun e W' ⟨he, bel⟩ => ?_
  subst he
  exact ⟨_, rfl, _, _, _, [], _, [], hW', (trodAll_cons_mk (shut_bool Try.underlying4 _) trodAll_mk0), (trodAll_cons_mk (Below.trod laidOut (by kernel_rfl) (of_decide_eq_true (by kernel_rfl)) k0 bel lt0) (trodAll_cons_mk (Below.trod laidOut (by kernel_rfl) (of_decide_eq_true (by kernel_rfl)) k1 bel lt1) (trodAll_cons_mk (Below.trod laidOut (by kernel_rfl) (of_decide_eq_true (by kernel_rfl)) k2 bel lt2) trodAll_mk0))), rfl, bel.frame _, fun h => by cases h⟩

theorem over : Rows.rulesExceptRow.holds Try.pinned (OpenSpec.ofChange Rows.rulesExceptSpec) :=
  OpenClaim.holds_of_wide 8 Try.f8 rfl rfl rfl rfl rfl rfl rfl ⟨rfl, rfl, rfl, rfl, rfl⟩ rfl rfl rfl rfl rfl (by kernel_rfl) Try.func8 (by kernel_rfl)
    (of_decide_eq_true (by kernel_rfl)) (by unfold Func.isWrapper; first | (rw [if_pos (by decide +kernel)]; kernel_rfl) | (rw [if_neg (by decide +kernel)]; exact ⟨rfl, rfl⟩))
    (fun os started H enc _ => lifted os started H enc)

/-- The statement. -/
theorem proved : Rows.RulesExceptSaid := over
end Go.Proofs.Ytbokhiaiihpeeaa.rulesExcept
namespace Go.Proofs.Ytbokhiaiihpeeaa
theorem rulesExcept_holds : Rows.RulesExceptSaid := rulesExcept.proved
#print axioms rulesExcept_holds
end Go.Proofs.Ytbokhiaiihpeeaa
