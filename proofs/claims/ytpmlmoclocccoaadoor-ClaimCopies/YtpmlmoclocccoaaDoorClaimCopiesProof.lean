/-
  For every claim: a copy shares nothing with what it was copied from: the law returns true. The listed table is tied to the program's text.
-/
import Derived.Test.YtpmlmoclocccoaaDoorRows
import Derived.WalkKit
import Derived.ProofKit
import Derived.OpenShut
import Derived.ShutString
import Derived.Below
import Derived.Carry
import Derived.LaidMore
import Derived.Stop.Joined
import Derived.SevenTiedAt
import Derived.Deep.DeepCutAuto
import Derived.Test.YtpmlmoclocccoaaDoorLCopies
import Derived.Test.YtpmlmoclocccoaaDoorLRSame
import Derived.Test.YtpmlmoclocccoaaDoorLOpen
import Derived.Test.YtpmlmoclocccoaaDoorTie
import Derived.Test.YtpmlmoclocccoaaDoorCards
namespace Go.Proofs.YtpmlmoclocccoaaDoor.claimCopies
open Go.ChangeShapes Go.WideShapes Go.ChangeAt Go.RowKit
open Cm
open Go.ChangeMaps (open_string)
open Classical
set_option linter.unusedVariables false
set_option linter.unusedSimpArgs false


theorem own : ownKnob Tryd.prog.godebug = none := by kernel_rfl

/-! ### the walk: the law returns true -/
set_option maxHeartbeats 2000000 in
theorem walk (w : World) (x0 : Cl) (m0 : Value) (h0 : LnsAt All w m0 x0.lines) (z0 : ClOk x0) (hT : Da.Tab w) :
    Calls Tryd.prog 7 #[clv x0 m0] w fun e w' => e = .returned (.bool true) ∧ Below w.heap.size w w' := by
  have HLt := Lib.hid (light_any (.slice (some ⟨(w.alloc (boxc x0 m0)).heap.size, 0, none⟩) 1 1) [x0] ((w.alloc (boxc x0 m0)).alloc (boxc x0 m0)) (cls_one _ x0 m0 (LnsAt.move h0 (Below.moves (below_alloc w _)))) (fun c hc => by simp at hc; rw [hc]; exact z0))
  rw [show (w.alloc (boxc x0 m0)).heap.size = w.heap.size + 1 from by simp] at HLt
  have HCp := Lib.hid fun W (hb : Below w.heap.size w W) (hl : ClLight x0) => copy_any x0 m0 W (LnsAt.move h0 (Below.moves hb)) (by have := hl.1; omega) (fun x hx => by have := (hl.2 x hx).1; omega)
  have HKS := Lib.hid fun W u (hb : Below w.heap.size w W) (hu : LnsAt All W u x0.lines) => rsame_any x0 x0 m0 u W (LnsAt.move h0 (Below.moves hb)) hu
  rw [show decide (x0 = x0) = true from by simp] at HKS
  have HWk := Lib.hid fun W (hb : Below w.heap.size w W) => works_any W (tab_below hT hb)
  have HSX : Hid (∀ W, Below (w.alloc (boxc x0 m0)).heap.size (w.alloc (boxc x0 m0)) W → ClBox W w.heap.size x0 m0 ∧ Below w.heap.size w W) := fun W hb => ⟨(ClBox.new w x0 m0 _).grw hb, below_trans (below_alloc w _) hb⟩
  have HB0 := Lib.hid (below_alloc (w.alloc (boxc x0 m0)) (boxc x0 m0))
  have HNL : Hid (∀ B W u, ClLight x0 → NewLns B W u x0.lines → LnsAt All W u x0.lines) := fun B W u hl h => LnsAt.move (h.at (by have := hl.1; unfold maxLen; omega) (fun x hx => by have := (hl.2 x hx).1; unfold maxLen; omega)) (moves_weak W fun _ _ _ => trivial)
  obtain ⟨am, cm, rfl, f1, f2⟩ := LnsAt.form h0
  clear h0 z0 hT
  go_enter Tryd.func7, Tryd.ntmps7
  go_upto_if 10 with (go_at_call 9; refine (HLt.out).mono ?_; rintro e w1 ⟨⟨b, rfl, hln⟩, hb⟩; have HLN := Lib.hid hln; have HB1 := Lib.hid (below_trans HB0.out hb); obtain ⟨p0, p1, p2, p3, p4, p5, p6⟩ := (HSX.out _ HB1.out).1; clear hln hb)
  cases b
  · go_wp2_with (go_at_call 10; refine (HWk.out _ (HSX.out _ HB1.out).2).mono ?_; rintro e w3 ⟨rfl, hb⟩; have HB3 := Lib.hid (below_trans (HSX.out _ HB1.out).2 hb); clear hb)
    go_ret
    exact ⟨rfl, HB3.out⟩
  have HLI := Lib.hid (HLN.out rfl x0 (by simp))
  clear HLN HLt
  go_wp2_with fail
  go_at_call 23
  refine (HCp.out _ (HSX.out _ HB1.out).2 HLI.out).mono ?_
  rintro e w2 ⟨⟨u2, rfl, hu2⟩, hb⟩
  have HU2 := Lib.hid hu2
  have HB2 := Lib.hid (below_trans HB1.out hb)
  have HBx2 := Lib.hid (below_trans (below_trans HB1.out hb) (below_alloc w2 (boxc x0 u2)))
  obtain ⟨ua, uc, rfl⟩ := NewLns.form hu2
  obtain ⟨g0, g1, g2, g3, g4, g5, g6⟩ := (HSX.out _ HBx2.out).1
  unfold boxc at g0 g1 g2 g3 g4 g5 g6
  have HS12 := Lib.hid hb.size
  clear hb hu2 p0 p1 p2 p3 p4 p5 p6
  go_wp2_with fail
  go_at_call 23
  refine (HCp.out _ (HSX.out _ HBx2.out).2 HLI.out).mono ?_
  rintro e w3 ⟨⟨u3, rfl, hu3⟩, hb⟩
  have e2 : (w2.alloc (boxc x0 (.slice ua x0.lines.length uc))).heap.size = w2.heap.size + 1 := by simp
  have HU3 := Lib.hid hu3
  have HB3 := Lib.hid (below_trans HBx2.out hb)
  have HB3' := Lib.hid hb
  obtain ⟨va, vc, rfl⟩ := NewLns.form hu3
  clear hb hu3 g0 g1 g2 g3 g4 g5 g6
  have HI0 : Hid (Inv (w1.heap.size + 2) w2.heap.size (w3.alloc (boxc x0 (.slice va x0.lines.length vc))) (w3.alloc (boxc x0 (.slice va x0.lines.length vc))) (.slice ua x0.lines.length uc) x0.lines.length 20000 (fun j => (x0.lines.getD j ln0).mods.length)) := by
    refine ⟨Out.refl _ _ _, ?_⟩
    refine (WLns.of_new HU2.out (Nat.le_refl _) (fun x hx t ht => (HLI.out.2 x hx).2 t ht)).of_blocks fun b _ hb => ?_
    have h1 := HB3'.out.block b (by rw [e2]; omega)
    have h2 := Below.heap_alloc w2 (boxc x0 (.slice ua x0.lines.length uc)) b hb
    have h3 : b < w3.heap.size := by have := HB3'.out.size; omega
    exact (Below.heap_alloc w3 _ b h3).trans (h1.trans h2)
  have HX : Hid (∀ wr, Out (w1.heap.size + 2) w2.heap.size (w3.alloc (boxc x0 (.slice va x0.lines.length vc))) wr → ClBox wr w.heap.size x0 (.slice am x0.lines.length cm) ∧ ClBox wr w2.heap.size x0 (.slice ua x0.lines.length uc) ∧ ClBox wr w3.heap.size x0 (.slice va x0.lines.length vc) ∧ Below w.heap.size w wr ∧ LnsAt All wr (.slice va x0.lines.length vc) x0.lines) := fun wr ho => by
    have hz := (HSX.out _ (below_trans HB3.out (below_alloc w3 (boxc x0 (.slice va x0.lines.length vc)))))
    have s0 := (HSX.out _ HB1.out).2.size
    have s1 := HB0.out
    have s3 := HB3'.out.size
    have hlt1 := World.block_lt_of_cell? w1 _ (HSX.out _ HB1.out).1.1
    refine ⟨ho.cbox (Or.inl (by omega)) hz.1, ho.cbox (Or.inr (Nat.le_refl _)) ?_, ho.cbox (Or.inr (by omega)) (ClBox.new w3 x0 _ _), ho.below hz.2 (by omega) hz.2.size, ?_⟩
    · have q := (ClBox.new w2 x0 (.slice ua x0.lines.length uc) 24).grw (below_trans HB3'.out (below_alloc w3 (boxc x0 (.slice va x0.lines.length vc))))
      exact q
    · refine HNL.out _ _ _ HLI.out (HU3.out.of_blocks fun b h1 h2 => ?_)
      rw [e2] at h1
      exact (ho.block b (Or.inr (by omega)) (by simp; omega)).trans (Below.heap_alloc w3 _ b h2)
  have HKL : Hid (∀ j, (x0.lines.getD j ln0).mods.length ≤ 20000) := fun j => by
    rw [List.getD_eq_getElem?_getD]
    cases hj : x0.lines[j]? with
    | none => simp [ln0]
    | some x => exact (HLI.out.2 x (List.mem_of_getElem? hj)).1
  have hn3 := HLI.out.1
  clear e2
  go_wp2
  go_loopg [5] (x0.lines.length) (fun g i wr => ∃ j z : Nat, j ≤ x0.lines.length ∧ g = x0.lines.length - j ∧ i = .int .i64 j ∧ z ≤ 20000 + j * 20000 ∧ Hid (Inv (w1.heap.size + 2) w2.heap.size (w3.alloc (boxc x0 (.slice va x0.lines.length vc))) wr (.slice ua x0.lines.length uc) x0.lines.length z (fun j => (x0.lines.getD j ln0).mods.length)))
  case atStart => exact ⟨0, 20000, Nat.zero_le _, rfl, rfl, by omega, HI0.out⟩
  case round =>
    obtain ⟨j, z, hj, hg, rfl, hz, HI⟩ := hrel
    obtain ⟨⟨a0, a1, a2, a3, a4, a5, a6⟩, ⟨b0, b1, b2, b3, b4, b5, b6⟩, ⟨c0, c1, c2, c3, c4, c5, c6⟩, hbw, hlu⟩ := HX.out _ HI.out.1
    have HBW := Lib.hid hbw
    have HLU := Lib.hid hlu
    clear hbw hlu
    by_cases hlt : j < x0.lines.length
    · obtain ⟨a', e'⟩ := HI.out.2.len
      injection e' with e1 e2 e3
      subst e3
      obtain ⟨rfl, m, q, d1, d4, dfz, hwt, hBh⟩ := HI.out.2.at hlt
      have HW := Lib.hid hwt
      obtain ⟨ma, rfl⟩ := hwt.len
      have hkl := HKL.out j
      have hfz4 := dfz (j * 6 + 4)
      have HIb := Lib.hid fun a => HI.out.billed hlt hBh a
      clear hwt dfz e1 e2
      obtain ⟨kj, hKJ⟩ : ∃ kj, kj = (x0.lines.getD j ln0).mods.length := ⟨_, rfl⟩
      have HKJ := Lib.hid hKJ
      rw [← hKJ] at hkl d1
      clear hKJ
      go_wp2
      go_loopg [6] kj (fun g i wr => ∃ i2 z2 : Nat, i2 ≤ kj ∧ g = kj - i2 ∧ i = .int .i64 i2 ∧ z2 ≤ z + i2 ∧ Hid (Inv (w1.heap.size + 2) w2.heap.size (w3.alloc (boxc x0 (.slice va x0.lines.length vc))) wr (.slice (some ⟨w1.heap.size + 2, 0, none⟩) x0.lines.length x0.lines.length) x0.lines.length z2 (fun j => (x0.lines.getD j ln0).mods.length)))
      case atStart => exact ⟨0, z, Nat.zero_le _, rfl, rfl, by omega, HIb.out _⟩
      case round =>
        clear a0 a1 a2 a3 a4 a5 a6 b0 b1 b2 b3 b4 b5 b6 c0 c1 c2 c3 c4 c5 c6 d1 d4 hfz4 HBW HLU HIb
        obtain ⟨i2, z2, hi2, hg2, rfl, hz2, HI2⟩ := hrel
        obtain ⟨-, ⟨b0, b1, b2, b3, b4, b5, b6⟩, -, -, -⟩ := HX.out _ HI2.out.1
        obtain ⟨-, m2, q2, d1, -, -, hwt, -⟩ := HI2.out.2.at hlt
        have hwt' : WTx (w1.heap.size + 2) w2.heap.size wr m2 kj z2 := by rw [HKJ.out]; exact hwt
        obtain ⟨ma2, rfl⟩ := hwt'.len
        by_cases hlti : i2 < kj
        · obtain ⟨bb, ss, rfl, hlo, hhi, hcs, hfs, hsz⟩ := hwt'.at hlti
          have hss : ss.size ≤ 100000000 := by omega
          have HP := Lib.hid fun t ht => HI2.out.put hlo hhi i2 t ht
          have HSX2 : Hid ((ss ++ (⟨#[120]⟩ : ByteArray)).size ≤ z2 + 1) := by
            show _ ≤ _
            rw [ByteArray.size_append]
            show ss.size + 1 ≤ z2 + 1
            omega
          clear hwt hwt'
          go_wp2_with fail
          go_region
          go_wp2
          go_roundg (kj - (i2 + 1))
          case rel => exact ⟨i2 + 1, z2 + 1, by omega, rfl, by go_num, by omega, (HP.out _ HSX2.out).drew⟩
          case measure => omega
        · have hlti' : ¬ (i2 : Int) < (kj : Int) := by omega
          clear hwt hwt'
          go_wp2
          go_roundg (x0.lines.length - (j + 1))
          case rel => exact ⟨j + 1, z2, by omega, rfl, by go_num, by omega, HI2.out⟩
          case measure => omega
    · go_wp2_with (first | (go_at_call 22; refine (HKS.out _ _ HBW.out HLU.out).mono ?_; rintro e w4 ⟨rfl, hb⟩; have HB4 := Lib.hid (below_trans HBW.out hb); clear hb) | (go_at_call 10; refine (HWk.out _ HB4.out).mono ?_; rintro e w5 ⟨rfl, hb⟩; have HB5 := Lib.hid (below_trans HB4.out hb); clear hb))
      go_ret
      exact ⟨rfl, HB5.out⟩

/-! ### the row's step -/
theorem laidOut : laidOutB Tryd.prog = true := by kernel_rfl
set_option maxRecDepth 100000 in
theorem lifted (os : Os) (started : os.Started) (H : Type) (enc : TypeId × Value → H) :
    ReturnsInHanded {} Tryd.checked os 7 .any (fun w args => (Rows.claimCopiesSpec.pre enc Tryd.prog Tryd.f7 [] false w args ∧ laidMetH Tryd.prog laidL w) ∧ sizedMet enc Tryd.prog Tryd.f7 (OpenSpec.ofChange Rows.claimCopiesSpec) false w args) (Rows.claimCopiesSpec.post enc Tryd.prog Tryd.f7 false true false false) := by
  refine lift own started (by kernel_rfl) Tryd.func7
    (ChangeSpec.witness_shaped (enc := enc) (C := Tryd.checked) (os := os) (X := fun w _ => laidMetH Tryd.prog laidL w) false (World.laidAll Tryd.prog os laidL) #[.agg #[.string ByteArray.empty, .string ByteArray.empty, .string ByteArray.empty, .int .i64 0, .int .i64 0, .string ByteArray.empty, .slice none 0 0]] 8 (World.laidAll_os _ _ _)
      (World.shaped_of_ZipB (by kernel_rfl) (by kernel_rfl)) (by kernel_rfl) (by kernel_rfl) (by kernel_rfl)
      (by rw [MakeChecks.laidMetH_plain _ _ _ (by kernel_rfl)]; exact laidMet_laidAll _ (by kernel_rfl) (by kernel_rfl))) ?_
  intro W base args ds gs before hval0 hW hwt hT
  have hval : ∀ (j : Nat) t v, Tryd.f7.params[j]? = some t → args[j]? = some v → Value.okWide Tryd.prog W .any base t v := hval0
  have hW' := hW
  obtain ⟨p, q, hA0, hV, rfl, hfz, hnd⟩ := hW
  have hA : DataW.TrodAll enc Tryd.prog W 0 (fun _ => true) true Tryd.f7.params.toList args.toList ds p := hA0
  rw [Tryd.params7] at hA hval hwt
  obtain ⟨v0, vs0, d0, ds0, p0, q0, hargs, rfl, rfl, h0, r0⟩ := trodAll_cons hA
  obtain ⟨rfl, rfl, rfl⟩ := trodAll_nil r0
  obtain rfl : args = #[v0] := by cases args; simp_all
  obtain ⟨rfl, rfl⟩ := trodVars_none hV
  have hwl : ∀ z, (z ∈ d0.weights Tryd.prog 24 → z ≤ reachBytes) := fun z => by
    have h := List.all_eq_true.1 hwt z
    simp only [decide_eq_true_eq] at h
    refine fun hz => h ?_
    all_goals
      simp only [List.cons_append, List.nil_append, List.toList_toArray, List.append_nil, DataW.weightsEach, List.mem_append]
      simp [hz]
  have k0 := h0
  have lt0 : ∀ x ∈ p0, x.block < W.heap.size := by obtain ⟨m, hm⟩ := k0; exact DataW.trod_lt m _ _ _ hm
  obtain ⟨x0, m0, rfl, g0, z0⟩ := open_claim (hval 0 24 v0 rfl rfl) h0 (fun z hz => hwl z hz)
  clear hA0 hval0
  refine (walk W x0 m0 g0 z0 hT).mono fun e W' ⟨he, bel⟩ => ?_
  subst he
  exact ⟨_, rfl, _, _, _, [], _, [], hW', (trodAll_cons_mk (shut_bool Tryd.underlying4 _) trodAll_mk0), (trodAll_cons_mk (Below.trod laidOut (by kernel_rfl) (of_decide_eq_true (by kernel_rfl)) k0 bel lt0) trodAll_mk0), rfl, bel.frame _, fun h => by cases h⟩

theorem over : Rows.claimCopiesRow.holds Tryd.pinned (OpenSpec.ofChange Rows.claimCopiesSpec) :=
  OpenClaim.holds_of_wide 7 Tryd.f7 rfl rfl rfl rfl rfl rfl rfl ⟨rfl, rfl, rfl, rfl, rfl⟩ rfl rfl rfl rfl rfl (by kernel_rfl) Tryd.func7 (by kernel_rfl)
    (of_decide_eq_true (by kernel_rfl)) (by unfold Func.isWrapper; first | (rw [if_pos (by decide +kernel)]; kernel_rfl) | (rw [if_neg (by decide +kernel)]; exact ⟨rfl, rfl⟩))
    (fun os started H enc _ => lifted os started H enc)

/-- The row's statement. -/
theorem proved : Rows.ClaimCopiesSaid := over
end Go.Proofs.YtpmlmoclocccoaaDoor.claimCopies
namespace Go.Proofs.YtpmlmoclocccoaaDoor
theorem claimCopies_holds : Rows.ClaimCopiesCardSaid :=
  Claim7.holds_tied_plain_at .later [] [.data] true (true, "e0c6d56abecee78b69bbdfe67875128316fb25898fd5cc9334db5ddfe1891555") false
    claimCopies.proved (fun _ h => by cases h) (by kernel_rfl) (fun _ h => by cases h) claimCopies_row_tie rfl ⟨rfl, rfl⟩ (by kernel_rfl) rfl
    (fun f fn hf hfn => by
      obtain rfl : f = 7 := Option.some.inj ((show Tryd.prog.funcNamed "leechbook/leechbooklaw07.ClaimCopies" = some 7 by kernel_rfl).symm.trans hf) |>.symm
      obtain rfl : fn = Tryd.f7 := (Option.some.inj (Tryd.func7.symm.trans hfn)).symm
      exact ⟨by kernel_rfl, fun j t ht => by
        rw [Tryd.params7] at ht
        have hm : t ∈ [24] := by simpa using Array.mem_of_getElem? ht
        have hall : ([24].all fun u => !Tryd.prog.wantsStandIn u) = true := by kernel_rfl
        exact (show Tryd.prog.wantsStandIn t = false by simpa using List.all_eq_true.1 hall t hm)⟩)
    (by kernel_rfl)
#print axioms claimCopies_holds
end Go.Proofs.YtpmlmoclocccoaaDoor
