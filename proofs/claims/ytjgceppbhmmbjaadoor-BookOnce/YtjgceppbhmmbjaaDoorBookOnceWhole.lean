/-
  The statement BookOnce (18.5): no number stands twice in a book that claims make, nor are there more than may be; a claim that stands was put, and not taken back: for all claims and numbers; without a condition.
-/
import Derived.WalkKit
import Derived.ProofKit
import Derived.OpenShut
import Derived.ShutString
import Derived.Below
import Derived.Carry
import Derived.LaidMore
import Derived.Stop.Joined
import Derived.SevenTiedAt
import Derived.Deep.DeepCutAuto
import Derived.Test.YtjgceppbhmmbjaaDoorRows
import Derived.Test.YtjgceppbhmmbjaaDoorTie
import Derived.Test.YtjgceppbhmmbjaaDoorCards
import Derived.Test.YtjgceppbhmmbjaaDoorMb1
import Derived.Test.YtjgceppbhmmbjaaDoorMb2
import Derived.Test.YtjgceppbhmmbjaaDoorMb3
import Derived.Test.YtjgceppbhmmbjaaDoorMb4
import Derived.Test.YtjgceppbhmmbjaaDoorMb5
import Derived.Test.YtjgceppbhmmbjaaDoorMb6
import Derived.Test.YtjgceppbhmmbjaaDoorMb7
import Derived.Test.YtjgceppbhmmbjaaDoorMb8
import Derived.Test.YtjgceppbhmmbjaaDoorMb9
import Derived.Test.YtjgceppbhmmbjaaDoorMb10
import Derived.Test.YtjgceppbhmmbjaaDoorMb11
import Derived.Test.YtjgceppbhmmbjaaDoorMb12
import Derived.Test.YtjgceppbhmmbjaaDoorMb13
import Derived.Test.YtjgceppbhmmbjaaDoorMb14
import Derived.Test.YtjgceppbhmmbjaaDoorMb15
import Derived.Test.YtjgceppbhmmbjaaDoorMb16
import Derived.Test.YtjgceppbhmmbjaaDoorMb17
import Derived.Test.YtjgceppbhmmbjaaDoorMb18
import Derived.Test.YtjgceppbhmmbjaaDoorMb19
import Derived.Test.YtjgceppbhmmbjaaDoorMb20
import Derived.Test.YtjgceppbhmmbjaaDoorMb21
import Derived.Test.YtjgceppbhmmbjaaDoorMb22
import Derived.Test.YtjgceppbhmmbjaaDoorMb23
import Derived.Test.YtjgceppbhmmbjaaDoorMb24
import Derived.Test.YtjgceppbhmmbjaaDoorMb25
import Derived.Test.YtjgceppbhmmbjaaDoorMb26
import Derived.Test.YtjgceppbhmmbjaaDoorMb27
import Derived.Test.YtjgceppbhmmbjaaDoorMb28
import Derived.Test.YtjgceppbhmmbjaaDoorMb29
namespace Go.Proofs.YtjgceppbhmmbjaaDoor.bookOnce
open Go.ChangeShapes Go.WideShapes Go.ChangeAt Go.RowKit
open Cm (Ln Cl cl0 LnsAt clv lnv LnOk ClOk laidL lift open_claim)
open Bk
open Sh (Ot)
open Go.ChangeMaps (open_string)
set_option linter.unusedVariables false
set_option linter.unusedSimpArgs false
set_option maxRecDepth 100000

theorem own : ownKnob Tryd.prog.godebug = none := by kernel_rfl

/-! ### the walk: the law returns true -/
set_option maxHeartbeats 16000000 in
theorem walk (w : World) (vd : Value) (d : List Cl) (hD : Cm.ClsAt All w vd d) (hd : ∀ x ∈ d, ClOk x) (a1 : Int) (w1 : (Lit.int .u8 a1).wf = true) (hT : Da.Tab w) :
    Calls Tryd.prog 5 #[vd, .int .u8 a1] w fun e w' => e = .returned (.bool true) ∧ Below w.heap.size w w' := by
  have HW := Lib.hid fun W (hW : Below w.heap.size w W) => works_any W (Cm.tab_below hT hW)
  obtain ⟨da, dc, rfl, hl1, hl2⟩ := Cm.ClsAt.form hD
  have hu : 0 ≤ a1 ∧ a1 ≤ 255 := by simpa [Lit.wf, IntKind.min, IntKind.max, IntKind.signed, IntKind.bits] using w1
  obtain ⟨hu0, hu1⟩ := hu
  have hcv : IntKind.i64.wrap a1 = a1 := by rw [IntKind.wrap_i64]; omega
  have HDs := Lib.hid fun W (hW : Below w.heap.size w W) => (Cm.ClsAt.move hD (Below.moves hW) : Cm.ClsAt All W (.slice da d.length dc) d)
  have HWd : Hid (∀ W, Below w.heap.size w W → Calls Tryd.prog 20 #[.slice da d.length dc, .int .i64 200] W fun e w' => (∃ n : Int, e = .returned (.int .i64 n) ∧ (n ≤ 200 → ∀ z ∈ d, Cm.ClLight z)) ∧ Below W.heap.size W w') := fun W hW => by
    refine (Cm.weight2_any 200 (by decide) (by decide) _ d W (HDs.out W hW) hd).mono ?_
    rintro e w' ⟨⟨n, e1, e2, -⟩, hb⟩
    exact ⟨⟨n, e1, e2⟩, hb⟩
  have HPu : Hid ((∀ c ∈ d, Cm.ClLight c) → d.length ≤ 30 → ∀ (k : Nat) (x : Cl) W v m, x ∈ d → Below w.heap.size w W → EnsAt All W v (made a1 0 [] (d.take k)) → LnsAt All W m x.lines → Calls Tryd.prog 11 #[v, clv x m, .int .i64 (k : Nat), .int .i64 a1] W fun e w' => (∃ a q, e = .returned (.tuple #[.slice a (putV (made a1 0 [] (d.take k)) x (k : Nat) a1).length q, .int .i64 (putA (made a1 0 [] (d.take k)) x a1), .int .i64 (admE (made a1 0 [] (d.take k)) x a1)]) ∧ EnsAt All w' (.slice a (putV (made a1 0 [] (d.take k)) x (k : Nat) a1).length q) (putV (made a1 0 [] (d.take k)) x (k : Nat) a1)) ∧ Below W.heap.size W w') := fun h h3 k x W v m hx hW hv hm => put_at (made a1 0 [] (d.take k)) x (k : Nat) a1 v m W hv hm (hd x hx) (Cm.tab_below hT hW) (by have := made_l a1 (d.take k) 0 []; rw [List.length_take] at this; simp only [List.length_nil] at this; omega) (made_b a1 (d.take k) 0 [] (fun c hc => fit_of (h c (List.mem_of_mem_take hc))) (fun x hx => by cases hx)) (fit_of (h x hx))
  have HIn : Hid (Inv (made a1 0 [] d)) := made_inv a1 d 0 [] inv_nil
  have HLe : Hid (((made a1 0 [] d).length : Int) ≤ a1) := (made_len a1 d 0 [] hu0).1
  have HBl : Hid ((made a1 0 [] d).length ≤ d.length) := Lib.hid (by have := made_l a1 d 0 []; simpa using this)
  have HB0 := Lib.hid (Below.refl w.heap.size w)
  clear hD hd hT
  go_enter Tryd.func5, Tryd.ntmps5
  by_cases g1 : (d.length : Int) > 30
  · have d1 : decide ((d.length : Int) > 30) = true := decide_eq_true g1
    have d1' : (30 : Int) < (d.length : Int) := by omega
    go_wp2_with fail
    try (go_at_call 10)
    refine (HW.out w HB0.out).mono ?_
    rintro e w99 ⟨rfl, hb99⟩
    have HB99 := Lib.hid (below_trans HB0.out hb99)
    clear hb99
    go_wp2
    go_ret
    exact ⟨rfl, HB99.out⟩
  have d1 : decide ((d.length : Int) > 30) = false := decide_eq_false g1
  have d1' : ¬ (30 : Int) < (d.length : Int) := by omega
  go_wp2_with fail
  try (go_at_call 20)
  refine (HWd.out w HB0.out).mono ?_
  rintro e w2 ⟨⟨n1, rfl, hn1⟩, hb2⟩
  have HB2 := Lib.hid hb2
  have HN1 := Lib.hid hn1
  clear hb2 hn1 HWd HB0
  by_cases g2 : n1 > 200
  · have d2 : decide (n1 > 200) = true := decide_eq_true g2
    have d2' : (200 : Int) < n1 := by omega
    go_wp2_with fail
    try (go_at_call 10)
    refine (HW.out w2 HB2.out).mono ?_
    rintro e w99 ⟨rfl, hb99⟩
    have HB99 := Lib.hid (below_trans HB2.out hb99)
    clear hb99
    go_wp2
    go_ret
    exact ⟨rfl, HB99.out⟩
  have d2 : decide (n1 > 200) = false := decide_eq_false g2
  have d2' : ¬ (200 : Int) < n1 := by omega
  have h30 : d.length ≤ 30 := by omega
  have HP := Lib.hid (HPu.out (HN1.out (by omega)) h30)
  clear HN1 HPu g1 g2
  go_wp2
  go_loopg [5, 6] (d.length) (fun gg s5 s6 wr => ∃ (k : Nat) (a : Option Addr) (cp : Nat), s6 = .int .i64 k ∧ s5 = .slice a (made a1 0 [] (d.take k)).length cp ∧ k ≤ d.length ∧ d.length - k ≤ gg ∧ Hid (EnsAt All wr (.slice a (made a1 0 [] (d.take k)).length cp) (made a1 0 [] (d.take k))) ∧ Hid (Below w.heap.size w wr))
  case atStart => exact ⟨0, none, 0, rfl, rfl, Nat.zero_le _, by omega, EnsAt.nil _ _, HB2.out⟩
  case round =>
    clear HB2 d1 d1' d2 d2'
    obtain ⟨k, a, cp, rfl, rfl, hk, hgk, HE, HBn⟩ := hrel
    by_cases hlt : k < d.length
    · have hltz : (k : Int) < (d.length : Int) := by omega
      obtain ⟨b, oo, m, rfl, hb1, hx, hc, hln⟩ := cl_get (HDs.out _ HBn.out) k hlt
      have hmem := List.mem_of_getElem? hx
      have HMT := Lib.hid (made_take (most := a1) hx)
      obtain ⟨am, km, e1, -, -⟩ := Cm.LnsAt.form hln
      have HPk := Lib.hid (HP.out k d[k] wr _ m hmem HBn.out HE.out hln)
      subst e1
      generalize d[k] = x at *
      unfold putV at HPk
      generalize made a1 0 [] (d.take k) = B at *
      obtain ⟨x0, x1, x2, x3, x4, x5, x6⟩ := hc
      have hi1 : k < d.length := hlt
      clear hln hx hmem HP HIn HLe HBl HW HDs
      by_cases h0 : admE B x a1 = 0
      · have hM := HMT.out
        rw [if_pos h0] at hM
        rw [if_pos h0, ← hM, h0] at HPk
        obtain ⟨B2, hB2⟩ : ∃ z, z = made a1 0 [] (d.take (k + 1)) := ⟨_, rfl⟩
        rw [← hB2] at HPk
        have HQ := Lib.hid hB2
        clear h0 hM HMT HE hB2
        go_wp2_with (first | (go_at_call 11; refine (HPk.out).mono ?_; rintro e w3 ⟨⟨a2, k2, rfl, he2⟩, hb3⟩; have HE2 := Lib.hid he2; have HB3 := Lib.hid (below_trans HBn.out hb3); clear he2 hb3))
        go_roundg (d.length - (k + 1))
        case measure => omega
        case rel => exact ⟨k + 1, a2, k2, by first | rfl | go_num | (congr 1; omega), by rw [← HQ.out], by omega, by omega, by rw [← HQ.out]; exact HE2.out, HB3.out⟩
      · have hM := HMT.out
        rw [if_neg h0] at hM
        rw [if_neg h0] at HPk
        have h0b : (admE B x a1 == 0) = false := by simp [h0]
        have HQ := Lib.hid hM
        have HE2 : Hid (∀ W, Below wr.heap.size wr W → EnsAt All W (.slice a B.length cp) B) := fun W hb => HE.out.grw hb
        clear h0 HMT HE hM
        go_wp2_with (first | (go_at_call 11; refine (HPk.out).mono ?_; rintro e w3 ⟨⟨a2, k2, rfl, -⟩, hb3⟩; have HE3 := Lib.hid (HE2.out _ hb3); have HB3 := Lib.hid (below_trans HBn.out hb3); clear hb3))
        go_roundg (d.length - (k + 1))
        case measure => omega
        case rel => exact ⟨k + 1, a, cp, by first | rfl | go_num | (congr 1; omega), by rw [HQ.out], by omega, by omega, by rw [HQ.out]; exact HE3.out, HB3.out⟩
    · have hltz : ¬ (k : Int) < (d.length : Int) := by omega
      have hall : d.take k = d := List.take_of_length_le (by omega)
      rw [hall] at HE ⊢
      clear hall HP HDs
      generalize made a1 0 [] d = BB at *
      have hn30 : BB.length ≤ 30 := by have := HBl.out; omega
      have hle := HLe.out
      have hle' : ¬ a1 < (BB.length : Int) := by omega
      have hle2 : decide ((BB.length : Int) > a1) = false := decide_eq_false (by omega)
      clear HLe HBl hk hgk hlt
      obtain ⟨w5, hw5⟩ : ∃ z, z = wr := ⟨_, rfl⟩
      subst hw5
      go_wp2
      go_loopg [10] (BB.length) (fun gg s10 wr => ∃ i : Nat, s10 = .int .i64 i ∧ i ≤ BB.length ∧ BB.length - i ≤ gg ∧ Hid (Below w5.heap.size w5 wr))
      case atStart => exact ⟨0, rfl, Nat.zero_le _, by omega, Below.refl _ _⟩
      case round =>
        clear hle hle' hle2 hltz
        obtain ⟨i, rfl, hi, hgi, HBi⟩ := hrel
        by_cases hlti : i < BB.length
        case neg =>
          have hltz : ¬ (i : Int) < (BB.length : Int) := by omega
          have HBw := Lib.hid (below_trans HBn.out HBi.out)
          clear HE HIn
          go_wp2_with fail
          try (go_at_call 10)
          refine (HW.out wr HBw.out).mono ?_
          rintro e w99 ⟨rfl, hb99⟩
          have HB99 := Lib.hid (below_trans HBw.out hb99)
          clear hb99
          go_wp2
          go_ret
          exact ⟨rfl, HB99.out⟩
        have hltzi : (i : Int) < (BB.length : Int) := by omega
        obtain ⟨w6, hw6⟩ : ∃ z, z = wr := ⟨_, rfl⟩
        subst hw6
        go_wp2
        go_loopg [11] (i) (fun gg s11 wr => ∃ j : Nat, s11 = .int .i64 j ∧ j ≤ i ∧ i - j ≤ gg ∧ Hid (Below w5.heap.size w5 wr))
        case atStart => exact ⟨0, rfl, Nat.zero_le _, by omega, HBi.out⟩
        case round =>
          clear HBi
          obtain ⟨j, rfl, hj, hgj, HBj⟩ := hrel
          by_cases hltj : j < i
          case neg =>
            have hltz : ¬ (j : Int) < (i : Int) := by omega
            go_wp2
            go_roundg (BB.length - (i + 1))
            case measure => omega
            case rel => exact ⟨i + 1, by first | rfl | go_num | (congr 1; omega), by omega, by omega, HBj.out⟩
          have hltzj : (j : Int) < (i : Int) := by omega
          have hjn : j < BB.length := by omega
          obtain ⟨b, oo, m, mo, rfl, hbs, hx, hcx, -⟩ := EnsAt.get (HE.out.grw HBj.out) i hlti
          obtain ⟨m2, mo2, hcy, -⟩ := en_keep (HE.out.grw HBj.out) j hjn
          obtain ⟨f1, f2⟩ := inv_once HIn.out i j _ _ hx (List.getElem?_eq_getElem hjn) (by omega)
          obtain ⟨-, f3⟩ := inv_once HIn.out j i _ _ (List.getElem?_eq_getElem hjn) hx (by omega)
          clear hx
          generalize BB[i] = x at *
          generalize BB[j] = y at *
          have HXK := Lib.hid fun W' (hW : Below wr.heap.size wr W') => And.intro (hcx.of (hW.block b hbs)) (hcy.of (hW.block b hbs))
          have t1 := Cm.mk_ne x.cl.id y.cl.id
          rw [decide_eq_false f1] at t1
          obtain ⟨wo, hwo⟩ : ∃ z, z = wr := ⟨_, rfl⟩
          subst hwo
          have hi1 : i < BB.length := hlti
          have hj1 : j < BB.length := hjn
          have hjz : (j : Int) < (BB.length : Int) := by omega
          have HF2 := Lib.hid f2
          have HF3 := Lib.hid f3
          clear hcx hcy f1 f2 f3 hbs
          go_upto_region 18 with fail
          go_cut [71] (fun s71 wx => s71 = .bool false ∧ Hid (Below wo.heap.size wo wx))
          case first =>
            obtain ⟨⟨p0, p1, p2, p3, p4, p5, p6, p7, p8, p9⟩, r0, r1, r2, r3, r4, r5, r6, r7, r8, r9⟩ := HXK.out wo (Below.refl _ _)
            clear HXK HW HE HIn HF2 HF3 HBj HBn
            go_wp2_with fail
            go_quiet (fail)
            go_wp2
            go_meet
            exact ⟨by first | rfl | (go_simp; done), Cm.below_drewN _ _⟩
          case rest =>
            obtain ⟨rfl, HBx⟩ := hcut
            obtain ⟨wq, hwq⟩ : ∃ z, z = wc := ⟨_, rfl⟩
            subst hwq
            clear t1
            have HBq := Lib.hid (below_trans HBj.out HBx.out)
            have hcl := HXK.out wq HBx.out
            clear HXK HBx HBj
            go_upto_region 20 with fail
            go_cut [133] (fun s133 wx => s133 = .bool false ∧ Hid (Below wq.heap.size wq wx))
            case first =>
              obtain ⟨⟨p0, p1, p2, p3, p4, p5, p6, p7, p8, p9⟩, r0, r1, r2, r3, r4, r5, r6, r7, r8, r9⟩ := hcl
              clear HW HE HIn HBq HBn p1 p2 p3 p6 p7 p9 r1 r2 r3 r6 r7 r9
              have hP := three_ways HF2.out
              have hQ := three_ways HF3.out
              clear HF2 HF3
              rcases hP with hp1 | ⟨hp1, hp2⟩ | ⟨hp1, hp2, hp3⟩ <;> rcases hQ with hq1 | ⟨hq1, hq2⟩ | ⟨hq1, hq2, hq3⟩
              all_goals
                go_wp2_with fail
                go_quiet (fail)
                go_wp2
                go_meet
                exact ⟨by first | rfl | (go_simp; done), Cm.below_drewN _ _⟩
            case rest =>
              obtain ⟨rfl, HBy⟩ := hcut
              obtain ⟨wz, hwz⟩ : ∃ z, z = wc := ⟨_, rfl⟩
              subst hwz
              have HBz := Lib.hid (below_trans HBq.out HBy.out)
              clear hcl HBy HBq
              go_wp2
              go_roundg (i - (j + 1))
              case measure => omega
              case rel => exact ⟨j + 1, by first | rfl | go_num | (congr 1; omega), by omega, by omega, HBz.out⟩

/-! ### the row's step -/
theorem laidOut : laidOutB Tryd.prog = true := by kernel_rfl
set_option maxRecDepth 100000 in
theorem lifted (os : Os) (started : os.Started) (H : Type) (enc : TypeId × Value → H) :
    ReturnsInHanded {} Tryd.checked os 5 .any (fun w args => (Rows.bookOnceSpec.pre enc Tryd.prog Tryd.f5 [] false w args ∧ laidMetH Tryd.prog laidL w) ∧ sizedMet enc Tryd.prog Tryd.f5 (OpenSpec.ofChange Rows.bookOnceSpec) false w args) (Rows.bookOnceSpec.post enc Tryd.prog Tryd.f5 false true false false) := by
  refine lift own started (by kernel_rfl) Tryd.func5
    (ChangeSpec.witness_shaped (enc := enc) (C := Tryd.checked) (os := os) (X := fun w _ => laidMetH Tryd.prog laidL w) false (World.laidAll Tryd.prog os laidL) #[.slice none 0 0, .int .u8 0] 8 (World.laidAll_os _ _ _)
      (World.shaped_of_ZipB (by kernel_rfl) (by kernel_rfl)) (by kernel_rfl) (by kernel_rfl) (by kernel_rfl)
      (by rw [MakeChecks.laidMetH_plain _ _ _ (by kernel_rfl)]; exact laidMet_laidAll _ (by kernel_rfl) (by kernel_rfl))) ?_
  intro W base args ds gs before hval0 hW hwt hT
  have hval : ∀ (j : Nat) t v, Tryd.f5.params[j]? = some t → args[j]? = some v → Value.okWide Tryd.prog W .any base t v := hval0
  have hW' := hW
  obtain ⟨p, q, hA0, hV, rfl, hfz, hnd⟩ := hW
  have hA : DataW.TrodAll enc Tryd.prog W 0 (fun _ => true) true Tryd.f5.params.toList args.toList ds p := hA0
  rw [Tryd.params5] at hA hval hwt
  obtain ⟨v0, vs0, d0, ds0, p0, q0, hargs, rfl, rfl, h0, r0⟩ := trodAll_cons hA
  obtain ⟨v1, vs1, d1, ds1, p1, q1, rfl, rfl, rfl, h1, r1⟩ := trodAll_cons r0
  obtain ⟨rfl, rfl, rfl⟩ := trodAll_nil r1
  obtain rfl : args = #[v0, v1] := by cases args; simp_all
  obtain ⟨rfl, rfl⟩ := trodVars_none hV
  have hwl : ∀ z, (z ∈ d0.weights Tryd.prog 37 → z ≤ reachBytes) ∧ (z ∈ d1.weights Tryd.prog 5 → z ≤ reachBytes) := fun z => by
    have h := List.all_eq_true.1 hwt z
    simp only [decide_eq_true_eq] at h
    refine ⟨fun hz => h ?_, fun hz => h ?_⟩
    all_goals
      simp only [List.cons_append, List.nil_append, List.toList_toArray, List.append_nil, DataW.weightsEach, List.mem_append]
      simp [hz]
  have k0 := h0
  have lt0 : ∀ x ∈ p0, x.block < W.heap.size := by obtain ⟨m, hm⟩ := k0; exact DataW.trod_lt m _ _ _ hm
  obtain ⟨l0, g0, z0⟩ := Bo.open_cls (okWide_slice Tryd.underlying37 (hval 0 37 v0 rfl rfl)) h0 (fun z hz => (hwl z).1 hz)
  have k1 := h1
  have lt1 : ∀ x ∈ p1, x.block < W.heap.size := by obtain ⟨m, hm⟩ := k1; exact DataW.trod_lt m _ _ _ hm
  obtain ⟨a1, rfl, _, _, w1⟩ := open_int Tryd.underlying5 (hval 1 5 v1 rfl rfl) h1
  clear hA0 hval0
  refine (walk W v0 l0 g0 z0 a1 w1 hT).mono fun e W' ⟨he, bel⟩ => ?_
  subst he
  exact ⟨_, rfl, _, _, _, [], _, [], hW', (trodAll_cons_mk (shut_bool Tryd.underlying4 _) trodAll_mk0), (trodAll_cons_mk (Below.trod laidOut (by kernel_rfl) (of_decide_eq_true (by kernel_rfl)) k0 bel lt0) (trodAll_cons_mk (Below.trod laidOut (by kernel_rfl) (of_decide_eq_true (by kernel_rfl)) k1 bel lt1) trodAll_mk0)), rfl, bel.frame _, fun h => by cases h⟩

theorem over : Rows.bookOnceRow.holds Tryd.pinned (OpenSpec.ofChange Rows.bookOnceSpec) :=
  OpenClaim.holds_of_wide 5 Tryd.f5 rfl rfl rfl rfl rfl rfl rfl ⟨rfl, rfl, rfl, rfl, rfl⟩ rfl rfl rfl rfl rfl (by kernel_rfl) Tryd.func5 (by kernel_rfl)
    (of_decide_eq_true (by kernel_rfl)) (by unfold Func.isWrapper; first | (rw [if_pos (by decide +kernel)]; kernel_rfl) | (rw [if_neg (by decide +kernel)]; exact ⟨rfl, rfl⟩))
    (fun os started H enc _ => lifted os started H enc)

/-- The row's statement. -/
theorem proved : Rows.BookOnceSaid := over
end Go.Proofs.YtjgceppbhmmbjaaDoor.bookOnce
namespace Go.Proofs.YtjgceppbhmmbjaaDoor
theorem bookOnce_holds : Rows.BookOnceCardSaid :=
  Claim7.holds_tied_plain_at .later [] [.data] true (true, "f2479070b03f171d82c90618c5dc1cf43e6570ed6b4a30a463a32bd4503c9e70") false
    bookOnce.proved (fun _ h => by cases h) (by kernel_rfl) (fun _ h => by cases h) bookOnce_row_tie rfl ⟨rfl, rfl⟩ (by kernel_rfl) rfl
    (fun f fn hf hfn => by
      obtain rfl : f = 5 := Option.some.inj ((show Tryd.prog.funcNamed "leechbook/leechbooklaw18.BookOnce" = some 5 by kernel_rfl).symm.trans hf) |>.symm
      obtain rfl : fn = Tryd.f5 := (Option.some.inj (Tryd.func5.symm.trans hfn)).symm
      exact ⟨by kernel_rfl, fun j t ht => by
        rw [Tryd.params5] at ht
        have hm : t ∈ [37, 5] := by simpa using Array.mem_of_getElem? ht
        have hall : ([37, 5].all fun u => !Tryd.prog.wantsStandIn u) = true := by kernel_rfl
        exact (show Tryd.prog.wantsStandIn t = false by simpa using List.all_eq_true.1 hall t hm)⟩)
    (by kernel_rfl)
#print axioms bookOnce_holds
end Go.Proofs.YtjgceppbhmmbjaaDoor
