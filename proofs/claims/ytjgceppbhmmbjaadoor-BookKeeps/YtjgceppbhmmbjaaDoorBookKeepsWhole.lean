/-
  The statement BookKeeps (18.5): the book that is handed in stays as it was: for all books, claims and numbers; without a condition.
-/
import Derived.WalkKit
import Derived.ProofKit
import Derived.OpenShut
import Derived.ShutString
import Derived.Below
import Derived.Carry
import Derived.LaidMore
import Derived.Stop.Joined
import Derived.SevenTiedAt
import Derived.Deep.DeepCutAuto
import Derived.Test.YtjgceppbhmmbjaaDoorRows
import Derived.Test.YtjgceppbhmmbjaaDoorTie
import Derived.Test.YtjgceppbhmmbjaaDoorCards
import Derived.Test.YtjgceppbhmmbjaaDoorMb1
import Derived.Test.YtjgceppbhmmbjaaDoorMb2
import Derived.Test.YtjgceppbhmmbjaaDoorMb3
import Derived.Test.YtjgceppbhmmbjaaDoorMb4
import Derived.Test.YtjgceppbhmmbjaaDoorMb5
import Derived.Test.YtjgceppbhmmbjaaDoorMb6
import Derived.Test.YtjgceppbhmmbjaaDoorMb7
import Derived.Test.YtjgceppbhmmbjaaDoorMb8
import Derived.Test.YtjgceppbhmmbjaaDoorMb9
import Derived.Test.YtjgceppbhmmbjaaDoorMb10
import Derived.Test.YtjgceppbhmmbjaaDoorMb11
import Derived.Test.YtjgceppbhmmbjaaDoorMb12
import Derived.Test.YtjgceppbhmmbjaaDoorMb13
import Derived.Test.YtjgceppbhmmbjaaDoorMb14
import Derived.Test.YtjgceppbhmmbjaaDoorMb15
import Derived.Test.YtjgceppbhmmbjaaDoorMb16
import Derived.Test.YtjgceppbhmmbjaaDoorMb17
import Derived.Test.YtjgceppbhmmbjaaDoorMb18
import Derived.Test.YtjgceppbhmmbjaaDoorMb19
import Derived.Test.YtjgceppbhmmbjaaDoorMb20
import Derived.Test.YtjgceppbhmmbjaaDoorMb21
import Derived.Test.YtjgceppbhmmbjaaDoorMb22
import Derived.Test.YtjgceppbhmmbjaaDoorMb23
import Derived.Test.YtjgceppbhmmbjaaDoorMb24
import Derived.Test.YtjgceppbhmmbjaaDoorMb25
import Derived.Test.YtjgceppbhmmbjaaDoorMb26
import Derived.Test.YtjgceppbhmmbjaaDoorMb27
import Derived.Test.YtjgceppbhmmbjaaDoorMb28
import Derived.Test.YtjgceppbhmmbjaaDoorMb29
namespace Go.Proofs.YtjgceppbhmmbjaaDoor.bookKeeps
open Go.ChangeShapes Go.WideShapes Go.ChangeAt Go.RowKit
open Cm (Ln Cl cl0 LnsAt clv lnv LnOk ClOk laidL lift open_claim)
open Bk
open Sh (Ot)
open Go.ChangeMaps (open_string)
set_option linter.unusedVariables false
set_option linter.unusedSimpArgs false
set_option maxRecDepth 100000

theorem own : ownKnob Tryd.prog.godebug = none := by kernel_rfl

/-! ### the walk: the law returns true -/
set_option maxHeartbeats 4000000 in
theorem walk (w : World) (ve : Value) (l : List En) (hE : EnsAt All w ve l) (he : ∀ x ∈ l, EnOk x) (c : Cl) (ml : Value) (hL : LnsAt All w ml c.lines) (hc : ClOk c) (a2 : Int) (w2 : (Lit.int .i64 a2).wf = true) (a3 : Int) (w3 : (Lit.int .i64 a3).wf = true) (hT : Da.Tab w) :
    Calls Tryd.prog 8 #[ve, clv c ml, .int .i64 a2, .int .i64 a3] w fun e w' => e = .returned (.bool true) ∧ Below w.heap.size w w' := by
  have HW := Lib.hid fun W (hW : Below w.heap.size w W) => works_any W (Cm.tab_below hT hW)
  obtain ⟨ea, ec, rfl, hl1, hl2⟩ := hE.form
  obtain ⟨la, lc, rfl, hl3, hl4⟩ := Cm.LnsAt.form hL
  have HLn := Lib.hid fun W (hW : Below w.heap.size w W) => LnsAt.move hL (Below.moves hW)
  have HEs := Lib.hid fun W (hW : Below w.heap.size w W) => hE.grw hW
  have HLi := Lib.hid fun W (hW : Below w.heap.size w W) => light_any l c (.slice ea l.length ec) (.slice la c.lines.length lc) W (hE.grw hW) (HLn.out W hW) he hc
  have HPu : Hid (LtP l c → ∀ W v, Below w.heap.size w W → EnsAt All W v l → Calls Tryd.prog 11 #[v, clv c (.slice la c.lines.length lc), .int .i64 a2, .int .i64 a3] W (PutV l c a2 a3 W)) := fun h W v hW hv => put_any l c a2 a3 v (.slice la c.lines.length lc) W hv (HLn.out W hW) hc (Cm.tab_below hT hW) (by have := h.1.1; omega) (fun x hx => (enb_of (h.1.2 x hx)).fit) (fit_of h.2)
  have HSa : Hid (LtP l c → ∀ W v u, EnsAt All W v l → EnsAt All W u l → Calls Tryd.prog 13 #[v, u] W fun e w' => e = .returned (.bool true) ∧ Below W.heap.size W w') := fun h W v u g1 g2 => same_eq l v u W g1 g2 (fun x hx => (enb_of (h.1.2 x hx)).2) (by have := h.1.1; omega)
  have HX0 := Lib.hid (alloc_new w #[.string (mk c.id), .string (mk c.mem), .string (mk c.fam), .int .i64 c.net, .int .i64 c.does, .string (mk c.ref), .slice la c.lines.length lc] 25)
  have HB0 := Lib.hid (below_alloc w (.cells #[.string (mk c.id), .string (mk c.mem), .string (mk c.fam), .int .i64 c.net, .int .i64 c.does, .string (mk c.ref), .slice la c.lines.length lc] 25))
  clear hE he hT hL hc HLn
  go_enter Tryd.func8, Tryd.ntmps8
  go_upto_region 1 with fail
  generalize w.alloc (.cells #[.string (mk c.id), .string (mk c.mem), .string (mk c.fam), .int .i64 c.net, .int .i64 c.does, .string (mk c.ref), .slice la c.lines.length lc] 25) = w0 at *
  obtain ⟨c0, c1, c2, c3, c4, c5, c6⟩ := seven HX0.out
  go_wp2_with fail
  try (go_at_call 9)
  refine (HLi.out w0 HB0.out).mono ?_
  rintro e w1 ⟨⟨b1, rfl, hl⟩, hb1⟩
  have HB1 := Lib.hid (below_trans HB0.out hb1)
  have HLt := Lib.hid hl
  have HX1 := Lib.hid (keepB HX0.out hb1)
  clear hb1 hl HLi HB0 HX0 c0 c1 c2 c3 c4 c5 c6
  cases b1 with
  | false =>
    go_wp2_with fail
    try (go_at_call 10)
    refine (HW.out w1 HB1.out).mono ?_
    rintro e w99 ⟨rfl, hb99⟩
    have HB99 := Lib.hid (below_trans HB1.out hb99)
    clear hb99
    go_wp2
    go_ret
    exact ⟨rfl, HB99.out⟩
  | true =>
    have HL := Lib.hid (HLt.out rfl)
    have hln : l.length ≤ 100000 := by have := HL.out.1.1; omega
    have HP := Lib.hid (HPu.out HL.out)
    have HS := Lib.hid (HSa.out HL.out)
    clear HLt HL HPu HSa
    go_wp2_with (at_builtin; refine wpList_plain (by rfl) (fun K hK => ?_); refine wp_appN _ _ rfl rfl _ _ _ l rfl (HEs.out w1 HB1.out) hln (fun v2 w2 he2 hb2 => ?_); refine hK _ _ ?_; obtain ⟨ia, ic, rfl, -, -⟩ := EnsAt.form he2; have HI2 := Lib.hid he2; have HB2 := Lib.hid (below_trans HB1.out hb2); have HX2 := Lib.hid (keepB HX1.out hb2); obtain ⟨c0, c1, c2, c3, c4, c5, c6⟩ := seven HX2.out; clear he2 hb2 hK HX1 HB1)
    try (go_at_call 11)
    refine (HP.out w2 _ HB2.out HI2.out).mono ?_
    rintro e w3 ⟨⟨v3, L, rfl, -, hF3⟩, hb3⟩
    have HB3 := Lib.hid hb3
    have hrow := hF3.row
    clear hb3 hF3 HP HX2 c0 c1 c2 c3 c4 c5 c6
    rcases hrow with ⟨rfl, -⟩ | ⟨g, cap, rfl, hg0, hrw, hcp1, hcp2⟩
    · have HBw := Lib.hid (below_trans HB2.out HB3.out)
      have HI3 := Lib.hid (HI2.out.grw HB3.out)
      have HE3 := Lib.hid (HEs.out w3 HBw.out)
      clear HEs HI2 HB2 HB3
      go_wp2
      go_loopg [13] (0) (fun gg s13 wr => s13 = .int .i64 0 ∧ wr = w3)
      case atStart => exact ⟨rfl, rfl⟩
      case round =>
        obtain ⟨rfl, rfl⟩ := hrel
        go_wp2_with fail
        try (go_at_call 13)
        refine (HS.out _ _ _ HI3.out HE3.out).mono ?_
        rintro e w4 ⟨rfl, hb4⟩
        have HB4 := Lib.hid (below_trans HBw.out hb4)
        clear hb4 HI3 HE3 HS HBw
        go_wp2_with fail
        try (go_at_call 10)
        refine (HW.out w4 HB4.out).mono ?_
        rintro e w99 ⟨rfl, hb99⟩
        have HB99 := Lib.hid (below_trans HB4.out hb99)
        clear hb99
        go_wp2
        go_ret
        exact ⟨rfl, HB99.out⟩
    · have HG := Lib.hid hrw
      generalize L.length = n at *
      clear hrw
      go_wp2
      go_loopg [13] (n) (fun gg s13 wr => ∃ k : Nat, s13 = .int .i64 k ∧ k ≤ n ∧ n - k ≤ gg ∧ Hid (Below w2.heap.size w2 wr) ∧ Hid (Row wr g n))
      case atStart => exact ⟨0, rfl, Nat.zero_le _, by omega, HB3.out, HG.out⟩
      case round =>
        clear HB3 HG
        obtain ⟨k, rfl, hk, hgk, HBn, HG⟩ := hrel
        by_cases hlt : k < n
        · have hltz : (k : Int) < (n : Int) := by omega
          have hi1 : k < n := hlt
          obtain ⟨⟨uu, hu⟩, hfz, hgs⟩ := HG.out.get hlt
          have HG2 := Lib.hid (HG.out.set (k * 10 + 8) (.int .i64 9))
          have HBm : Hid (Below w2.heap.size w2 (wr.setCell ⟨g, k * 10 + 8, none⟩ (.int .i64 9))) := HBn.out.setCell (p := ⟨g, k * 10 + 8, none⟩) hg0 _
          clear HG HBn
          go_wp2
          go_roundg (n - (k + 1))
          case measure => omega
          case rel => exact ⟨k + 1, by first | rfl | go_num | (congr 1; omega), by omega, by omega, by first | exact HBm.out | (simpa using HBm.out), by first | exact HG2.out | (simpa using HG2.out)⟩
        · have hltz : ¬ (k : Int) < (n : Int) := by omega
          have HBw := Lib.hid (below_trans HB2.out HBn.out)
          have HI3 := Lib.hid (HI2.out.grw HBn.out)
          have HE3 := Lib.hid (HEs.out wr HBw.out)
          clear HEs HI2 HB2 HBn HG
          go_wp2_with fail
          try (go_at_call 13)
          refine (HS.out _ _ _ HI3.out HE3.out).mono ?_
          rintro e w4 ⟨rfl, hb4⟩
          have HB4 := Lib.hid (below_trans HBw.out hb4)
          clear hb4 HI3 HE3 HS HBw
          go_wp2_with fail
          try (go_at_call 10)
          refine (HW.out w4 HB4.out).mono ?_
          rintro e w99 ⟨rfl, hb99⟩
          have HB99 := Lib.hid (below_trans HB4.out hb99)
          clear hb99
          go_wp2
          go_ret
          exact ⟨rfl, HB99.out⟩

/-! ### the row's step -/
theorem laidOut : laidOutB Tryd.prog = true := by kernel_rfl
set_option maxRecDepth 100000 in
theorem lifted (os : Os) (started : os.Started) (H : Type) (enc : TypeId × Value → H) :
    ReturnsInHanded {} Tryd.checked os 8 .any (fun w args => (Rows.bookKeepsSpec.pre enc Tryd.prog Tryd.f8 [] false w args ∧ laidMetH Tryd.prog laidL w) ∧ sizedMet enc Tryd.prog Tryd.f8 (OpenSpec.ofChange Rows.bookKeepsSpec) false w args) (Rows.bookKeepsSpec.post enc Tryd.prog Tryd.f8 false true false false) := by
  refine lift own started (by kernel_rfl) Tryd.func8
    (ChangeSpec.witness_shaped (enc := enc) (C := Tryd.checked) (os := os) (X := fun w _ => laidMetH Tryd.prog laidL w) false (World.laidAll Tryd.prog os laidL) #[.slice none 0 0, .agg #[.string ByteArray.empty, .string ByteArray.empty, .string ByteArray.empty, .int .i64 0, .int .i64 0, .string ByteArray.empty, .slice none 0 0], .int .i64 0, .int .i64 0] 8 (World.laidAll_os _ _ _)
      (World.shaped_of_ZipB (by kernel_rfl) (by kernel_rfl)) (by kernel_rfl) (by kernel_rfl) (by kernel_rfl)
      (by rw [MakeChecks.laidMetH_plain _ _ _ (by kernel_rfl)]; exact laidMet_laidAll _ (by kernel_rfl) (by kernel_rfl))) ?_
  intro W base args ds gs before hval0 hW hwt hT
  have hval : ∀ (j : Nat) t v, Tryd.f8.params[j]? = some t → args[j]? = some v → Value.okWide Tryd.prog W .any base t v := hval0
  have hW' := hW
  obtain ⟨p, q, hA0, hV, rfl, hfz, hnd⟩ := hW
  have hA : DataW.TrodAll enc Tryd.prog W 0 (fun _ => true) true Tryd.f8.params.toList args.toList ds p := hA0
  rw [Tryd.params8] at hA hval hwt
  obtain ⟨v0, vs0, d0, ds0, p0, q0, hargs, rfl, rfl, h0, r0⟩ := trodAll_cons hA
  obtain ⟨v1, vs1, d1, ds1, p1, q1, rfl, rfl, rfl, h1, r1⟩ := trodAll_cons r0
  obtain ⟨v2, vs2, d2, ds2, p2, q2, rfl, rfl, rfl, h2, r2⟩ := trodAll_cons r1
  obtain ⟨v3, vs3, d3, ds3, p3, q3, rfl, rfl, rfl, h3, r3⟩ := trodAll_cons r2
  obtain ⟨rfl, rfl, rfl⟩ := trodAll_nil r3
  obtain rfl : args = #[v0, v1, v2, v3] := by cases args; simp_all
  obtain ⟨rfl, rfl⟩ := trodVars_none hV
  have hwl : ∀ z, (z ∈ d0.weights Tryd.prog 22 → z ≤ reachBytes) ∧ (z ∈ d1.weights Tryd.prog 25 → z ≤ reachBytes) ∧ (z ∈ d2.weights Tryd.prog 3 → z ≤ reachBytes) ∧ (z ∈ d3.weights Tryd.prog 3 → z ≤ reachBytes) := fun z => by
    have h := List.all_eq_true.1 hwt z
    simp only [decide_eq_true_eq] at h
    refine ⟨fun hz => h ?_, fun hz => h ?_, fun hz => h ?_, fun hz => h ?_⟩
    all_goals
      simp only [List.cons_append, List.nil_append, List.toList_toArray, List.append_nil, DataW.weightsEach, List.mem_append]
      simp [hz]
  have k0 := h0
  have lt0 : ∀ x ∈ p0, x.block < W.heap.size := by obtain ⟨m, hm⟩ := k0; exact DataW.trod_lt m _ _ _ hm
  obtain ⟨l0, g0, z0⟩ := Bo.open_ens (okWide_slice Tryd.underlying22 (hval 0 22 v0 rfl rfl)) h0 (fun z hz => (hwl z).1 hz)
  have k1 := h1
  have lt1 : ∀ x ∈ p1, x.block < W.heap.size := by obtain ⟨m, hm⟩ := k1; exact DataW.trod_lt m _ _ _ hm
  obtain ⟨x1, m1, rfl, g1, z1⟩ := open_claim (hval 1 25 v1 rfl rfl) h1 (fun z hz => (hwl z).2.1 hz)
  have k2 := h2
  have lt2 : ∀ x ∈ p2, x.block < W.heap.size := by obtain ⟨m, hm⟩ := k2; exact DataW.trod_lt m _ _ _ hm
  obtain ⟨a2, rfl, _, _, w2⟩ := open_int Tryd.underlying3 (hval 2 3 v2 rfl rfl) h2
  have k3 := h3
  have lt3 : ∀ x ∈ p3, x.block < W.heap.size := by obtain ⟨m, hm⟩ := k3; exact DataW.trod_lt m _ _ _ hm
  obtain ⟨a3, rfl, _, _, w3⟩ := open_int Tryd.underlying3 (hval 3 3 v3 rfl rfl) h3
  clear hA0 hval0
  refine (walk W v0 l0 g0 z0 x1 m1 g1 z1 a2 w2 a3 w3 hT).mono fun e W' ⟨he, bel⟩ => ?_
  subst he
  exact ⟨_, rfl, _, _, _, [], _, [], hW', (trodAll_cons_mk (shut_bool Tryd.underlying4 _) trodAll_mk0), (trodAll_cons_mk (Below.trod laidOut (by kernel_rfl) (of_decide_eq_true (by kernel_rfl)) k0 bel lt0) (trodAll_cons_mk (Below.trod laidOut (by kernel_rfl) (of_decide_eq_true (by kernel_rfl)) k1 bel lt1) (trodAll_cons_mk (Below.trod laidOut (by kernel_rfl) (of_decide_eq_true (by kernel_rfl)) k2 bel lt2) (trodAll_cons_mk (Below.trod laidOut (by kernel_rfl) (of_decide_eq_true (by kernel_rfl)) k3 bel lt3) trodAll_mk0)))), rfl, bel.frame _, fun h => by cases h⟩

theorem over : Rows.bookKeepsRow.holds Tryd.pinned (OpenSpec.ofChange Rows.bookKeepsSpec) :=
  OpenClaim.holds_of_wide 8 Tryd.f8 rfl rfl rfl rfl rfl rfl rfl ⟨rfl, rfl, rfl, rfl, rfl⟩ rfl rfl rfl rfl rfl (by kernel_rfl) Tryd.func8 (by kernel_rfl)
    (of_decide_eq_true (by kernel_rfl)) (by unfold Func.isWrapper; first | (rw [if_pos (by decide +kernel)]; kernel_rfl) | (rw [if_neg (by decide +kernel)]; exact ⟨rfl, rfl⟩))
    (fun os started H enc _ => lifted os started H enc)

/-- The row's statement. -/
theorem proved : Rows.BookKeepsSaid := over
end Go.Proofs.YtjgceppbhmmbjaaDoor.bookKeeps
namespace Go.Proofs.YtjgceppbhmmbjaaDoor
theorem bookKeeps_holds : Rows.BookKeepsCardSaid :=
  Claim7.holds_tied_plain_at .later [] [.data] true (true, "f2479070b03f171d82c90618c5dc1cf43e6570ed6b4a30a463a32bd4503c9e70") false
    bookKeeps.proved (fun _ h => by cases h) (by kernel_rfl) (fun _ h => by cases h) bookKeeps_row_tie rfl ⟨rfl, rfl⟩ (by kernel_rfl) rfl
    (fun f fn hf hfn => by
      obtain rfl : f = 8 := Option.some.inj ((show Tryd.prog.funcNamed "leechbook/leechbooklaw18.BookKeeps" = some 8 by kernel_rfl).symm.trans hf) |>.symm
      obtain rfl : fn = Tryd.f8 := (Option.some.inj (Tryd.func8.symm.trans hfn)).symm
      exact ⟨by kernel_rfl, fun j t ht => by
        rw [Tryd.params8] at ht
        have hm : t ∈ [22, 25, 3, 3] := by simpa using Array.mem_of_getElem? ht
        have hall : ([22, 25, 3, 3].all fun u => !Tryd.prog.wantsStandIn u) = true := by kernel_rfl
        exact (show Tryd.prog.wantsStandIn t = false by simpa using List.all_eq_true.1 hall t hm)⟩)
    (by kernel_rfl)
#print axioms bookKeeps_holds
end Go.Proofs.YtjgceppbhmmbjaaDoor
