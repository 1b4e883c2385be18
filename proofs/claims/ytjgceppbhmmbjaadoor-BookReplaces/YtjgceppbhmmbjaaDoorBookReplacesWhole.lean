/-
  The statement BookReplaces (18.5): a claim that takes another one's place stands where that stood, judged by the same tables; all others stand as they did: for all claims; without a condition.
-/
import Derived.WalkKit
import Derived.ProofKit
import Derived.OpenShut
import Derived.ShutString
import Derived.Below
import Derived.Carry
import Derived.LaidMore
import Derived.Stop.Joined
import Derived.SevenTiedAt
import Derived.Deep.DeepCutAuto
import Derived.Test.YtjgceppbhmmbjaaDoorRows
import Derived.Test.YtjgceppbhmmbjaaDoorTie
import Derived.Test.YtjgceppbhmmbjaaDoorCards
import Derived.Test.YtjgceppbhmmbjaaDoorMb1
import Derived.Test.YtjgceppbhmmbjaaDoorMb2
import Derived.Test.YtjgceppbhmmbjaaDoorMb3
import Derived.Test.YtjgceppbhmmbjaaDoorMb4
import Derived.Test.YtjgceppbhmmbjaaDoorMb5
import Derived.Test.YtjgceppbhmmbjaaDoorMb6
import Derived.Test.YtjgceppbhmmbjaaDoorMb7
import Derived.Test.YtjgceppbhmmbjaaDoorMb8
import Derived.Test.YtjgceppbhmmbjaaDoorMb9
import Derived.Test.YtjgceppbhmmbjaaDoorMb10
import Derived.Test.YtjgceppbhmmbjaaDoorMb11
import Derived.Test.YtjgceppbhmmbjaaDoorMb12
import Derived.Test.YtjgceppbhmmbjaaDoorMb13
import Derived.Test.YtjgceppbhmmbjaaDoorMb14
import Derived.Test.YtjgceppbhmmbjaaDoorMb15
import Derived.Test.YtjgceppbhmmbjaaDoorMb16
import Derived.Test.YtjgceppbhmmbjaaDoorMb17
import Derived.Test.YtjgceppbhmmbjaaDoorMb18
import Derived.Test.YtjgceppbhmmbjaaDoorMb19
import Derived.Test.YtjgceppbhmmbjaaDoorMb20
import Derived.Test.YtjgceppbhmmbjaaDoorMb21
import Derived.Test.YtjgceppbhmmbjaaDoorMb22
import Derived.Test.YtjgceppbhmmbjaaDoorMb23
import Derived.Test.YtjgceppbhmmbjaaDoorMb24
import Derived.Test.YtjgceppbhmmbjaaDoorMb25
import Derived.Test.YtjgceppbhmmbjaaDoorMb26
import Derived.Test.YtjgceppbhmmbjaaDoorMb27
import Derived.Test.YtjgceppbhmmbjaaDoorMb28
import Derived.Test.YtjgceppbhmmbjaaDoorMb29
namespace Go.Proofs.YtjgceppbhmmbjaaDoor.bookReplaces
open Go.ChangeShapes Go.WideShapes Go.ChangeAt Go.RowKit
open Cm (Ln Cl cl0 LnsAt clv lnv LnOk ClOk laidL lift open_claim)
open Bk
open Sh (Ot)
open Go.ChangeMaps (open_string)
set_option linter.unusedVariables false
set_option linter.unusedSimpArgs false
set_option maxRecDepth 100000

theorem own : ownKnob Tryd.prog.godebug = none := by kernel_rfl

/-! ### the walk: the law returns true -/
set_option maxHeartbeats 4000000 in
theorem walk (w : World) (vd : Value) (d : List Cl) (hD : Cm.ClsAt All w vd d) (hd : ∀ x ∈ d, ClOk x) (c : Cl) (ml : Value) (hL : LnsAt All w ml c.lines) (hc : ClOk c) (hT : Da.Tab w) :
    Calls Tryd.prog 7 #[vd, clv c ml] w fun e w' => e = .returned (.bool true) ∧ Below w.heap.size w w' := by
  have HW := Lib.hid fun W (hW : Below w.heap.size w W) => works_any W (Cm.tab_below hT hW)
  obtain ⟨da, dc, rfl, hl1, hl2⟩ := Cm.ClsAt.form hD
  obtain ⟨la, lc, rfl, hl3, hl4⟩ := Cm.LnsAt.form hL
  have HDs := Lib.hid fun W (hW : Below w.heap.size w W) => (Cm.ClsAt.move hD (Below.moves hW) : Cm.ClsAt All W (.slice da d.length dc) d)
  have HLn := Lib.hid fun W (hW : Below w.heap.size w W) => LnsAt.move hL (Below.moves hW)
  have HWd : Hid (∀ W, Below w.heap.size w W → Calls Tryd.prog 20 #[.slice da d.length dc, .int .i64 200] W fun e w' => (∃ n : Int, e = .returned (.int .i64 n) ∧ (n ≤ 200 → ∀ z ∈ d, Cm.ClLight z)) ∧ Below W.heap.size W w') := fun W hW => by
    refine (Cm.weight2_any 200 (by decide) (by decide) _ d W (HDs.out W hW) hd).mono ?_
    rintro e w' ⟨⟨n, e1, e2, -⟩, hb⟩
    exact ⟨⟨n, e1, e2⟩, hb⟩
  have HWc : Hid (∀ W g, Below w.heap.size w W → W.heap[g]? = some (.cells #[.string (mk c.id), .string (mk c.mem), .string (mk c.fam), .int .i64 c.net, .int .i64 c.does, .string (mk c.ref), .slice la c.lines.length lc] 25 (0, 0)) → Calls Tryd.prog 20 #[.slice (some ⟨g, 0, none⟩) 1 1, .int .i64 50] W fun e w' => (∃ n : Int, e = .returned (.int .i64 n) ∧ (n ≤ 50 → ∀ z ∈ [c], Cm.ClLight z)) ∧ Below W.heap.size W w') := fun W g hW hg => by
    refine (Cm.weight2_any 50 (by decide) (by decide) _ [c] W (cls_one hg (HLn.out W hW)) (by intro x hx; simp at hx; rw [hx]; exact hc)).mono ?_
    rintro e w' ⟨⟨n, e1, e2, -⟩, hb⟩
    exact ⟨⟨n, e1, e2⟩, hb⟩
  have HMa : Hid ((∀ c ∈ d, Cm.ClLight c) → d.length ≤ 30 → ∀ W, Below w.heap.size w W → Calls Tryd.prog 21 #[.slice da d.length dc, .int .i64 100] W fun e w' => (∃ a k, e = .returned (.slice a (made 100 0 [] d).length k) ∧ EnsAt All w' (.slice a (made 100 0 [] d).length k) (made 100 0 [] d)) ∧ Below W.heap.size W w') := fun h h30 W hW => made_any 100 d _ W (HDs.out W hW) hd (fun c hc => fit_of (h c hc)) (by omega)
  have HBb : Hid ((∀ c ∈ d, Cm.ClLight c) → ∀ x ∈ made 100 0 [] d, EnB x) := fun h => made_b 100 d 0 [] (fun c hc => fit_of (h c hc)) (fun x hx => by cases hx)
  have HBl : Hid (((made 100 0 [] d).length) ≤ d.length) := Lib.hid (by have := made_l 100 d 0 []; simpa using this)
  have HPu : Hid ((∀ c ∈ d, Cm.ClLight c) → Cm.ClLight c → d.length ≤ 30 → ∀ W v, Below w.heap.size w W → EnsAt All W v (made 100 0 [] d) → Calls Tryd.prog 11 #[v, clv c (.slice la c.lines.length lc), .int .i64 77, .int .i64 100] W fun e w' => (∃ a k, e = .returned (.tuple #[.slice a (putV (made 100 0 [] d) c 77 100).length k, .int .i64 (putA (made 100 0 [] d) c 100), .int .i64 (admE (made 100 0 [] d) c 100)]) ∧ EnsAt All w' (.slice a (putV (made 100 0 [] d) c 77 100).length k) (putV (made 100 0 [] d) c 77 100)) ∧ Below W.heap.size W w') := fun h1 h2 h3 W v hW hv => put_at (made 100 0 [] d) c 77 100 v (.slice la c.lines.length lc) W hv (HLn.out W hW) hc (Cm.tab_below hT hW) (by have := HBl.out; omega) (HBb.out h1) (fit_of h2)
  have HRe : Hid (admE (made 100 0 [] d) c 100 = 0 → c.does = 7 → stand (putV (made 100 0 [] d) c 77 100) = (stand (made 100 0 [] d)).map (repF c)) := fun h h7 => rep_st (made_inv 100 d 0 [] inv_nil) h h7
  have HNo : Hid (admE (made 100 0 [] d) c 100 ≠ 0 → putV (made 100 0 [] d) c 77 100 = []) := fun h => (put_bad h).1
  have HSx : Hid ((∀ c ∈ d, Cm.ClLight c) → Cm.ClLight c → d.length ≤ 30 → ∀ W v, stand (putV (made 100 0 [] d) c 77 100) = (stand (made 100 0 [] d)).map (repF c) → EnsAt All W v (putV (made 100 0 [] d) c 77 100) → Calls Tryd.prog 18 #[v] W fun e w' => (∃ a k, e = .returned (.slice a (stand (made 100 0 [] d)).length k) ∧ EnsAt All w' (.slice a (stand (made 100 0 [] d)).length k) ((stand (made 100 0 [] d)).map (repF c))) ∧ Below W.heap.size W w') := fun h1 h2 h3 W v hm hv => by
    have h := stand_at _ v W hv (by have := put_l (l := made 100 0 [] d) (c := c) 77 100; have := HBl.out; omega) (put_b (fit_of h2) (HBb.out h1) 77 100)
    rw [hm, List.length_map] at h
    exact h
  have HSb : Hid (d.length ≤ 30 → ∀ W v, EnsAt All W v (made 100 0 [] d) → Calls Tryd.prog 19 #[v] W fun e w' => (∃ a k, e = .returned (.slice a (stand (made 100 0 [] d)).length k) ∧ EnsAt All w' (.slice a (stand (made 100 0 [] d)).length k) (stand (made 100 0 [] d))) ∧ Below W.heap.size W w') := fun h3 W v hv => rstand_at _ v W hv (by have := HBl.out; omega)
  have HOu : Hid ((∀ c ∈ d, Cm.ClLight c) → ∀ x ∈ stand (made 100 0 [] d), x.outs.length ≤ 100000) := fun h1 x hx => (stand_b (HBb.out h1) x hx).2
  have HSl : Hid (d.length ≤ 30 → (stand (made 100 0 [] d)).length ≤ 1000) := fun h3 => by have := HBl.out; have := stand_l (made 100 0 [] d); omega
  have HLm := Lib.hid fun W (hW : Below w.heap.size w W) => HLn.out W hW
  have HX0 := Lib.hid (alloc_new w #[.string (mk c.id), .string (mk c.mem), .string (mk c.fam), .int .i64 c.net, .int .i64 c.does, .string (mk c.ref), .slice la c.lines.length lc] 25)
  have HB0 := Lib.hid (below_alloc w (.cells #[.string (mk c.id), .string (mk c.mem), .string (mk c.fam), .int .i64 c.net, .int .i64 c.does, .string (mk c.ref), .slice la c.lines.length lc] 25))
  clear hD hd hL hc hT HDs HLn
  go_enter Tryd.func7, Tryd.ntmps7
  go_upto_region 1 with fail
  generalize w.alloc (.cells #[.string (mk c.id), .string (mk c.mem), .string (mk c.fam), .int .i64 c.net, .int .i64 c.does, .string (mk c.ref), .slice la c.lines.length lc] 25) = w0 at *
  by_cases g1 : (d.length : Int) > 30
  · have d1 : decide ((d.length : Int) > 30) = true := decide_eq_true g1
    have d1' : (30 : Int) < (d.length : Int) := by omega
    obtain ⟨c0, c1, c2, c3, c4, c5, c6⟩ := seven HX0.out
    go_wp2_with fail
    try (go_at_call 10)
    refine (HW.out w0 HB0.out).mono ?_
    rintro e w99 ⟨rfl, hb99⟩
    have HB99 := Lib.hid (below_trans HB0.out hb99)
    clear hb99
    go_wp2
    go_ret
    exact ⟨rfl, HB99.out⟩
  have d1 : decide ((d.length : Int) > 30) = false := decide_eq_false g1
  have d1' : ¬ (30 : Int) < (d.length : Int) := by omega
  obtain ⟨c0, c1, c2, c3, c4, c5, c6⟩ := seven HX0.out
  go_wp2_with fail
  try (go_at_call 20)
  refine (HWd.out w0 HB0.out).mono ?_
  rintro e w1 ⟨⟨n1, rfl, hn1⟩, hb1⟩
  have HB1 := Lib.hid (below_trans HB0.out hb1)
  have HN1 := Lib.hid hn1
  have HX1 := Lib.hid (keepB HX0.out hb1)
  clear hb1 hn1 HWd HB0 HX0 c0 c1 c2 c3 c4 c5 c6
  by_cases g2 : n1 > 200
  · have d2 : decide (n1 > 200) = true := decide_eq_true g2
    have d2' : (200 : Int) < n1 := by omega
    obtain ⟨c0, c1, c2, c3, c4, c5, c6⟩ := seven HX1.out
    go_wp2_with fail
    try (go_at_call 10)
    refine (HW.out w1 HB1.out).mono ?_
    rintro e w99 ⟨rfl, hb99⟩
    have HB99 := Lib.hid (below_trans HB1.out hb99)
    clear hb99
    go_wp2
    go_ret
    exact ⟨rfl, HB99.out⟩
  have d2 : decide (n1 > 200) = false := decide_eq_false g2
  have d2' : ¬ (200 : Int) < n1 := by omega
  have HLd := Lib.hid (HN1.out (by omega))
  clear HN1
  obtain ⟨c0, c1, c2, c3, c4, c5, c6⟩ := seven HX1.out
  go_wp2_with fail
  try (go_at_call 20)
  refine (HWc.out _ _ (below_trans HB1.out (below_alloc _ _)) (alloc_new _ _ _)).mono ?_
  rintro e w2 ⟨⟨n2, rfl, hn2⟩, hb2⟩
  have HB2 := Lib.hid (below_trans (below_trans HB1.out (below_alloc _ _)) hb2)
  have HX2 := Lib.hid (keepB (keepB HX1.out (below_alloc _ _)) hb2)
  have HN2 : Hid (n2 ≤ 50 → Cm.ClLight c) := fun q => hn2 q c (List.mem_singleton.2 rfl)
  clear hb2 hn2 HWc HX1 HB1 c0 c1 c2 c3 c4 c5 c6
  by_cases g3 : n2 > 50
  · have d3 : decide (n2 > 50) = true := decide_eq_true g3
    have d3' : (50 : Int) < n2 := by omega
    obtain ⟨c0, c1, c2, c3, c4, c5, c6⟩ := seven HX2.out
    go_wp2_with fail
    try (go_at_call 10)
    refine (HW.out w2 HB2.out).mono ?_
    rintro e w99 ⟨rfl, hb99⟩
    have HB99 := Lib.hid (below_trans HB2.out hb99)
    clear hb99
    go_wp2
    go_ret
    exact ⟨rfl, HB99.out⟩
  have d3 : decide (n2 > 50) = false := decide_eq_false g3
  have d3' : ¬ (50 : Int) < n2 := by omega
  have HLc := Lib.hid (HN2.out (by omega))
  clear HN2
  by_cases e7 : c.does = 7
  case neg =>
    have q7 : (c.does != 7) = true := by simp [e7]
    clear e7
    obtain ⟨c0, c1, c2, c3, c4, c5, c6⟩ := seven HX2.out
    go_wp2_with fail
    try (go_at_call 10)
    refine (HW.out w2 HB2.out).mono ?_
    rintro e w99 ⟨rfl, hb99⟩
    have HB99 := Lib.hid (below_trans HB2.out hb99)
    clear hb99
    go_wp2
    go_ret
    exact ⟨rfl, HB99.out⟩
  have q7 : (c.does != 7) = false := by simp [e7]
  have E7 := Lib.hid e7
  clear e7
  have h30 : d.length ≤ 30 := by omega
  have HP := Lib.hid (HPu.out HLd.out HLc.out h30)
  have HY := Lib.hid (HSx.out HLd.out HLc.out h30)
  have HS := Lib.hid (HSb.out h30)
  have HO := Lib.hid (HOu.out HLd.out)
  have hsl := HSl.out h30
  have HM := Lib.hid (HMa.out HLd.out h30)
  clear HPu HSx HSb HOu HSl HMa HBb HBl HLd HLc g1 g2 g3
  generalize made 100 0 [] d = BB at *
  obtain ⟨c0, c1, c2, c3, c4, c5, c6⟩ := seven HX2.out
  go_wp2_with fail
  try (go_at_call 21)
  refine (HM.out w2 HB2.out).mono ?_
  rintro e w3 ⟨⟨x3, k3, rfl, hs3⟩, hb3⟩
  have HB3 := Lib.hid (below_trans HB2.out hb3)
  have HE_3 := Lib.hid hs3
  have HX3 := Lib.hid (keepB HX2.out hb3)
  clear hb3 hs3 HX2 HB2 HM c0 c1 c2 c3 c4 c5 c6
  obtain ⟨c0, c1, c2, c3, c4, c5, c6⟩ := seven HX3.out
  go_wp2_with fail
  try (go_at_call 11)
  refine (HP.out w3 _ HB3.out HE_3.out).mono ?_
  rintro e w4 ⟨⟨x4, k4, rfl, hs4⟩, hb4⟩
  have HB4 := Lib.hid (below_trans HB3.out hb4)
  have HV_4 := Lib.hid hs4
  have HE_4 := Lib.hid (HE_3.out.grw hb4)
  have HX4 := Lib.hid (keepB HX3.out hb4)
  clear hb4 hs4 HX3 HE_3 HB3 HP c0 c1 c2 c3 c4 c5 c6
  by_cases e0 : admE BB c 100 = 0
  case neg =>
    have q0 : (admE BB c 100 != 0) = true := by simp [e0]
    have hN := HNo.out e0
    rw [hN] at HV_4 ⊢
    simp only [List.length_nil] at HV_4 ⊢
    clear e0 HRe HNo hN HY
    go_wp2_with fail
    try (go_at_call 10)
    refine (HW.out w4 HB4.out).mono ?_
    rintro e w99 ⟨rfl, hb99⟩
    have HB99 := Lib.hid (below_trans HB4.out hb99)
    clear hb99
    go_wp2
    go_ret
    exact ⟨rfl, HB99.out⟩
  have q0 : (admE BB c 100 != 0) = false := by simp [e0]
  have hR := HRe.out e0 E7.out
  have HYr := Lib.hid fun W v => HY.out W v hR
  clear HRe HNo HY hR e0 E7 q7
  go_wp2_with fail
  try (go_at_call 19)
  refine (HS.out w4 _ HE_4.out).mono ?_
  rintro e w5 ⟨⟨x5, k5, rfl, hs5⟩, hb5⟩
  have HB5 := Lib.hid (below_trans HB4.out hb5)
  have HW_5 := Lib.hid hs5
  have HV_5 := Lib.hid (HV_4.out.grw hb5)
  have HX5 := Lib.hid (keepB HX4.out hb5)
  clear hb5 hs5 HX4 HE_4 HB4 HV_4 HS
  go_wp2_with fail
  try (go_at_call 18)
  refine (HYr.out w5 _ HV_5.out).mono ?_
  rintro e w6 ⟨⟨x6, k6, rfl, hs6⟩, hb6⟩
  have HB6 := Lib.hid (below_trans HB5.out hb6)
  have HN_6 := Lib.hid hs6
  have HW_6 := Lib.hid (HW_5.out.grw hb6)
  have HX6 := Lib.hid (keepB HX5.out hb6)
  clear hb6 hs6 HX5 HB5 HV_5 HYr
  generalize stand BB = SB at *
  have hne : ((SB.length : Int) != (SB.length : Int)) = false := by simp
  clear d1 d1' d2 d2' d3 d3'
  go_wp2
  go_loopg [11] (SB.length) (fun gg s11 wr => ∃ k : Nat, s11 = .int .i64 k ∧ k ≤ SB.length ∧ SB.length - k ≤ gg ∧ Hid (Below w6.heap.size w6 wr))
  case atStart => exact ⟨0, rfl, Nat.zero_le _, by omega, Below.refl _ _⟩
  case round =>
    clear hne q0
    obtain ⟨k, rfl, hk, hgk, HBn⟩ := hrel
    have HBw := Lib.hid (below_trans HB6.out HBn.out)
    by_cases hlt : k < SB.length
    case neg =>
      have hltz : ¬ (k : Int) < (SB.length : Int) := by omega
      clear HW_6 HN_6 HX6 HLm HO
      go_wp2_with fail
      try (go_at_call 10)
      refine (HW.out wr HBw.out).mono ?_
      rintro e w99 ⟨rfl, hb99⟩
      have HB99 := Lib.hid (below_trans HBw.out hb99)
      clear hb99
      go_wp2
      go_ret
      exact ⟨rfl, HB99.out⟩
    have hltz : (k : Int) < (SB.length : Int) := by omega
    obtain ⟨b, oo, m, mo, rfl, hb1, hx, hc1, hco⟩ := EnsAt.get (HW_6.out.grw HBn.out) k hlt
    obtain ⟨b2, o2, m2, mo2, rfl, hb2, hx2, hc2, hco2⟩ := EnsAt.get (HN_6.out.grw HBn.out) k (by rw [List.length_map]; exact hlt)
    have hy : (SB.map (repF c))[k]'(by rw [List.length_map]; exact hlt) = repF c SB[k] := List.getElem_map ..
    rw [hy] at hc2 hco2
    have hox := HO.out _ (List.mem_of_getElem? hx)
    have hxb := keepB HX6.out HBn.out
    have hlm := HLm.out wr HBw.out
    clear hy hx hx2 HW_6 HN_6 HX6 HLm HO
    generalize SB[k] = x at *
    have hi1 : k < SB.length := hlt
    by_cases hid : x.cl.id = c.ref
    · rw [rep_yes hid] at hc2 hco2
      obtain ⟨am2, km2, e3, -, -⟩ := Cm.LnsAt.form hco2.1
      obtain ⟨ao2, ko2, e4, -, -⟩ := hco2.2.form
      dsimp only at e3 e4
      subst e3 e4
      have HCA : Hid (∀ w1, Below wr.heap.size wr w1 → Calls Tryd.prog 23 #[clv c (.slice am2 c.lines.length km2), clv c (.slice la c.lines.length lc)] w1 fun e w' => e = .returned (.bool true) ∧ Below w1.heap.size w1 w') := fun w1 hb => csame_eq c _ _ w1 (LnsAt.move hco2.1 (Below.moves hb)) (LnsAt.move hlm (Below.moves hb))
      have qt : (x.tb != x.tb) = false := by simp
      have t1 := Cm.mk_ne x.cl.id c.ref
      rw [decide_eq_true hid] at t1
      have HXK := Lib.hid fun W' (hW : Below wr.heap.size wr W') => And.intro (hc1.of (hW.block b hb1)) (And.intro (hc2.of (hW.block b2 hb2)) (seven (keepB hxb hW)))
      obtain ⟨wo, hwo⟩ : ∃ z, z = wr := ⟨_, rfl⟩
      subst hwo
      clear hc1 hc2 hb1 hb2 hxb hid
      go_upto_region 13 with fail
      go_cut [72] (fun s72 wx => s72 = .bool false ∧ Hid (Below wo.heap.size wo wx))
      case first =>
        obtain ⟨⟨p0, p1, p2, p3, p4, p5, p6, p7, p8, p9⟩, -, y0, y1, y2, y3, y4, y5, y6⟩ := HXK.out wo (Below.refl _ _)
        clear HXK HCA HW hco hco2
        go_wp2_with fail
        go_quiet (fail)
        go_wp2
        go_meet
        exact ⟨by first | rfl | (go_simp; done), Cm.below_drewN _ _⟩
      case rest =>
        obtain ⟨rfl, HBx⟩ := hcut
        obtain ⟨wq, hwq⟩ : ∃ z, z = wc := ⟨_, rfl⟩
        subst hwq
        clear t1
        have HXQ := Lib.hid fun W' (hW : Below wq.heap.size wq W') => HXK.out W' (below_trans HBx.out hW)
        have HBq := Lib.hid (below_trans HBn.out HBx.out)
        have HD := Lib.hid (Below.drew (Below.refl wq.heap.size wq))
        clear HXK
        have HCB := Lib.hid fun W' (hW : Below wq.heap.size wq W') => HCA.out W' (below_trans HBx.out hW)
        clear hco hco2 hlm HBx HBw HBn
        go_upto_region 16 with fail
        refine Ri.wp_region_lasting_g (by kernel_rfl) (by kernel_rfl) (by kernel_rfl) (fun Wx => Below wq.heap.size wq Wx) (fun kz vs wz => (fun kx vx wx => match kx with | 0 => vx = .slice (some ⟨b2, o2, none⟩) SB.length k6 | 1 => vx = .int .i64 (k : Nat) | 2 => vx = .pointer (some ⟨b2, o2 + k * 10, none⟩) | 3 => vx = .pointer (some ⟨b2, o2 + k * 10, none⟩) | 4 => vx = clv c (.slice am2 c.lines.length km2) | 5 => vx = clv c (.slice la c.lines.length lc) | 6 => vx = .bool true | 7 => vx = .bool false | 8 => vx = .bool false | 9 => vx = .slice (some ⟨b2, o2, none⟩) SB.length k6 | 10 => vx = .int .i64 (k : Nat) | 11 => vx = .pointer (some ⟨b2, o2 + k * 10, none⟩) | 12 => vx = .pointer (some ⟨b2, o2 + k * 10 + 7, none⟩) | 13 => vx = .int .i64 x.tb | 14 => vx = .slice (some ⟨b, oo, none⟩) SB.length k5 | 15 => vx = .int .i64 (k : Nat) | 16 => vx = .pointer (some ⟨b, oo + k * 10, none⟩) | 17 => vx = .pointer (some ⟨b, oo + k * 10 + 7, none⟩) | 18 => vx = .int .i64 x.tb | 19 => vx = .bool false | 20 => vx = .bool false | _ => True : Nat → Value → World → Prop) kz (vs kz) wz) (fun kz => [kz]) (by kernel_rfl) (fun jz vs iz vz wz hiz hz => Ri.loc_own (F := (fun kx vx wx => match kx with | 0 => vx = .slice (some ⟨b2, o2, none⟩) SB.length k6 | 1 => vx = .int .i64 (k : Nat) | 2 => vx = .pointer (some ⟨b2, o2 + k * 10, none⟩) | 3 => vx = .pointer (some ⟨b2, o2 + k * 10, none⟩) | 4 => vx = clv c (.slice am2 c.lines.length km2) | 5 => vx = clv c (.slice la c.lines.length lc) | 6 => vx = .bool true | 7 => vx = .bool false | 8 => vx = .bool false | 9 => vx = .slice (some ⟨b2, o2, none⟩) SB.length k6 | 10 => vx = .int .i64 (k : Nat) | 11 => vx = .pointer (some ⟨b2, o2 + k * 10, none⟩) | 12 => vx = .pointer (some ⟨b2, o2 + k * 10 + 7, none⟩) | 13 => vx = .int .i64 x.tb | 14 => vx = .slice (some ⟨b, oo, none⟩) SB.length k5 | 15 => vx = .int .i64 (k : Nat) | 16 => vx = .pointer (some ⟨b, oo + k * 10, none⟩) | 17 => vx = .pointer (some ⟨b, oo + k * 10 + 7, none⟩) | 18 => vx = .int .i64 x.tb | 19 => vx = .bool false | 20 => vx = .bool false | _ => True : Nat → Value → World → Prop)) jz vs iz vz wz hiz hz) HD.out ⟨Or.inl ⟨rfl, ?_⟩, Or.inl ⟨rfl, ?_⟩, Or.inl ⟨rfl, ?_⟩, Or.inl ⟨rfl, ?_⟩, Or.inl ⟨rfl, ?_⟩, Or.inl ⟨rfl, ?_⟩, Or.inl ⟨rfl, ?_⟩, Or.inl ⟨rfl, ?_⟩, Or.inl ⟨rfl, ?_⟩, Or.inr ⟨8, false, 91, rfl, rfl, ?_⟩, Or.inr ⟨8, false, 91, rfl, rfl, ?_⟩, Or.inr ⟨8, false, 91, rfl, rfl, ?_⟩, Or.inr ⟨8, false, 91, rfl, rfl, ?_⟩, Or.inr ⟨8, false, 91, rfl, rfl, ?_⟩, Or.inr ⟨8, false, 91, rfl, rfl, ?_⟩, Or.inr ⟨8, false, 91, rfl, rfl, ?_⟩, Or.inr ⟨8, false, 91, rfl, rfl, ?_⟩, Or.inr ⟨8, false, 91, rfl, rfl, ?_⟩, Or.inr ⟨8, false, 91, rfl, rfl, ?_⟩, Or.inr ⟨8, false, 91, rfl, rfl, ?_⟩, Or.inl ⟨rfl, ?_⟩, trivial⟩ ?_
        · intro vs Wx A hA hB hpre K hK
          have e10 := (hA 10).trans (show _ = Value.slice (some ⟨b2, o2, none⟩) SB.length k6 by kernel_rfl)
          clear hA hpre
          go_simp
          first | exact hK _ _ hB rfl (fun _ _ h => h) | exact hK _ _ hB trivial (fun _ _ h => h) | (rw [if_neg (by omega)]; go_simp; exact hK _ _ hB rfl (fun _ _ h => h))
        · intro vs Wx A hA hB hpre K hK
          have e11 := (hA 11).trans (show _ = Value.int .i64 (k : Nat) by kernel_rfl)
          clear hA hpre
          go_simp
          first | exact hK _ _ hB rfl (fun _ _ h => h) | exact hK _ _ hB trivial (fun _ _ h => h) | (rw [if_neg (by omega)]; go_simp; exact hK _ _ hB rfl (fun _ _ h => h))
        · intro vs Wx A hA hB hpre K hK
          have e83 := ((hA 83).trans (show _ = vs 0 by kernel_rfl)).trans (by first | exact hpre.1 rfl | exact hpre.2.1 rfl | exact hpre.2.2.1 rfl | exact hpre.2.2.2.1 rfl | exact hpre.2.2.2.2.1 rfl | exact hpre.2.2.2.2.2.1 rfl | exact hpre.2.2.2.2.2.2.1 rfl | exact hpre.2.2.2.2.2.2.2.1 rfl | exact hpre.2.2.2.2.2.2.2.2.1 rfl | exact hpre.2.2.2.2.2.2.2.2.2.1 rfl)
          have e84 := ((hA 84).trans (show _ = vs 1 by kernel_rfl)).trans (by first | exact hpre.1 rfl | exact hpre.2.1 rfl | exact hpre.2.2.1 rfl | exact hpre.2.2.2.1 rfl | exact hpre.2.2.2.2.1 rfl | exact hpre.2.2.2.2.2.1 rfl | exact hpre.2.2.2.2.2.2.1 rfl | exact hpre.2.2.2.2.2.2.2.1 rfl | exact hpre.2.2.2.2.2.2.2.2.1 rfl | exact hpre.2.2.2.2.2.2.2.2.2.1 rfl)
          clear hA hpre
          go_simp
          first | exact hK _ _ hB rfl (fun _ _ h => h) | exact hK _ _ hB trivial (fun _ _ h => h) | (rw [if_neg (by omega)]; go_simp; exact hK _ _ hB rfl (fun _ _ h => h))
        · intro vs Wx A hA hB hpre K hK
          have e85 := ((hA 85).trans (show _ = vs 2 by kernel_rfl)).trans (by first | exact hpre.1 rfl | exact hpre.2.1 rfl | exact hpre.2.2.1 rfl | exact hpre.2.2.2.1 rfl | exact hpre.2.2.2.2.1 rfl | exact hpre.2.2.2.2.2.1 rfl | exact hpre.2.2.2.2.2.2.1 rfl | exact hpre.2.2.2.2.2.2.2.1 rfl | exact hpre.2.2.2.2.2.2.2.2.1 rfl | exact hpre.2.2.2.2.2.2.2.2.2.1 rfl)
          clear hA hpre
          go_simp
          first | exact hK _ _ hB rfl (fun _ _ h => h) | exact hK _ _ hB trivial (fun _ _ h => h) | (rw [if_neg (by omega)]; go_simp; exact hK _ _ hB rfl (fun _ _ h => h))
        · intro vs Wx A hA hB hpre K hK
          have e86 := ((hA 86).trans (show _ = vs 3 by kernel_rfl)).trans (by first | exact hpre.1 rfl | exact hpre.2.1 rfl | exact hpre.2.2.1 rfl | exact hpre.2.2.2.1 rfl | exact hpre.2.2.2.2.1 rfl | exact hpre.2.2.2.2.2.1 rfl | exact hpre.2.2.2.2.2.2.1 rfl | exact hpre.2.2.2.2.2.2.2.1 rfl | exact hpre.2.2.2.2.2.2.2.2.1 rfl | exact hpre.2.2.2.2.2.2.2.2.2.1 rfl)
          obtain ⟨⟨p0, p1, p2, p3, p4, p5, p6, p7, p8, p9⟩, ⟨r0, r1, r2, r3, r4, r5, r6, r7, r8, r9⟩, y0, y1, y2, y3, y4, y5, y6⟩ := HXQ.out Wx hB
          clear hA hpre
          go_simp
          first | exact hK _ _ hB rfl (fun _ _ h => h) | exact hK _ _ hB trivial (fun _ _ h => h) | (rw [if_neg (by omega)]; go_simp; exact hK _ _ hB rfl (fun _ _ h => h))
        · intro vs Wx A hA hB hpre K hK
          have e3 := (hA 3).trans (show _ = Value.pointer (some ⟨w.heap.size, 0, none⟩) by kernel_rfl)
          obtain ⟨⟨p0, p1, p2, p3, p4, p5, p6, p7, p8, p9⟩, ⟨r0, r1, r2, r3, r4, r5, r6, r7, r8, r9⟩, y0, y1, y2, y3, y4, y5, y6⟩ := HXQ.out Wx hB
          clear hA hpre
          go_simp
          first | exact hK _ _ hB rfl (fun _ _ h => h) | exact hK _ _ hB trivial (fun _ _ h => h) | (rw [if_neg (by omega)]; go_simp; exact hK _ _ hB rfl (fun _ _ h => h))
        · intro vs Wx A hA hB hpre K hK
          have e87 := ((hA 87).trans (show _ = vs 4 by kernel_rfl)).trans (by first | exact hpre.1 rfl | exact hpre.2.1 rfl | exact hpre.2.2.1 rfl | exact hpre.2.2.2.1 rfl | exact hpre.2.2.2.2.1 rfl | exact hpre.2.2.2.2.2.1 rfl | exact hpre.2.2.2.2.2.2.1 rfl | exact hpre.2.2.2.2.2.2.2.1 rfl | exact hpre.2.2.2.2.2.2.2.2.1 rfl | exact hpre.2.2.2.2.2.2.2.2.2.1 rfl)
          have e88 := ((hA 88).trans (show _ = vs 5 by kernel_rfl)).trans (by first | exact hpre.1 rfl | exact hpre.2.1 rfl | exact hpre.2.2.1 rfl | exact hpre.2.2.2.1 rfl | exact hpre.2.2.2.2.1 rfl | exact hpre.2.2.2.2.2.1 rfl | exact hpre.2.2.2.2.2.2.1 rfl | exact hpre.2.2.2.2.2.2.2.1 rfl | exact hpre.2.2.2.2.2.2.2.2.1 rfl | exact hpre.2.2.2.2.2.2.2.2.2.1 rfl)
          clear hA hpre
          go_simp
          try (go_at_call 23)
          refine (HCB.out Wx hB).mono ?_
          rintro e w4 ⟨rfl, hg⟩
          exact hK _ _ (below_trans hB hg) rfl (fun _ _ h => h)
        · intro vs Wx A hA hB hpre K hK
          have e89 := ((hA 89).trans (show _ = vs 6 by kernel_rfl)).trans (by first | exact hpre.1 rfl | exact hpre.2.1 rfl | exact hpre.2.2.1 rfl | exact hpre.2.2.2.1 rfl | exact hpre.2.2.2.2.1 rfl | exact hpre.2.2.2.2.2.1 rfl | exact hpre.2.2.2.2.2.2.1 rfl | exact hpre.2.2.2.2.2.2.2.1 rfl | exact hpre.2.2.2.2.2.2.2.2.1 rfl | exact hpre.2.2.2.2.2.2.2.2.2.1 rfl)
          clear hA hpre
          go_simp
          first | exact hK _ _ hB rfl (fun _ _ h => h) | exact hK _ _ hB trivial (fun _ _ h => h) | (rw [if_neg (by omega)]; go_simp; exact hK _ _ hB rfl (fun _ _ h => h))
        · intro vs Wx A hA hB hpre K hK
          have e90 := ((hA 90).trans (show _ = vs 7 by kernel_rfl)).trans (by first | exact hpre.1 rfl | exact hpre.2.1 rfl | exact hpre.2.2.1 rfl | exact hpre.2.2.2.1 rfl | exact hpre.2.2.2.2.1 rfl | exact hpre.2.2.2.2.2.1 rfl | exact hpre.2.2.2.2.2.2.1 rfl | exact hpre.2.2.2.2.2.2.2.1 rfl | exact hpre.2.2.2.2.2.2.2.2.1 rfl | exact hpre.2.2.2.2.2.2.2.2.2.1 rfl)
          clear hA hpre
          go_simp
          first | exact hK _ _ hB rfl (fun _ _ h => h) | exact hK _ _ hB trivial (fun _ _ h => h) | (rw [if_neg (by omega)]; go_simp; exact hK _ _ hB rfl (fun _ _ h => h))
        · intro vs Wx A hA hB hpre
          have eg := ((hA 91).trans (show _ = vs 8 by kernel_rfl)).trans (by first | exact hpre.1 rfl | exact hpre.2.1 rfl | exact hpre.2.2.1 rfl | exact hpre.2.2.2.1 rfl | exact hpre.2.2.2.2.1 rfl | exact hpre.2.2.2.2.2.1 rfl | exact hpre.2.2.2.2.2.2.1 rfl | exact hpre.2.2.2.2.2.2.2.1 rfl | exact hpre.2.2.2.2.2.2.2.2.1 rfl | exact hpre.2.2.2.2.2.2.2.2.2.1 rfl)
          refine ⟨false, eg, fun _ K hK => ?_, fun h => absurd rfl h⟩
          have e10 := (hA 10).trans (show _ = Value.slice (some ⟨b2, o2, none⟩) SB.length k6 by kernel_rfl)
          clear hA hpre
          go_simp
          first | exact hK _ _ hB rfl (fun _ _ h => h) | exact hK _ _ hB trivial (fun _ _ h => h) | (rw [if_neg (by omega)]; go_simp; exact hK _ _ hB rfl (fun _ _ h => h))
        · intro vs Wx A hA hB hpre
          have eg := ((hA 91).trans (show _ = vs 8 by kernel_rfl)).trans (by first | exact hpre.1 rfl | exact hpre.2.1 rfl | exact hpre.2.2.1 rfl | exact hpre.2.2.2.1 rfl | exact hpre.2.2.2.2.1 rfl | exact hpre.2.2.2.2.2.1 rfl | exact hpre.2.2.2.2.2.2.1 rfl | exact hpre.2.2.2.2.2.2.2.1 rfl | exact hpre.2.2.2.2.2.2.2.2.1 rfl | exact hpre.2.2.2.2.2.2.2.2.2.1 rfl)
          refine ⟨false, eg, fun _ K hK => ?_, fun h => absurd rfl h⟩
          have e11 := (hA 11).trans (show _ = Value.int .i64 (k : Nat) by kernel_rfl)
          clear hA hpre
          go_simp
          first | exact hK _ _ hB rfl (fun _ _ h => h) | exact hK _ _ hB trivial (fun _ _ h => h) | (rw [if_neg (by omega)]; go_simp; exact hK _ _ hB rfl (fun _ _ h => h))
        · intro vs Wx A hA hB hpre
          have eg := ((hA 91).trans (show _ = vs 8 by kernel_rfl)).trans (by first | exact hpre.1 rfl | exact hpre.2.1 rfl | exact hpre.2.2.1 rfl | exact hpre.2.2.2.1 rfl | exact hpre.2.2.2.2.1 rfl | exact hpre.2.2.2.2.2.1 rfl | exact hpre.2.2.2.2.2.2.1 rfl | exact hpre.2.2.2.2.2.2.2.1 rfl | exact hpre.2.2.2.2.2.2.2.2.1 rfl | exact hpre.2.2.2.2.2.2.2.2.2.1 rfl)
          refine ⟨false, eg, fun _ K hK => ?_, fun h => absurd rfl h⟩
          have e92 := ((hA 92).trans (show _ = vs 9 by kernel_rfl)).trans (by first | exact hpre.1 rfl | exact hpre.2.1 rfl | exact hpre.2.2.1 rfl | exact hpre.2.2.2.1 rfl | exact hpre.2.2.2.2.1 rfl | exact hpre.2.2.2.2.2.1 rfl | exact hpre.2.2.2.2.2.2.1 rfl | exact hpre.2.2.2.2.2.2.2.1 rfl | exact hpre.2.2.2.2.2.2.2.2.1 rfl | exact hpre.2.2.2.2.2.2.2.2.2.1 rfl)
          have e93 := ((hA 93).trans (show _ = vs 10 by kernel_rfl)).trans (by first | exact hpre.1 rfl | exact hpre.2.1 rfl | exact hpre.2.2.1 rfl | exact hpre.2.2.2.1 rfl | exact hpre.2.2.2.2.1 rfl | exact hpre.2.2.2.2.2.1 rfl | exact hpre.2.2.2.2.2.2.1 rfl | exact hpre.2.2.2.2.2.2.2.1 rfl | exact hpre.2.2.2.2.2.2.2.2.1 rfl | exact hpre.2.2.2.2.2.2.2.2.2.1 rfl)
          clear hA hpre
          go_simp
          first | exact hK _ _ hB rfl (fun _ _ h => h) | exact hK _ _ hB trivial (fun _ _ h => h) | (rw [if_neg (by omega)]; go_simp; exact hK _ _ hB rfl (fun _ _ h => h))
        · intro vs Wx A hA hB hpre
          have eg := ((hA 91).trans (show _ = vs 8 by kernel_rfl)).trans (by first | exact hpre.1 rfl | exact hpre.2.1 rfl | exact hpre.2.2.1 rfl | exact hpre.2.2.2.1 rfl | exact hpre.2.2.2.2.1 rfl | exact hpre.2.2.2.2.2.1 rfl | exact hpre.2.2.2.2.2.2.1 rfl | exact hpre.2.2.2.2.2.2.2.1 rfl | exact hpre.2.2.2.2.2.2.2.2.1 rfl | exact hpre.2.2.2.2.2.2.2.2.2.1 rfl)
          refine ⟨false, eg, fun _ K hK => ?_, fun h => absurd rfl h⟩
          have e94 := ((hA 94).trans (show _ = vs 11 by kernel_rfl)).trans (by first | exact hpre.1 rfl | exact hpre.2.1 rfl | exact hpre.2.2.1 rfl | exact hpre.2.2.2.1 rfl | exact hpre.2.2.2.2.1 rfl | exact hpre.2.2.2.2.2.1 rfl | exact hpre.2.2.2.2.2.2.1 rfl | exact hpre.2.2.2.2.2.2.2.1 rfl | exact hpre.2.2.2.2.2.2.2.2.1 rfl | exact hpre.2.2.2.2.2.2.2.2.2.1 rfl)
          clear hA hpre
          go_simp
          first | exact hK _ _ hB rfl (fun _ _ h => h) | exact hK _ _ hB trivial (fun _ _ h => h) | (rw [if_neg (by omega)]; go_simp; exact hK _ _ hB rfl (fun _ _ h => h))
        · intro vs Wx A hA hB hpre
          have eg := ((hA 91).trans (show _ = vs 8 by kernel_rfl)).trans (by first | exact hpre.1 rfl | exact hpre.2.1 rfl | exact hpre.2.2.1 rfl | exact hpre.2.2.2.1 rfl | exact hpre.2.2.2.2.1 rfl | exact hpre.2.2.2.2.2.1 rfl | exact hpre.2.2.2.2.2.2.1 rfl | exact hpre.2.2.2.2.2.2.2.1 rfl | exact hpre.2.2.2.2.2.2.2.2.1 rfl | exact hpre.2.2.2.2.2.2.2.2.2.1 rfl)
          refine ⟨false, eg, fun _ K hK => ?_, fun h => absurd rfl h⟩
          have e95 := ((hA 95).trans (show _ = vs 12 by kernel_rfl)).trans (by first | exact hpre.1 rfl | exact hpre.2.1 rfl | exact hpre.2.2.1 rfl | exact hpre.2.2.2.1 rfl | exact hpre.2.2.2.2.1 rfl | exact hpre.2.2.2.2.2.1 rfl | exact hpre.2.2.2.2.2.2.1 rfl | exact hpre.2.2.2.2.2.2.2.1 rfl | exact hpre.2.2.2.2.2.2.2.2.1 rfl | exact hpre.2.2.2.2.2.2.2.2.2.1 rfl)
          obtain ⟨⟨p0, p1, p2, p3, p4, p5, p6, p7, p8, p9⟩, ⟨r0, r1, r2, r3, r4, r5, r6, r7, r8, r9⟩, y0, y1, y2, y3, y4, y5, y6⟩ := HXQ.out Wx hB
          clear hA hpre
          go_simp
          first | exact hK _ _ hB rfl (fun _ _ h => h) | exact hK _ _ hB trivial (fun _ _ h => h) | (rw [if_neg (by omega)]; go_simp; exact hK _ _ hB rfl (fun _ _ h => h))
        · intro vs Wx A hA hB hpre
          have eg := ((hA 91).trans (show _ = vs 8 by kernel_rfl)).trans (by first | exact hpre.1 rfl | exact hpre.2.1 rfl | exact hpre.2.2.1 rfl | exact hpre.2.2.2.1 rfl | exact hpre.2.2.2.2.1 rfl | exact hpre.2.2.2.2.2.1 rfl | exact hpre.2.2.2.2.2.2.1 rfl | exact hpre.2.2.2.2.2.2.2.1 rfl | exact hpre.2.2.2.2.2.2.2.2.1 rfl | exact hpre.2.2.2.2.2.2.2.2.2.1 rfl)
          refine ⟨false, eg, fun _ K hK => ?_, fun h => absurd rfl h⟩
          have e9 := (hA 9).trans (show _ = Value.slice (some ⟨b, oo, none⟩) SB.length k5 by kernel_rfl)
          clear hA hpre
          go_simp
          first | exact hK _ _ hB rfl (fun _ _ h => h) | exact hK _ _ hB trivial (fun _ _ h => h) | (rw [if_neg (by omega)]; go_simp; exact hK _ _ hB rfl (fun _ _ h => h))
        · intro vs Wx A hA hB hpre
          have eg := ((hA 91).trans (show _ = vs 8 by kernel_rfl)).trans (by first | exact hpre.1 rfl | exact hpre.2.1 rfl | exact hpre.2.2.1 rfl | exact hpre.2.2.2.1 rfl | exact hpre.2.2.2.2.1 rfl | exact hpre.2.2.2.2.2.1 rfl | exact hpre.2.2.2.2.2.2.1 rfl | exact hpre.2.2.2.2.2.2.2.1 rfl | exact hpre.2.2.2.2.2.2.2.2.1 rfl | exact hpre.2.2.2.2.2.2.2.2.2.1 rfl)
          refine ⟨false, eg, fun _ K hK => ?_, fun h => absurd rfl h⟩
          have e11 := (hA 11).trans (show _ = Value.int .i64 (k : Nat) by kernel_rfl)
          clear hA hpre
          go_simp
          first | exact hK _ _ hB rfl (fun _ _ h => h) | exact hK _ _ hB trivial (fun _ _ h => h) | (rw [if_neg (by omega)]; go_simp; exact hK _ _ hB rfl (fun _ _ h => h))
        · intro vs Wx A hA hB hpre
          have eg := ((hA 91).trans (show _ = vs 8 by kernel_rfl)).trans (by first | exact hpre.1 rfl | exact hpre.2.1 rfl | exact hpre.2.2.1 rfl | exact hpre.2.2.2.1 rfl | exact hpre.2.2.2.2.1 rfl | exact hpre.2.2.2.2.2.1 rfl | exact hpre.2.2.2.2.2.2.1 rfl | exact hpre.2.2.2.2.2.2.2.1 rfl | exact hpre.2.2.2.2.2.2.2.2.1 rfl | exact hpre.2.2.2.2.2.2.2.2.2.1 rfl)
          refine ⟨false, eg, fun _ K hK => ?_, fun h => absurd rfl h⟩
          have e97 := ((hA 97).trans (show _ = vs 14 by kernel_rfl)).trans (by first | exact hpre.1 rfl | exact hpre.2.1 rfl | exact hpre.2.2.1 rfl | exact hpre.2.2.2.1 rfl | exact hpre.2.2.2.2.1 rfl | exact hpre.2.2.2.2.2.1 rfl | exact hpre.2.2.2.2.2.2.1 rfl | exact hpre.2.2.2.2.2.2.2.1 rfl | exact hpre.2.2.2.2.2.2.2.2.1 rfl | exact hpre.2.2.2.2.2.2.2.2.2.1 rfl)
          have e98 := ((hA 98).trans (show _ = vs 15 by kernel_rfl)).trans (by first | exact hpre.1 rfl | exact hpre.2.1 rfl | exact hpre.2.2.1 rfl | exact hpre.2.2.2.1 rfl | exact hpre.2.2.2.2.1 rfl | exact hpre.2.2.2.2.2.1 rfl | exact hpre.2.2.2.2.2.2.1 rfl | exact hpre.2.2.2.2.2.2.2.1 rfl | exact hpre.2.2.2.2.2.2.2.2.1 rfl | exact hpre.2.2.2.2.2.2.2.2.2.1 rfl)
          clear hA hpre
          go_simp
          first | exact hK _ _ hB rfl (fun _ _ h => h) | exact hK _ _ hB trivial (fun _ _ h => h) | (rw [if_neg (by omega)]; go_simp; exact hK _ _ hB rfl (fun _ _ h => h))
        · intro vs Wx A hA hB hpre
          have eg := ((hA 91).trans (show _ = vs 8 by kernel_rfl)).trans (by first | exact hpre.1 rfl | exact hpre.2.1 rfl | exact hpre.2.2.1 rfl | exact hpre.2.2.2.1 rfl | exact hpre.2.2.2.2.1 rfl | exact hpre.2.2.2.2.2.1 rfl | exact hpre.2.2.2.2.2.2.1 rfl | exact hpre.2.2.2.2.2.2.2.1 rfl | exact hpre.2.2.2.2.2.2.2.2.1 rfl | exact hpre.2.2.2.2.2.2.2.2.2.1 rfl)
          refine ⟨false, eg, fun _ K hK => ?_, fun h => absurd rfl h⟩
          have e99 := ((hA 99).trans (show _ = vs 16 by kernel_rfl)).trans (by first | exact hpre.1 rfl | exact hpre.2.1 rfl | exact hpre.2.2.1 rfl | exact hpre.2.2.2.1 rfl | exact hpre.2.2.2.2.1 rfl | exact hpre.2.2.2.2.2.1 rfl | exact hpre.2.2.2.2.2.2.1 rfl | exact hpre.2.2.2.2.2.2.2.1 rfl | exact hpre.2.2.2.2.2.2.2.2.1 rfl | exact hpre.2.2.2.2.2.2.2.2.2.1 rfl)
          clear hA hpre
          go_simp
          first | exact hK _ _ hB rfl (fun _ _ h => h) | exact hK _ _ hB trivial (fun _ _ h => h) | (rw [if_neg (by omega)]; go_simp; exact hK _ _ hB rfl (fun _ _ h => h))
        · intro vs Wx A hA hB hpre
          have eg := ((hA 91).trans (show _ = vs 8 by kernel_rfl)).trans (by first | exact hpre.1 rfl | exact hpre.2.1 rfl | exact hpre.2.2.1 rfl | exact hpre.2.2.2.1 rfl | exact hpre.2.2.2.2.1 rfl | exact hpre.2.2.2.2.2.1 rfl | exact hpre.2.2.2.2.2.2.1 rfl | exact hpre.2.2.2.2.2.2.2.1 rfl | exact hpre.2.2.2.2.2.2.2.2.1 rfl | exact hpre.2.2.2.2.2.2.2.2.2.1 rfl)
          refine ⟨false, eg, fun _ K hK => ?_, fun h => absurd rfl h⟩
          have e100 := ((hA 100).trans (show _ = vs 17 by kernel_rfl)).trans (by first | exact hpre.1 rfl | exact hpre.2.1 rfl | exact hpre.2.2.1 rfl | exact hpre.2.2.2.1 rfl | exact hpre.2.2.2.2.1 rfl | exact hpre.2.2.2.2.2.1 rfl | exact hpre.2.2.2.2.2.2.1 rfl | exact hpre.2.2.2.2.2.2.2.1 rfl | exact hpre.2.2.2.2.2.2.2.2.1 rfl | exact hpre.2.2.2.2.2.2.2.2.2.1 rfl)
          obtain ⟨⟨p0, p1, p2, p3, p4, p5, p6, p7, p8, p9⟩, ⟨r0, r1, r2, r3, r4, r5, r6, r7, r8, r9⟩, y0, y1, y2, y3, y4, y5, y6⟩ := HXQ.out Wx hB
          clear hA hpre
          go_simp
          first | exact hK _ _ hB rfl (fun _ _ h => h) | exact hK _ _ hB trivial (fun _ _ h => h) | (rw [if_neg (by omega)]; go_simp; exact hK _ _ hB rfl (fun _ _ h => h))
        · intro vs Wx A hA hB hpre
          have eg := ((hA 91).trans (show _ = vs 8 by kernel_rfl)).trans (by first | exact hpre.1 rfl | exact hpre.2.1 rfl | exact hpre.2.2.1 rfl | exact hpre.2.2.2.1 rfl | exact hpre.2.2.2.2.1 rfl | exact hpre.2.2.2.2.2.1 rfl | exact hpre.2.2.2.2.2.2.1 rfl | exact hpre.2.2.2.2.2.2.2.1 rfl | exact hpre.2.2.2.2.2.2.2.2.1 rfl | exact hpre.2.2.2.2.2.2.2.2.2.1 rfl)
          refine ⟨false, eg, fun _ K hK => ?_, fun h => absurd rfl h⟩
          have e96 := ((hA 96).trans (show _ = vs 13 by kernel_rfl)).trans (by first | exact hpre.1 rfl | exact hpre.2.1 rfl | exact hpre.2.2.1 rfl | exact hpre.2.2.2.1 rfl | exact hpre.2.2.2.2.1 rfl | exact hpre.2.2.2.2.2.1 rfl | exact hpre.2.2.2.2.2.2.1 rfl | exact hpre.2.2.2.2.2.2.2.1 rfl | exact hpre.2.2.2.2.2.2.2.2.1 rfl | exact hpre.2.2.2.2.2.2.2.2.2.1 rfl)
          have e101 := ((hA 101).trans (show _ = vs 18 by kernel_rfl)).trans (by first | exact hpre.1 rfl | exact hpre.2.1 rfl | exact hpre.2.2.1 rfl | exact hpre.2.2.2.1 rfl | exact hpre.2.2.2.2.1 rfl | exact hpre.2.2.2.2.2.1 rfl | exact hpre.2.2.2.2.2.2.1 rfl | exact hpre.2.2.2.2.2.2.2.1 rfl | exact hpre.2.2.2.2.2.2.2.2.1 rfl | exact hpre.2.2.2.2.2.2.2.2.2.1 rfl)
          clear hA hpre
          go_simp
          first | exact hK _ _ hB rfl (fun _ _ h => h) | exact hK _ _ hB trivial (fun _ _ h => h) | (rw [if_neg (by omega)]; go_simp; exact hK _ _ hB rfl (fun _ _ h => h))
        · intro vs Wx A hA hB hpre K hK
          have e91 := ((hA 91).trans (show _ = vs 8 by kernel_rfl)).trans (by first | exact hpre.1 rfl | exact hpre.2.1 rfl | exact hpre.2.2.1 rfl | exact hpre.2.2.2.1 rfl | exact hpre.2.2.2.2.1 rfl | exact hpre.2.2.2.2.2.1 rfl | exact hpre.2.2.2.2.2.2.1 rfl | exact hpre.2.2.2.2.2.2.2.1 rfl | exact hpre.2.2.2.2.2.2.2.2.1 rfl | exact hpre.2.2.2.2.2.2.2.2.2.1 rfl)
          have e102 := ((hA 102).trans (show _ = vs 19 by kernel_rfl)).trans (by first | exact hpre.1 rfl | exact hpre.2.1 rfl | exact hpre.2.2.1 rfl | exact hpre.2.2.2.1 rfl | exact hpre.2.2.2.2.1 rfl | exact hpre.2.2.2.2.2.1 rfl | exact hpre.2.2.2.2.2.2.1 rfl | exact hpre.2.2.2.2.2.2.2.1 rfl | exact hpre.2.2.2.2.2.2.2.2.1 rfl | exact hpre.2.2.2.2.2.2.2.2.2.1 rfl)
          clear hA hpre
          go_simp
          first | exact hK _ _ hB rfl (fun _ _ h => h) | exact hK _ _ hB trivial (fun _ _ h => h) | (rw [if_neg (by omega)]; go_simp; exact hK _ _ hB rfl (fun _ _ h => h))
        · intro vs Wx hB hF
          have hL : vs 20 = .bool false := hF 20 (by decide)
          have HB3 := Lib.hid (below_trans HBq.out hB)
          clear hF hB HXQ HCA HCB HD
          simp only [Ri.puts]
          rw [hL]
          clear hL
          go_simp
          go_wp2
          go_roundg (SB.length - (k + 1))
          case measure => omega
          case rel => exact ⟨k + 1, by first | rfl | go_num | (congr 1; omega), by omega, by omega, HB3.out⟩
    · rw [rep_no hid] at hc2 hco2
      obtain ⟨am, km, e1, -, -⟩ := Cm.LnsAt.form hco.1
      obtain ⟨ao, ko, e2, -, -⟩ := hco.2.form
      obtain ⟨am2, km2, e3, -, -⟩ := Cm.LnsAt.form hco2.1
      obtain ⟨ao2, ko2, e4, -, -⟩ := hco2.2.form
      dsimp only at e1 e2 e3 e4
      subst e1 e2 e3 e4
      have HCA : Hid (∀ w1, Below wr.heap.size wr w1 → Calls Tryd.prog 22 #[env x (.slice am x.cl.lines.length km) (.slice ao x.outs.length ko), env x (.slice am2 x.cl.lines.length km2) (.slice ao2 x.outs.length ko2)] w1 fun e w' => e = .returned (.bool true) ∧ Below w1.heap.size w1 w') := fun w1 hb => sameOne_eq x _ _ _ _ w1 (hco.grw hb) (hco2.grw hb) hox
      have t1 := Cm.mk_ne x.cl.id c.ref
      rw [decide_eq_false hid] at t1
      have HXK := Lib.hid fun W' (hW : Below wr.heap.size wr W') => And.intro (hc1.of (hW.block b hb1)) (And.intro (hc2.of (hW.block b2 hb2)) (seven (keepB hxb hW)))
      obtain ⟨wo, hwo⟩ : ∃ z, z = wr := ⟨_, rfl⟩
      subst hwo
      clear hc1 hc2 hb1 hb2 hxb hid
      go_upto_region 13 with fail
      go_cut [72] (fun s72 wx => s72 = .bool true ∧ Hid (Below wo.heap.size wo wx))
      case first =>
        obtain ⟨⟨p0, p1, p2, p3, p4, p5, p6, p7, p8, p9⟩, -, y0, y1, y2, y3, y4, y5, y6⟩ := HXK.out wo (Below.refl _ _)
        clear HXK HCA HW hco hco2
        go_wp2_with fail
        go_quiet (fail)
        go_wp2
        go_meet
        exact ⟨by first | rfl | (go_simp; done), Cm.below_drewN _ _⟩
      case rest =>
        obtain ⟨rfl, HBx⟩ := hcut
        obtain ⟨wq, hwq⟩ : ∃ z, z = wc := ⟨_, rfl⟩
        subst hwq
        clear t1
        have HXQ := Lib.hid fun W' (hW : Below wq.heap.size wq W') => HXK.out W' (below_trans HBx.out hW)
        have HBq := Lib.hid (below_trans HBn.out HBx.out)
        have HD := Lib.hid (Below.drew (Below.refl wq.heap.size wq))
        clear HXK
        have HCB := Lib.hid fun W' (hW : Below wq.heap.size wq W') => HCA.out W' (below_trans HBx.out hW)
        clear hco hco2 hlm HBx HBw HBn
        go_upto_region 14 with fail
        refine Ri.wp_region_lasting (by kernel_rfl) (by kernel_rfl) (by kernel_rfl) (fun Wx => Below wq.heap.size wq Wx) (fun kz vs wz => (fun kx vx wx => match kx with | 0 => vx = .slice (some ⟨b, oo, none⟩) SB.length k5 | 1 => vx = .int .i64 (k : Nat) | 2 => vx = .pointer (some ⟨b, oo + k * 10, none⟩) | 3 => vx = env x (.slice am x.cl.lines.length km) (.slice ao x.outs.length ko) | 4 => vx = .slice (some ⟨b2, o2, none⟩) SB.length k6 | 5 => vx = .int .i64 (k : Nat) | 6 => vx = .pointer (some ⟨b2, o2 + k * 10, none⟩) | 7 => vx = env x (.slice am2 x.cl.lines.length km2) (.slice ao2 x.outs.length ko2) | 8 => vx = .bool true | 9 => vx = .bool false | _ => True : Nat → Value → World → Prop) kz (vs kz) wz) (fun kz => [kz]) (by kernel_rfl) (fun jz vs iz vz wz hiz hz => Ri.loc_own (F := (fun kx vx wx => match kx with | 0 => vx = .slice (some ⟨b, oo, none⟩) SB.length k5 | 1 => vx = .int .i64 (k : Nat) | 2 => vx = .pointer (some ⟨b, oo + k * 10, none⟩) | 3 => vx = env x (.slice am x.cl.lines.length km) (.slice ao x.outs.length ko) | 4 => vx = .slice (some ⟨b2, o2, none⟩) SB.length k6 | 5 => vx = .int .i64 (k : Nat) | 6 => vx = .pointer (some ⟨b2, o2 + k * 10, none⟩) | 7 => vx = env x (.slice am2 x.cl.lines.length km2) (.slice ao2 x.outs.length ko2) | 8 => vx = .bool true | 9 => vx = .bool false | _ => True : Nat → Value → World → Prop)) jz vs iz vz wz hiz hz) HD.out ⟨⟨rfl, ?_⟩, ⟨rfl, ?_⟩, ⟨rfl, ?_⟩, ⟨rfl, ?_⟩, ⟨rfl, ?_⟩, ⟨rfl, ?_⟩, ⟨rfl, ?_⟩, ⟨rfl, ?_⟩, ⟨rfl, ?_⟩, ⟨rfl, ?_⟩, trivial⟩ ?_
        · intro vs Wx A hA hB hpre K hK
          have e9 := (hA 9).trans (show _ = Value.slice (some ⟨b, oo, none⟩) SB.length k5 by kernel_rfl)
          clear hA hpre
          go_simp
          first | exact hK _ _ hB rfl (fun _ _ h => h) | exact hK _ _ hB trivial (fun _ _ h => h) | (rw [if_neg (by omega)]; go_simp; exact hK _ _ hB rfl (fun _ _ h => h))
        · intro vs Wx A hA hB hpre K hK
          have e11 := (hA 11).trans (show _ = Value.int .i64 (k : Nat) by kernel_rfl)
          clear hA hpre
          go_simp
          first | exact hK _ _ hB rfl (fun _ _ h => h) | exact hK _ _ hB trivial (fun _ _ h => h) | (rw [if_neg (by omega)]; go_simp; exact hK _ _ hB rfl (fun _ _ h => h))
        · intro vs Wx A hA hB hpre K hK
          have e73 := ((hA 73).trans (show _ = vs 0 by kernel_rfl)).trans (by first | exact hpre.1 rfl | exact hpre.2.1 rfl | exact hpre.2.2.1 rfl | exact hpre.2.2.2.1 rfl | exact hpre.2.2.2.2.1 rfl | exact hpre.2.2.2.2.2.1 rfl | exact hpre.2.2.2.2.2.2.1 rfl | exact hpre.2.2.2.2.2.2.2.1 rfl | exact hpre.2.2.2.2.2.2.2.2.1 rfl | exact hpre.2.2.2.2.2.2.2.2.2.1 rfl)
          have e74 := ((hA 74).trans (show _ = vs 1 by kernel_rfl)).trans (by first | exact hpre.1 rfl | exact hpre.2.1 rfl | exact hpre.2.2.1 rfl | exact hpre.2.2.2.1 rfl | exact hpre.2.2.2.2.1 rfl | exact hpre.2.2.2.2.2.1 rfl | exact hpre.2.2.2.2.2.2.1 rfl | exact hpre.2.2.2.2.2.2.2.1 rfl | exact hpre.2.2.2.2.2.2.2.2.1 rfl | exact hpre.2.2.2.2.2.2.2.2.2.1 rfl)
          clear hA hpre
          go_simp
          first | exact hK _ _ hB rfl (fun _ _ h => h) | exact hK _ _ hB trivial (fun _ _ h => h) | (rw [if_neg (by omega)]; go_simp; exact hK _ _ hB rfl (fun _ _ h => h))
        · intro vs Wx A hA hB hpre K hK
          have e75 := ((hA 75).trans (show _ = vs 2 by kernel_rfl)).trans (by first | exact hpre.1 rfl | exact hpre.2.1 rfl | exact hpre.2.2.1 rfl | exact hpre.2.2.2.1 rfl | exact hpre.2.2.2.2.1 rfl | exact hpre.2.2.2.2.2.1 rfl | exact hpre.2.2.2.2.2.2.1 rfl | exact hpre.2.2.2.2.2.2.2.1 rfl | exact hpre.2.2.2.2.2.2.2.2.1 rfl | exact hpre.2.2.2.2.2.2.2.2.2.1 rfl)
          obtain ⟨⟨p0, p1, p2, p3, p4, p5, p6, p7, p8, p9⟩, ⟨r0, r1, r2, r3, r4, r5, r6, r7, r8, r9⟩, y0, y1, y2, y3, y4, y5, y6⟩ := HXQ.out Wx hB
          clear hA hpre
          go_simp
          first | exact hK _ _ hB rfl (fun _ _ h => h) | exact hK _ _ hB trivial (fun _ _ h => h) | (rw [if_neg (by omega)]; go_simp; exact hK _ _ hB rfl (fun _ _ h => h))
        · intro vs Wx A hA hB hpre K hK
          have e10 := (hA 10).trans (show _ = Value.slice (some ⟨b2, o2, none⟩) SB.length k6 by kernel_rfl)
          clear hA hpre
          go_simp
          first | exact hK _ _ hB rfl (fun _ _ h => h) | exact hK _ _ hB trivial (fun _ _ h => h) | (rw [if_neg (by omega)]; go_simp; exact hK _ _ hB rfl (fun _ _ h => h))
        · intro vs Wx A hA hB hpre K hK
          have e11 := (hA 11).trans (show _ = Value.int .i64 (k : Nat) by kernel_rfl)
          clear hA hpre
          go_simp
          first | exact hK _ _ hB rfl (fun _ _ h => h) | exact hK _ _ hB trivial (fun _ _ h => h) | (rw [if_neg (by omega)]; go_simp; exact hK _ _ hB rfl (fun _ _ h => h))
        · intro vs Wx A hA hB hpre K hK
          have e77 := ((hA 77).trans (show _ = vs 4 by kernel_rfl)).trans (by first | exact hpre.1 rfl | exact hpre.2.1 rfl | exact hpre.2.2.1 rfl | exact hpre.2.2.2.1 rfl | exact hpre.2.2.2.2.1 rfl | exact hpre.2.2.2.2.2.1 rfl | exact hpre.2.2.2.2.2.2.1 rfl | exact hpre.2.2.2.2.2.2.2.1 rfl | exact hpre.2.2.2.2.2.2.2.2.1 rfl | exact hpre.2.2.2.2.2.2.2.2.2.1 rfl)
          have e78 := ((hA 78).trans (show _ = vs 5 by kernel_rfl)).trans (by first | exact hpre.1 rfl | exact hpre.2.1 rfl | exact hpre.2.2.1 rfl | exact hpre.2.2.2.1 rfl | exact hpre.2.2.2.2.1 rfl | exact hpre.2.2.2.2.2.1 rfl | exact hpre.2.2.2.2.2.2.1 rfl | exact hpre.2.2.2.2.2.2.2.1 rfl | exact hpre.2.2.2.2.2.2.2.2.1 rfl | exact hpre.2.2.2.2.2.2.2.2.2.1 rfl)
          clear hA hpre
          go_simp
          first | exact hK _ _ hB rfl (fun _ _ h => h) | exact hK _ _ hB trivial (fun _ _ h => h) | (rw [if_neg (by omega)]; go_simp; exact hK _ _ hB rfl (fun _ _ h => h))
        · intro vs Wx A hA hB hpre K hK
          have e79 := ((hA 79).trans (show _ = vs 6 by kernel_rfl)).trans (by first | exact hpre.1 rfl | exact hpre.2.1 rfl | exact hpre.2.2.1 rfl | exact hpre.2.2.2.1 rfl | exact hpre.2.2.2.2.1 rfl | exact hpre.2.2.2.2.2.1 rfl | exact hpre.2.2.2.2.2.2.1 rfl | exact hpre.2.2.2.2.2.2.2.1 rfl | exact hpre.2.2.2.2.2.2.2.2.1 rfl | exact hpre.2.2.2.2.2.2.2.2.2.1 rfl)
          obtain ⟨⟨p0, p1, p2, p3, p4, p5, p6, p7, p8, p9⟩, ⟨r0, r1, r2, r3, r4, r5, r6, r7, r8, r9⟩, y0, y1, y2, y3, y4, y5, y6⟩ := HXQ.out Wx hB
          clear hA hpre
          go_simp
          first | exact hK _ _ hB rfl (fun _ _ h => h) | exact hK _ _ hB trivial (fun _ _ h => h) | (rw [if_neg (by omega)]; go_simp; exact hK _ _ hB rfl (fun _ _ h => h))
        · intro vs Wx A hA hB hpre K hK
          have e76 := ((hA 76).trans (show _ = vs 3 by kernel_rfl)).trans (by first | exact hpre.1 rfl | exact hpre.2.1 rfl | exact hpre.2.2.1 rfl | exact hpre.2.2.2.1 rfl | exact hpre.2.2.2.2.1 rfl | exact hpre.2.2.2.2.2.1 rfl | exact hpre.2.2.2.2.2.2.1 rfl | exact hpre.2.2.2.2.2.2.2.1 rfl | exact hpre.2.2.2.2.2.2.2.2.1 rfl | exact hpre.2.2.2.2.2.2.2.2.2.1 rfl)
          have e80 := ((hA 80).trans (show _ = vs 7 by kernel_rfl)).trans (by first | exact hpre.1 rfl | exact hpre.2.1 rfl | exact hpre.2.2.1 rfl | exact hpre.2.2.2.1 rfl | exact hpre.2.2.2.2.1 rfl | exact hpre.2.2.2.2.2.1 rfl | exact hpre.2.2.2.2.2.2.1 rfl | exact hpre.2.2.2.2.2.2.2.1 rfl | exact hpre.2.2.2.2.2.2.2.2.1 rfl | exact hpre.2.2.2.2.2.2.2.2.2.1 rfl)
          clear hA hpre
          go_simp
          try (go_at_call 22)
          refine (HCB.out Wx hB).mono ?_
          rintro e w4 ⟨rfl, hg⟩
          exact hK _ _ (below_trans hB hg) rfl (fun _ _ h => h)
        · intro vs Wx A hA hB hpre K hK
          have e81 := ((hA 81).trans (show _ = vs 8 by kernel_rfl)).trans (by first | exact hpre.1 rfl | exact hpre.2.1 rfl | exact hpre.2.2.1 rfl | exact hpre.2.2.2.1 rfl | exact hpre.2.2.2.2.1 rfl | exact hpre.2.2.2.2.2.1 rfl | exact hpre.2.2.2.2.2.2.1 rfl | exact hpre.2.2.2.2.2.2.2.1 rfl | exact hpre.2.2.2.2.2.2.2.2.1 rfl | exact hpre.2.2.2.2.2.2.2.2.2.1 rfl)
          clear hA hpre
          go_simp
          first | exact hK _ _ hB rfl (fun _ _ h => h) | exact hK _ _ hB trivial (fun _ _ h => h) | (rw [if_neg (by omega)]; go_simp; exact hK _ _ hB rfl (fun _ _ h => h))
        · intro vs Wx hB hF
          have hL : vs 9 = .bool false := hF 9 (by decide)
          have HB3 := Lib.hid (below_trans HBq.out hB)
          clear hF hB HXQ HCA HCB HD
          simp only [Ri.puts]
          rw [hL]
          clear hL
          go_simp
          go_wp2
          go_roundg (SB.length - (k + 1))
          case measure => omega
          case rel => exact ⟨k + 1, by first | rfl | go_num | (congr 1; omega), by omega, by omega, HB3.out⟩

/-! ### the row's step -/
theorem laidOut : laidOutB Tryd.prog = true := by kernel_rfl
set_option maxRecDepth 100000 in
theorem lifted (os : Os) (started : os.Started) (H : Type) (enc : TypeId × Value → H) :
    ReturnsInHanded {} Tryd.checked os 7 .any (fun w args => (Rows.bookReplacesSpec.pre enc Tryd.prog Tryd.f7 [] false w args ∧ laidMetH Tryd.prog laidL w) ∧ sizedMet enc Tryd.prog Tryd.f7 (OpenSpec.ofChange Rows.bookReplacesSpec) false w args) (Rows.bookReplacesSpec.post enc Tryd.prog Tryd.f7 false true false false) := by
  refine lift own started (by kernel_rfl) Tryd.func7
    (ChangeSpec.witness_shaped (enc := enc) (C := Tryd.checked) (os := os) (X := fun w _ => laidMetH Tryd.prog laidL w) false (World.laidAll Tryd.prog os laidL) #[.slice none 0 0, .agg #[.string ByteArray.empty, .string ByteArray.empty, .string ByteArray.empty, .int .i64 0, .int .i64 0, .string ByteArray.empty, .slice none 0 0]] 8 (World.laidAll_os _ _ _)
      (World.shaped_of_ZipB (by kernel_rfl) (by kernel_rfl)) (by kernel_rfl) (by kernel_rfl) (by kernel_rfl)
      (by rw [MakeChecks.laidMetH_plain _ _ _ (by kernel_rfl)]; exact laidMet_laidAll _ (by kernel_rfl) (by kernel_rfl))) ?_
  intro W base args ds gs before hval0 hW hwt hT
  have hval : ∀ (j : Nat) t v, Tryd.f7.params[j]? = some t → args[j]? = some v → Value.okWide Tryd.prog W .any base t v := hval0
  have hW' := hW
  obtain ⟨p, q, hA0, hV, rfl, hfz, hnd⟩ := hW
  have hA : DataW.TrodAll enc Tryd.prog W 0 (fun _ => true) true Tryd.f7.params.toList args.toList ds p := hA0
  rw [Tryd.params7] at hA hval hwt
  obtain ⟨v0, vs0, d0, ds0, p0, q0, hargs, rfl, rfl, h0, r0⟩ := trodAll_cons hA
  obtain ⟨v1, vs1, d1, ds1, p1, q1, rfl, rfl, rfl, h1, r1⟩ := trodAll_cons r0
  obtain ⟨rfl, rfl, rfl⟩ := trodAll_nil r1
  obtain rfl : args = #[v0, v1] := by cases args; simp_all
  obtain ⟨rfl, rfl⟩ := trodVars_none hV
  have hwl : ∀ z, (z ∈ d0.weights Tryd.prog 37 → z ≤ reachBytes) ∧ (z ∈ d1.weights Tryd.prog 25 → z ≤ reachBytes) := fun z => by
    have h := List.all_eq_true.1 hwt z
    simp only [decide_eq_true_eq] at h
    refine ⟨fun hz => h ?_, fun hz => h ?_⟩
    all_goals
      simp only [List.cons_append, List.nil_append, List.toList_toArray, List.append_nil, DataW.weightsEach, List.mem_append]
      simp [hz]
  have k0 := h0
  have lt0 : ∀ x ∈ p0, x.block < W.heap.size := by obtain ⟨m, hm⟩ := k0; exact DataW.trod_lt m _ _ _ hm
  obtain ⟨l0, g0, z0⟩ := Bo.open_cls (okWide_slice Tryd.underlying37 (hval 0 37 v0 rfl rfl)) h0 (fun z hz => (hwl z).1 hz)
  have k1 := h1
  have lt1 : ∀ x ∈ p1, x.block < W.heap.size := by obtain ⟨m, hm⟩ := k1; exact DataW.trod_lt m _ _ _ hm
  obtain ⟨x1, m1, rfl, g1, z1⟩ := open_claim (hval 1 25 v1 rfl rfl) h1 (fun z hz => (hwl z).2 hz)
  clear hA0 hval0
  refine (walk W v0 l0 g0 z0 x1 m1 g1 z1 hT).mono fun e W' ⟨he, bel⟩ => ?_
  subst he
  exact ⟨_, rfl, _, _, _, [], _, [], hW', (trodAll_cons_mk (shut_bool Tryd.underlying4 _) trodAll_mk0), (trodAll_cons_mk (Below.trod laidOut (by kernel_rfl) (of_decide_eq_true (by kernel_rfl)) k0 bel lt0) (trodAll_cons_mk (Below.trod laidOut (by kernel_rfl) (of_decide_eq_true (by kernel_rfl)) k1 bel lt1) trodAll_mk0)), rfl, bel.frame _, fun h => by cases h⟩

theorem over : Rows.bookReplacesRow.holds Tryd.pinned (OpenSpec.ofChange Rows.bookReplacesSpec) :=
  OpenClaim.holds_of_wide 7 Tryd.f7 rfl rfl rfl rfl rfl rfl rfl ⟨rfl, rfl, rfl, rfl, rfl⟩ rfl rfl rfl rfl rfl (by kernel_rfl) Tryd.func7 (by kernel_rfl)
    (of_decide_eq_true (by kernel_rfl)) (by unfold Func.isWrapper; first | (rw [if_pos (by decide +kernel)]; kernel_rfl) | (rw [if_neg (by decide +kernel)]; exact ⟨rfl, rfl⟩))
    (fun os started H enc _ => lifted os started H enc)

/-- The row's statement. -/
theorem proved : Rows.BookReplacesSaid := over
end Go.Proofs.YtjgceppbhmmbjaaDoor.bookReplaces
namespace Go.Proofs.YtjgceppbhmmbjaaDoor
theorem bookReplaces_holds : Rows.BookReplacesCardSaid :=
  Claim7.holds_tied_plain_at .later [] [.data] true (true, "f2479070b03f171d82c90618c5dc1cf43e6570ed6b4a30a463a32bd4503c9e70") false
    bookReplaces.proved (fun _ h => by cases h) (by kernel_rfl) (fun _ h => by cases h) bookReplaces_row_tie rfl ⟨rfl, rfl⟩ (by kernel_rfl) rfl
    (fun f fn hf hfn => by
      obtain rfl : f = 7 := Option.some.inj ((show Tryd.prog.funcNamed "leechbook/leechbooklaw18.BookReplaces" = some 7 by kernel_rfl).symm.trans hf) |>.symm
      obtain rfl : fn = Tryd.f7 := (Option.some.inj (Tryd.func7.symm.trans hfn)).symm
      exact ⟨by kernel_rfl, fun j t ht => by
        rw [Tryd.params7] at ht
        have hm : t ∈ [37, 25] := by simpa using Array.mem_of_getElem? ht
        have hall : ([37, 25].all fun u => !Tryd.prog.wantsStandIn u) = true := by kernel_rfl
        exact (show Tryd.prog.wantsStandIn t = false by simpa using List.all_eq_true.1 hall t hm)⟩)
    (by kernel_rfl)
#print axioms bookReplaces_holds
end Go.Proofs.YtjgceppbhmmbjaaDoor
