/-
  The statement BookVoids (18.5): what a claim left that was put and taken back is what stood ahead of it: for all claims and numbers; without a condition.
-/
import Derived.WalkKit
import Derived.ProofKit
import Derived.OpenShut
import Derived.ShutString
import Derived.Below
import Derived.Carry
import Derived.LaidMore
import Derived.Stop.Joined
import Derived.SevenTiedAt
import Derived.Deep.DeepCutAuto
import Derived.Test.YtjgceppbhmmbjaaDoorRows
import Derived.Test.YtjgceppbhmmbjaaDoorTie
import Derived.Test.YtjgceppbhmmbjaaDoorCards
import Derived.Test.YtjgceppbhmmbjaaDoorMb1
import Derived.Test.YtjgceppbhmmbjaaDoorMb2
import Derived.Test.YtjgceppbhmmbjaaDoorMb3
import Derived.Test.YtjgceppbhmmbjaaDoorMb4
import Derived.Test.YtjgceppbhmmbjaaDoorMb5
import Derived.Test.YtjgceppbhmmbjaaDoorMb6
import Derived.Test.YtjgceppbhmmbjaaDoorMb7
import Derived.Test.YtjgceppbhmmbjaaDoorMb8
import Derived.Test.YtjgceppbhmmbjaaDoorMb9
import Derived.Test.YtjgceppbhmmbjaaDoorMb10
import Derived.Test.YtjgceppbhmmbjaaDoorMb11
import Derived.Test.YtjgceppbhmmbjaaDoorMb12
import Derived.Test.YtjgceppbhmmbjaaDoorMb13
import Derived.Test.YtjgceppbhmmbjaaDoorMb14
import Derived.Test.YtjgceppbhmmbjaaDoorMb15
import Derived.Test.YtjgceppbhmmbjaaDoorMb16
import Derived.Test.YtjgceppbhmmbjaaDoorMb17
import Derived.Test.YtjgceppbhmmbjaaDoorMb18
import Derived.Test.YtjgceppbhmmbjaaDoorMb19
import Derived.Test.YtjgceppbhmmbjaaDoorMb20
import Derived.Test.YtjgceppbhmmbjaaDoorMb21
import Derived.Test.YtjgceppbhmmbjaaDoorMb22
import Derived.Test.YtjgceppbhmmbjaaDoorMb23
import Derived.Test.YtjgceppbhmmbjaaDoorMb24
import Derived.Test.YtjgceppbhmmbjaaDoorMb25
import Derived.Test.YtjgceppbhmmbjaaDoorMb26
import Derived.Test.YtjgceppbhmmbjaaDoorMb27
import Derived.Test.YtjgceppbhmmbjaaDoorMb28
import Derived.Test.YtjgceppbhmmbjaaDoorMb29
namespace Go.Proofs.YtjgceppbhmmbjaaDoor.bookVoids
open Go.ChangeShapes Go.WideShapes Go.ChangeAt Go.RowKit
open Cm (Ln Cl cl0 LnsAt clv lnv LnOk ClOk laidL lift open_claim)
open Bk
open Sh (Ot)
open Go.ChangeMaps (open_string)
set_option linter.unusedVariables false
set_option linter.unusedSimpArgs false
set_option maxRecDepth 100000

theorem own : ownKnob Tryd.prog.godebug = none := by kernel_rfl

/-! ### the walk: the law returns true -/
set_option maxHeartbeats 4000000 in
theorem walk (w : World) (vd : Value) (d : List Cl) (hD : Cm.ClsAt All w vd d) (hd : ∀ x ∈ d, ClOk x) (c : Cl) (ml : Value) (hL : LnsAt All w ml c.lines) (hc : ClOk c) (t2 : Tx) (w2 : t2.length ≤ 281474976710656) (hT : Da.Tab w) :
    Calls Tryd.prog 6 #[vd, clv c ml, .string (mk t2)] w fun e w' => e = .returned (.bool true) ∧ Below w.heap.size w w' := by
  have HW := Lib.hid fun W (hW : Below w.heap.size w W) => works_any W (Cm.tab_below hT hW)
  obtain ⟨da, dc, rfl, hl1, hl2⟩ := Cm.ClsAt.form hD
  obtain ⟨la, lc, rfl, hl3, hl4⟩ := Cm.LnsAt.form hL
  have HDs := Lib.hid fun W (hW : Below w.heap.size w W) => (Cm.ClsAt.move hD (Below.moves hW) : Cm.ClsAt All W (.slice da d.length dc) d)
  have HLn := Lib.hid fun W (hW : Below w.heap.size w W) => LnsAt.move hL (Below.moves hW)
  have HWd : Hid (∀ W, Below w.heap.size w W → Calls Tryd.prog 20 #[.slice da d.length dc, .int .i64 200] W fun e w' => (∃ n : Int, e = .returned (.int .i64 n) ∧ (n ≤ 200 → ∀ z ∈ d, Cm.ClLight z)) ∧ Below W.heap.size W w') := fun W hW => by
    refine (Cm.weight2_any 200 (by decide) (by decide) _ d W (HDs.out W hW) hd).mono ?_
    rintro e w' ⟨⟨n, e1, e2, -⟩, hb⟩
    exact ⟨⟨n, e1, e2⟩, hb⟩
  have HWc : Hid (∀ W g, Below w.heap.size w W → W.heap[g]? = some (.cells #[.string (mk c.id), .string (mk c.mem), .string (mk c.fam), .int .i64 c.net, .int .i64 c.does, .string (mk c.ref), .slice la c.lines.length lc] 25 (0, 0)) → Calls Tryd.prog 20 #[.slice (some ⟨g, 0, none⟩) 1 1, .int .i64 50] W fun e w' => (∃ n : Int, e = .returned (.int .i64 n) ∧ (n ≤ 50 → ∀ z ∈ [c], Cm.ClLight z)) ∧ Below W.heap.size W w') := fun W g hW hg => by
    refine (Cm.weight2_any 50 (by decide) (by decide) _ [c] W (cls_one hg (HLn.out W hW)) (by intro x hx; simp at hx; rw [hx]; exact hc)).mono ?_
    rintro e w' ⟨⟨n, e1, e2, -⟩, hb⟩
    exact ⟨⟨n, e1, e2⟩, hb⟩
  have HMa : Hid ((∀ c ∈ d, Cm.ClLight c) → d.length ≤ 30 → ∀ W, Below w.heap.size w W → Calls Tryd.prog 21 #[.slice da d.length dc, .int .i64 100] W fun e w' => (∃ a k, e = .returned (.slice a (made 100 0 [] d).length k) ∧ EnsAt All w' (.slice a (made 100 0 [] d).length k) (made 100 0 [] d)) ∧ Below W.heap.size W w') := fun h h30 W hW => made_any 100 d _ W (HDs.out W hW) hd (fun c hc => fit_of (h c hc)) (by omega)
  have HBb : Hid ((∀ c ∈ d, Cm.ClLight c) → ∀ x ∈ made 100 0 [] d, EnB x) := fun h => made_b 100 d 0 [] (fun c hc => fit_of (h c hc)) (fun x hx => by cases hx)
  have HBl : Hid (((made 100 0 [] d).length) ≤ d.length) := Lib.hid (by have := made_l 100 d 0 []; simpa using this)
  have HPu : Hid ((∀ c ∈ d, Cm.ClLight c) → Cm.ClLight c → d.length ≤ 30 → ∀ W v, Below w.heap.size w W → EnsAt All W v (made 100 0 [] d) → Calls Tryd.prog 11 #[v, clv c (.slice la c.lines.length lc), .int .i64 0, .int .i64 100] W fun e w' => (∃ a k, e = .returned (.tuple #[.slice a (putV (made 100 0 [] d) c 0 100).length k, .int .i64 (putA (made 100 0 [] d) c 100), .int .i64 (admE (made 100 0 [] d) c 100)]) ∧ EnsAt All w' (.slice a (putV (made 100 0 [] d) c 0 100).length k) (putV (made 100 0 [] d) c 0 100)) ∧ Below W.heap.size W w') := fun h1 h2 h3 W v hW hv => put_at (made 100 0 [] d) c 0 100 v (.slice la c.lines.length lc) W hv (HLn.out W hW) hc (Cm.tab_below hT hW) (by have := HBl.out; omega) (HBb.out h1) (fit_of h2)
  have HXb : Hid ((∀ c ∈ d, Cm.ClLight c) → Cm.ClLight c → ∀ x ∈ (made 100 0 [] d) ++ [⟨c, 0, 0, []⟩], EnB x) := fun h1 h2 x hx => by
    rcases List.mem_append.1 hx with hx | hx
    · exact HBb.out h1 x hx
    · simp at hx; rw [hx]; exact ⟨fit_of h2, by simp⟩
  have HPv : Hid ((∀ c ∈ d, Cm.ClLight c) → Cm.ClLight c → d.length ≤ 30 → ∀ W v, Below w.heap.size w W → EnsAt All W v ((made 100 0 [] d) ++ [⟨c, 0, 0, []⟩]) → Calls Tryd.prog 11 #[v, clv (vd t2 c) (.slice none 0 0), .int .i64 0, .int .i64 100] W fun e w' => (∃ a k, e = .returned (.tuple #[.slice a (putV ((made 100 0 [] d) ++ [⟨c, 0, 0, []⟩]) (vd t2 c) 0 100).length k, .int .i64 (putA ((made 100 0 [] d) ++ [⟨c, 0, 0, []⟩]) (vd t2 c) 100), .int .i64 (admE ((made 100 0 [] d) ++ [⟨c, 0, 0, []⟩]) (vd t2 c) 100)]) ∧ EnsAt All w' (.slice a (putV ((made 100 0 [] d) ++ [⟨c, 0, 0, []⟩]) (vd t2 c) 0 100).length k) (putV ((made 100 0 [] d) ++ [⟨c, 0, 0, []⟩]) (vd t2 c) 0 100)) ∧ Below W.heap.size W w') := fun h1 h2 h3 W v hW hv => put_at ((made 100 0 [] d) ++ [⟨c, 0, 0, []⟩]) (vd t2 c) 0 100 v (.slice none 0 0) W hv (lns_nil W) (void_ok t2 c w2 hc) (Cm.tab_below hT hW) (by have := HBl.out; simp; omega) (HXb.out h1 h2) (void_fit t2 c)
  have HSy : Hid ((∀ c ∈ d, Cm.ClLight c) → Cm.ClLight c → d.length ≤ 30 → ∀ W v, EnsAt All W v (putV ((made 100 0 [] d) ++ [⟨c, 0, 0, []⟩]) (vd t2 c) 0 100) → Calls Tryd.prog 18 #[v] W fun e w' => (∃ a k, e = .returned (.slice a (stand (putV ((made 100 0 [] d) ++ [⟨c, 0, 0, []⟩]) (vd t2 c) 0 100)).length k) ∧ EnsAt All w' (.slice a (stand (putV ((made 100 0 [] d) ++ [⟨c, 0, 0, []⟩]) (vd t2 c) 0 100)).length k) (stand (putV ((made 100 0 [] d) ++ [⟨c, 0, 0, []⟩]) (vd t2 c) 0 100))) ∧ Below W.heap.size W w') := fun h1 h2 h3 W v hv => stand_at _ v W hv (by have := put_l (l := (made 100 0 [] d) ++ [⟨c, 0, 0, []⟩]) (c := vd t2 c) 0 100; have := HBl.out; simp only [List.length_append, List.length_singleton] at *; omega) (put_b (void_fit t2 c) (HXb.out h1 h2) 0 100)
  have HSb : Hid (d.length ≤ 30 → ∀ W v, EnsAt All W v (made 100 0 [] d) → Calls Tryd.prog 19 #[v] W fun e w' => (∃ a k, e = .returned (.slice a (stand (made 100 0 [] d)).length k) ∧ EnsAt All w' (.slice a (stand (made 100 0 [] d)).length k) (stand (made 100 0 [] d))) ∧ Below W.heap.size W w') := fun h3 W v hv => rstand_at _ v W hv (by have := HBl.out; omega)
  have HSa : Hid ((∀ c ∈ d, Cm.ClLight c) → d.length ≤ 30 → ∀ W v u, EnsAt All W v (stand (made 100 0 [] d)) → EnsAt All W u (stand (made 100 0 [] d)) → Calls Tryd.prog 13 #[v, u] W fun e w' => e = .returned (.bool true) ∧ Below W.heap.size W w') := fun h1 h3 W v u g1 g2 => same_eq _ v u W g1 g2 (fun x hx => (stand_b (HBb.out h1) x hx).2) (by have := HBl.out; have := stand_l (made 100 0 [] d); omega)
  have HAd : Hid (d.length ≤ 30 → admE (made 100 0 [] d) c 100 = 0 → _) := fun h3 h => void_adm (B := made 100 0 [] d) (c := c) (by have := HBl.out; omega) h t2
  have HP1 : Hid (admE (made 100 0 [] d) c 100 = 0 → c.does = 1 → putV (made 100 0 [] d) c 0 100 = (made 100 0 [] d) ++ [⟨c, 0, 0, []⟩]) := fun h h1 => (put1 h h1).1
  have HX0 := Lib.hid (alloc_new w #[.string (mk c.id), .string (mk c.mem), .string (mk c.fam), .int .i64 c.net, .int .i64 c.does, .string (mk c.ref), .slice la c.lines.length lc] 25)
  have HB0 := Lib.hid (below_alloc w (.cells #[.string (mk c.id), .string (mk c.mem), .string (mk c.fam), .int .i64 c.net, .int .i64 c.does, .string (mk c.ref), .slice la c.lines.length lc] 25))
  clear hD hd hL hc hT HDs HLn
  go_enter Tryd.func6, Tryd.ntmps6
  go_upto_region 1 with fail
  generalize w.alloc (.cells #[.string (mk c.id), .string (mk c.mem), .string (mk c.fam), .int .i64 c.net, .int .i64 c.does, .string (mk c.ref), .slice la c.lines.length lc] 25) = w0 at *
  by_cases g1 : (d.length : Int) > 30
  · have d1 : decide ((d.length : Int) > 30) = true := decide_eq_true g1
    have d1' : (30 : Int) < (d.length : Int) := by omega
    obtain ⟨c0, c1, c2, c3, c4, c5, c6⟩ := seven HX0.out
    go_wp2_with fail
    try (go_at_call 10)
    refine (HW.out w0 HB0.out).mono ?_
    rintro e w99 ⟨rfl, hb99⟩
    have HB99 := Lib.hid (below_trans HB0.out hb99)
    clear hb99
    go_wp2
    go_ret
    exact ⟨rfl, HB99.out⟩
  have d1 : decide ((d.length : Int) > 30) = false := decide_eq_false g1
  have d1' : ¬ (30 : Int) < (d.length : Int) := by omega
  obtain ⟨c0, c1, c2, c3, c4, c5, c6⟩ := seven HX0.out
  go_wp2_with fail
  try (go_at_call 20)
  refine (HWd.out w0 HB0.out).mono ?_
  rintro e w1 ⟨⟨n1, rfl, hn1⟩, hb1⟩
  have HB1 := Lib.hid (below_trans HB0.out hb1)
  have HN1 := Lib.hid hn1
  have HX1 := Lib.hid (keepB HX0.out hb1)
  clear hb1 hn1 HWd HB0 HX0 c0 c1 c2 c3 c4 c5 c6
  by_cases g2 : n1 > 200
  · have d2 : decide (n1 > 200) = true := decide_eq_true g2
    have d2' : (200 : Int) < n1 := by omega
    obtain ⟨c0, c1, c2, c3, c4, c5, c6⟩ := seven HX1.out
    go_wp2_with fail
    try (go_at_call 10)
    refine (HW.out w1 HB1.out).mono ?_
    rintro e w99 ⟨rfl, hb99⟩
    have HB99 := Lib.hid (below_trans HB1.out hb99)
    clear hb99
    go_wp2
    go_ret
    exact ⟨rfl, HB99.out⟩
  have d2 : decide (n1 > 200) = false := decide_eq_false g2
  have d2' : ¬ (200 : Int) < n1 := by omega
  have HLd := Lib.hid (HN1.out (by omega))
  clear HN1
  obtain ⟨c0, c1, c2, c3, c4, c5, c6⟩ := seven HX1.out
  go_wp2_with fail
  try (go_at_call 20)
  refine (HWc.out _ _ (below_trans HB1.out (below_alloc _ _)) (alloc_new _ _ _)).mono ?_
  rintro e w2 ⟨⟨n2, rfl, hn2⟩, hb2⟩
  have HB2 := Lib.hid (below_trans (below_trans HB1.out (below_alloc _ _)) hb2)
  have HX2 := Lib.hid (keepB (keepB HX1.out (below_alloc _ _)) hb2)
  have HN2 : Hid (n2 ≤ 50 → Cm.ClLight c) := fun q => hn2 q c (List.mem_singleton.2 rfl)
  clear hb2 hn2 HWc HX1 HB1 c0 c1 c2 c3 c4 c5 c6
  by_cases g3 : n2 > 50
  · have d3 : decide (n2 > 50) = true := decide_eq_true g3
    have d3' : (50 : Int) < n2 := by omega
    obtain ⟨c0, c1, c2, c3, c4, c5, c6⟩ := seven HX2.out
    go_wp2_with fail
    try (go_at_call 10)
    refine (HW.out w2 HB2.out).mono ?_
    rintro e w99 ⟨rfl, hb99⟩
    have HB99 := Lib.hid (below_trans HB2.out hb99)
    clear hb99
    go_wp2
    go_ret
    exact ⟨rfl, HB99.out⟩
  have d3 : decide (n2 > 50) = false := decide_eq_false g3
  have d3' : ¬ (50 : Int) < n2 := by omega
  have HLc := Lib.hid (HN2.out (by omega))
  clear HN2
  have h30 : d.length ≤ 30 := by omega
  have HP := Lib.hid (HPu.out HLd.out HLc.out h30)
  have HQ := Lib.hid (HPv.out HLd.out HLc.out h30)
  have HY := Lib.hid (HSy.out HLd.out HLc.out h30)
  have HS := Lib.hid (HSb.out h30)
  have HSm := Lib.hid (HSa.out HLd.out h30)
  have HA := Lib.hid (HAd.out h30)
  have HM := Lib.hid (HMa.out HLd.out h30)
  clear HPu HPv HSy HSb HSa HAd HMa HBb HBl HXb HLd HLc g1 g2 g3
  generalize made 100 0 [] d = BB at *
  obtain ⟨c0, c1, c2, c3, c4, c5, c6⟩ := seven HX2.out
  go_wp2_with fail
  try (go_at_call 21)
  refine (HM.out w2 HB2.out).mono ?_
  rintro e w3 ⟨⟨x3, k3, rfl, hs3⟩, hb3⟩
  have HB3 := Lib.hid (below_trans HB2.out hb3)
  have HE_3 := Lib.hid hs3
  have HX3 := Lib.hid (keepB HX2.out hb3)
  clear hb3 hs3 HX2 HB2 HM c0 c1 c2 c3 c4 c5 c6
  obtain ⟨c0, c1, c2, c3, c4, c5, c6⟩ := seven HX3.out
  go_wp2_with fail
  try (go_at_call 11)
  refine (HP.out w3 _ HB3.out HE_3.out).mono ?_
  rintro e w4 ⟨⟨x4, k4, rfl, hs4⟩, hb4⟩
  have HB4 := Lib.hid (below_trans HB3.out hb4)
  have HV_4 := Lib.hid hs4
  have HE_4 := Lib.hid (HE_3.out.grw hb4)
  have HX4 := Lib.hid (keepB HX3.out hb4)
  clear hb4 hs4 HX3 HE_3 HB3 HP c0 c1 c2 c3 c4 c5 c6
  by_cases e0 : admE BB c 100 = 0
  case neg =>
    have q0 : (admE BB c 100 != 0) = true := by simp [e0]
    clear e0 HA HP1
    obtain ⟨c0, c1, c2, c3, c4, c5, c6⟩ := seven HX4.out
    go_wp2_with fail
    try (go_at_call 10)
    refine (HW.out w4 HB4.out).mono ?_
    rintro e w99 ⟨rfl, hb99⟩
    have HB99 := Lib.hid (below_trans HB4.out hb99)
    clear hb99
    go_wp2
    go_ret
    exact ⟨rfl, HB99.out⟩
  have q0 : (admE BB c 100 != 0) = false := by simp [e0]
  by_cases e1 : c.does = 1
  case neg =>
    have q1 : (c.does != 1) = true := by simp [e1]
    clear e0 e1 HA HP1
    obtain ⟨c0, c1, c2, c3, c4, c5, c6⟩ := seven HX4.out
    go_wp2_with fail
    try (go_at_call 10)
    refine (HW.out w4 HB4.out).mono ?_
    rintro e w99 ⟨rfl, hb99⟩
    have HB99 := Lib.hid (below_trans HB4.out hb99)
    clear hb99
    go_wp2
    go_ret
    exact ⟨rfl, HB99.out⟩
  have q1 : (c.does != 1) = false := by simp [e1]
  obtain ⟨hf, hg⟩ := HA.out e0
  have HF := Lib.hid hf
  have HG := Lib.hid hg
  have hX := HP1.out e0 e1
  rw [hX] at HV_4 ⊢
  clear HA hf hg hX HP1 e0 e1
  obtain ⟨XX, hXX⟩ : ∃ z, z = BB ++ [(⟨c, 0, 0, []⟩ : En)] := ⟨_, rfl⟩
  rw [← hXX] at HV_4 HF HG HQ HY ⊢
  clear hXX
  obtain ⟨c0, c1, c2, c3, c4, c5, c6⟩ := seven HX4.out
  go_wp2_with fail
  try (go_at_call 11)
  refine (HQ.out w4 _ HB4.out HV_4.out).mono ?_
  rintro e w5 ⟨⟨x5, k5, rfl, hs5⟩, hb5⟩
  have HB5 := Lib.hid (below_trans HB4.out hb5)
  have HU_5 := Lib.hid hs5
  have HE_5 := Lib.hid (HE_4.out.grw hb5)
  have HX5 := Lib.hid (keepB HX4.out hb5)
  clear hb5 hs5 HX4 HE_4 HB4 HV_4 HQ c0 c1 c2 c3 c4 c5 c6
  generalize putV XX (vd t2 c) 0 100 = YY at *
  generalize putA XX (vd t2 c) 100 = AY at *
  generalize admE XX (vd t2 c) 100 = EY at *
  clear HX5
  by_cases e5 : EY = 0
  case neg =>
    have q5 : (EY != 0) = true := by simp [e5]
    rcases HF.out with h | h | h
    · exact absurd h e5
    · clear e5 HF HG
      subst h
      go_wp2_with fail
      try (go_at_call 10)
      refine (HW.out w5 HB5.out).mono ?_
      rintro e w99 ⟨rfl, hb99⟩
      have HB99 := Lib.hid (below_trans HB5.out hb99)
      clear hb99
      go_wp2
      go_ret
      exact ⟨rfl, HB99.out⟩
    · clear e5 HF HG
      subst h
      go_wp2_with fail
      try (go_at_call 10)
      refine (HW.out w5 HB5.out).mono ?_
      rintro e w99 ⟨rfl, hb99⟩
      have HB99 := Lib.hid (below_trans HB5.out hb99)
      clear hb99
      go_wp2
      go_ret
      exact ⟨rfl, HB99.out⟩
  obtain ⟨ha, hst⟩ := HG.out e5
  rw [hst] at HY
  subst e5 ha
  clear HF HG hst
  have q6 : ((BB.length : Int) == (BB.length : Int)) = true := by simp
  generalize stand BB = SB at *
  go_wp2_with fail
  try (go_at_call 18)
  refine (HY.out w5 _ HU_5.out).mono ?_
  rintro e w6 ⟨⟨x6, k6, rfl, hs6⟩, hb6⟩
  have HB6 := Lib.hid (below_trans HB5.out hb6)
  have HS_6 := Lib.hid hs6
  have HE_6 := Lib.hid (HE_5.out.grw hb6)
  clear hb6 hs6 HU_5 HE_5 HB5 HY
  go_wp2_with fail
  try (go_at_call 19)
  refine (HS.out w6 _ HE_6.out).mono ?_
  rintro e w7 ⟨⟨x7, k7, rfl, hs7⟩, hb7⟩
  have HB7 := Lib.hid (below_trans HB6.out hb7)
  have HS7 := Lib.hid hs7
  have HS_7 := Lib.hid (HS_6.out.grw hb7)
  clear hb7 hs7 HS_6 HE_6 HB6 HS
  go_wp2_with fail
  try (go_at_call 13)
  refine (HSm.out w7 _ _ HS_7.out HS7.out).mono ?_
  rintro e w8 ⟨rfl, hb8⟩
  have HB8 := Lib.hid (below_trans HB7.out hb8)
  clear hb8 HSm HS_7 HS7 HB7
  go_wp2_with fail
  try (go_at_call 10)
  refine (HW.out w8 HB8.out).mono ?_
  rintro e w99 ⟨rfl, hb99⟩
  have HB99 := Lib.hid (below_trans HB8.out hb99)
  clear hb99
  go_wp2
  go_ret
  exact ⟨rfl, HB99.out⟩

/-! ### the row's step -/
theorem laidOut : laidOutB Tryd.prog = true := by kernel_rfl
set_option maxRecDepth 100000 in
theorem lifted (os : Os) (started : os.Started) (H : Type) (enc : TypeId × Value → H) :
    ReturnsInHanded {} Tryd.checked os 6 .any (fun w args => (Rows.bookVoidsSpec.pre enc Tryd.prog Tryd.f6 [] false w args ∧ laidMetH Tryd.prog laidL w) ∧ sizedMet enc Tryd.prog Tryd.f6 (OpenSpec.ofChange Rows.bookVoidsSpec) false w args) (Rows.bookVoidsSpec.post enc Tryd.prog Tryd.f6 false true false false) := by
  refine lift own started (by kernel_rfl) Tryd.func6
    (ChangeSpec.witness_shaped (enc := enc) (C := Tryd.checked) (os := os) (X := fun w _ => laidMetH Tryd.prog laidL w) false (World.laidAll Tryd.prog os laidL) #[.slice none 0 0, .agg #[.string ByteArray.empty, .string ByteArray.empty, .string ByteArray.empty, .int .i64 0, .int .i64 0, .string ByteArray.empty, .slice none 0 0], .string ByteArray.empty] 8 (World.laidAll_os _ _ _)
      (World.shaped_of_ZipB (by kernel_rfl) (by kernel_rfl)) (by kernel_rfl) (by kernel_rfl) (by kernel_rfl)
      (by rw [MakeChecks.laidMetH_plain _ _ _ (by kernel_rfl)]; exact laidMet_laidAll _ (by kernel_rfl) (by kernel_rfl))) ?_
  intro W base args ds gs before hval0 hW hwt hT
  have hval : ∀ (j : Nat) t v, Tryd.f6.params[j]? = some t → args[j]? = some v → Value.okWide Tryd.prog W .any base t v := hval0
  have hW' := hW
  obtain ⟨p, q, hA0, hV, rfl, hfz, hnd⟩ := hW
  have hA : DataW.TrodAll enc Tryd.prog W 0 (fun _ => true) true Tryd.f6.params.toList args.toList ds p := hA0
  rw [Tryd.params6] at hA hval hwt
  obtain ⟨v0, vs0, d0, ds0, p0, q0, hargs, rfl, rfl, h0, r0⟩ := trodAll_cons hA
  obtain ⟨v1, vs1, d1, ds1, p1, q1, rfl, rfl, rfl, h1, r1⟩ := trodAll_cons r0
  obtain ⟨v2, vs2, d2, ds2, p2, q2, rfl, rfl, rfl, h2, r2⟩ := trodAll_cons r1
  obtain ⟨rfl, rfl, rfl⟩ := trodAll_nil r2
  obtain rfl : args = #[v0, v1, v2] := by cases args; simp_all
  obtain ⟨rfl, rfl⟩ := trodVars_none hV
  have hwl : ∀ z, (z ∈ d0.weights Tryd.prog 37 → z ≤ reachBytes) ∧ (z ∈ d1.weights Tryd.prog 25 → z ≤ reachBytes) ∧ (z ∈ d2.weights Tryd.prog 9 → z ≤ reachBytes) := fun z => by
    have h := List.all_eq_true.1 hwt z
    simp only [decide_eq_true_eq] at h
    refine ⟨fun hz => h ?_, fun hz => h ?_, fun hz => h ?_⟩
    all_goals
      simp only [List.cons_append, List.nil_append, List.toList_toArray, List.append_nil, DataW.weightsEach, List.mem_append]
      simp [hz]
  have k0 := h0
  have lt0 : ∀ x ∈ p0, x.block < W.heap.size := by obtain ⟨m, hm⟩ := k0; exact DataW.trod_lt m _ _ _ hm
  obtain ⟨l0, g0, z0⟩ := Bo.open_cls (okWide_slice Tryd.underlying37 (hval 0 37 v0 rfl rfl)) h0 (fun z hz => (hwl z).1 hz)
  have k1 := h1
  have lt1 : ∀ x ∈ p1, x.block < W.heap.size := by obtain ⟨m, hm⟩ := k1; exact DataW.trod_lt m _ _ _ hm
  obtain ⟨x1, m1, rfl, g1, z1⟩ := open_claim (hval 1 25 v1 rfl rfl) h1 (fun z hz => (hwl z).2.1 hz)
  have k2 := h2
  have lt2 : ∀ x ∈ p2, x.block < W.heap.size := by obtain ⟨m, hm⟩ := k2; exact DataW.trod_lt m _ _ _ hm
  obtain ⟨a2, rfl, _, _, _⟩ := open_string Tryd.underlying9 (hval 2 9 v2 rfl rfl) h2
  obtain ⟨t2, rfl, w2⟩ := Bo.open_tx h2 (fun z hz => (hwl z).2.2 hz)
  clear hA0 hval0
  refine (walk W v0 l0 g0 z0 x1 m1 g1 z1 t2 w2 hT).mono fun e W' ⟨he, bel⟩ => ?_
  subst he
  exact ⟨_, rfl, _, _, _, [], _, [], hW', (trodAll_cons_mk (shut_bool Tryd.underlying4 _) trodAll_mk0), (trodAll_cons_mk (Below.trod laidOut (by kernel_rfl) (of_decide_eq_true (by kernel_rfl)) k0 bel lt0) (trodAll_cons_mk (Below.trod laidOut (by kernel_rfl) (of_decide_eq_true (by kernel_rfl)) k1 bel lt1) (trodAll_cons_mk (Below.trod laidOut (by kernel_rfl) (of_decide_eq_true (by kernel_rfl)) k2 bel lt2) trodAll_mk0))), rfl, bel.frame _, fun h => by cases h⟩

theorem over : Rows.bookVoidsRow.holds Tryd.pinned (OpenSpec.ofChange Rows.bookVoidsSpec) :=
  OpenClaim.holds_of_wide 6 Tryd.f6 rfl rfl rfl rfl rfl rfl rfl ⟨rfl, rfl, rfl, rfl, rfl⟩ rfl rfl rfl rfl rfl (by kernel_rfl) Tryd.func6 (by kernel_rfl)
    (of_decide_eq_true (by kernel_rfl)) (by unfold Func.isWrapper; first | (rw [if_pos (by decide +kernel)]; kernel_rfl) | (rw [if_neg (by decide +kernel)]; exact ⟨rfl, rfl⟩))
    (fun os started H enc _ => lifted os started H enc)

/-- The row's statement. -/
theorem proved : Rows.BookVoidsSaid := over
end Go.Proofs.YtjgceppbhmmbjaaDoor.bookVoids
namespace Go.Proofs.YtjgceppbhmmbjaaDoor
theorem bookVoids_holds : Rows.BookVoidsCardSaid :=
  Claim7.holds_tied_plain_at .later [] [.data] true (true, "f2479070b03f171d82c90618c5dc1cf43e6570ed6b4a30a463a32bd4503c9e70") false
    bookVoids.proved (fun _ h => by cases h) (by kernel_rfl) (fun _ h => by cases h) bookVoids_row_tie rfl ⟨rfl, rfl⟩ (by kernel_rfl) rfl
    (fun f fn hf hfn => by
      obtain rfl : f = 6 := Option.some.inj ((show Tryd.prog.funcNamed "leechbook/leechbooklaw18.BookVoids" = some 6 by kernel_rfl).symm.trans hf) |>.symm
      obtain rfl : fn = Tryd.f6 := (Option.some.inj (Tryd.func6.symm.trans hfn)).symm
      exact ⟨by kernel_rfl, fun j t ht => by
        rw [Tryd.params6] at ht
        have hm : t ∈ [37, 25, 9] := by simpa using Array.mem_of_getElem? ht
        have hall : ([37, 25, 9].all fun u => !Tryd.prog.wantsStandIn u) = true := by kernel_rfl
        exact (show Tryd.prog.wantsStandIn t = false by simpa using List.all_eq_true.1 hall t hm)⟩)
    (by kernel_rfl)
#print axioms bookVoids_holds
end Go.Proofs.YtjgceppbhmmbjaaDoor
