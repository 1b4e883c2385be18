/-
  The statement SvcSums (20.6): of a claim that may be, what is billed is what is paid and all adjustments, together; for all claims of remittances.
-/
import Derived.Test.YtpnkgkchpoehcaaRows
import Derived.WalkKit
import Derived.ProofKit
import Derived.OpenShut
import Derived.ShutString
import Derived.Below
import Derived.Carry
import Derived.Laws.Cover2
import Derived.HandedShaped
import Derived.Test.YtpnkgkchpoehcaaVSum
import Derived.Test.YtpnkgkchpoehcaaVOpen
namespace Go.Proofs.Ytpnkgkchpoehcaa.svcSums
open Go.ChangeShapes Go.WideShapes Go.ChangeAt Go.RowKit
open Sv
open Bk (keepB below_alloc below_trans alloc_new)
open Go.ChangeMaps (open_string)
set_option linter.unusedVariables false
set_option linter.unusedSimpArgs false
set_option maxRecDepth 100000

theorem own : ownKnob Try.prog.godebug = none := by kernel_rfl

/-! ### the walk: the law returns true -/
set_option maxHeartbeats 16000000 in
theorem walk (w : World) (x0 : Cp) (m0 : Value) (h0 : SvsAt All w m0 x0.svs) (z0 : So.OpC x0) :
    Calls Try.prog 6 #[cpv x0 m0] w fun e w' => e = .returned (.bool true) ∧ Below w.heap.size w w' := by
  have HW := Lib.hid works_any
  have hb0 := below_alloc w (.cells (cpe x0 m0) 30)
  have HX := Lib.hid (alloc_new w (cpe x0 m0) 30)
  have HB := Lib.hid hb0
  have HM : Hid (∀ W, Below w.heap.size w W → SvsAt All W m0 x0.svs) := fun W hW => h0.grw hW
  have HZ := Lib.hid z0
  obtain ⟨am, cm, rfl, f1, f2⟩ := h0.form
  clear h0 hb0 z0
  go_enter Try.func6, Try.ntmps6
  go_upto_region 1 with fail
  generalize w.alloc (.cells (cpe x0 (.slice am x0.svs.length cm)) 30) = W at *
  generalize hp : w.heap.size = p at *
  have HPW : Hid (p ≤ W.heap.size) := by have := HB.out.size; rw [hp] at this; exact this
  obtain ⟨x1, x2, x3, x4, x5, x6⟩ := six HX.out
  have HL : Hid (Calls Try.prog 13 #[.slice (some ⟨W.heap.size, 0, none⟩) 1 1] (W.alloc (.cells (cpe x0 (.slice am x0.svs.length cm)) 30)) fun e w' => (∃ b, e = .returned (.bool b)) ∧ Below (W.alloc (.cells (cpe x0 (.slice am x0.svs.length cm)) 30)).heap.size (W.alloc (.cells (cpe x0 (.slice am x0.svs.length cm)) 30)) w') :=
    light_any [x0] _ _ (cps_one (alloc_new W _ _) (HM.out _ (HB.out.trans ((below_alloc W _).mono HPW.out)))) (fun y hy => by obtain rfl := List.mem_singleton.1 hy; exact HZ.out.2)
  go_wp2_with fail
  try (go_at_call 13)
  refine HL.out.mono ?_
  rintro e w1 ⟨⟨b, rfl⟩, hb⟩
  have HB1 : Hid (Below W.heap.size W w1) := below_trans (below_alloc W _) hb
  have HBw1 : Hid (Below p w w1) := HB.out.trans (HB1.out.mono HPW.out)
  clear hb HL x1 x2 x3 x4 x5 x6
  obtain ⟨x1, x2, x3, x4, x5, x6⟩ := six (keepB HX.out HB1.out)
  cases b with
  | false =>
    go_wp2_with (first | (go_at_call 9; refine (HW.out _).mono ?_; rintro e w2 ⟨rfl, hb⟩; have HB2 : Hid (Below p w w2) := HBw1.out.trans (hb.mono (Nat.le_trans HPW.out HB1.out.size)); clear hb))
    go_ret
    exact ⟨rfl, by first | exact HB2.out | (rw [hp]; exact HB2.out)⟩
  | true =>
    have HC := Lib.hid (check_any x0 (.slice am x0.svs.length cm) w1 (HM.out _ HBw1.out) HZ.out.1)
    by_cases hE : checkE x0 = 0
    case neg =>
      have hb0 : (checkE x0 != 0) = true := by simpa using hE
      clear hE
      generalize checkE x0 = E at *
      go_wp2_with (first | (go_at_call 14; refine HC.out.mono ?_; rintro e w2 ⟨rfl, hb⟩; have HB2 : Hid (Below p w w2) := HBw1.out.trans (hb.mono (Nat.le_trans HPW.out HB1.out.size)); have HS2 : Hid (p ≤ w2.heap.size) := Nat.le_trans (Nat.le_trans HPW.out HB1.out.size) hb.size; clear hb) | (go_at_call 9; refine (HW.out _).mono ?_; rintro e w3 ⟨rfl, hb⟩; have HB3 : Hid (Below p w w3) := HB2.out.trans (hb.mono HS2.out); clear hb))
      go_ret
      exact ⟨rfl, by first | exact HB3.out | (rw [hp]; exact HB3.out)⟩
    have HSU := Lib.hid (check_sums hE)
    have HSG := Lib.hid (check_sign hE)
    obtain ⟨⟨-, hst⟩, ⟨hn1, hn2⟩, hsv, hd⟩ := (check_iff x0).1 hE
    have HBS : Hid (∀ s ∈ x0.svs, BdS s) := fun s hs => bdS_of (hsv s hs)
    have hbi := bd_of hd.2.2.2
    rw [← hd.1] at hbi
    obtain ⟨hbi1, hbi2⟩ := hbi
    have HTB := Lib.hid (totC_bd x0.svs hn2 HBS.out)
    have hpd : -5624995934585749504 ≤ x0.paid ∧ x0.paid ≤ 5624995934585749504 := by
      have h1 := HSU.out
      have h2 := HTB.out 0
      rw [List.drop_zero] at h2
      omega
    have HT0 : Hid (x0.bi - x0.paid = totC (x0.svs.drop 0)) := by show _ = _; rw [List.drop_zero]; have := HSU.out; omega
    rw [hE] at HC
    clear hE hsv hd
    go_upto_region 3 with (first | (go_at_call 14; refine HC.out.mono ?_; rintro e w2 ⟨rfl, hb⟩; have HB2 : Hid (Below W.heap.size W w2) := HB1.out.trans (hb.mono HB1.out.size); clear hb))
    clear x1 x2 x3 x4 x5 x6
    obtain ⟨x1, x2, x3, x4, x5, x6⟩ := six (keepB HX.out HB2.out)
    go_wp2
    go_loopg [3, 4] (x0.svs.length) (fun gg t3 t4 wr => ∃ (k : Nat) (T : Int), k ≤ x0.svs.length ∧ gg = x0.svs.length - k ∧ t3 = .int .i64 T ∧ t4 = .int .i64 k ∧ Hid (T = totC (x0.svs.drop k)) ∧ Hid (Below W.heap.size W wr))
    case atStart => exact ⟨0, _, Nat.zero_le _, rfl, rfl, rfl, HT0.out, HB2.out⟩
    case round =>
      obtain ⟨k, T, hk, hgk, rfl, rfl, HT, HBr⟩ := hrel
      clear x1 x2 x3 x4 x5 x6
      obtain ⟨x1, x2, x3, x4, x5, x6⟩ := six (keepB HX.out HBr.out)
      have HBp : Hid (Below p w wr) := HB.out.trans (HBr.out.mono HPW.out)
      by_cases hlt : k < x0.svs.length
      · have hltz : (k : Int) < (x0.svs.length : Int) := by omega
        obtain ⟨bs, os, ms, rfl, -, -, hxs, hcs, hcas⟩ := SvsAt.get (HM.out _ HBp.out) k hlt
        obtain ⟨-, -, c5, c6⟩ := HBS.out _ (List.mem_of_getElem? hxs)
        have HCB := Lib.hid (sumC_bd _ c5 c6)
        have HTS : Hid (T = sumC (x0.svs[k].cas.drop 0) + totC (x0.svs.drop (k + 1))) := by show _ = _; rw [HT.out, totC_step hxs, List.drop_zero]
        have hi1 : k < x0.svs.length := hlt
        have HTN := Lib.hid (HTB.out (k + 1))
        generalize x0.svs[k] = s at *
        obtain ⟨ac, cc, rfl, g1, g2⟩ := hcas.form
        obtain ⟨wo, rfl⟩ : ∃ z, z = wr := ⟨_, rfl⟩
        have HKK := Lib.hid fun W' (hW : Below wo.heap.size wo W') => And.intro (six (keepB (keepB HX.out HBr.out) hW)) (And.intro (hcs.of (hW.block bs (World.block_lt_of_cell? wo _ hcs.1))) (hcas.grw hW))
        have HBo := Lib.hid HBr.out
        clear hxs hcs hcas c6
        go_wp2
        go_loopg [3, 5] (s.cas.length) (fun gg t3 t5 wr => ∃ (j : Nat) (V : Int), j ≤ s.cas.length ∧ gg = s.cas.length - j ∧ t3 = .int .i64 V ∧ t5 = .int .i64 j ∧ Hid (V = sumC (s.cas.drop j) + totC (x0.svs.drop (k + 1))) ∧ Hid (Below wo.heap.size wo wr))
        case atStart => exact ⟨0, T, Nat.zero_le _, rfl, rfl, rfl, HTS.out, Below.refl _ _⟩
        case round =>
          obtain ⟨j, V, hj, hgj, rfl, rfl, HV, HBj⟩ := hrel
          clear x1 x2 x3 x4 x5 x6
          obtain ⟨⟨x1, x2, x3, x4, x5, x6⟩, ⟨s0, s1, s2, s3⟩, hcas⟩ := HKK.out wr HBj.out
          by_cases hlj : j < s.cas.length
          · have hljz : (j : Int) < (s.cas.length : Int) := by omega
            obtain ⟨bc, oc, rfl, -, -, hy, hcc⟩ := CasAt.get hcas j hlj
            have HV2 : Hid (V - s.cas[j].ct = sumC (s.cas.drop (j + 1)) + totC (x0.svs.drop (k + 1))) := by show _ = _; rw [HV.out, sumC_step hy]; omega
            have hvb : -9223372036854775808 ≤ V - s.cas[j].ct ∧ V - s.cas[j].ct ≤ 9223372036854775807 := by
              have hv2 := HTN.out
              have hv3 := HCB.out (j + 1)
              have hv4 := HV2.out
              omega
            obtain ⟨hvb1, hvb2⟩ := hvb
            have hi2 : j < s.cas.length := hlj
            generalize s.cas[j] = y at *
            obtain ⟨d0, d1, d2⟩ := hcc
            clear hy hcas
            go_wp2
            go_roundg (s.cas.length - (j + 1))
            case measure => omega
            case rel => exact ⟨j + 1, V - y.ct, by omega, rfl, rfl, by go_num, HV2.out, HBj.out⟩
          · have hljz : ¬ (j : Int) < (s.cas.length : Int) := by omega
            have HV3 : Hid (V = totC (x0.svs.drop (k + 1))) := by show _ = _; rw [HV.out, sumC_end (by omega)]; omega
            have HBf : Hid (Below W.heap.size W wr) := HBo.out.trans (HBj.out.mono HBo.out.size)
            clear hcas
            go_wp2
            go_roundg (x0.svs.length - (k + 1))
            case measure => omega
            case rel => exact ⟨k + 1, V, by omega, rfl, rfl, by go_num, HV3.out, HBf.out⟩
      · have hltz : ¬ (k : Int) < (x0.svs.length : Int) := by omega
        have hT0 : T = 0 := by rw [HT.out, totC_end (by omega)]
        subst hT0
        obtain ⟨g1, g2⟩ := HSG.out
        rcases hst with hs | hs
        · obtain ⟨g3, g4⟩ := g1 hs
          have n1 : ¬ x0.paid < 0 := by omega
          have n2 : ¬ x0.mem < 0 := by omega
          rw [hs] at x2
          clear g1 g2 hs HT HTB
          go_wp2_with (first | (go_at_call 9; refine (HW.out _).mono ?_; rintro e w3 ⟨rfl, hb⟩; have HB3 : Hid (Below p w w3) := HBp.out.trans (hb.mono (Nat.le_trans HPW.out HBr.out.size)); clear hb))
          go_ret
          exact ⟨rfl, by first | exact HB3.out | (rw [hp]; exact HB3.out)⟩
        · obtain ⟨g3, g4⟩ := g2 hs
          have n1 : ¬ 0 < x0.paid := by omega
          have n2 : ¬ 0 < x0.mem := by omega
          rw [hs] at x2
          clear g1 g2 hs HT HTB
          go_wp2_with (first | (go_at_call 9; refine (HW.out _).mono ?_; rintro e w3 ⟨rfl, hb⟩; have HB3 : Hid (Below p w w3) := HBp.out.trans (hb.mono (Nat.le_trans HPW.out HBr.out.size)); clear hb))
          go_ret
          exact ⟨rfl, by first | exact HB3.out | (rw [hp]; exact HB3.out)⟩

/-! ### the row's step -/
theorem laidOut : laidOutB Try.prog = true := by kernel_rfl
theorem lifted (os : Os) (started : os.Started) (H : Type) (enc : TypeId × Value → H) :
    ReturnsInHanded {} Try.checked os 6 .any (Rows.svcSumsSpec.pre6 enc Try.prog Try.f6 Rows.svcSumsRow.domain false) (Rows.svcSumsSpec.post enc Try.prog Try.f6 false true false false) := by
  refine returnsInHanded_of_change_shaped (C := Try.checked) own started (by kernel_rfl) Try.func6
    (ChangeSpec.witness6 (enc := enc) (C := Try.checked) false ⟨#[], #[.agg #[.string ByteArray.empty, .int .i64 0, .int .i64 0, .int .i64 0, .int .i64 0, .slice none 0 0]], []⟩ 8 (by kernel_rfl) (by kernel_rfl) (by kernel_rfl) (by kernel_rfl)) ?_
  intro W base args ds gs before hval0 hW hcnd hwt _ _
  have hval : ∀ (j : Nat) t v, Try.f6.params[j]? = some t → args[j]? = some v → Value.okWide Try.prog W .any base t v := hval0
  have hW' := hW
  obtain ⟨p, q, hA0, hV, rfl, hfz, hnd⟩ := hW
  have hA : DataW.TrodAll enc Try.prog W 0 (fun _ => true) true Try.f6.params.toList args.toList ds p := hA0
  rw [Try.params6] at hA hval hwt
  obtain ⟨v0, vs0, d0, ds0, p0, q0, hargs, rfl, rfl, h0, r0⟩ := trodAll_cons hA
  obtain ⟨rfl, rfl, rfl⟩ := trodAll_nil r0
  obtain rfl : args = #[v0] := by cases args; simp_all
  obtain ⟨rfl, rfl⟩ := trodVars_none hV
  have hwl : ∀ z, (z ∈ d0.weights Try.prog 30 → z ≤ reachBytes) := fun z => by
    have h := List.all_eq_true.1 hwt z
    simp only [decide_eq_true_eq] at h
    refine fun hz => h ?_
    all_goals
      simp only [List.cons_append, List.nil_append, List.toList_toArray, List.append_nil, DataW.weightsEach, List.mem_append]
      first | exact Or.inl hz | exact Or.inr (Or.inl hz) | exact Or.inr (Or.inr (Or.inl hz)) | exact Or.inr (Or.inr (Or.inr (Or.inl hz))) | exact Or.inr (Or.inr (Or.inr (Or.inr (Or.inl hz)))) | exact Or.inr (Or.inr (Or.inr (Or.inr (Or.inr (Or.inl hz))))) | exact Or.inr (Or.inr (Or.inr (Or.inr (Or.inr (Or.inr (Or.inl hz)))))) | simp [hz]
  have k0 := h0
  have lt0 : ∀ x ∈ p0, x.block < W.heap.size := by obtain ⟨m, hm⟩ := k0; exact DataW.trod_lt m _ _ _ hm
  obtain ⟨x0, m0, rfl, g0, z0⟩ := So.open_clp (hval 0 30 v0 rfl rfl) h0 (fun z hz => hwl z hz)
  clear hA0 hval0
  refine (walk W x0 m0 g0 z0).mono fun e W' ⟨he, bel⟩ => ?_
  subst he
  exact ⟨_, rfl, _, _, _, [], _, [], hW', (trodAll_cons_mk (shut_bool Try.underlying4 _) trodAll_mk0), (trodAll_cons_mk (Below.trod laidOut (by kernel_rfl) (of_decide_eq_true (by kernel_rfl)) k0 bel lt0) trodAll_mk0), rfl, bel.frame _, fun h => by cases h⟩

theorem over : Rows.svcSumsRow.holds Try.pinned (OpenSpec.ofChange Rows.svcSumsSpec) :=
  OpenClaim.holds_of_wide 6 Try.f6 rfl rfl rfl rfl rfl rfl rfl ⟨rfl, rfl, rfl, rfl, rfl⟩ rfl rfl rfl rfl rfl (by kernel_rfl) Try.func6 (by kernel_rfl)
    (of_decide_eq_true (by kernel_rfl)) (by unfold Func.isWrapper; first | (rw [if_pos (by decide +kernel)]; kernel_rfl) | (rw [if_neg (by decide +kernel)]; exact ⟨rfl, rfl⟩))
    (fun os started H enc _ => lifted os started H enc)

/-- The statement. -/
theorem proved : Rows.SvcSumsSaid := over
end Go.Proofs.Ytpnkgkchpoehcaa.svcSums
namespace Go.Proofs.Ytpnkgkchpoehcaa
theorem svcSums_holds : Rows.SvcSumsSaid := svcSums.proved
#print axioms svcSums_holds
end Go.Proofs.Ytpnkgkchpoehcaa
