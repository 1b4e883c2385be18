/-
  Texts put together (merge.py): VRSvc, VTot, VChk.
-/
import Derived.Test.YtpfpjbeofogbgaaMm5
import Derived.Test.YtpfpjbeofogbgaaMm3
set_option linter.unusedSimpArgs false
set_option linter.unusedVariables false
section
set_option maxRecDepth 100000
namespace Go.Proofs.Ytpfpjbeofogbgaa.Sv
open Go.RowKit
open Bk (keepB below_alloc below_trans alloc_new)
open Cm (mk_ne codeB)
def svcM (st : Int) (s : Sr) : Int := if svcE st s = 0 then sumP s.cas else 0
theorem svcM_no {st : Int} {s : Sr} (h : svcE st s ≠ 0) : svcM st s = 0 := if_neg h
theorem sumP_step {l : List Ca} {j : Nat} {x : Ca} (hx : l[j]? = some x) {T R : Int} (h : T + sumP (l.drop j) = R) : (T + (if x.grp = gPR then x.ct else 0)) + sumP (l.drop (j + 1)) = R := by
 obtain ⟨hl, he'⟩ := (List.getElem?_eq_some_iff.1 hx)
 rw [List.drop_eq_getElem_cons hl, he'] at h
 simp only [sumP] at h
 omega
theorem sumP_end {l : List Ca} {j : Nat} (hj : l.length ≤ j) {T R : Int} (h : T + sumP (l.drop j) = R) : R = T := by
 rw [List.drop_eq_nil_of_le hj] at h; simp only [sumP] at h; omega
set_option maxHeartbeats 4000000 in
theorem rsvc_any (s : Sr) (m : Value) (st : Int) (w : World) (hm : CasAt All w m s.cas) (hz : SrOk s) :
  Calls Try.prog 46 #[.int .i64 st, srv s m] w fun e w' => e = .returned (.tuple #[.int .i64 (svcM st s), .int .i64 (svcE st s)]) ∧ Below w.heap.size w w' := by
 obtain ⟨z1, z2, z3, z4⟩ := hz
 obtain ⟨a, cap, rfl, f1, f2⟩ := hm.form
 have HB := Lib.hid (below_alloc w (.cells (sre s (.slice a s.cas.length cap)) Ts))
 have HX := Lib.hid (alloc_new w (sre s (.slice a s.cas.length cap)) Ts)
 have HM : Hid (∀ w', Below w.heap.size w w' → CasAt All w' (.slice a s.cas.length cap) s.cas) := fun w' hb => hm.grw hb
 have HC := Lib.hid fun w => Cm.rcode_any s.proc 5 5 w (by omega)
 have HG : Hid (∀ n w, n = s.bi ∨ n = s.paid → Calls Try.prog 47 #[.int .i64 st, .int .i64 n] w fun e w' => e = .returned (.bool (okM st n)) ∧ w' = w) := fun n w h => rgood_any n st w
 have HK : Hid (∀ c ∈ s.cas, ∀ w, Calls Try.prog 58 #[.int .i64 st, cav c] w fun e w' => e = .returned (.int .i64 (casE st c)) ∧ Below w.heap.size w w') := fun c hc w => rcas_any c st w
 clear hm z1 z2 z3 z4
 cases hc : codeB s.proc 5 5 with
 | false =>
  rw [svcM_no (by rw [svc_9 hc]; decide), svc_9 hc]
  rw [hc] at HC
  go_enter Try.func46, Try.ntmps46
  go_upto_region 1 with fail
  generalize w.alloc (.cells (sre s (.slice a s.cas.length cap)) Ts) = W at *
  generalize hp : w.heap.size = p at *
  obtain ⟨x0, x1, x2, x3⟩ := four HX.out
  go_wp2_with (first | (go_at_call 45; refine (HC.out _).mono ?_; rintro e w' ⟨rfl, hw⟩; rw [hw]; clear hw w'))
  go_ret2
  exact ⟨rfl, by first | exact HB.out | (rw [hp]; exact HB.out)⟩
 | true =>
 rw [hc] at HC
 by_cases h5 : s.cas.length ≤ 5
 case neg =>
  rw [svcM_no (by rw [svc_6 hc h5]; decide), svc_6 hc h5]
  have h5' : (5 : Int) < (s.cas.length : Int) := by omega
  go_enter Try.func46, Try.ntmps46
  go_upto_region 1 with fail
  generalize w.alloc (.cells (sre s (.slice a s.cas.length cap)) Ts) = W at *
  generalize hp : w.heap.size = p at *
  obtain ⟨x0, x1, x2, x3⟩ := four HX.out
  go_wp2_with (first | (go_at_call 45; refine (HC.out _).mono ?_; rintro e w' ⟨rfl, hw⟩; rw [hw]; clear hw w'))
  go_ret2
  exact ⟨rfl, by first | exact HB.out | (rw [hp]; exact HB.out)⟩
 have h5' : ¬ (5 : Int) < (s.cas.length : Int) := by omega
 cases g1 : okM st s.bi with
 | false =>
  rw [svcM_no (by rw [svc_8 hc h5 (Or.inl g1)]; decide), svc_8 hc h5 (Or.inl g1)]
  go_enter Try.func46, Try.ntmps46
  go_upto_region 1 with fail
  generalize w.alloc (.cells (sre s (.slice a s.cas.length cap)) Ts) = W at *
  generalize hp : w.heap.size = p at *
  obtain ⟨x0, x1, x2, x3⟩ := four HX.out
  go_wp2_with (first | (go_at_call 45; refine (HC.out _).mono ?_; rintro e w' ⟨rfl, hw⟩; rw [hw]; clear hw w') | (go_at_call 47; refine (HG.out _ _ (by first | exact Or.inl rfl | exact Or.inr rfl)).mono ?_; rintro e w' ⟨rfl, hw⟩; rw [hw]; clear hw w'))
  go_ret2
  exact ⟨rfl, by first | exact HB.out | (rw [hp]; exact HB.out)⟩
 | true =>
 cases g2 : okM st s.paid with
 | false =>
  rw [svcM_no (by rw [svc_8 hc h5 (Or.inr g2)]; decide), svc_8 hc h5 (Or.inr g2)]
  go_enter Try.func46, Try.ntmps46
  go_upto_region 1 with fail
  generalize w.alloc (.cells (sre s (.slice a s.cas.length cap)) Ts) = W at *
  generalize hp : w.heap.size = p at *
  obtain ⟨x0, x1, x2, x3⟩ := four HX.out
  go_wp2_with (first | (go_at_call 45; refine (HC.out _).mono ?_; rintro e w' ⟨rfl, hw⟩; rw [hw]; clear hw w') | (go_at_call 47; refine (HG.out _ _ (by first | exact Or.inl rfl | exact Or.inr rfl)).mono ?_; rintro e w' ⟨rfl, hw⟩; rw [hw]; clear hw w'))
  go_ret2
  exact ⟨rfl, by first | exact HB.out | (rw [hp]; exact HB.out)⟩
 | true =>
 have HR := Lib.hid (svc_in (st := st) hc h5 g1 g2)
 have hpr := ok_range g2
 have HN : Hid (svcE st s ≠ 0 → svcM st s = 0) := svcM_no
 have HY : Hid (svcE st s = 0 → svcM st s = sumP s.cas) := fun h => if_pos h
 generalize svcM st s = MM at *
 generalize svcE st s = R at *
 obtain ⟨PP, hPP⟩ : ∃ PP, sumP s.cas = PP := ⟨_, rfl⟩
 rw [hPP] at HY
 have HP0 := Lib.hid hPP
 clear hPP
 obtain ⟨S, hS⟩ : ∃ S, s.paid + sumC s.cas = S := ⟨_, rfl⟩
 obtain ⟨E, hE⟩ : ∃ E, casesE st s.cas = E := ⟨_, rfl⟩
 rw [hS, hE] at HR
 have HS0 := Lib.hid hS
 have HE0 := Lib.hid hE
 clear hS hE hc
 go_enter Try.func46, Try.ntmps46
 go_upto_region 1 with fail
 generalize w.alloc (.cells (sre s (.slice a s.cas.length cap)) Ts) = W at *
 generalize hp : w.heap.size = p at *
 have HPW : Hid (p ≤ W.heap.size) := by have := HB.out.size; rw [hp] at this; exact this
 obtain ⟨x0, x1, x2, x3⟩ := four HX.out
 go_wp2_with (first | (go_at_call 45; refine (HC.out _).mono ?_; rintro e w' ⟨rfl, hw⟩; rw [hw]; clear hw w') | (go_at_call 47; refine (HG.out _ _ (by first | exact Or.inl rfl | exact Or.inr rfl)).mono ?_; rintro e w' ⟨rfl, hw⟩; rw [hw]; clear hw w'))
 go_loopg [6, 7, 8] (s.cas.length) (fun gg t6 t7 t8 wr => ∃ (j : Nat) (T M : Int), j ≤ s.cas.length ∧ gg = s.cas.length - j ∧ t6 = .int .i64 T ∧ t7 = .int .i64 M ∧ t8 = .int .i64 j ∧ (-10000000000000 * (j + 1) ≤ M ∧ M ≤ 10000000000000 * (j + 1)) ∧ Hid (M + sumP (s.cas.drop j) = PP) ∧ (-10000000000000 * (j + 1) ≤ T ∧ T ≤ 10000000000000 * (j + 1)) ∧ Hid (casesE st (s.cas.drop j) = E) ∧ Hid (T + sumC (s.cas.drop j) = S) ∧ Hid (Below W.heap.size W wr))
 case atStart => exact ⟨0, s.paid, 0, Nat.zero_le _, rfl, rfl, rfl, rfl, by omega, (by show _ = _; rw [List.drop_zero, HP0.out, Int.zero_add]), by omega, HE0.out, HS0.out, Below.refl _ _⟩
 case round =>
  obtain ⟨j, T, M, hj, hg, rfl, rfl, rfl, ⟨hm1, hm2⟩, HP1, ⟨ht1, ht2⟩, HE1, HS1, HBn⟩ := hrel
  have HBw : Hid (Below p w wr) := HB.out.trans (HBn.out.mono HPW.out)
  obtain ⟨x0, x1, x2, x3⟩ := four (keepB HX.out HBn.out)
  by_cases hlt : j < s.cas.length
  ·have hltz : (j : Int) < (s.cas.length : Int) := by omega
   obtain ⟨b, o, rfl, -, -, hx, hcell⟩ := CasAt.get (HM.out _ HBw.out) j hlt
   have HKj := Lib.hid (HK.out _ (List.mem_of_getElem? hx))
   have HST := Lib.hid fun h => cases_step hx HE1.out h
   have HBD := Lib.hid fun h => cases_bad hx HE1.out h
   have HSS := Lib.hid (sum_step hx HS1.out)
   have HPS := Lib.hid (sumP_step hx HP1.out)
   generalize s.cas[j] = x at *
   have hbl := World.block_lt_of_cell? wr _ hcell.1
   obtain ⟨c0, c1, c2⟩ := id hcell
   clear hx
   by_cases he : casE st x = 0
   ·have hrg := ok_range (cas_ok he).2.2.2
    have hE2 := HST.out he
    rw [he] at HKj
    clear he HBD HST
    have HE2 := Lib.hid hE2
    clear hE2
    by_cases hq : x.grp = gPR
    ·have hl2 : (mk x.grp).toList = [80, 82] := by rw [mk_tl]; exact hq
     have hl3 : ((mk x.grp).toList == [80, 82]) = true := by rw [hl2]; rfl
     rw [if_pos hq] at HPS
     clear hq
     go_wp2_with (first | (go_at_call 58; refine (HKj.out _).mono ?_; rintro e w1 ⟨rfl, hb⟩; obtain ⟨y0, y1, y2⟩ := CaCells.of hcell (hb.block _ hbl); have HB2 : Hid (Below W.heap.size W w1) := HBn.out.trans (hb.mono HBn.out.size); obtain ⟨x0, x1, x2, x3⟩ := four (keepB HX.out HB2.out); clear hb))
     go_roundg (s.cas.length - (j + 1))
     case measure => omega
     case rel => exact ⟨j + 1, T + x.ct, M + x.ct, by omega, rfl, rfl, rfl, by go_num, by omega, HPS.out, by omega, HE2.out, HSS.out, HB2.out⟩
    ·have hl2 : ¬ (mk x.grp).toList = [80, 82] := by rw [mk_tl]; exact hq
     have hl3 : ((mk x.grp).toList == [80, 82]) = false := by simpa using hl2
     rw [if_neg hq, Int.add_zero] at HPS
     clear hq
     go_wp2_with (first | (go_at_call 58; refine (HKj.out _).mono ?_; rintro e w1 ⟨rfl, hb⟩; obtain ⟨y0, y1, y2⟩ := CaCells.of hcell (hb.block _ hbl); have HB2 : Hid (Below W.heap.size W w1) := HBn.out.trans (hb.mono HBn.out.size); obtain ⟨x0, x1, x2, x3⟩ := four (keepB HX.out HB2.out); clear hb))
     go_roundg (s.cas.length - (j + 1))
     case measure => omega
     case rel => exact ⟨j + 1, T + x.ct, M, by omega, rfl, rfl, rfl, by go_num, by omega, HPS.out, by omega, HE2.out, HSS.out, HB2.out⟩
   ·have hE2 := HBD.out he
    have hb0 : (casE st x != 0) = true := by simpa using he
    have hR : R = casE st x := by rw [HR.out, if_neg (by omega), hE2]
    have HMM := Lib.hid (HN.out (by rw [hR]; exact he))
    have HRR := Lib.hid hR
    clear he HBD HST hE2 hR HR
    go_wp2_with (first | (go_at_call 58; refine (HKj.out _).mono ?_; rintro e w1 ⟨rfl, hb⟩; have HB2 : Hid (Below p w w1) := HBw.out.trans (hb.mono (Nat.le_trans HPW.out HBn.out.size)); clear hb))
    go_ret2
    exact ⟨by rw [HRR.out, HMM.out]; rfl, by first | exact HB2.out | (rw [hp]; exact HB2.out)⟩
  ·have hltz : ¬ (j : Int) < (s.cas.length : Int) := by omega
   have h0 := cases_end (by omega) HE1.out
   have h1 := sum_end (by omega) HS1.out
   by_cases hT : T = s.bi
   ·have hR : R = 0 := by rw [HR.out, if_pos h0, if_pos (by omega)]
    have hb0 : (T != s.bi) = false := by simp [hT]
    have HMM : Hid (MM = M) := by show _ = _; rw [HY.out hR, sumP_end (by omega) HP1.out]
    have HRR := Lib.hid hR
    clear h0 h1 hR HR hT
    go_wp2
    go_ret2
    exact ⟨by rw [HRR.out, HMM.out]; rfl, by first | exact HBw.out | (rw [hp]; exact HBw.out)⟩
   ·have hR : R = 17 := by rw [HR.out, if_pos h0, if_neg (by omega)]
    have hb0 : (T != s.bi) = true := by simp; omega
    have HMM : Hid (MM = 0) := HN.out (by omega)
    have HRR := Lib.hid hR
    clear h0 h1 hR HR hT
    go_wp2
    go_ret2
    exact ⟨by rw [HRR.out, HMM.out]; rfl, by first | exact HBw.out | (rw [hp]; exact HBw.out)⟩
end Go.Proofs.Ytpfpjbeofogbgaa.Sv
end
section
set_option maxRecDepth 100000
namespace Go.Proofs.Ytpfpjbeofogbgaa.Sv
open Go.RowKit
open Bk (keepB below_alloc below_trans alloc_new)
open Cm (mk_ne codeB)
def Bd (n : Int) : Prop := -1125899906842624 ≤ n ∧ n ≤ 1125899906842624
def BdS (s : Sr) : Prop := Bd s.bi ∧ Bd s.paid ∧ s.cas.length ≤ 5 ∧ ∀ c ∈ s.cas, Bd c.ct
theorem tot_step {l : List Sr} {k : Nat} {s : Sr} (hx : l[k]? = some s) {B P M b p m : Int} (h1 : B + totB (l.drop k) = b) (h2 : P + totP (l.drop k) = p) (h3 : M + totM (l.drop k) = m) :
  (B + s.bi) + totB (l.drop (k + 1)) = b ∧ (P + s.paid) + totP (l.drop (k + 1)) = p ∧ (M + sumP s.cas) + totM (l.drop (k + 1)) = m := by
 obtain ⟨hl, he'⟩ := (List.getElem?_eq_some_iff.1 hx)
 rw [List.drop_eq_getElem_cons hl, he'] at h1 h2 h3
 simp only [totB, totP, totM] at h1 h2 h3
 omega
theorem tot_end {l : List Sr} {k : Nat} (hk : l.length ≤ k) {B P M b p m : Int} (h1 : B + totB (l.drop k) = b) (h2 : P + totP (l.drop k) = p) (h3 : M + totM (l.drop k) = m) : b = B ∧ p = P ∧ m = M := by
 rw [List.drop_eq_nil_of_le hk] at h1 h2 h3
 simp only [totB, totP, totM] at h1 h2 h3
 omega
theorem sumP_end' {l : List Ca} {j : Nat} (hj : l.length ≤ j) {T R : Int} (h : T + sumP (l.drop j) = R) : T = R := (sumP_end hj h).symm
set_option maxHeartbeats 4000000 in
theorem together_any (l : List Sr) (v : Value) (w : World) (h : SvsAt All w v l) (hl : l.length ≤ 999) (hz : ∀ s ∈ l, BdS s) :
  Calls Try.prog 43 #[v] w fun e w' => e = .returned (.tuple #[.int .i64 (totB l), .int .i64 (totP l), .int .i64 (totM l)]) ∧ Below w.heap.size w w' := by
 obtain ⟨a, cap, rfl, f1, f2⟩ := h.form
 have HM : Hid (∀ w', Below w.heap.size w w' → SvsAt All w' (.slice a l.length cap) l) := fun w' hb => h.grw hb
 have HZ := Lib.hid hz
 clear h hz
 obtain ⟨b0, hb0⟩ : ∃ b, totB l = b := ⟨_, rfl⟩
 obtain ⟨p0, hp0⟩ : ∃ b, totP l = b := ⟨_, rfl⟩
 obtain ⟨m0, hm0⟩ : ∃ b, totM l = b := ⟨_, rfl⟩
 rw [hb0, hp0, hm0]
 have H0 : Hid (0 + totB (l.drop 0) = b0 ∧ 0 + totP (l.drop 0) = p0 ∧ 0 + totM (l.drop 0) = m0) := by
  show _ ∧ _
  rw [List.drop_zero, hb0, hp0, hm0]; omega
 clear hb0 hp0 hm0
 go_enter Try.func43, Try.ntmps43
 go_wp2
 go_loopg [2, 3, 4, 10] (l.length) (fun gg t2 t3 t4 t10 wr => ∃ (k : Nat) (B P M : Int), k ≤ l.length ∧ gg = l.length - k ∧ t2 = .int .i64 B ∧ t3 = .int .i64 P ∧ t4 = .int .i64 M ∧ t10 = .int .i64 k ∧ (-1125899906842624 * k ≤ B ∧ B ≤ 1125899906842624 * k) ∧ (-1125899906842624 * k ≤ P ∧ P ≤ 1125899906842624 * k) ∧ (-5629499534213120 * k ≤ M ∧ M ≤ 5629499534213120 * k) ∧ Hid (B + totB (l.drop k) = b0 ∧ P + totP (l.drop k) = p0 ∧ M + totM (l.drop k) = m0) ∧ Hid (Below w.heap.size w wr))
 case atStart => exact ⟨0, 0, 0, 0, Nat.zero_le _, rfl, rfl, rfl, rfl, rfl, by omega, by omega, by omega, H0.out, Below.refl _ _⟩
 case round =>
  obtain ⟨k, B, P, M, hk, hg, rfl, rfl, rfl, rfl, ⟨hB1, hB2⟩, ⟨hP1, hP2⟩, ⟨hM1, hM2⟩, HT, HBn⟩ := hrel
  obtain ⟨wo, rfl⟩ : ∃ wo, wo = wr := ⟨wr, rfl⟩
  by_cases hlt : k < l.length
  ·have hltz : (k : Int) < (l.length : Int) := by omega
   obtain ⟨b, o, m, rfl, -, -, hx, hcell, hcas⟩ := SvsAt.get (HM.out _ HBn.out) k hlt
   obtain ⟨⟨z1, z2⟩, ⟨z3, z4⟩, z5, z6⟩ := HZ.out _ (List.mem_of_getElem? hx)
   have HS := Lib.hid (tot_step hx HT.out.1 HT.out.2.1 HT.out.2.2)
   have hi1 : k < l.length := hlt
   generalize l[k] = x at *
   obtain ⟨c0, c1, c2, c3⟩ := hcell
   obtain ⟨ac, kc, rfl, g1, g2⟩ := hcas.form
   have HC : Hid (∀ w', Below wo.heap.size wo w' → CasAt All w' (.slice ac x.cas.length kc) x.cas) := fun w' hb => hcas.grw hb
   have HZ6 := Lib.hid z6
   clear hx hcas z6
   obtain ⟨sp, hsp⟩ : ∃ sp, sumP x.cas = sp := ⟨_, rfl⟩
   rw [hsp] at HS
   have HSP : Hid (M + sumP (x.cas.drop 0) = M + sp) := by show _ = _; rw [List.drop_zero, hsp]
   clear hsp
   go_wp2
   go_loopg [4, 33] (x.cas.length) (fun gg t4 t33 wr => ∃ (j : Nat) (N : Int), j ≤ x.cas.length ∧ gg = x.cas.length - j ∧ t4 = .int .i64 N ∧ t33 = .int .i64 j ∧ (-5629499534213120 * k - 1125899906842624 * j ≤ N ∧ N ≤ 5629499534213120 * k + 1125899906842624 * j) ∧ Hid (N + sumP (x.cas.drop j) = M + sp) ∧ Hid (Below wo.heap.size wo wr))
   case atStart => exact ⟨0, M, Nat.zero_le _, rfl, rfl, rfl, by omega, HSP.out, Below.refl _ _⟩
   case round =>
    obtain ⟨j, N, hj, hgj, rfl, rfl, ⟨hN1, hN2⟩, HSj, HBq⟩ := hrel
    by_cases hlj : j < x.cas.length
    ·have hljz : (j : Int) < (x.cas.length : Int) := by omega
     obtain ⟨bc, oc, rfl, -, -, hy, hcc⟩ := CasAt.get (HC.out _ HBq.out) j hlj
     obtain ⟨y1, y2⟩ := HZ6.out _ (List.mem_of_getElem? hy)
     have HPS := Lib.hid (sumP_step hy HSj.out)
     generalize x.cas[j] = y at *
     obtain ⟨d0, d1, d2⟩ := hcc
     have HXn := Lib.hid (alloc_new wr (cae y) Tk)
     have HB2 : Hid (Below wo.heap.size wo (wr.alloc (.cells (cae y) Tk))) := HBq.out.trans ((below_alloc wr _).mono HBq.out.size)
     clear hy
     by_cases hq : y.grp = gPR
     ·have hl2 : (mk y.grp).toList = [80, 82] := by rw [mk_tl]; exact hq
      have hl3 : ((mk y.grp).toList == [80, 82]) = true := by rw [hl2]; rfl
      rw [if_pos hq] at HPS
      clear hq
      go_wp2
      go_roundg (x.cas.length - (j + 1))
      case measure => omega
      case rel => exact ⟨j + 1, N + y.ct, by omega, rfl, rfl, by go_num, by omega, HPS.out, HB2.out⟩
     ·have hl2 : ¬ (mk y.grp).toList = [80, 82] := by rw [mk_tl]; exact hq
      have hl3 : ((mk y.grp).toList == [80, 82]) = false := by simpa using hl2
      rw [if_neg hq, Int.add_zero] at HPS
      clear hq
      go_wp2
      go_roundg (x.cas.length - (j + 1))
      case measure => omega
      case rel => exact ⟨j + 1, N, by omega, rfl, rfl, by go_num, by omega, HPS.out, HB2.out⟩
    ·have hljz : ¬ (j : Int) < (x.cas.length : Int) := by omega
     have hN := sumP_end' (by omega) HSj.out
     have HB3 : Hid (Below w.heap.size w wr) := HBn.out.trans (HBq.out.mono HBn.out.size)
     have HS2 : Hid (B + x.bi + totB (l.drop (k + 1)) = b0 ∧ P + x.paid + totP (l.drop (k + 1)) = p0 ∧ N + totM (l.drop (k + 1)) = m0) := by rw [hN]; exact HS.out
     clear hN
     go_wp2
     go_roundg (l.length - (k + 1))
     case measure => omega
     case rel => exact ⟨k + 1, B + x.bi, P + x.paid, N, by omega, rfl, rfl, rfl, rfl, by go_num, by omega, by omega, by omega, HS2.out, HB3.out⟩
  ·have hltz : ¬ (k : Int) < (l.length : Int) := by omega
   obtain ⟨e1, e2, e3⟩ := tot_end (by omega) HT.out.1 HT.out.2.1 HT.out.2.2
   have HE : Hid (b0 = B ∧ p0 = P ∧ m0 = M) := ⟨e1, e2, e3⟩
   clear e1 e2 e3
   go_wp2
   go_ret3
   exact ⟨by rw [HE.out.1, HE.out.2.1, HE.out.2.2]; rfl, HBn.out⟩
end Go.Proofs.Ytpfpjbeofogbgaa.Sv
end
section
set_option maxRecDepth 100000
namespace Go.Proofs.Ytpfpjbeofogbgaa.Sv
open Go.RowKit
open Bk (keepB below_alloc below_trans alloc_new)
open Cm (mk_ne codeB)
def CpOk (x : Cp) : Prop := I64 x.st ∧ I64 x.bi ∧ I64 x.paid ∧ I64 x.mem ∧ x.id.length ≤ 281474976710656 ∧ x.svs.length ≤ 281474976710656 ∧ ∀ s ∈ x.svs, SrOk s
theorem svcs_step {st : Int} {l : List Sr} {j : Nat} {x : Sr} (hx : l[j]? = some x) {R : Int} (h : svcsE st (l.drop j) = R) (he : svcE st x = 0) : svcsE st (l.drop (j + 1)) = R := by
 obtain ⟨hl, he'⟩ := (List.getElem?_eq_some_iff.1 hx)
 rw [List.drop_eq_getElem_cons hl, he'] at h
 unfold svcsE at h
 rw [if_pos he] at h
 exact h
theorem svcs_bad {st : Int} {l : List Sr} {j : Nat} {x : Sr} (hx : l[j]? = some x) {R : Int} (h : svcsE st (l.drop j) = R) (he : svcE st x ≠ 0) : R = svcE st x := by
 obtain ⟨hl, he'⟩ := (List.getElem?_eq_some_iff.1 hx)
 rw [List.drop_eq_getElem_cons hl, he'] at h
 unfold svcsE at h
 rw [if_neg he] at h
 exact h.symm
theorem svcs_end {st : Int} {l : List Sr} {j : Nat} (hj : l.length ≤ j) {R : Int} (h : svcsE st (l.drop j) = R) : R = 0 := by
 rw [List.drop_eq_nil_of_le hj] at h; exact h.symm
theorem bd_of {st n : Int} (h : okM st n = true) : Bd n := by have := ok_range h; unfold Bd; omega
theorem bdS_of {st : Int} {s : Sr} (h : svcE st s = 0) : BdS s := by
 obtain ⟨_, h2, ⟨h3, h4⟩, h5, _⟩ := (svc_iff st s).1 h
 exact ⟨bd_of h3, bd_of h4, h2, fun c hc => bd_of (cas_ok (h5 c hc)).2.2.2⟩
theorem head_0 {id : Tx} {st n : Int} (h : headE id st n = 0) : codeB id 1 12 = true ∧ (st = 1 ∨ st = 22) ∧ 1 ≤ n ∧ n ≤ 999 := by
 unfold headE at h
 split at h
 ·next a =>
  split at h
  ·next b => exact ⟨a.1, a.2, b⟩
  ·cases h
 ·cases h
theorem check_head (x : Cp) (h : headE x.id x.st x.svs.length ≠ 0) : checkE x = headE x.id x.st x.svs.length := by
 unfold headE at *
 unfold checkE
 split
 ·next a =>
  rw [if_pos a] at h
  split
  ·next b => rw [if_pos (by omega)] at h; exact absurd rfl h
  ·next b => rw [if_neg (by omega)]
 ·rfl
theorem check_in (x : Cp) (h : headE x.id x.st x.svs.length = 0) : checkE x = (if svcsE x.st x.svs = 0 then (if x.bi = totB x.svs ∧ x.paid = totP x.svs ∧ x.mem = totM x.svs ∧ okM x.st (totB x.svs) = true then 0 else 17) else svcsE x.st x.svs) := by
 obtain ⟨a, b, c, d⟩ := head_0 h
 unfold checkE
 rw [if_pos ⟨a, b⟩, if_pos (by omega)]
set_option maxHeartbeats 8000000 in
theorem check_any (x : Cp) (m : Value) (w : World) (hm : SvsAt All w m x.svs) (hz : CpOk x) :
  Calls Try.prog 31 #[cpv x m] w fun e w' => e = .returned (.int .i64 (checkE x)) ∧ Below w.heap.size w w' := by
 obtain ⟨z0, z1, z2, z3, z4, z5, z6⟩ := hz
 obtain ⟨a, cap, rfl, f1, f2⟩ := hm.form
 have HB := Lib.hid (below_alloc w (.cells (cpe x (.slice a x.svs.length cap)) 38))
 have HX := Lib.hid (alloc_new w (cpe x (.slice a x.svs.length cap)) 38)
 have HM : Hid (∀ w', Below w.heap.size w w' → SvsAt All w' (.slice a x.svs.length cap) x.svs) := fun w' hb => hm.grw hb
 have HH := Lib.hid fun w => head_any x.id x.st x.svs.length w (by omega)
 clear hm z0 z2 z3 z4
 by_cases h0 : headE x.id x.st x.svs.length = 0
 case neg =>
  rw [check_head x h0]
  have hb0 : (headE x.id x.st x.svs.length != 0) = true := by simpa using h0
  generalize headE x.id x.st x.svs.length = E at *
  clear h0
  go_enter Try.func31, Try.ntmps31
  go_upto_region 1 with fail
  generalize w.alloc (.cells (cpe x (.slice a x.svs.length cap)) 38) = W at *
  generalize hp : w.heap.size = p at *
  obtain ⟨x0, x1, x2, x3, x4, x5⟩ := six HX.out
  go_wp2_with (first | (go_at_call 41; refine (HH.out _).mono ?_; rintro e w' ⟨rfl, hw⟩; rw [hw]; clear hw w'))
  go_ret
  exact ⟨rfl, by first | exact HB.out | (rw [hp]; exact HB.out)⟩
 have HR := Lib.hid (check_in x h0)
 obtain ⟨-, hs, n1, n2⟩ := head_0 h0
 rw [h0] at HH
 have HK : Hid (∀ s ∈ x.svs, ∀ m w, CasAt All w m s.cas → Calls Try.prog 42 #[srv s m, .int .i64 x.st] w fun e w' => e = .returned (.int .i64 (svcE x.st s)) ∧ Below w.heap.size w w') := fun s hs' m w hc => checkService_any s m x.st w hc (z6 s hs') hs
 have HTO : Hid (∀ w, SvsAt All w (.slice a x.svs.length cap) x.svs → (∀ s ∈ x.svs, svcE x.st s = 0) → Calls Try.prog 43 #[(.slice a x.svs.length cap)] w fun e w' => e = .returned (.tuple #[.int .i64 (totB x.svs), .int .i64 (totP x.svs), .int .i64 (totM x.svs)]) ∧ Below w.heap.size w w') := fun w hw hg => together_any x.svs _ w hw (by omega) (fun s hs' => bdS_of (hg s hs'))
 have HG := Lib.hid fun w => good_any x.bi x.st w z1 hs
 have HSI := Lib.hid (svcs_iff x.st x.svs)
 clear z1 z6 hs h0
 generalize checkE x = R at *
 obtain ⟨E, hE⟩ : ∃ E, svcsE x.st x.svs = E := ⟨_, rfl⟩
 rw [hE] at HR HSI
 have HE0 := Lib.hid hE
 clear hE
 go_enter Try.func31, Try.ntmps31
 go_upto_region 1 with fail
 generalize w.alloc (.cells (cpe x (.slice a x.svs.length cap)) 38) = W at *
 generalize hp : w.heap.size = p at *
 have HPW : Hid (p ≤ W.heap.size) := by have := HB.out.size; rw [hp] at this; exact this
 obtain ⟨x0, x1, x2, x3, x4, x5⟩ := six HX.out
 go_wp2_with (first | (go_at_call 41; refine (HH.out _).mono ?_; rintro e w' ⟨rfl, hw⟩; rw [hw]; clear hw w'))
 go_loopg [23] (x.svs.length) (fun gg t23 wr => ∃ (k : Nat), k ≤ x.svs.length ∧ gg = x.svs.length - k ∧ t23 = .int .i64 k ∧ Hid (svcsE x.st (x.svs.drop k) = E) ∧ Hid (Below W.heap.size W wr))
 case atStart => exact ⟨0, Nat.zero_le _, rfl, rfl, HE0.out, Below.refl _ _⟩
 case round =>
  obtain ⟨k, hk, hg, rfl, HE1, HBn⟩ := hrel
  have HBw : Hid (Below p w wr) := HB.out.trans (HBn.out.mono HPW.out)
  by_cases hlt : k < x.svs.length
  ·have hltz : (k : Int) < (x.svs.length : Int) := by omega
   obtain ⟨b, o, mc, rfl, -, hbl, hx, hcell, hcas⟩ := SvsAt.get (HM.out _ HBw.out) k hlt
   have HKj := Lib.hid (HK.out _ (List.mem_of_getElem? hx))
   have HST := Lib.hid fun h => svcs_step hx HE1.out h
   have HBD := Lib.hid fun h => svcs_bad hx HE1.out h
   have hi1 : k < x.svs.length := hlt
   generalize x.svs[k] = y at *
   obtain ⟨ac, kc, rfl, g1, g2⟩ := hcas.form
   have HCA : Hid (∀ w1, Below wr.heap.size wr w1 → CasAt All w1 (.slice ac y.cas.length kc) y.cas) := fun w1 hb => hcas.grw hb
   have HXK : Hid (∀ W', Below wr.heap.size wr W' → (W'.cell? ⟨p, 0, none⟩ = some (.string (mk x.id)) ∧ W'.cell? ⟨p, 1, none⟩ = some (.int .i64 x.st) ∧ W'.cell? ⟨p, 2, none⟩ = some (.int .i64 x.bi) ∧ W'.cell? ⟨p, 3, none⟩ = some (.int .i64 x.paid) ∧ W'.cell? ⟨p, 4, none⟩ = some (.int .i64 x.mem) ∧ W'.cell? ⟨p, 5, none⟩ = some (.slice (some ⟨b, o, none⟩) x.svs.length cap)) ∧ SrCells W' b (o + k * 4) y (.slice ac y.cas.length kc)) := fun W' hW => ⟨six (keepB (keepB HX.out HBn.out) hW), hcell.of (hW.block b hbl)⟩
   clear hx hcell hcas hbl
   have HD := Lib.hid (Below.drew (Below.refl wr.heap.size wr))
   obtain ⟨wo, rfl⟩ : ∃ z, z = wr := ⟨_, rfl⟩
   go_upto_region 7 with fail
   refine Ri.wp_region_lasting (by kernel_rfl) (by kernel_rfl) (by kernel_rfl) (fun Wx => Below wo.heap.size wo Wx) (fun kz vs wz => (fun kx vx wx => match kx with | 0 => vx = .pointer (some ⟨p, 5, none⟩) | 1 => vx = .slice (some ⟨b, o, none⟩) x.svs.length cap | 2 => vx = .int .i64 (k : Nat) | 3 => vx = .pointer (some ⟨b, o + k * 4, none⟩) | 4 => vx = srv y (.slice ac y.cas.length kc) | 5 => vx = .pointer (some ⟨p, 1, none⟩) | 6 => vx = .int .i64 x.st | 7 => vx = .int .i64 (svcE x.st y) | 8 => vx = .int .i64 (svcE x.st y) | _ => True : Nat → Value → World → Prop) kz (vs kz) wz) (fun kz => [kz]) (by kernel_rfl) (fun jz vs iz vz wz hiz hz => Ri.loc_own (F := (fun kx vx wx => match kx with | 0 => vx = .pointer (some ⟨p, 5, none⟩) | 1 => vx = .slice (some ⟨b, o, none⟩) x.svs.length cap | 2 => vx = .int .i64 (k : Nat) | 3 => vx = .pointer (some ⟨b, o + k * 4, none⟩) | 4 => vx = srv y (.slice ac y.cas.length kc) | 5 => vx = .pointer (some ⟨p, 1, none⟩) | 6 => vx = .int .i64 x.st | 7 => vx = .int .i64 (svcE x.st y) | 8 => vx = .int .i64 (svcE x.st y) | _ => True : Nat → Value → World → Prop)) jz vs iz vz wz hiz hz) HD.out ⟨⟨rfl, ?_⟩, ⟨rfl, ?_⟩, ⟨rfl, ?_⟩, ⟨rfl, ?_⟩, ⟨rfl, ?_⟩, ⟨rfl, ?_⟩, ⟨rfl, ?_⟩, ⟨rfl, ?_⟩, ⟨rfl, ?_⟩, trivial⟩ ?_
   ·intro vs Wx A hA hB hpre K hK
    have e1 := (hA 1).trans (show _ = Value.pointer (some ⟨p, 0, none⟩) by kernel_rfl)
    clear hA hpre
    go_simp
    first | exact hK _ _ hB (by trivial) (fun _ _ h => h) | (rw [if_neg (by omega)]; go_simp; exact hK _ _ hB rfl (fun _ _ h => h))
   ·intro vs Wx A hA hB hpre K hK
    have e26 := ((hA 26).trans (show _ = vs 0 by kernel_rfl)).trans (by repeat first | exact hpre.1 rfl | replace hpre := hpre.2)
    obtain ⟨⟨x0, x1, x2, x3, x4, x5⟩, ⟨y0, y1, y2, y3⟩⟩ := HXK.out Wx hB
    clear hA hpre
    go_simp
    first | exact hK _ _ hB (by trivial) (fun _ _ h => h) | (rw [if_neg (by omega)]; go_simp; exact hK _ _ hB rfl (fun _ _ h => h))
   ·intro vs Wx A hA hB hpre K hK
    have e4 := (hA 4).trans (show _ = Value.int .i64 (k : Nat) by kernel_rfl)
    clear hA hpre
    go_simp
    first | exact hK _ _ hB (by trivial) (fun _ _ h => h) | (rw [if_neg (by omega)]; go_simp; exact hK _ _ hB rfl (fun _ _ h => h))
   ·intro vs Wx A hA hB hpre K hK
    have e27 := ((hA 27).trans (show _ = vs 1 by kernel_rfl)).trans (by repeat first | exact hpre.1 rfl | replace hpre := hpre.2)
    have e28 := ((hA 28).trans (show _ = vs 2 by kernel_rfl)).trans (by repeat first | exact hpre.1 rfl | replace hpre := hpre.2)
    clear hA hpre
    go_simp
    first | exact hK _ _ hB (by trivial) (fun _ _ h => h) | (rw [if_neg (by omega)]; go_simp; exact hK _ _ hB rfl (fun _ _ h => h))
   ·intro vs Wx A hA hB hpre K hK
    have e29 := ((hA 29).trans (show _ = vs 3 by kernel_rfl)).trans (by repeat first | exact hpre.1 rfl | replace hpre := hpre.2)
    obtain ⟨⟨x0, x1, x2, x3, x4, x5⟩, ⟨y0, y1, y2, y3⟩⟩ := HXK.out Wx hB
    clear hA hpre
    go_simp
    first | exact hK _ _ hB (by trivial) (fun _ _ h => h) | (rw [if_neg (by omega)]; go_simp; exact hK _ _ hB rfl (fun _ _ h => h))
   ·intro vs Wx A hA hB hpre K hK
    have e1 := (hA 1).trans (show _ = Value.pointer (some ⟨p, 0, none⟩) by kernel_rfl)
    clear hA hpre
    go_simp
    first | exact hK _ _ hB (by trivial) (fun _ _ h => h) | (rw [if_neg (by omega)]; go_simp; exact hK _ _ hB rfl (fun _ _ h => h))
   ·intro vs Wx A hA hB hpre K hK
    have e31 := ((hA 31).trans (show _ = vs 5 by kernel_rfl)).trans (by repeat first | exact hpre.1 rfl | replace hpre := hpre.2)
    obtain ⟨⟨x0, x1, x2, x3, x4, x5⟩, ⟨y0, y1, y2, y3⟩⟩ := HXK.out Wx hB
    clear hA hpre
    go_simp
    first | exact hK _ _ hB (by trivial) (fun _ _ h => h) | (rw [if_neg (by omega)]; go_simp; exact hK _ _ hB rfl (fun _ _ h => h))
   ·intro vs Wx A hA hB hpre K hK
    have e30 := ((hA 30).trans (show _ = vs 4 by kernel_rfl)).trans (by repeat first | exact hpre.1 rfl | replace hpre := hpre.2)
    have e32 := ((hA 32).trans (show _ = vs 6 by kernel_rfl)).trans (by repeat first | exact hpre.1 rfl | replace hpre := hpre.2)
    clear hA hpre
    go_simp
    go_at_call 42
    refine (HKj.out _ Wx (HCA.out Wx hB)).mono ?_
    rintro e w4 ⟨rfl, hg⟩
    exact hK _ _ (below_trans hB hg) rfl (fun _ _ h => h)
   ·intro vs Wx A hA hB hpre K hK
    have e33 := ((hA 33).trans (show _ = vs 7 by kernel_rfl)).trans (by repeat first | exact hpre.1 rfl | replace hpre := hpre.2)
    clear hA hpre
    go_simp
    first | exact hK _ _ hB (by trivial) (fun _ _ h => h) | (rw [if_neg (by omega)]; go_simp; exact hK _ _ hB rfl (fun _ _ h => h))
   ·intro vs Wx hB hF
    have hL : vs 8 = .int .i64 (svcE x.st y) := hF 8 (by decide)
    have HB3 : Hid (Below W.heap.size W Wx) := HBn.out.trans (hB.mono HBn.out.size)
    have HB4 : Hid (Below p w Wx) := HBw.out.trans (hB.mono (Nat.le_trans HPW.out HBn.out.size))
    clear hF hB HXK HCA HD HKj
    simp only [Ri.puts]
    rw [hL]
    clear hL
    go_simp
    by_cases he : svcE x.st y = 0
    ·have HE2 := Lib.hid (HST.out he)
     rw [he]
     clear he HST HBD
     go_wp2
     go_roundg (x.svs.length - (k + 1))
     case measure => omega
     case rel => exact ⟨k + 1, by omega, rfl, by go_num, HE2.out, HB3.out⟩
    ·have hE2 := HBD.out he
     have hb0 : (svcE x.st y != 0) = true := by simpa using he
     have HRR : Hid (R = svcE x.st y) := by show _ = _; rw [HR.out, if_neg (by omega), hE2]
     clear he HBD HST hE2 HR
     go_wp2
     go_ret
     exact ⟨by rw [HRR.out]; rfl, by first | exact HB4.out | (rw [hp]; exact HB4.out)⟩
  ·have hltz : ¬ (k : Int) < (x.svs.length : Int) := by omega
   have h0 := svcs_end (by omega) HE1.out
   have HRC : Hid (R = if x.bi = totB x.svs ∧ x.paid = totP x.svs ∧ x.mem = totM x.svs ∧ okM x.st (totB x.svs) = true then 0 else 17) := by show _ = _; rw [HR.out, if_pos h0]
   have HTT := Lib.hid fun (w1 : World) (hb : Below wr.heap.size wr w1) => HTO.out w1 (HM.out _ (HBw.out.trans (hb.mono (Nat.le_trans HPW.out HBn.out.size)))) (HSI.out.1 h0)
   have HXK : Hid (∀ W', Below wr.heap.size wr W' → W'.cell? ⟨p, 0, none⟩ = some (.string (mk x.id)) ∧ W'.cell? ⟨p, 1, none⟩ = some (.int .i64 x.st) ∧ W'.cell? ⟨p, 2, none⟩ = some (.int .i64 x.bi) ∧ W'.cell? ⟨p, 3, none⟩ = some (.int .i64 x.paid) ∧ W'.cell? ⟨p, 4, none⟩ = some (.int .i64 x.mem) ∧ W'.cell? ⟨p, 5, none⟩ = some (.slice a x.svs.length cap)) := fun W' hW => six (keepB (keepB HX.out HBn.out) hW)
   have HFB : Hid (∀ W', Below wr.heap.size wr W' → Below p w W') := fun W' hW => HBw.out.trans (hW.mono (Nat.le_trans HPW.out HBn.out.size))
   have HRF := Lib.hid (Below.refl wr.heap.size wr)
   obtain ⟨x0, x1, x2, x3, x4, x5⟩ := HXK.out wr HRF.out
   clear h0 HR HE0 HE1 HSI HTO HK HB HX HH HM
   generalize totB x.svs = TB at *
   generalize totP x.svs = TP at *
   generalize totM x.svs = TM at *
   by_cases e1 : x.bi = TB
   case neg =>
    have HRR : Hid (R = 17) := by show _ = _; rw [HRC.out, if_neg (fun h => e1 h.1)]
    have n1 : (x.bi != TB) = true := by simpa using e1
    clear e1
    clear HRC
    go_wp2_with (first | (go_at_call 43; refine (HTT.out _ HRF.out).mono ?_; rintro e w1 ⟨rfl, hb⟩; obtain ⟨x0, x1, x2, x3, x4, x5⟩ := HXK.out w1 hb; have HB1 := Lib.hid (HFB.out w1 hb); clear hb))
    go_ret
    exact ⟨by rw [HRR.out]; rfl, by first | exact HB1.out | (rw [hp]; exact HB1.out)⟩
   by_cases e2 : x.paid = TP
   case neg =>
    have HRR : Hid (R = 17) := by show _ = _; rw [HRC.out, if_neg (fun h => e2 h.2.1)]
    have n1 : (x.bi != TB) = false := by simpa using e1
    have n2 : (x.paid != TP) = true := by simpa using e2
    clear e1 e2
    clear HRC
    go_wp2_with (first | (go_at_call 43; refine (HTT.out _ HRF.out).mono ?_; rintro e w1 ⟨rfl, hb⟩; obtain ⟨x0, x1, x2, x3, x4, x5⟩ := HXK.out w1 hb; have HB1 := Lib.hid (HFB.out w1 hb); clear hb))
    go_ret
    exact ⟨by rw [HRR.out]; rfl, by first | exact HB1.out | (rw [hp]; exact HB1.out)⟩
   by_cases e3 : x.mem = TM
   case neg =>
    have HRR : Hid (R = 17) := by show _ = _; rw [HRC.out, if_neg (fun h => e3 h.2.2.1)]
    have n1 : (x.bi != TB) = false := by simpa using e1
    have n2 : (x.paid != TP) = false := by simpa using e2
    have n3 : (x.mem != TM) = true := by simpa using e3
    clear e1 e2 e3
    clear HRC
    go_wp2_with (first | (go_at_call 43; refine (HTT.out _ HRF.out).mono ?_; rintro e w1 ⟨rfl, hb⟩; obtain ⟨x0, x1, x2, x3, x4, x5⟩ := HXK.out w1 hb; have HB1 := Lib.hid (HFB.out w1 hb); clear hb))
    go_ret
    exact ⟨by rw [HRR.out]; rfl, by first | exact HB1.out | (rw [hp]; exact HB1.out)⟩
   have n1 : (x.bi != TB) = false := by simpa using e1
   have n2 : (x.paid != TP) = false := by simpa using e2
   have n3 : (x.mem != TM) = false := by simpa using e3
   cases e4 : okM x.st x.bi with
   | false =>
    have HRR : Hid (R = 17) := by show _ = _; rw [HRC.out, if_neg (fun h => by rw [← e1, e4] at h; simp at h)]
    clear e1 e2 e3
    clear HRC
    go_wp2_with (first | (go_at_call 43; refine (HTT.out _ HRF.out).mono ?_; rintro e w1 ⟨rfl, hb⟩; obtain ⟨x0, x1, x2, x3, x4, x5⟩ := HXK.out w1 hb; have HB1 := Lib.hid (HFB.out w1 hb); clear hb) | (go_at_call 44; refine (HG.out _).mono ?_; rintro e w2 ⟨rfl, hw⟩; rw [hw]; clear hw w2))
    go_ret
    exact ⟨by rw [HRR.out]; rfl, by first | exact HB1.out | (rw [hp]; exact HB1.out)⟩
   | true =>
    have HRR : Hid (R = 0) := by show _ = _; rw [HRC.out, if_pos ⟨e1, e2, e3, by rw [← e1]; exact e4⟩]
    clear e1 e2 e3
    clear HRC
    go_wp2_with (first | (go_at_call 43; refine (HTT.out _ HRF.out).mono ?_; rintro e w1 ⟨rfl, hb⟩; obtain ⟨x0, x1, x2, x3, x4, x5⟩ := HXK.out w1 hb; have HB1 := Lib.hid (HFB.out w1 hb); clear hb) | (go_at_call 44; refine (HG.out _).mono ?_; rintro e w2 ⟨rfl, hw⟩; rw [hw]; clear hw w2))
    go_ret
    exact ⟨by rw [HRR.out]; rfl, by first | exact HB1.out | (rw [hp]; exact HB1.out)⟩
end Go.Proofs.Ytpfpjbeofogbgaa.Sv
end
