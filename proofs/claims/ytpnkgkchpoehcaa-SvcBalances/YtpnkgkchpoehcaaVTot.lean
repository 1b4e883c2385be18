/-
  What svc.together answers, as a contract: for services that do not go round.
-/
import Derived.Test.YtpnkgkchpoehcaaVRSvc
set_option linter.unusedSimpArgs false
set_option linter.unusedVariables false
set_option maxRecDepth 100000
namespace Go.Proofs.Ytpnkgkchpoehcaa.Sv
open Go.RowKit
open Bk (keepB below_alloc below_trans alloc_new)
open Cm (mk_ne codeB)

def Bd (n : Int) : Prop := -1125899906842624 ≤ n ∧ n ≤ 1125899906842624
def BdS (s : Sr) : Prop := Bd s.bi ∧ Bd s.paid ∧ s.cas.length ≤ 5 ∧ ∀ c ∈ s.cas, Bd c.ct
theorem tot_step {l : List Sr} {k : Nat} {s : Sr} (hx : l[k]? = some s) {B P M b p m : Int} (h1 : B + totB (l.drop k) = b) (h2 : P + totP (l.drop k) = p) (h3 : M + totM (l.drop k) = m) :
    (B + s.bi) + totB (l.drop (k + 1)) = b ∧ (P + s.paid) + totP (l.drop (k + 1)) = p ∧ (M + sumP s.cas) + totM (l.drop (k + 1)) = m := by
  obtain ⟨hl, he'⟩ := (List.getElem?_eq_some_iff.1 hx)
  rw [List.drop_eq_getElem_cons hl, he'] at h1 h2 h3
  simp only [totB, totP, totM] at h1 h2 h3
  omega
theorem tot_end {l : List Sr} {k : Nat} (hk : l.length ≤ k) {B P M b p m : Int} (h1 : B + totB (l.drop k) = b) (h2 : P + totP (l.drop k) = p) (h3 : M + totM (l.drop k) = m) : b = B ∧ p = P ∧ m = M := by
  rw [List.drop_eq_nil_of_le hk] at h1 h2 h3
  simp only [totB, totP, totM] at h1 h2 h3
  omega
theorem sumP_end' {l : List Ca} {j : Nat} (hj : l.length ≤ j) {T R : Int} (h : T + sumP (l.drop j) = R) : T = R := (sumP_end hj h).symm

set_option maxHeartbeats 4000000 in
theorem together_any (l : List Sr) (v : Value) (w : World) (h : SvsAt All w v l) (hl : l.length ≤ 999) (hz : ∀ s ∈ l, BdS s) :
    Calls Try.prog 23 #[v] w fun e w' => e = .returned (.tuple #[.int .i64 (totB l), .int .i64 (totP l), .int .i64 (totM l)]) ∧ Below w.heap.size w w' := by
  obtain ⟨a, cap, rfl, f1, f2⟩ := h.form
  have HM : Hid (∀ w', Below w.heap.size w w' → SvsAt All w' (.slice a l.length cap) l) := fun w' hb => h.grw hb
  have HZ := Lib.hid hz
  clear h hz
  obtain ⟨b0, hb0⟩ : ∃ b, totB l = b := ⟨_, rfl⟩
  obtain ⟨p0, hp0⟩ : ∃ b, totP l = b := ⟨_, rfl⟩
  obtain ⟨m0, hm0⟩ : ∃ b, totM l = b := ⟨_, rfl⟩
  rw [hb0, hp0, hm0]
  have H0 : Hid (0 + totB (l.drop 0) = b0 ∧ 0 + totP (l.drop 0) = p0 ∧ 0 + totM (l.drop 0) = m0) := by
    show _ ∧ _
    rw [List.drop_zero, hb0, hp0, hm0]; omega
  clear hb0 hp0 hm0
  go_enter Try.func23, Try.ntmps23
  go_wp2
  go_loopg [2, 3, 4, 10] (l.length) (fun gg t2 t3 t4 t10 wr => ∃ (k : Nat) (B P M : Int), k ≤ l.length ∧ gg = l.length - k ∧ t2 = .int .i64 B ∧ t3 = .int .i64 P ∧ t4 = .int .i64 M ∧ t10 = .int .i64 k ∧ (-1125899906842624 * k ≤ B ∧ B ≤ 1125899906842624 * k) ∧ (-1125899906842624 * k ≤ P ∧ P ≤ 1125899906842624 * k) ∧ (-5629499534213120 * k ≤ M ∧ M ≤ 5629499534213120 * k) ∧ Hid (B + totB (l.drop k) = b0 ∧ P + totP (l.drop k) = p0 ∧ M + totM (l.drop k) = m0) ∧ Hid (Below w.heap.size w wr))
  case atStart => exact ⟨0, 0, 0, 0, Nat.zero_le _, rfl, rfl, rfl, rfl, rfl, by omega, by omega, by omega, H0.out, Below.refl _ _⟩
  case round =>
    obtain ⟨k, B, P, M, hk, hg, rfl, rfl, rfl, rfl, ⟨hB1, hB2⟩, ⟨hP1, hP2⟩, ⟨hM1, hM2⟩, HT, HBn⟩ := hrel
    obtain ⟨wo, rfl⟩ : ∃ wo, wo = wr := ⟨wr, rfl⟩
    by_cases hlt : k < l.length
    · have hltz : (k : Int) < (l.length : Int) := by omega
      obtain ⟨b, o, m, rfl, -, -, hx, hcell, hcas⟩ := SvsAt.get (HM.out _ HBn.out) k hlt
      obtain ⟨⟨z1, z2⟩, ⟨z3, z4⟩, z5, z6⟩ := HZ.out _ (List.mem_of_getElem? hx)
      have HS := Lib.hid (tot_step hx HT.out.1 HT.out.2.1 HT.out.2.2)
      have hi1 : k < l.length := hlt
      generalize l[k] = x at *
      obtain ⟨c0, c1, c2, c3⟩ := hcell
      obtain ⟨ac, kc, rfl, g1, g2⟩ := hcas.form
      have HC : Hid (∀ w', Below wo.heap.size wo w' → CasAt All w' (.slice ac x.cas.length kc) x.cas) := fun w' hb => hcas.grw hb
      have HZ6 := Lib.hid z6
      clear hx hcas z6
      obtain ⟨sp, hsp⟩ : ∃ sp, sumP x.cas = sp := ⟨_, rfl⟩
      rw [hsp] at HS
      have HSP : Hid (M + sumP (x.cas.drop 0) = M + sp) := by show _ = _; rw [List.drop_zero, hsp]
      clear hsp
      go_wp2
      go_loopg [4, 33] (x.cas.length) (fun gg t4 t33 wr => ∃ (j : Nat) (N : Int), j ≤ x.cas.length ∧ gg = x.cas.length - j ∧ t4 = .int .i64 N ∧ t33 = .int .i64 j ∧ (-5629499534213120 * k - 1125899906842624 * j ≤ N ∧ N ≤ 5629499534213120 * k + 1125899906842624 * j) ∧ Hid (N + sumP (x.cas.drop j) = M + sp) ∧ Hid (Below wo.heap.size wo wr))
      case atStart => exact ⟨0, M, Nat.zero_le _, rfl, rfl, rfl, by omega, HSP.out, Below.refl _ _⟩
      case round =>
        obtain ⟨j, N, hj, hgj, rfl, rfl, ⟨hN1, hN2⟩, HSj, HBq⟩ := hrel
        by_cases hlj : j < x.cas.length
        · have hljz : (j : Int) < (x.cas.length : Int) := by omega
          obtain ⟨bc, oc, rfl, -, -, hy, hcc⟩ := CasAt.get (HC.out _ HBq.out) j hlj
          obtain ⟨y1, y2⟩ := HZ6.out _ (List.mem_of_getElem? hy)
          have HPS := Lib.hid (sumP_step hy HSj.out)
          generalize x.cas[j] = y at *
          obtain ⟨d0, d1, d2⟩ := hcc
          have HXn := Lib.hid (alloc_new wr (cae y) Tk)
          have HB2 : Hid (Below wo.heap.size wo (wr.alloc (.cells (cae y) Tk))) := HBq.out.trans ((below_alloc wr _).mono HBq.out.size)
          clear hy
          by_cases hq : y.grp = gPR
          · have hl2 : (mk y.grp).toList = [80, 82] := by rw [mk_tl]; exact hq
            have hl3 : ((mk y.grp).toList == [80, 82]) = true := by rw [hl2]; rfl
            rw [if_pos hq] at HPS
            clear hq
            go_wp2
            go_roundg (x.cas.length - (j + 1))
            case measure => omega
            case rel => exact ⟨j + 1, N + y.ct, by omega, rfl, rfl, by go_num, by omega, HPS.out, HB2.out⟩
          · have hl2 : ¬ (mk y.grp).toList = [80, 82] := by rw [mk_tl]; exact hq
            have hl3 : ((mk y.grp).toList == [80, 82]) = false := by simpa using hl2
            rw [if_neg hq, Int.add_zero] at HPS
            clear hq
            go_wp2
            go_roundg (x.cas.length - (j + 1))
            case measure => omega
            case rel => exact ⟨j + 1, N, by omega, rfl, rfl, by go_num, by omega, HPS.out, HB2.out⟩
        · have hljz : ¬ (j : Int) < (x.cas.length : Int) := by omega
          have hN := sumP_end' (by omega) HSj.out
          have HB3 : Hid (Below w.heap.size w wr) := HBn.out.trans (HBq.out.mono HBn.out.size)
          have HS2 : Hid (B + x.bi + totB (l.drop (k + 1)) = b0 ∧ P + x.paid + totP (l.drop (k + 1)) = p0 ∧ N + totM (l.drop (k + 1)) = m0) := by rw [hN]; exact HS.out
          clear hN
          go_wp2
          go_roundg (l.length - (k + 1))
          case measure => omega
          case rel => exact ⟨k + 1, B + x.bi, P + x.paid, N, by omega, rfl, rfl, rfl, rfl, by go_num, by omega, by omega, by omega, HS2.out, HB3.out⟩
    · have hltz : ¬ (k : Int) < (l.length : Int) := by omega
      obtain ⟨e1, e2, e3⟩ := tot_end (by omega) HT.out.1 HT.out.2.1 HT.out.2.2
      have HE : Hid (b0 = B ∧ p0 = P ∧ m0 = M) := ⟨e1, e2, e3⟩
      clear e1 e2 e3
      go_wp2
      go_ret3
      exact ⟨by rw [HE.out.1, HE.out.2.1, HE.out.2.2]; rfl, HBn.out⟩
end Go.Proofs.Ytpnkgkchpoehcaa.Sv
