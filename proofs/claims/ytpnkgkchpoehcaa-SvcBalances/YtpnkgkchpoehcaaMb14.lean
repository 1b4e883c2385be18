/-
  Texts put together (merge.py): VSvc.
-/
import Derived.Test.YtpnkgkchpoehcaaMb12
/-
  What svc.checkService answers, as a contract: for all services.
-/
section
set_option linter.unusedSimpArgs false
set_option linter.unusedVariables false
set_option maxRecDepth 100000
namespace Go.Proofs.Ytpnkgkchpoehcaa.Sv
open Go.RowKit
open Bk (keepB below_alloc below_trans alloc_new)
open Cm (mk_ne codeB)

/-- Numbers that are int64, a name that memory can hold. -/
def SrOk (s : Sr) : Prop := I64 s.bi ∧ I64 s.paid ∧ (∀ c ∈ s.cas, I64 c.ct) ∧ s.proc.length ≤ 281474976710656
theorem ok_range {st n : Int} (h : okM st n = true) : -10000000000000 ≤ n ∧ n ≤ 10000000000000 := by
  unfold okM at h
  split at h
  · have := (Ce.good_iff n).1 h; omega
  · simp at h; omega
theorem cases_step {st : Int} {l : List Ca} {j : Nat} {x : Ca} (hx : l[j]? = some x) {R : Int} (h : casesE st (l.drop j) = R) (he : casE st x = 0) : casesE st (l.drop (j + 1)) = R := by
  have hj := (List.getElem?_eq_some_iff.1 hx)
  obtain ⟨hl, he'⟩ := hj
  rw [List.drop_eq_getElem_cons hl, he'] at h
  unfold casesE at h
  rw [if_pos he] at h
  exact h
theorem cases_bad {st : Int} {l : List Ca} {j : Nat} {x : Ca} (hx : l[j]? = some x) {R : Int} (h : casesE st (l.drop j) = R) (he : casE st x ≠ 0) : R = casE st x := by
  obtain ⟨hl, he'⟩ := (List.getElem?_eq_some_iff.1 hx)
  rw [List.drop_eq_getElem_cons hl, he'] at h
  unfold casesE at h
  rw [if_neg he] at h
  exact h.symm
theorem cases_end {st : Int} {l : List Ca} {j : Nat} (hj : l.length ≤ j) {R : Int} (h : casesE st (l.drop j) = R) : R = 0 := by
  rw [List.drop_eq_nil_of_le hj] at h; exact h.symm
theorem sum_step {l : List Ca} {j : Nat} {x : Ca} (hx : l[j]? = some x) {T R : Int} (h : T + sumC (l.drop j) = R) : (T + x.ct) + sumC (l.drop (j + 1)) = R := by
  obtain ⟨hl, he'⟩ := (List.getElem?_eq_some_iff.1 hx)
  rw [List.drop_eq_getElem_cons hl, he'] at h
  simp only [sumC] at h
  omega
theorem sum_end {l : List Ca} {j : Nat} (hj : l.length ≤ j) {T R : Int} (h : T + sumC (l.drop j) = R) : R = T := by
  rw [List.drop_eq_nil_of_le hj] at h; simp only [sumC] at h; omega
theorem svc_9 {st : Int} {s : Sr} (h : codeB s.proc 5 5 = false) : svcE st s = 9 := by unfold svcE; rw [h]; rfl
theorem svc_6 {st : Int} {s : Sr} (h : codeB s.proc 5 5 = true) (h2 : ¬ s.cas.length ≤ 5) : svcE st s = 6 := by unfold svcE; rw [if_pos h, if_neg h2]
theorem svc_8 {st : Int} {s : Sr} (h : codeB s.proc 5 5 = true) (h2 : s.cas.length ≤ 5) (h3 : okM st s.bi = false ∨ okM st s.paid = false) : svcE st s = 8 := by
  unfold svcE; rw [if_pos h, if_pos h2, if_neg]
  rintro ⟨a, b⟩; rcases h3 with h3 | h3 <;> simp_all
theorem svc_in {st : Int} {s : Sr} (h : codeB s.proc 5 5 = true) (h2 : s.cas.length ≤ 5) (h3 : okM st s.bi = true) (h4 : okM st s.paid = true) : svcE st s = if casesE st s.cas = 0 then (if s.paid + sumC s.cas = s.bi then 0 else 17) else casesE st s.cas := by
  unfold svcE; rw [if_pos h, if_pos h2, if_pos ⟨h3, h4⟩]

set_option maxHeartbeats 4000000 in
theorem checkService_any (s : Sr) (m : Value) (st : Int) (w : World) (hm : CasAt All w m s.cas) (hz : SrOk s) (hs : st = 1 ∨ st = 22) :
    Calls Try.prog 26 #[srv s m, .int .i64 st] w fun e w' => e = .returned (.int .i64 (svcE st s)) ∧ Below w.heap.size w w' := by
  obtain ⟨z1, z2, z3, z4⟩ := hz
  obtain ⟨a, cap, rfl, f1, f2⟩ := hm.form
  have HB := Lib.hid (below_alloc w (.cells (sre s (.slice a s.cas.length cap)) Ts))
  have HX := Lib.hid (alloc_new w (sre s (.slice a s.cas.length cap)) Ts)
  have HM : Hid (∀ w', Below w.heap.size w w' → CasAt All w' (.slice a s.cas.length cap) s.cas) := fun w' hb => hm.grw hb
  have HC := Lib.hid fun w => Cm.code_any s.proc 5 5 w (by omega)
  have HG : Hid (∀ n w, n = s.bi ∨ n = s.paid → Calls Try.prog 27 #[.int .i64 n, .int .i64 st] w fun e w' => e = .returned (.bool (okM st n)) ∧ w' = w) := fun n w h => good_any n st w (by rcases h with rfl | rfl <;> assumption) hs
  have HK : Hid (∀ c ∈ s.cas, ∀ w, Calls Try.prog 38 #[cav c, .int .i64 st] w fun e w' => e = .returned (.int .i64 (casE st c)) ∧ Below w.heap.size w w') := fun c hc w => checkCas_any c st w (z3 c hc) hs
  clear hm z1 z2 z3 z4 hs
  cases hc : codeB s.proc 5 5 with
  | false =>
    rw [svc_9 hc]
    rw [hc] at HC
    go_enter Try.func26, Try.ntmps26
    go_upto_region 1 with fail
    generalize w.alloc (.cells (sre s (.slice a s.cas.length cap)) Ts) = W at *
    generalize hp : w.heap.size = p at *
    obtain ⟨x0, x1, x2, x3⟩ := four HX.out
    go_wp2_with (first | (go_at_call 36; refine (HC.out _).mono ?_; rintro e w' ⟨rfl, hw⟩; rw [hw]; clear hw w'))
    go_ret
    exact ⟨rfl, by first | exact HB.out | (rw [hp]; exact HB.out)⟩
  | true =>
  rw [hc] at HC
  by_cases h5 : s.cas.length ≤ 5
  case neg =>
    rw [svc_6 hc h5]
    have h5' : (5 : Int) < (s.cas.length : Int) := by omega
    go_enter Try.func26, Try.ntmps26
    go_upto_region 1 with fail
    generalize w.alloc (.cells (sre s (.slice a s.cas.length cap)) Ts) = W at *
    generalize hp : w.heap.size = p at *
    obtain ⟨x0, x1, x2, x3⟩ := four HX.out
    go_wp2_with (first | (go_at_call 36; refine (HC.out _).mono ?_; rintro e w' ⟨rfl, hw⟩; rw [hw]; clear hw w'))
    go_ret
    exact ⟨rfl, by first | exact HB.out | (rw [hp]; exact HB.out)⟩
  have h5' : ¬ (5 : Int) < (s.cas.length : Int) := by omega
  cases g1 : okM st s.bi with
  | false =>
    rw [svc_8 hc h5 (Or.inl g1)]
    go_enter Try.func26, Try.ntmps26
    go_upto_region 1 with fail
    generalize w.alloc (.cells (sre s (.slice a s.cas.length cap)) Ts) = W at *
    generalize hp : w.heap.size = p at *
    obtain ⟨x0, x1, x2, x3⟩ := four HX.out
    go_wp2_with (first | (go_at_call 36; refine (HC.out _).mono ?_; rintro e w' ⟨rfl, hw⟩; rw [hw]; clear hw w') | (go_at_call 27; refine (HG.out _ _ (by first | exact Or.inl rfl | exact Or.inr rfl)).mono ?_; rintro e w' ⟨rfl, hw⟩; rw [hw]; clear hw w'))
    go_ret
    exact ⟨rfl, by first | exact HB.out | (rw [hp]; exact HB.out)⟩
  | true =>
  cases g2 : okM st s.paid with
  | false =>
    rw [svc_8 hc h5 (Or.inr g2)]
    go_enter Try.func26, Try.ntmps26
    go_upto_region 1 with fail
    generalize w.alloc (.cells (sre s (.slice a s.cas.length cap)) Ts) = W at *
    generalize hp : w.heap.size = p at *
    obtain ⟨x0, x1, x2, x3⟩ := four HX.out
    go_wp2_with (first | (go_at_call 36; refine (HC.out _).mono ?_; rintro e w' ⟨rfl, hw⟩; rw [hw]; clear hw w') | (go_at_call 27; refine (HG.out _ _ (by first | exact Or.inl rfl | exact Or.inr rfl)).mono ?_; rintro e w' ⟨rfl, hw⟩; rw [hw]; clear hw w'))
    go_ret
    exact ⟨rfl, by first | exact HB.out | (rw [hp]; exact HB.out)⟩
  | true =>
  have HR := Lib.hid (svc_in (st := st) hc h5 g1 g2)
  have hpr := ok_range g2
  generalize svcE st s = R at *
  obtain ⟨S, hS⟩ : ∃ S, s.paid + sumC s.cas = S := ⟨_, rfl⟩
  obtain ⟨E, hE⟩ : ∃ E, casesE st s.cas = E := ⟨_, rfl⟩
  rw [hS, hE] at HR
  have HS0 := Lib.hid hS
  have HE0 := Lib.hid hE
  clear hS hE hc
  go_enter Try.func26, Try.ntmps26
  go_upto_region 1 with fail
  generalize w.alloc (.cells (sre s (.slice a s.cas.length cap)) Ts) = W at *
  generalize hp : w.heap.size = p at *
  have HPW : Hid (p ≤ W.heap.size) := by have := HB.out.size; rw [hp] at this; exact this
  obtain ⟨x0, x1, x2, x3⟩ := four HX.out
  go_wp2_with (first | (go_at_call 36; refine (HC.out _).mono ?_; rintro e w' ⟨rfl, hw⟩; rw [hw]; clear hw w') | (go_at_call 27; refine (HG.out _ _ (by first | exact Or.inl rfl | exact Or.inr rfl)).mono ?_; rintro e w' ⟨rfl, hw⟩; rw [hw]; clear hw w'))
  go_loopg [5, 37] (s.cas.length) (fun gg t5 t37 wr => ∃ (j : Nat) (T : Int), j ≤ s.cas.length ∧ gg = s.cas.length - j ∧ t5 = .int .i64 T ∧ t37 = .int .i64 j ∧ (-10000000000000 * (j + 1) ≤ T ∧ T ≤ 10000000000000 * (j + 1)) ∧ Hid (casesE st (s.cas.drop j) = E) ∧ Hid (T + sumC (s.cas.drop j) = S) ∧ Hid (Below W.heap.size W wr))
  case atStart => exact ⟨0, s.paid, Nat.zero_le _, rfl, rfl, rfl, by omega, HE0.out, HS0.out, Below.refl _ _⟩
  case round =>
    obtain ⟨j, T, hj, hg, rfl, rfl, ⟨ht1, ht2⟩, HE1, HS1, HBn⟩ := hrel
    have HBw : Hid (Below p w wr) := HB.out.trans (HBn.out.mono HPW.out)
    obtain ⟨x0, x1, x2, x3⟩ := four (keepB HX.out HBn.out)
    by_cases hlt : j < s.cas.length
    · have hltz : (j : Int) < (s.cas.length : Int) := by omega
      obtain ⟨b, o, rfl, -, -, hx, hcell⟩ := CasAt.get (HM.out _ HBw.out) j hlt
      have HKj := Lib.hid (HK.out _ (List.mem_of_getElem? hx))
      have HST := Lib.hid fun h => cases_step hx HE1.out h
      have HBD := Lib.hid fun h => cases_bad hx HE1.out h
      have HSS := Lib.hid (sum_step hx HS1.out)
      generalize s.cas[j] = x at *
      obtain ⟨c0, c1, c2⟩ := hcell
      have HXn := Lib.hid (alloc_new wr (cae x) Tk)
      have HBn1 := Lib.hid (below_alloc wr (.cells (cae x) Tk))
      clear hx
      by_cases he : casE st x = 0
      · have hrg := ok_range (cas_ok he).2.2.2
        have hE2 := HST.out he
        rw [he] at HKj
        clear he HBD HST
        have HE2 := Lib.hid hE2
        clear hE2
        go_wp2_with (first | (go_at_call 38; refine (HKj.out _).mono ?_; rintro e w1 ⟨rfl, hb⟩; obtain ⟨y0, y1, y2⟩ := three (keepB HXn.out hb); have HB2 : Hid (Below W.heap.size W w1) := HBn.out.trans ((below_trans HBn1.out hb).mono HBn.out.size); clear hb))
        go_roundg (s.cas.length - (j + 1))
        case measure => omega
        case rel => exact ⟨j + 1, T + x.ct, by omega, rfl, rfl, by go_num, by omega, HE2.out, HSS.out, HB2.out⟩
      · have hE2 := HBD.out he
        have hb0 : (casE st x != 0) = true := by simpa using he
        have hR : R = casE st x := by rw [HR.out, if_neg (by omega), hE2]
        have HRR := Lib.hid hR
        clear he HBD HST hE2 hR HR
        go_wp2_with (first | (go_at_call 38; refine (HKj.out _).mono ?_; rintro e w1 ⟨rfl, hb⟩; obtain ⟨y0, y1, y2⟩ := three (keepB HXn.out hb); have HB2 : Hid (Below p w w1) := HBw.out.trans ((below_trans HBn1.out hb).mono (Nat.le_trans HPW.out HBn.out.size)); clear hb))
        go_ret
        exact ⟨by rw [HRR.out]; rfl, by first | exact HB2.out | (rw [hp]; exact HB2.out)⟩
    · have hltz : ¬ (j : Int) < (s.cas.length : Int) := by omega
      have h0 := cases_end (by omega) HE1.out
      have h1 := sum_end (by omega) HS1.out
      by_cases hT : T = s.bi
      · have hR : R = 0 := by rw [HR.out, if_pos h0, if_pos (by omega)]
        have hb0 : (s.bi != T) = false := by simp [hT]
        have HRR := Lib.hid hR
        clear h0 h1 hR HR hT
        go_wp2
        go_ret
        exact ⟨by rw [HRR.out]; rfl, by first | exact HBw.out | (rw [hp]; exact HBw.out)⟩
      · have hR : R = 17 := by rw [HR.out, if_pos h0, if_neg (by omega)]
        have hb0 : (s.bi != T) = true := by simp; omega
        have HRR := Lib.hid hR
        clear h0 h1 hR HR hT
        go_wp2
        go_ret
        exact ⟨by rw [HRR.out]; rfl, by first | exact HBw.out | (rw [hp]; exact HBw.out)⟩
end Go.Proofs.Ytpnkgkchpoehcaa.Sv
end
