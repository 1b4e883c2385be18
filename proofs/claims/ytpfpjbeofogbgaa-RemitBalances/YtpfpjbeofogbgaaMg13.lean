/-
  Texts put together (merge.py): VSame, VSmS.
-/
import Derived.BigQuiet
import Derived.Test.YtpfpjbeofogbgaaMg12
import Derived.Test.YtpfpjbeofogbgaaMg7
/-
  What slices.Equal (of adjustments) answers, as a contract: whether two rows are the same.
-/
section
set_option linter.unusedSimpArgs false
set_option linter.unusedVariables false
set_option maxRecDepth 100000
namespace Go.Proofs.Ytpfpjbeofogbgaa.Sv
open Go.RowKit
open Bk (keepB below_alloc below_trans alloc_new)
open Cm (mk_ne takes_eq takes_ne takes_all lens_ne)
open Classical

set_option maxHeartbeats 2000000 in
theorem equal_any (v v' : Value) (xs ys : List Ca) (w : World) (h : CasAt All w v xs) (h' : CasAt All w v' ys) :
    Calls Try.prog 62 #[v, v'] w fun e w' => e = .returned (.bool (decide (xs = ys))) ∧ Below w.heap.size w w' := by
  obtain ⟨a, c, rfl, f1, f2⟩ := h.form
  obtain ⟨a', c', rfl, f1', f2'⟩ := h'.form
  have HF := Lib.hid h
  have HF' := Lib.hid h'
  clear h h'
  by_cases hl : xs.length = ys.length
  · have hlb : ((xs.length : Int) != (ys.length : Int)) = false := by rw [hl]; simp
    have HL := Lib.hid hl
    have hl2 : xs.length ≤ ys.length := by omega
    clear hl
    go_enter Try.func62, Try.ntmps62
    go_wp2
    go_loopg [13] (xs.length) (fun g i wr => ∃ (k : Nat), k ≤ xs.length ∧ g = xs.length - k ∧ i = .int .i64 k ∧ Hid (Below w.heap.size w wr) ∧ Hid (xs.take k = ys.take k))
    case atStart => exact ⟨0, Nat.zero_le _, rfl, rfl, Below.refl _ _, rfl⟩
    case round =>
      obtain ⟨k, hk, hg, rfl, HBn, HA⟩ := hrel
      by_cases hlt : k < xs.length
      · have hltz : (k : Int) < (xs.length : Int) := by omega
        have hlt' : k < ys.length := by omega
        obtain ⟨b, oo, rfl, -, -, hx, hc⟩ := CasAt.get (HF.out.grw HBn.out) k hlt
        obtain ⟨b2, o2, rfl, -, -, hy, hc2⟩ := CasAt.get (HF'.out.grw HBn.out) k hlt'
        have HQ := Lib.hid (takes_eq xs ys k _ _ hx hy HA.out)
        have HN := Lib.hid (takes_ne xs ys k _ _ hx hy)
        have hi1 : k < xs.length := hlt
        have hi2 : k < ys.length := hlt'
        generalize xs[k] = x at *
        generalize ys[k] = y at *
        obtain ⟨x0, x1, x2⟩ := hc
        obtain ⟨y0, y1, y2⟩ := hc2
        clear hx hy
        have hne := neq_cas x y
        by_cases he : x = y
        · have HE2 := Lib.hid (HQ.out he)
          rw [decide_eq_true he, Bool.not_true] at hne
          clear he HN HQ
          go_wp2_with fail
          go_quiet (fail)
          have HBW : Hid (Below w.heap.size w (wr.drewN nq)) := HBn.out.trans ⟨rfl, rfl, rfl, Nat.le_refl _, fun _ _ => rfl⟩
          go_wp2
          go_roundg (xs.length - (k + 1))
          case measure => omega
          case rel => exact ⟨k + 1, by omega, rfl, by go_num, HBW.out, HE2.out⟩
        · have HE2 := Lib.hid (HN.out he)
          rw [decide_eq_false he, Bool.not_false] at hne
          clear he HN HQ
          go_wp2_with fail
          go_quiet (fail)
          have HBW : Hid (Below w.heap.size w (wr.drewN nq)) := HBn.out.trans ⟨rfl, rfl, rfl, Nat.le_refl _, fun _ _ => rfl⟩
          go_wp2
          go_ret
          exact ⟨by rw [HE2.out]; rfl, HBW.out⟩
      · have hltz : ¬ (k : Int) < (xs.length : Int) := by omega
        have HE2 := Lib.hid (takes_all xs ys k (by omega) HL.out HA.out)
        go_wp2
        go_ret
        exact ⟨by rw [HE2.out]; rfl, HBn.out⟩
  · have hlb : ((xs.length : Int) != (ys.length : Int)) = true := by simp; omega
    rw [lens_ne xs ys hl]
    clear hl
    go_enter Try.func62, Try.ntmps62
    go_wp2
    go_ret
    exact ⟨rfl, Below.refl _ _⟩
end Go.Proofs.Ytpfpjbeofogbgaa.Sv
end

/-
  What svc.sameService and svc.Same answer, as contracts: whether two are the same. (Written by gen_same.py.)
-/
section
set_option linter.unusedSimpArgs false
set_option linter.unusedVariables false
set_option maxRecDepth 100000
namespace Go.Proofs.Ytpfpjbeofogbgaa.Sv
open Go.RowKit
open Bk (keepB below_alloc below_trans alloc_new)
open Cm (mk_ne takes_eq takes_ne takes_all lens_ne)
open Classical

theorem sr_ne (x y : Sr) (h : decide (x.proc = y.proc) = false ∨ decide (x.bi = y.bi) = false ∨ decide (x.paid = y.paid) = false ∨ decide (x.cas = y.cas) = false) : decide (x = y) = false := by
  rw [decide_eq_false_iff_not]
  rintro rfl
  simp at h
theorem sr_same (x y : Sr) (h1 : decide (x.proc = y.proc) = true) (h2 : decide (x.bi = y.bi) = true) (h3 : decide (x.paid = y.paid) = true) : decide (x = y) = decide (x.cas = y.cas) := by
  rw [decide_eq_true_eq] at h1 h2 h3
  obtain ⟨a, b, c, d⟩ := x
  obtain ⟨a', b', c', d'⟩ := y
  simp only at h1 h2 h3
  subst h1 h2 h3
  rw [Bool.eq_iff_iff]
  simp
theorem cp_ne (x y : Cp) (h : decide (x.id = y.id) = false ∨ decide (x.st = y.st) = false ∨ decide (x.bi = y.bi) = false ∨ decide (x.paid = y.paid) = false ∨ decide (x.mem = y.mem) = false ∨ decide (x.svs = y.svs) = false) : decide (x = y) = false := by
  rw [decide_eq_false_iff_not]
  rintro rfl
  simp at h
theorem cp_same (x y : Cp) (h1 : decide (x.id = y.id) = true) (h2 : decide (x.st = y.st) = true) (h3 : decide (x.bi = y.bi) = true) (h4 : decide (x.paid = y.paid) = true) (h5 : decide (x.mem = y.mem) = true) : decide (x = y) = decide (x.svs = y.svs) := by
  rw [decide_eq_true_eq] at h1 h2 h3 h4 h5
  obtain ⟨a, b, c, d, e, f⟩ := x
  obtain ⟨a', b', c', d', e', f'⟩ := y
  simp only at h1 h2 h3 h4 h5
  subst h1 h2 h3 h4 h5
  rw [Bool.eq_iff_iff]
  simp
set_option maxHeartbeats 4000000 in
theorem sameService_any (x y : Sr) (m m' : Value) (w : World) (hm : CasAt All w m x.cas) (hm' : CasAt All w m' y.cas) :
    Calls Try.prog 50 #[srv x m, srv y m'] w fun e w' => e = .returned (.bool (decide (x = y))) ∧ Below w.heap.size w w' := by
  obtain ⟨a, c, rfl, -, -⟩ := hm.form
  obtain ⟨a', c', rfl, -, -⟩ := hm'.form
  have HB := Lib.hid (below_trans (below_alloc w (.cells (sre x (.slice a x.cas.length c)) Ts)) (below_alloc _ (.cells (sre y (.slice a' y.cas.length c')) Ts)))
  have HX := Lib.hid (keepB (alloc_new w (sre x (.slice a x.cas.length c)) Ts) (below_alloc _ (.cells (sre y (.slice a' y.cas.length c')) Ts)))
  have HY := Lib.hid (alloc_new (w.alloc (.cells (sre x (.slice a x.cas.length c)) Ts)) (sre y (.slice a' y.cas.length c')) Ts)
  rw [show (w.alloc (.cells (sre x (.slice a x.cas.length c)) Ts)).heap.size = w.heap.size + 1 by simp] at HY
  have HE := Lib.hid (equal_any _ _ x.cas y.cas _ (hm.grw HB.out) (hm'.grw HB.out))
  clear hm hm'
  have e_proc := mk_ne x.proc y.proc
  have e_bi : (x.bi == y.bi) = decide (x.bi = y.bi) := by rw [Bool.eq_iff_iff]; simp
  have n_bi : (x.bi != y.bi) = !decide (x.bi = y.bi) := by rw [Bool.eq_iff_iff]; simp
  have e_paid : (x.paid == y.paid) = decide (x.paid = y.paid) := by rw [Bool.eq_iff_iff]; simp
  have n_paid : (x.paid != y.paid) = !decide (x.paid = y.paid) := by rw [Bool.eq_iff_iff]; simp
  cases h_proc : decide (x.proc = y.proc)
  · rw [h_proc] at e_proc
    rw [sr_ne x y (by simp [h_proc])]
    clear e_bi e_paid n_bi n_paid HE h_proc
    go_enter Try.func50, Try.ntmps50
    go_upto_region 1 with fail
    generalize ((w.alloc (.cells (sre x (.slice a x.cas.length c)) Ts)).alloc (.cells (sre y (.slice a' y.cas.length c')) Ts)) = W at *
    generalize hp : w.heap.size = p at *
    obtain ⟨x0, x1, x2, x3⟩ := four HX.out
    obtain ⟨y0, y1, y2, y3⟩ := four HY.out
    go_wp2
    go_ret
    exact ⟨rfl, by first | exact HB.out | (rw [hp]; exact HB.out)⟩
  rw [h_proc] at e_proc
  cases h_bi : decide (x.bi = y.bi)
  · rw [h_bi] at e_bi n_bi
    rw [sr_ne x y (by simp [h_bi])]
    clear e_paid n_paid HE h_proc h_bi
    go_enter Try.func50, Try.ntmps50
    go_upto_region 1 with fail
    generalize ((w.alloc (.cells (sre x (.slice a x.cas.length c)) Ts)).alloc (.cells (sre y (.slice a' y.cas.length c')) Ts)) = W at *
    generalize hp : w.heap.size = p at *
    obtain ⟨x0, x1, x2, x3⟩ := four HX.out
    obtain ⟨y0, y1, y2, y3⟩ := four HY.out
    go_wp2
    go_ret
    exact ⟨rfl, by first | exact HB.out | (rw [hp]; exact HB.out)⟩
  rw [h_bi] at e_bi n_bi
  cases h_paid : decide (x.paid = y.paid)
  · rw [h_paid] at e_paid n_paid
    rw [sr_ne x y (by simp [h_paid])]
    clear   HE h_proc h_bi h_paid
    go_enter Try.func50, Try.ntmps50
    go_upto_region 1 with fail
    generalize ((w.alloc (.cells (sre x (.slice a x.cas.length c)) Ts)).alloc (.cells (sre y (.slice a' y.cas.length c')) Ts)) = W at *
    generalize hp : w.heap.size = p at *
    obtain ⟨x0, x1, x2, x3⟩ := four HX.out
    obtain ⟨y0, y1, y2, y3⟩ := four HY.out
    go_wp2
    go_ret
    exact ⟨rfl, by first | exact HB.out | (rw [hp]; exact HB.out)⟩
  rw [h_paid] at e_paid n_paid
  rw [sr_same x y h_proc h_bi h_paid]
  clear h_proc h_bi h_paid
  go_enter Try.func50, Try.ntmps50
  go_upto_region 1 with fail
  generalize ((w.alloc (.cells (sre x (.slice a x.cas.length c)) Ts)).alloc (.cells (sre y (.slice a' y.cas.length c')) Ts)) = W at *
  generalize hp : w.heap.size = p at *
  obtain ⟨x0, x1, x2, x3⟩ := four HX.out
  obtain ⟨y0, y1, y2, y3⟩ := four HY.out
  go_wp2_with (first | (go_at_call 62; refine HE.out.mono ?_; rintro e w1 ⟨rfl, hb⟩; have HB2 := Lib.hid (HB.out.trans (hb.mono (by have := HB.out.size; rw [hp] at this; exact this))); clear hb))
  go_ret
  exact ⟨rfl, by first | exact HB2.out | (rw [hp]; exact HB2.out)⟩
set_option maxHeartbeats 8000000 in
theorem same_any (x y : Cp) (m m' : Value) (w : World) (hm : SvsAt All w m x.svs) (hm' : SvsAt All w m' y.svs) :
    Calls Try.prog 36 #[cpv x m, cpv y m'] w fun e w' => e = .returned (.bool (decide (x = y))) ∧ Below w.heap.size w w' := by
  obtain ⟨a, c, rfl, f1, f2⟩ := hm.form
  obtain ⟨a', c', rfl, f1', f2'⟩ := hm'.form
  have HB := Lib.hid (below_trans (below_alloc w (.cells (cpe x (.slice a x.svs.length c)) 38)) (below_alloc _ (.cells (cpe y (.slice a' y.svs.length c')) 38)))
  have HX := Lib.hid (keepB (alloc_new w (cpe x (.slice a x.svs.length c)) 38) (below_alloc _ (.cells (cpe y (.slice a' y.svs.length c')) 38)))
  have HY := Lib.hid (alloc_new (w.alloc (.cells (cpe x (.slice a x.svs.length c)) 38)) (cpe y (.slice a' y.svs.length c')) 38)
  rw [show (w.alloc (.cells (cpe x (.slice a x.svs.length c)) 38)).heap.size = w.heap.size + 1 by simp] at HY
  have HF := Lib.hid (hm.grw HB.out)
  have HF' := Lib.hid (hm'.grw HB.out)
  clear hm hm'
  have e_id := mk_ne x.id y.id
  have e_st : (x.st == y.st) = decide (x.st = y.st) := by rw [Bool.eq_iff_iff]; simp
  have n_st : (x.st != y.st) = !decide (x.st = y.st) := by rw [Bool.eq_iff_iff]; simp
  have e_bi : (x.bi == y.bi) = decide (x.bi = y.bi) := by rw [Bool.eq_iff_iff]; simp
  have n_bi : (x.bi != y.bi) = !decide (x.bi = y.bi) := by rw [Bool.eq_iff_iff]; simp
  have e_paid : (x.paid == y.paid) = decide (x.paid = y.paid) := by rw [Bool.eq_iff_iff]; simp
  have n_paid : (x.paid != y.paid) = !decide (x.paid = y.paid) := by rw [Bool.eq_iff_iff]; simp
  have e_mem : (x.mem == y.mem) = decide (x.mem = y.mem) := by rw [Bool.eq_iff_iff]; simp
  have n_mem : (x.mem != y.mem) = !decide (x.mem = y.mem) := by rw [Bool.eq_iff_iff]; simp
  cases h_id : decide (x.id = y.id)
  · rw [h_id] at e_id
    rw [cp_ne x y (by simp [h_id])]
    clear e_st e_bi e_paid e_mem n_st n_bi n_paid n_mem HF HF' h_id
    go_enter Try.func36, Try.ntmps36
    go_upto_region 1 with fail
    generalize ((w.alloc (.cells (cpe x (.slice a x.svs.length c)) 38)).alloc (.cells (cpe y (.slice a' y.svs.length c')) 38)) = W at *
    generalize hp : w.heap.size = p at *
    obtain ⟨x0, x1, x2, x3, x4, x5⟩ := six HX.out
    obtain ⟨y0, y1, y2, y3, y4, y5⟩ := six HY.out
    go_wp2
    go_ret
    exact ⟨rfl, by first | exact HB.out | (rw [hp]; exact HB.out)⟩
  rw [h_id] at e_id
  cases h_st : decide (x.st = y.st)
  · rw [h_st] at e_st n_st
    rw [cp_ne x y (by simp [h_st])]
    clear e_bi e_paid e_mem n_bi n_paid n_mem HF HF' h_id h_st
    go_enter Try.func36, Try.ntmps36
    go_upto_region 1 with fail
    generalize ((w.alloc (.cells (cpe x (.slice a x.svs.length c)) 38)).alloc (.cells (cpe y (.slice a' y.svs.length c')) 38)) = W at *
    generalize hp : w.heap.size = p at *
    obtain ⟨x0, x1, x2, x3, x4, x5⟩ := six HX.out
    obtain ⟨y0, y1, y2, y3, y4, y5⟩ := six HY.out
    go_wp2
    go_ret
    exact ⟨rfl, by first | exact HB.out | (rw [hp]; exact HB.out)⟩
  rw [h_st] at e_st n_st
  by_cases hl : x.svs.length = y.svs.length
  case neg =>
    have hlb : ((x.svs.length : Int) != (y.svs.length : Int)) = true := by simp; omega
    rw [cp_ne x y (by simp [lens_ne _ _ hl])]
    clear e_bi e_paid e_mem n_bi n_paid n_mem HF HF' h_id h_st hl
    go_enter Try.func36, Try.ntmps36
    go_upto_region 1 with fail
    generalize ((w.alloc (.cells (cpe x (.slice a x.svs.length c)) 38)).alloc (.cells (cpe y (.slice a' y.svs.length c')) 38)) = W at *
    generalize hp : w.heap.size = p at *
    obtain ⟨x0, x1, x2, x3, x4, x5⟩ := six HX.out
    obtain ⟨y0, y1, y2, y3, y4, y5⟩ := six HY.out
    go_wp2
    go_ret
    exact ⟨rfl, by first | exact HB.out | (rw [hp]; exact HB.out)⟩
  have hlb : ((x.svs.length : Int) != (y.svs.length : Int)) = false := by rw [hl]; simp
  have HL := Lib.hid hl
  have hl2 : x.svs.length ≤ y.svs.length := by omega
  clear hl
  cases h_bi : decide (x.bi = y.bi)
  · rw [h_bi] at e_bi n_bi
    rw [cp_ne x y (by simp [h_bi])]
    clear e_paid e_mem n_paid n_mem HF HF' h_id h_st h_bi
    go_enter Try.func36, Try.ntmps36
    go_upto_region 1 with fail
    generalize ((w.alloc (.cells (cpe x (.slice a x.svs.length c)) 38)).alloc (.cells (cpe y (.slice a' y.svs.length c')) 38)) = W at *
    generalize hp : w.heap.size = p at *
    obtain ⟨x0, x1, x2, x3, x4, x5⟩ := six HX.out
    obtain ⟨y0, y1, y2, y3, y4, y5⟩ := six HY.out
    go_wp2
    go_ret
    exact ⟨rfl, by first | exact HB.out | (rw [hp]; exact HB.out)⟩
  rw [h_bi] at e_bi n_bi
  cases h_paid : decide (x.paid = y.paid)
  · rw [h_paid] at e_paid n_paid
    rw [cp_ne x y (by simp [h_paid])]
    clear e_mem n_mem HF HF' h_id h_st h_bi h_paid
    go_enter Try.func36, Try.ntmps36
    go_upto_region 1 with fail
    generalize ((w.alloc (.cells (cpe x (.slice a x.svs.length c)) 38)).alloc (.cells (cpe y (.slice a' y.svs.length c')) 38)) = W at *
    generalize hp : w.heap.size = p at *
    obtain ⟨x0, x1, x2, x3, x4, x5⟩ := six HX.out
    obtain ⟨y0, y1, y2, y3, y4, y5⟩ := six HY.out
    go_wp2
    go_ret
    exact ⟨rfl, by first | exact HB.out | (rw [hp]; exact HB.out)⟩
  rw [h_paid] at e_paid n_paid
  cases h_mem : decide (x.mem = y.mem)
  · rw [h_mem] at e_mem n_mem
    rw [cp_ne x y (by simp [h_mem])]
    clear   HF HF' h_id h_st h_bi h_paid h_mem
    go_enter Try.func36, Try.ntmps36
    go_upto_region 1 with fail
    generalize ((w.alloc (.cells (cpe x (.slice a x.svs.length c)) 38)).alloc (.cells (cpe y (.slice a' y.svs.length c')) 38)) = W at *
    generalize hp : w.heap.size = p at *
    obtain ⟨x0, x1, x2, x3, x4, x5⟩ := six HX.out
    obtain ⟨y0, y1, y2, y3, y4, y5⟩ := six HY.out
    go_wp2
    go_ret
    exact ⟨rfl, by first | exact HB.out | (rw [hp]; exact HB.out)⟩
  rw [h_mem] at e_mem n_mem
  rw [cp_same x y h_id h_st h_bi h_paid h_mem]
  clear h_id h_st h_bi h_paid h_mem
  go_enter Try.func36, Try.ntmps36
  go_upto_region 1 with fail
  generalize ((w.alloc (.cells (cpe x (.slice a x.svs.length c)) 38)).alloc (.cells (cpe y (.slice a' y.svs.length c')) 38)) = W at *
  generalize hp : w.heap.size = p at *
  obtain ⟨x0, x1, x2, x3, x4, x5⟩ := six HX.out
  obtain ⟨y0, y1, y2, y3, y4, y5⟩ := six HY.out
  go_wp2
  have HPW : Hid (p ≤ W.heap.size) := by have := HB.out.size; rw [hp] at this; exact this
  go_loopg [49] (x.svs.length) (fun gg i wr => ∃ k : Nat, k ≤ x.svs.length ∧ gg = x.svs.length - k ∧ i = .int .i64 k ∧ Hid (x.svs.take k = y.svs.take k) ∧ Hid (Below W.heap.size W wr))
  case atStart => exact ⟨0, Nat.zero_le _, rfl, rfl, rfl, Below.refl _ _⟩
  case round =>
    obtain ⟨k, hk, hg, rfl, HA, HBn⟩ := hrel
    have HBw : Hid (Below p w wr) := HB.out.trans (HBn.out.mono HPW.out)
    obtain ⟨x0, x1, x2, x3, x4, x5⟩ := six (keepB HX.out HBn.out)
    obtain ⟨y0, y1, y2, y3, y4, y5⟩ := six (keepB HY.out HBn.out)
    by_cases hlt : k < x.svs.length
    · have hltz : (k : Int) < (x.svs.length : Int) := by omega
      have hlt' : k < y.svs.length := by omega
      obtain ⟨b, o, mx, rfl, -, hbl, hx, hcx, hkx⟩ := SvsAt.get (HF.out.grw HBn.out) k hlt
      obtain ⟨b', o', my, rfl, -, hbl', hy, hcy, hky⟩ := SvsAt.get (HF'.out.grw HBn.out) k hlt'
      have HQ := Lib.hid (takes_eq x.svs y.svs k _ _ hx hy HA.out)
      have HN := Lib.hid (takes_ne x.svs y.svs k _ _ hx hy)
      have hi1 : k < x.svs.length := hlt
      have hi2 : k < y.svs.length := hlt'
      generalize x.svs[k] = s at *
      generalize y.svs[k] = t at *
      obtain ⟨ax, cs, rfl, u1, u2⟩ := hkx.form
      obtain ⟨at', ct, rfl, u3, u4⟩ := hky.form
      clear hx hy
      have HXK : Hid (∀ W', Below wr.heap.size wr W' → (W'.cell? ⟨p, 0, none⟩ = some (.string (mk x.id)) ∧ W'.cell? ⟨p, 1, none⟩ = some (.int .i64 x.st) ∧ W'.cell? ⟨p, 2, none⟩ = some (.int .i64 x.bi) ∧ W'.cell? ⟨p, 3, none⟩ = some (.int .i64 x.paid) ∧ W'.cell? ⟨p, 4, none⟩ = some (.int .i64 x.mem) ∧ W'.cell? ⟨p, 5, none⟩ = some (.slice (some ⟨b, o, none⟩) x.svs.length c)) ∧ (W'.cell? ⟨p + 1, 0, none⟩ = some (.string (mk y.id)) ∧ W'.cell? ⟨p + 1, 1, none⟩ = some (.int .i64 y.st) ∧ W'.cell? ⟨p + 1, 2, none⟩ = some (.int .i64 y.bi) ∧ W'.cell? ⟨p + 1, 3, none⟩ = some (.int .i64 y.paid) ∧ W'.cell? ⟨p + 1, 4, none⟩ = some (.int .i64 y.mem) ∧ W'.cell? ⟨p + 1, 5, none⟩ = some (.slice (some ⟨b', o', none⟩) y.svs.length c')) ∧ SrCells W' b (o + k * 4) s (.slice ax s.cas.length cs) ∧ SrCells W' b' (o' + k * 4) t (.slice at' t.cas.length ct)) := fun W' hW => ⟨six (keepB (keepB HX.out HBn.out) hW), six (keepB (keepB HY.out HBn.out) hW), hcx.of (hW.block b hbl), hcy.of (hW.block b' hbl')⟩
      have HCA : Hid (∀ w1, Below wr.heap.size wr w1 → Calls Try.prog 50 #[srv s (.slice ax s.cas.length cs), srv t (.slice at' t.cas.length ct)] w1 fun e w' => e = .returned (.bool (decide (s = t))) ∧ Below w1.heap.size w1 w') := fun w1 hb => sameService_any s t _ _ w1 (hkx.grw hb) (hky.grw hb)
      clear hcx hcy hkx hky hbl hbl'
      have HD := Lib.hid (Below.drew (Below.refl wr.heap.size wr))
      obtain ⟨wo, rfl⟩ : ∃ z, z = wr := ⟨_, rfl⟩
      generalize hB : decide (s = t) = BB at *
      have HBB := Lib.hid hB
      clear hB
      go_upto_region 8 with fail
      refine Ri.wp_region_lasting (by kernel_rfl) (by kernel_rfl) (by kernel_rfl) (fun Wx => Below wo.heap.size wo Wx) (fun kz vs wz => (fun kx vx wx => match kx with | 0 => vx = .pointer (some ⟨p, 5, none⟩) | 1 => vx = .slice (some ⟨b, o, none⟩) x.svs.length c | 2 => vx = .int .i64 (k : Nat) | 3 => vx = .pointer (some ⟨b, o + k * 4, none⟩) | 4 => vx = srv s (.slice ax s.cas.length cs) | 5 => vx = .pointer (some ⟨(p + 1), 5, none⟩) | 6 => vx = .slice (some ⟨b', o', none⟩) y.svs.length c' | 7 => vx = .int .i64 (k : Nat) | 8 => vx = .pointer (some ⟨b', o' + k * 4, none⟩) | 9 => vx = srv t (.slice at' t.cas.length ct) | 10 => vx = .bool BB | 11 => vx = .bool (!BB) | _ => True : Nat → Value → World → Prop) kz (vs kz) wz) (fun kz => [kz]) (by kernel_rfl) (fun jz vs iz vz wz hiz hz => Ri.loc_own (F := (fun kx vx wx => match kx with | 0 => vx = .pointer (some ⟨p, 5, none⟩) | 1 => vx = .slice (some ⟨b, o, none⟩) x.svs.length c | 2 => vx = .int .i64 (k : Nat) | 3 => vx = .pointer (some ⟨b, o + k * 4, none⟩) | 4 => vx = srv s (.slice ax s.cas.length cs) | 5 => vx = .pointer (some ⟨(p + 1), 5, none⟩) | 6 => vx = .slice (some ⟨b', o', none⟩) y.svs.length c' | 7 => vx = .int .i64 (k : Nat) | 8 => vx = .pointer (some ⟨b', o' + k * 4, none⟩) | 9 => vx = srv t (.slice at' t.cas.length ct) | 10 => vx = .bool BB | 11 => vx = .bool (!BB) | _ => True : Nat → Value → World → Prop)) jz vs iz vz wz hiz hz) HD.out ⟨⟨rfl, ?_⟩, ⟨rfl, ?_⟩, ⟨rfl, ?_⟩, ⟨rfl, ?_⟩, ⟨rfl, ?_⟩, ⟨rfl, ?_⟩, ⟨rfl, ?_⟩, ⟨rfl, ?_⟩, ⟨rfl, ?_⟩, ⟨rfl, ?_⟩, ⟨rfl, ?_⟩, ⟨rfl, ?_⟩, trivial⟩ ?_
      · intro vs Wx A hA hB hpre K hK
        have e2 := (hA 2).trans (show _ = Value.pointer (some ⟨p, 0, none⟩) by kernel_rfl)
        clear hA hpre
        go_simp
        first | exact hK _ _ hB rfl (fun _ _ h => h) | exact hK _ _ hB trivial (fun _ _ h => h) | (rw [if_neg (by omega)]; go_simp; exact hK _ _ hB rfl (fun _ _ h => h))
      · intro vs Wx A hA hB hpre K hK
        have e52 := ((hA 52).trans (show _ = vs 0 by kernel_rfl)).trans (by first | exact hpre.1 rfl | exact hpre.2.1 rfl | exact hpre.2.2.1 rfl | exact hpre.2.2.2.1 rfl | exact hpre.2.2.2.2.1 rfl | exact hpre.2.2.2.2.2.1 rfl | exact hpre.2.2.2.2.2.2.1 rfl | exact hpre.2.2.2.2.2.2.2.1 rfl | exact hpre.2.2.2.2.2.2.2.2.1 rfl | exact hpre.2.2.2.2.2.2.2.2.2.1 rfl)
        obtain ⟨⟨x0, x1, x2, x3, x4, x5⟩, ⟨y0, y1, y2, y3, y4, y5⟩, ⟨s0, s1, s2, s3⟩, ⟨t0, t1, t2, t3⟩⟩ := HXK.out Wx hB
        clear hA hpre
        go_simp
        first | exact hK _ _ hB rfl (fun _ _ h => h) | exact hK _ _ hB trivial (fun _ _ h => h) | (rw [if_neg (by omega)]; go_simp; exact hK _ _ hB rfl (fun _ _ h => h))
      · intro vs Wx A hA hB hpre K hK
        have e5 := (hA 5).trans (show _ = Value.int .i64 (k : Nat) by kernel_rfl)
        clear hA hpre
        go_simp
        first | exact hK _ _ hB rfl (fun _ _ h => h) | exact hK _ _ hB trivial (fun _ _ h => h) | (rw [if_neg (by omega)]; go_simp; exact hK _ _ hB rfl (fun _ _ h => h))
      · intro vs Wx A hA hB hpre K hK
        have e53 := ((hA 53).trans (show _ = vs 1 by kernel_rfl)).trans (by first | exact hpre.1 rfl | exact hpre.2.1 rfl | exact hpre.2.2.1 rfl | exact hpre.2.2.2.1 rfl | exact hpre.2.2.2.2.1 rfl | exact hpre.2.2.2.2.2.1 rfl | exact hpre.2.2.2.2.2.2.1 rfl | exact hpre.2.2.2.2.2.2.2.1 rfl | exact hpre.2.2.2.2.2.2.2.2.1 rfl | exact hpre.2.2.2.2.2.2.2.2.2.1 rfl)
        have e54 := ((hA 54).trans (show _ = vs 2 by kernel_rfl)).trans (by first | exact hpre.1 rfl | exact hpre.2.1 rfl | exact hpre.2.2.1 rfl | exact hpre.2.2.2.1 rfl | exact hpre.2.2.2.2.1 rfl | exact hpre.2.2.2.2.2.1 rfl | exact hpre.2.2.2.2.2.2.1 rfl | exact hpre.2.2.2.2.2.2.2.1 rfl | exact hpre.2.2.2.2.2.2.2.2.1 rfl | exact hpre.2.2.2.2.2.2.2.2.2.1 rfl)
        clear hA hpre
        go_simp
        first | exact hK _ _ hB rfl (fun _ _ h => h) | exact hK _ _ hB trivial (fun _ _ h => h) | (rw [if_neg (by omega)]; go_simp; exact hK _ _ hB rfl (fun _ _ h => h))
      · intro vs Wx A hA hB hpre K hK
        have e55 := ((hA 55).trans (show _ = vs 3 by kernel_rfl)).trans (by first | exact hpre.1 rfl | exact hpre.2.1 rfl | exact hpre.2.2.1 rfl | exact hpre.2.2.2.1 rfl | exact hpre.2.2.2.2.1 rfl | exact hpre.2.2.2.2.2.1 rfl | exact hpre.2.2.2.2.2.2.1 rfl | exact hpre.2.2.2.2.2.2.2.1 rfl | exact hpre.2.2.2.2.2.2.2.2.1 rfl | exact hpre.2.2.2.2.2.2.2.2.2.1 rfl)
        obtain ⟨⟨x0, x1, x2, x3, x4, x5⟩, ⟨y0, y1, y2, y3, y4, y5⟩, ⟨s0, s1, s2, s3⟩, ⟨t0, t1, t2, t3⟩⟩ := HXK.out Wx hB
        clear hA hpre
        go_simp
        first | exact hK _ _ hB rfl (fun _ _ h => h) | exact hK _ _ hB trivial (fun _ _ h => h) | (rw [if_neg (by omega)]; go_simp; exact hK _ _ hB rfl (fun _ _ h => h))
      · intro vs Wx A hA hB hpre K hK
        have e3 := (hA 3).trans (show _ = Value.pointer (some ⟨(p + 1), 0, none⟩) by kernel_rfl)
        clear hA hpre
        go_simp
        first | exact hK _ _ hB rfl (fun _ _ h => h) | exact hK _ _ hB trivial (fun _ _ h => h) | (rw [if_neg (by omega)]; go_simp; exact hK _ _ hB rfl (fun _ _ h => h))
      · intro vs Wx A hA hB hpre K hK
        have e57 := ((hA 57).trans (show _ = vs 5 by kernel_rfl)).trans (by first | exact hpre.1 rfl | exact hpre.2.1 rfl | exact hpre.2.2.1 rfl | exact hpre.2.2.2.1 rfl | exact hpre.2.2.2.2.1 rfl | exact hpre.2.2.2.2.2.1 rfl | exact hpre.2.2.2.2.2.2.1 rfl | exact hpre.2.2.2.2.2.2.2.1 rfl | exact hpre.2.2.2.2.2.2.2.2.1 rfl | exact hpre.2.2.2.2.2.2.2.2.2.1 rfl)
        obtain ⟨⟨x0, x1, x2, x3, x4, x5⟩, ⟨y0, y1, y2, y3, y4, y5⟩, ⟨s0, s1, s2, s3⟩, ⟨t0, t1, t2, t3⟩⟩ := HXK.out Wx hB
        clear hA hpre
        go_simp
        first | exact hK _ _ hB rfl (fun _ _ h => h) | exact hK _ _ hB trivial (fun _ _ h => h) | (rw [if_neg (by omega)]; go_simp; exact hK _ _ hB rfl (fun _ _ h => h))
      · intro vs Wx A hA hB hpre K hK
        have e5 := (hA 5).trans (show _ = Value.int .i64 (k : Nat) by kernel_rfl)
        clear hA hpre
        go_simp
        first | exact hK _ _ hB rfl (fun _ _ h => h) | exact hK _ _ hB trivial (fun _ _ h => h) | (rw [if_neg (by omega)]; go_simp; exact hK _ _ hB rfl (fun _ _ h => h))
      · intro vs Wx A hA hB hpre K hK
        have e58 := ((hA 58).trans (show _ = vs 6 by kernel_rfl)).trans (by first | exact hpre.1 rfl | exact hpre.2.1 rfl | exact hpre.2.2.1 rfl | exact hpre.2.2.2.1 rfl | exact hpre.2.2.2.2.1 rfl | exact hpre.2.2.2.2.2.1 rfl | exact hpre.2.2.2.2.2.2.1 rfl | exact hpre.2.2.2.2.2.2.2.1 rfl | exact hpre.2.2.2.2.2.2.2.2.1 rfl | exact hpre.2.2.2.2.2.2.2.2.2.1 rfl)
        have e59 := ((hA 59).trans (show _ = vs 7 by kernel_rfl)).trans (by first | exact hpre.1 rfl | exact hpre.2.1 rfl | exact hpre.2.2.1 rfl | exact hpre.2.2.2.1 rfl | exact hpre.2.2.2.2.1 rfl | exact hpre.2.2.2.2.2.1 rfl | exact hpre.2.2.2.2.2.2.1 rfl | exact hpre.2.2.2.2.2.2.2.1 rfl | exact hpre.2.2.2.2.2.2.2.2.1 rfl | exact hpre.2.2.2.2.2.2.2.2.2.1 rfl)
        clear hA hpre
        go_simp
        first | exact hK _ _ hB rfl (fun _ _ h => h) | exact hK _ _ hB trivial (fun _ _ h => h) | (rw [if_neg (by omega)]; go_simp; exact hK _ _ hB rfl (fun _ _ h => h))
      · intro vs Wx A hA hB hpre K hK
        have e60 := ((hA 60).trans (show _ = vs 8 by kernel_rfl)).trans (by first | exact hpre.1 rfl | exact hpre.2.1 rfl | exact hpre.2.2.1 rfl | exact hpre.2.2.2.1 rfl | exact hpre.2.2.2.2.1 rfl | exact hpre.2.2.2.2.2.1 rfl | exact hpre.2.2.2.2.2.2.1 rfl | exact hpre.2.2.2.2.2.2.2.1 rfl | exact hpre.2.2.2.2.2.2.2.2.1 rfl | exact hpre.2.2.2.2.2.2.2.2.2.1 rfl)
        obtain ⟨⟨x0, x1, x2, x3, x4, x5⟩, ⟨y0, y1, y2, y3, y4, y5⟩, ⟨s0, s1, s2, s3⟩, ⟨t0, t1, t2, t3⟩⟩ := HXK.out Wx hB
        clear hA hpre
        go_simp
        first | exact hK _ _ hB rfl (fun _ _ h => h) | exact hK _ _ hB trivial (fun _ _ h => h) | (rw [if_neg (by omega)]; go_simp; exact hK _ _ hB rfl (fun _ _ h => h))
      · intro vs Wx A hA hB hpre K hK
        have e56 := ((hA 56).trans (show _ = vs 4 by kernel_rfl)).trans (by first | exact hpre.1 rfl | exact hpre.2.1 rfl | exact hpre.2.2.1 rfl | exact hpre.2.2.2.1 rfl | exact hpre.2.2.2.2.1 rfl | exact hpre.2.2.2.2.2.1 rfl | exact hpre.2.2.2.2.2.2.1 rfl | exact hpre.2.2.2.2.2.2.2.1 rfl | exact hpre.2.2.2.2.2.2.2.2.1 rfl | exact hpre.2.2.2.2.2.2.2.2.2.1 rfl)
        have e61 := ((hA 61).trans (show _ = vs 9 by kernel_rfl)).trans (by first | exact hpre.1 rfl | exact hpre.2.1 rfl | exact hpre.2.2.1 rfl | exact hpre.2.2.2.1 rfl | exact hpre.2.2.2.2.1 rfl | exact hpre.2.2.2.2.2.1 rfl | exact hpre.2.2.2.2.2.2.1 rfl | exact hpre.2.2.2.2.2.2.2.1 rfl | exact hpre.2.2.2.2.2.2.2.2.1 rfl | exact hpre.2.2.2.2.2.2.2.2.2.1 rfl)
        clear hA hpre
        go_simp
        go_at_call 50
        refine (HCA.out Wx hB).mono ?_
        rintro e w4 ⟨rfl, hg⟩
        exact hK _ _ (below_trans hB hg) rfl (fun _ _ h => h)
      · intro vs Wx A hA hB hpre K hK
        have e62 := ((hA 62).trans (show _ = vs 10 by kernel_rfl)).trans (by first | exact hpre.1 rfl | exact hpre.2.1 rfl | exact hpre.2.2.1 rfl | exact hpre.2.2.2.1 rfl | exact hpre.2.2.2.2.1 rfl | exact hpre.2.2.2.2.2.1 rfl | exact hpre.2.2.2.2.2.2.1 rfl | exact hpre.2.2.2.2.2.2.2.1 rfl | exact hpre.2.2.2.2.2.2.2.2.1 rfl | exact hpre.2.2.2.2.2.2.2.2.2.1 rfl)
        clear hA hpre
        go_simp
        first | exact hK _ _ hB rfl (fun _ _ h => h) | exact hK _ _ hB trivial (fun _ _ h => h) | (rw [if_neg (by omega)]; go_simp; exact hK _ _ hB rfl (fun _ _ h => h))
      · intro vs Wx hB hF
        have hL : vs 11 = .bool (!BB) := hF 11 (by decide)
        have HB3 : Hid (Below W.heap.size W Wx) := HBn.out.trans (hB.mono HBn.out.size)
        have HB4 : Hid (Below p w Wx) := HBw.out.trans (hB.mono (Nat.le_trans HPW.out HBn.out.size))
        clear hF hB HXK HCA HD
        simp only [Ri.puts]
        rw [hL]
        clear hL
        go_simp
        cases BB with
        | true =>
          have HE2 := Lib.hid (HQ.out (of_decide_eq_true HBB.out))
          clear HQ HN HBB
          go_wp2
          go_roundg (x.svs.length - (k + 1))
          case measure => omega
          case rel => exact ⟨k + 1, by omega, rfl, by go_num, HE2.out, HB3.out⟩
        | false =>
          have HE2 := Lib.hid (HN.out (of_decide_eq_false HBB.out))
          clear HQ HN HBB
          go_wp2
          go_ret
          exact ⟨by rw [HE2.out]; rfl, by first | exact HB4.out | (rw [hp]; exact HB4.out)⟩
    · have hltz : ¬ (k : Int) < (x.svs.length : Int) := by omega
      have HE2 := Lib.hid (takes_all x.svs y.svs k (by omega) HL.out HA.out)
      go_wp2
      go_ret
      exact ⟨by rw [HE2.out]; rfl, by first | exact HBw.out | (rw [hp]; exact HBw.out)⟩
end Go.Proofs.Ytpfpjbeofogbgaa.Sv
end
