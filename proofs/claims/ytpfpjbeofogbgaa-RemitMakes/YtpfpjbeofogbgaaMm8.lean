/-
  Texts put together (merge.py): VSmS, VRSame, HTake, CSubs, HOut.
-/
import Derived.BigQuiet
import Derived.OneCell
import Derived.Lib.Hide
import Derived.Laws.AppendOwn
import Derived.Deep.Cut
import Derived.Test.YtpfpjbeofogbgaaMm7
import Derived.Test.YtpfpjbeofogbgaaMm3
import Derived.Test.YtpfpjbeofogbgaaMm5
import Derived.Test.YtpfpjbeofogbgaaMm1
set_option linter.unusedSimpArgs false
set_option linter.unusedVariables false
section
set_option maxRecDepth 100000
namespace Go.Proofs.Ytpfpjbeofogbgaa.Sv
open Go.RowKit
open Bk (keepB below_alloc below_trans alloc_new)
open Cm (mk_ne takes_eq takes_ne takes_all lens_ne)
open Classical
theorem sr_ne (x y : Sr) (h : decide (x.proc = y.proc) = false ∨ decide (x.bi = y.bi) = false ∨ decide (x.paid = y.paid) = false ∨ decide (x.cas = y.cas) = false) : decide (x = y) = false := by
 rw [decide_eq_false_iff_not]
 rintro rfl
 simp at h
theorem sr_same (x y : Sr) (h1 : decide (x.proc = y.proc) = true) (h2 : decide (x.bi = y.bi) = true) (h3 : decide (x.paid = y.paid) = true) : decide (x = y) = decide (x.cas = y.cas) := by
 rw [decide_eq_true_eq] at h1 h2 h3
 obtain ⟨a, b, c, d⟩ := x
 obtain ⟨a', b', c', d'⟩ := y
 simp only at h1 h2 h3
 subst h1 h2 h3
 rw [Bool.eq_iff_iff]
 simp
theorem cp_ne (x y : Cp) (h : decide (x.id = y.id) = false ∨ decide (x.st = y.st) = false ∨ decide (x.bi = y.bi) = false ∨ decide (x.paid = y.paid) = false ∨ decide (x.mem = y.mem) = false ∨ decide (x.svs = y.svs) = false) : decide (x = y) = false := by
 rw [decide_eq_false_iff_not]
 rintro rfl
 simp at h
theorem cp_same (x y : Cp) (h1 : decide (x.id = y.id) = true) (h2 : decide (x.st = y.st) = true) (h3 : decide (x.bi = y.bi) = true) (h4 : decide (x.paid = y.paid) = true) (h5 : decide (x.mem = y.mem) = true) : decide (x = y) = decide (x.svs = y.svs) := by
 rw [decide_eq_true_eq] at h1 h2 h3 h4 h5
 obtain ⟨a, b, c, d, e, f⟩ := x
 obtain ⟨a', b', c', d', e', f'⟩ := y
 simp only at h1 h2 h3 h4 h5
 subst h1 h2 h3 h4 h5
 rw [Bool.eq_iff_iff]
 simp
set_option maxHeartbeats 4000000 in
theorem sameService_any (x y : Sr) (m m' : Value) (w : World) (hm : CasAt All w m x.cas) (hm' : CasAt All w m' y.cas) :
  Calls Try.prog 50 #[srv x m, srv y m'] w fun e w' => e = .returned (.bool (decide (x = y))) ∧ Below w.heap.size w w' := by
 obtain ⟨a, c, rfl, -, -⟩ := hm.form
 obtain ⟨a', c', rfl, -, -⟩ := hm'.form
 have HB := Lib.hid (below_trans (below_alloc w (.cells (sre x (.slice a x.cas.length c)) Ts)) (below_alloc _ (.cells (sre y (.slice a' y.cas.length c')) Ts)))
 have HX := Lib.hid (keepB (alloc_new w (sre x (.slice a x.cas.length c)) Ts) (below_alloc _ (.cells (sre y (.slice a' y.cas.length c')) Ts)))
 have HY := Lib.hid (alloc_new (w.alloc (.cells (sre x (.slice a x.cas.length c)) Ts)) (sre y (.slice a' y.cas.length c')) Ts)
 rw [show (w.alloc (.cells (sre x (.slice a x.cas.length c)) Ts)).heap.size = w.heap.size + 1 by simp] at HY
 have HE := Lib.hid (equal_any _ _ x.cas y.cas _ (hm.grw HB.out) (hm'.grw HB.out))
 clear hm hm'
 have e_proc := mk_ne x.proc y.proc
 have e_bi : (x.bi == y.bi) = decide (x.bi = y.bi) := by rw [Bool.eq_iff_iff]; simp
 have n_bi : (x.bi != y.bi) = !decide (x.bi = y.bi) := by rw [Bool.eq_iff_iff]; simp
 have e_paid : (x.paid == y.paid) = decide (x.paid = y.paid) := by rw [Bool.eq_iff_iff]; simp
 have n_paid : (x.paid != y.paid) = !decide (x.paid = y.paid) := by rw [Bool.eq_iff_iff]; simp
 cases h_proc : decide (x.proc = y.proc)
 ·rw [h_proc] at e_proc
  rw [sr_ne x y (by simp [h_proc])]
  clear e_bi e_paid n_bi n_paid HE h_proc
  go_enter Try.func50, Try.ntmps50
  go_upto_region 1 with fail
  generalize ((w.alloc (.cells (sre x (.slice a x.cas.length c)) Ts)).alloc (.cells (sre y (.slice a' y.cas.length c')) Ts)) = W at *
  generalize hp : w.heap.size = p at *
  obtain ⟨x0, x1, x2, x3⟩ := four HX.out
  obtain ⟨y0, y1, y2, y3⟩ := four HY.out
  go_wp2
  go_ret
  exact ⟨rfl, by first | exact HB.out | (rw [hp]; exact HB.out)⟩
 rw [h_proc] at e_proc
 cases h_bi : decide (x.bi = y.bi)
 ·rw [h_bi] at e_bi n_bi
  rw [sr_ne x y (by simp [h_bi])]
  clear e_paid n_paid HE h_proc h_bi
  go_enter Try.func50, Try.ntmps50
  go_upto_region 1 with fail
  generalize ((w.alloc (.cells (sre x (.slice a x.cas.length c)) Ts)).alloc (.cells (sre y (.slice a' y.cas.length c')) Ts)) = W at *
  generalize hp : w.heap.size = p at *
  obtain ⟨x0, x1, x2, x3⟩ := four HX.out
  obtain ⟨y0, y1, y2, y3⟩ := four HY.out
  go_wp2
  go_ret
  exact ⟨rfl, by first | exact HB.out | (rw [hp]; exact HB.out)⟩
 rw [h_bi] at e_bi n_bi
 cases h_paid : decide (x.paid = y.paid)
 ·rw [h_paid] at e_paid n_paid
  rw [sr_ne x y (by simp [h_paid])]
  clear   HE h_proc h_bi h_paid
  go_enter Try.func50, Try.ntmps50
  go_upto_region 1 with fail
  generalize ((w.alloc (.cells (sre x (.slice a x.cas.length c)) Ts)).alloc (.cells (sre y (.slice a' y.cas.length c')) Ts)) = W at *
  generalize hp : w.heap.size = p at *
  obtain ⟨x0, x1, x2, x3⟩ := four HX.out
  obtain ⟨y0, y1, y2, y3⟩ := four HY.out
  go_wp2
  go_ret
  exact ⟨rfl, by first | exact HB.out | (rw [hp]; exact HB.out)⟩
 rw [h_paid] at e_paid n_paid
 rw [sr_same x y h_proc h_bi h_paid]
 clear h_proc h_bi h_paid
 go_enter Try.func50, Try.ntmps50
 go_upto_region 1 with fail
 generalize ((w.alloc (.cells (sre x (.slice a x.cas.length c)) Ts)).alloc (.cells (sre y (.slice a' y.cas.length c')) Ts)) = W at *
 generalize hp : w.heap.size = p at *
 obtain ⟨x0, x1, x2, x3⟩ := four HX.out
 obtain ⟨y0, y1, y2, y3⟩ := four HY.out
 go_wp2_with (first | (go_at_call 62; refine HE.out.mono ?_; rintro e w1 ⟨rfl, hb⟩; have HB2 := Lib.hid (HB.out.trans (hb.mono (by have := HB.out.size; rw [hp] at this; exact this))); clear hb))
 go_ret
 exact ⟨rfl, by first | exact HB2.out | (rw [hp]; exact HB2.out)⟩
set_option maxHeartbeats 8000000 in
theorem same_any (x y : Cp) (m m' : Value) (w : World) (hm : SvsAt All w m x.svs) (hm' : SvsAt All w m' y.svs) :
  Calls Try.prog 36 #[cpv x m, cpv y m'] w fun e w' => e = .returned (.bool (decide (x = y))) ∧ Below w.heap.size w w' := by
 obtain ⟨a, c, rfl, f1, f2⟩ := hm.form
 obtain ⟨a', c', rfl, f1', f2'⟩ := hm'.form
 have HB := Lib.hid (below_trans (below_alloc w (.cells (cpe x (.slice a x.svs.length c)) 38)) (below_alloc _ (.cells (cpe y (.slice a' y.svs.length c')) 38)))
 have HX := Lib.hid (keepB (alloc_new w (cpe x (.slice a x.svs.length c)) 38) (below_alloc _ (.cells (cpe y (.slice a' y.svs.length c')) 38)))
 have HY := Lib.hid (alloc_new (w.alloc (.cells (cpe x (.slice a x.svs.length c)) 38)) (cpe y (.slice a' y.svs.length c')) 38)
 rw [show (w.alloc (.cells (cpe x (.slice a x.svs.length c)) 38)).heap.size = w.heap.size + 1 by simp] at HY
 have HF := Lib.hid (hm.grw HB.out)
 have HF' := Lib.hid (hm'.grw HB.out)
 clear hm hm'
 have e_id := mk_ne x.id y.id
 have e_st : (x.st == y.st) = decide (x.st = y.st) := by rw [Bool.eq_iff_iff]; simp
 have n_st : (x.st != y.st) = !decide (x.st = y.st) := by rw [Bool.eq_iff_iff]; simp
 have e_bi : (x.bi == y.bi) = decide (x.bi = y.bi) := by rw [Bool.eq_iff_iff]; simp
 have n_bi : (x.bi != y.bi) = !decide (x.bi = y.bi) := by rw [Bool.eq_iff_iff]; simp
 have e_paid : (x.paid == y.paid) = decide (x.paid = y.paid) := by rw [Bool.eq_iff_iff]; simp
 have n_paid : (x.paid != y.paid) = !decide (x.paid = y.paid) := by rw [Bool.eq_iff_iff]; simp
 have e_mem : (x.mem == y.mem) = decide (x.mem = y.mem) := by rw [Bool.eq_iff_iff]; simp
 have n_mem : (x.mem != y.mem) = !decide (x.mem = y.mem) := by rw [Bool.eq_iff_iff]; simp
 cases h_id : decide (x.id = y.id)
 ·rw [h_id] at e_id
  rw [cp_ne x y (by simp [h_id])]
  clear e_st e_bi e_paid e_mem n_st n_bi n_paid n_mem HF HF' h_id
  go_enter Try.func36, Try.ntmps36
  go_upto_region 1 with fail
  generalize ((w.alloc (.cells (cpe x (.slice a x.svs.length c)) 38)).alloc (.cells (cpe y (.slice a' y.svs.length c')) 38)) = W at *
  generalize hp : w.heap.size = p at *
  obtain ⟨x0, x1, x2, x3, x4, x5⟩ := six HX.out
  obtain ⟨y0, y1, y2, y3, y4, y5⟩ := six HY.out
  go_wp2
  go_ret
  exact ⟨rfl, by first | exact HB.out | (rw [hp]; exact HB.out)⟩
 rw [h_id] at e_id
 cases h_st : decide (x.st = y.st)
 ·rw [h_st] at e_st n_st
  rw [cp_ne x y (by simp [h_st])]
  clear e_bi e_paid e_mem n_bi n_paid n_mem HF HF' h_id h_st
  go_enter Try.func36, Try.ntmps36
  go_upto_region 1 with fail
  generalize ((w.alloc (.cells (cpe x (.slice a x.svs.length c)) 38)).alloc (.cells (cpe y (.slice a' y.svs.length c')) 38)) = W at *
  generalize hp : w.heap.size = p at *
  obtain ⟨x0, x1, x2, x3, x4, x5⟩ := six HX.out
  obtain ⟨y0, y1, y2, y3, y4, y5⟩ := six HY.out
  go_wp2
  go_ret
  exact ⟨rfl, by first | exact HB.out | (rw [hp]; exact HB.out)⟩
 rw [h_st] at e_st n_st
 by_cases hl : x.svs.length = y.svs.length
 case neg =>
  have hlb : ((x.svs.length : Int) != (y.svs.length : Int)) = true := by simp; omega
  rw [cp_ne x y (by simp [lens_ne _ _ hl])]
  clear e_bi e_paid e_mem n_bi n_paid n_mem HF HF' h_id h_st hl
  go_enter Try.func36, Try.ntmps36
  go_upto_region 1 with fail
  generalize ((w.alloc (.cells (cpe x (.slice a x.svs.length c)) 38)).alloc (.cells (cpe y (.slice a' y.svs.length c')) 38)) = W at *
  generalize hp : w.heap.size = p at *
  obtain ⟨x0, x1, x2, x3, x4, x5⟩ := six HX.out
  obtain ⟨y0, y1, y2, y3, y4, y5⟩ := six HY.out
  go_wp2
  go_ret
  exact ⟨rfl, by first | exact HB.out | (rw [hp]; exact HB.out)⟩
 have hlb : ((x.svs.length : Int) != (y.svs.length : Int)) = false := by rw [hl]; simp
 have HL := Lib.hid hl
 have hl2 : x.svs.length ≤ y.svs.length := by omega
 clear hl
 cases h_bi : decide (x.bi = y.bi)
 ·rw [h_bi] at e_bi n_bi
  rw [cp_ne x y (by simp [h_bi])]
  clear e_paid e_mem n_paid n_mem HF HF' h_id h_st h_bi
  go_enter Try.func36, Try.ntmps36
  go_upto_region 1 with fail
  generalize ((w.alloc (.cells (cpe x (.slice a x.svs.length c)) 38)).alloc (.cells (cpe y (.slice a' y.svs.length c')) 38)) = W at *
  generalize hp : w.heap.size = p at *
  obtain ⟨x0, x1, x2, x3, x4, x5⟩ := six HX.out
  obtain ⟨y0, y1, y2, y3, y4, y5⟩ := six HY.out
  go_wp2
  go_ret
  exact ⟨rfl, by first | exact HB.out | (rw [hp]; exact HB.out)⟩
 rw [h_bi] at e_bi n_bi
 cases h_paid : decide (x.paid = y.paid)
 ·rw [h_paid] at e_paid n_paid
  rw [cp_ne x y (by simp [h_paid])]
  clear e_mem n_mem HF HF' h_id h_st h_bi h_paid
  go_enter Try.func36, Try.ntmps36
  go_upto_region 1 with fail
  generalize ((w.alloc (.cells (cpe x (.slice a x.svs.length c)) 38)).alloc (.cells (cpe y (.slice a' y.svs.length c')) 38)) = W at *
  generalize hp : w.heap.size = p at *
  obtain ⟨x0, x1, x2, x3, x4, x5⟩ := six HX.out
  obtain ⟨y0, y1, y2, y3, y4, y5⟩ := six HY.out
  go_wp2
  go_ret
  exact ⟨rfl, by first | exact HB.out | (rw [hp]; exact HB.out)⟩
 rw [h_paid] at e_paid n_paid
 cases h_mem : decide (x.mem = y.mem)
 ·rw [h_mem] at e_mem n_mem
  rw [cp_ne x y (by simp [h_mem])]
  clear   HF HF' h_id h_st h_bi h_paid h_mem
  go_enter Try.func36, Try.ntmps36
  go_upto_region 1 with fail
  generalize ((w.alloc (.cells (cpe x (.slice a x.svs.length c)) 38)).alloc (.cells (cpe y (.slice a' y.svs.length c')) 38)) = W at *
  generalize hp : w.heap.size = p at *
  obtain ⟨x0, x1, x2, x3, x4, x5⟩ := six HX.out
  obtain ⟨y0, y1, y2, y3, y4, y5⟩ := six HY.out
  go_wp2
  go_ret
  exact ⟨rfl, by first | exact HB.out | (rw [hp]; exact HB.out)⟩
 rw [h_mem] at e_mem n_mem
 rw [cp_same x y h_id h_st h_bi h_paid h_mem]
 clear h_id h_st h_bi h_paid h_mem
 go_enter Try.func36, Try.ntmps36
 go_upto_region 1 with fail
 generalize ((w.alloc (.cells (cpe x (.slice a x.svs.length c)) 38)).alloc (.cells (cpe y (.slice a' y.svs.length c')) 38)) = W at *
 generalize hp : w.heap.size = p at *
 obtain ⟨x0, x1, x2, x3, x4, x5⟩ := six HX.out
 obtain ⟨y0, y1, y2, y3, y4, y5⟩ := six HY.out
 go_wp2
 have HPW : Hid (p ≤ W.heap.size) := by have := HB.out.size; rw [hp] at this; exact this
 go_loopg [49] (x.svs.length) (fun gg i wr => ∃ k : Nat, k ≤ x.svs.length ∧ gg = x.svs.length - k ∧ i = .int .i64 k ∧ Hid (x.svs.take k = y.svs.take k) ∧ Hid (Below W.heap.size W wr))
 case atStart => exact ⟨0, Nat.zero_le _, rfl, rfl, rfl, Below.refl _ _⟩
 case round =>
  obtain ⟨k, hk, hg, rfl, HA, HBn⟩ := hrel
  have HBw : Hid (Below p w wr) := HB.out.trans (HBn.out.mono HPW.out)
  obtain ⟨x0, x1, x2, x3, x4, x5⟩ := six (keepB HX.out HBn.out)
  obtain ⟨y0, y1, y2, y3, y4, y5⟩ := six (keepB HY.out HBn.out)
  by_cases hlt : k < x.svs.length
  ·have hltz : (k : Int) < (x.svs.length : Int) := by omega
   have hlt' : k < y.svs.length := by omega
   obtain ⟨b, o, mx, rfl, -, hbl, hx, hcx, hkx⟩ := SvsAt.get (HF.out.grw HBn.out) k hlt
   obtain ⟨b', o', my, rfl, -, hbl', hy, hcy, hky⟩ := SvsAt.get (HF'.out.grw HBn.out) k hlt'
   have HQ := Lib.hid (takes_eq x.svs y.svs k _ _ hx hy HA.out)
   have HN := Lib.hid (takes_ne x.svs y.svs k _ _ hx hy)
   have hi1 : k < x.svs.length := hlt
   have hi2 : k < y.svs.length := hlt'
   generalize x.svs[k] = s at *
   generalize y.svs[k] = t at *
   obtain ⟨ax, cs, rfl, u1, u2⟩ := hkx.form
   obtain ⟨at', ct, rfl, u3, u4⟩ := hky.form
   clear hx hy
   have HXK : Hid (∀ W', Below wr.heap.size wr W' → (W'.cell? ⟨p, 0, none⟩ = some (.string (mk x.id)) ∧ W'.cell? ⟨p, 1, none⟩ = some (.int .i64 x.st) ∧ W'.cell? ⟨p, 2, none⟩ = some (.int .i64 x.bi) ∧ W'.cell? ⟨p, 3, none⟩ = some (.int .i64 x.paid) ∧ W'.cell? ⟨p, 4, none⟩ = some (.int .i64 x.mem) ∧ W'.cell? ⟨p, 5, none⟩ = some (.slice (some ⟨b, o, none⟩) x.svs.length c)) ∧ (W'.cell? ⟨p + 1, 0, none⟩ = some (.string (mk y.id)) ∧ W'.cell? ⟨p + 1, 1, none⟩ = some (.int .i64 y.st) ∧ W'.cell? ⟨p + 1, 2, none⟩ = some (.int .i64 y.bi) ∧ W'.cell? ⟨p + 1, 3, none⟩ = some (.int .i64 y.paid) ∧ W'.cell? ⟨p + 1, 4, none⟩ = some (.int .i64 y.mem) ∧ W'.cell? ⟨p + 1, 5, none⟩ = some (.slice (some ⟨b', o', none⟩) y.svs.length c')) ∧ SrCells W' b (o + k * 4) s (.slice ax s.cas.length cs) ∧ SrCells W' b' (o' + k * 4) t (.slice at' t.cas.length ct)) := fun W' hW => ⟨six (keepB (keepB HX.out HBn.out) hW), six (keepB (keepB HY.out HBn.out) hW), hcx.of (hW.block b hbl), hcy.of (hW.block b' hbl')⟩
   have HCA : Hid (∀ w1, Below wr.heap.size wr w1 → Calls Try.prog 50 #[srv s (.slice ax s.cas.length cs), srv t (.slice at' t.cas.length ct)] w1 fun e w' => e = .returned (.bool (decide (s = t))) ∧ Below w1.heap.size w1 w') := fun w1 hb => sameService_any s t _ _ w1 (hkx.grw hb) (hky.grw hb)
   clear hcx hcy hkx hky hbl hbl'
   have HD := Lib.hid (Below.drew (Below.refl wr.heap.size wr))
   obtain ⟨wo, rfl⟩ : ∃ z, z = wr := ⟨_, rfl⟩
   generalize hB : decide (s = t) = BB at *
   have HBB := Lib.hid hB
   clear hB
   go_upto_region 8 with fail
   refine Ri.wp_region_lasting (by kernel_rfl) (by kernel_rfl) (by kernel_rfl) (fun Wx => Below wo.heap.size wo Wx) (fun kz vs wz => (fun kx vx wx => match kx with | 0 => vx = .pointer (some ⟨p, 5, none⟩) | 1 => vx = .slice (some ⟨b, o, none⟩) x.svs.length c | 2 => vx = .int .i64 (k : Nat) | 3 => vx = .pointer (some ⟨b, o + k * 4, none⟩) | 4 => vx = srv s (.slice ax s.cas.length cs) | 5 => vx = .pointer (some ⟨(p + 1), 5, none⟩) | 6 => vx = .slice (some ⟨b', o', none⟩) y.svs.length c' | 7 => vx = .int .i64 (k : Nat) | 8 => vx = .pointer (some ⟨b', o' + k * 4, none⟩) | 9 => vx = srv t (.slice at' t.cas.length ct) | 10 => vx = .bool BB | 11 => vx = .bool (!BB) | _ => True : Nat → Value → World → Prop) kz (vs kz) wz) (fun kz => [kz]) (by kernel_rfl) (fun jz vs iz vz wz hiz hz => Ri.loc_own (F := (fun kx vx wx => match kx with | 0 => vx = .pointer (some ⟨p, 5, none⟩) | 1 => vx = .slice (some ⟨b, o, none⟩) x.svs.length c | 2 => vx = .int .i64 (k : Nat) | 3 => vx = .pointer (some ⟨b, o + k * 4, none⟩) | 4 => vx = srv s (.slice ax s.cas.length cs) | 5 => vx = .pointer (some ⟨(p + 1), 5, none⟩) | 6 => vx = .slice (some ⟨b', o', none⟩) y.svs.length c' | 7 => vx = .int .i64 (k : Nat) | 8 => vx = .pointer (some ⟨b', o' + k * 4, none⟩) | 9 => vx = srv t (.slice at' t.cas.length ct) | 10 => vx = .bool BB | 11 => vx = .bool (!BB) | _ => True : Nat → Value → World → Prop)) jz vs iz vz wz hiz hz) HD.out ⟨⟨rfl, ?_⟩, ⟨rfl, ?_⟩, ⟨rfl, ?_⟩, ⟨rfl, ?_⟩, ⟨rfl, ?_⟩, ⟨rfl, ?_⟩, ⟨rfl, ?_⟩, ⟨rfl, ?_⟩, ⟨rfl, ?_⟩, ⟨rfl, ?_⟩, ⟨rfl, ?_⟩, ⟨rfl, ?_⟩, trivial⟩ ?_
   ·intro vs Wx A hA hB hpre K hK
    have e2 := (hA 2).trans (show _ = Value.pointer (some ⟨p, 0, none⟩) by kernel_rfl)
    clear hA hpre
    go_simp
    first | exact hK _ _ hB (by trivial) (fun _ _ h => h) | (rw [if_neg (by omega)]; go_simp; exact hK _ _ hB rfl (fun _ _ h => h))
   ·intro vs Wx A hA hB hpre K hK
    have e52 := ((hA 52).trans (show _ = vs 0 by kernel_rfl)).trans (by repeat first | exact hpre.1 rfl | replace hpre := hpre.2)
    obtain ⟨⟨x0, x1, x2, x3, x4, x5⟩, ⟨y0, y1, y2, y3, y4, y5⟩, ⟨s0, s1, s2, s3⟩, ⟨t0, t1, t2, t3⟩⟩ := HXK.out Wx hB
    clear hA hpre
    go_simp
    first | exact hK _ _ hB (by trivial) (fun _ _ h => h) | (rw [if_neg (by omega)]; go_simp; exact hK _ _ hB rfl (fun _ _ h => h))
   ·intro vs Wx A hA hB hpre K hK
    have e5 := (hA 5).trans (show _ = Value.int .i64 (k : Nat) by kernel_rfl)
    clear hA hpre
    go_simp
    first | exact hK _ _ hB (by trivial) (fun _ _ h => h) | (rw [if_neg (by omega)]; go_simp; exact hK _ _ hB rfl (fun _ _ h => h))
   ·intro vs Wx A hA hB hpre K hK
    have e53 := ((hA 53).trans (show _ = vs 1 by kernel_rfl)).trans (by repeat first | exact hpre.1 rfl | replace hpre := hpre.2)
    have e54 := ((hA 54).trans (show _ = vs 2 by kernel_rfl)).trans (by repeat first | exact hpre.1 rfl | replace hpre := hpre.2)
    clear hA hpre
    go_simp
    first | exact hK _ _ hB (by trivial) (fun _ _ h => h) | (rw [if_neg (by omega)]; go_simp; exact hK _ _ hB rfl (fun _ _ h => h))
   ·intro vs Wx A hA hB hpre K hK
    have e55 := ((hA 55).trans (show _ = vs 3 by kernel_rfl)).trans (by repeat first | exact hpre.1 rfl | replace hpre := hpre.2)
    obtain ⟨⟨x0, x1, x2, x3, x4, x5⟩, ⟨y0, y1, y2, y3, y4, y5⟩, ⟨s0, s1, s2, s3⟩, ⟨t0, t1, t2, t3⟩⟩ := HXK.out Wx hB
    clear hA hpre
    go_simp
    first | exact hK _ _ hB (by trivial) (fun _ _ h => h) | (rw [if_neg (by omega)]; go_simp; exact hK _ _ hB rfl (fun _ _ h => h))
   ·intro vs Wx A hA hB hpre K hK
    have e3 := (hA 3).trans (show _ = Value.pointer (some ⟨(p + 1), 0, none⟩) by kernel_rfl)
    clear hA hpre
    go_simp
    first | exact hK _ _ hB (by trivial) (fun _ _ h => h) | (rw [if_neg (by omega)]; go_simp; exact hK _ _ hB rfl (fun _ _ h => h))
   ·intro vs Wx A hA hB hpre K hK
    have e57 := ((hA 57).trans (show _ = vs 5 by kernel_rfl)).trans (by repeat first | exact hpre.1 rfl | replace hpre := hpre.2)
    obtain ⟨⟨x0, x1, x2, x3, x4, x5⟩, ⟨y0, y1, y2, y3, y4, y5⟩, ⟨s0, s1, s2, s3⟩, ⟨t0, t1, t2, t3⟩⟩ := HXK.out Wx hB
    clear hA hpre
    go_simp
    first | exact hK _ _ hB (by trivial) (fun _ _ h => h) | (rw [if_neg (by omega)]; go_simp; exact hK _ _ hB rfl (fun _ _ h => h))
   ·intro vs Wx A hA hB hpre K hK
    have e5 := (hA 5).trans (show _ = Value.int .i64 (k : Nat) by kernel_rfl)
    clear hA hpre
    go_simp
    first | exact hK _ _ hB (by trivial) (fun _ _ h => h) | (rw [if_neg (by omega)]; go_simp; exact hK _ _ hB rfl (fun _ _ h => h))
   ·intro vs Wx A hA hB hpre K hK
    have e58 := ((hA 58).trans (show _ = vs 6 by kernel_rfl)).trans (by repeat first | exact hpre.1 rfl | replace hpre := hpre.2)
    have e59 := ((hA 59).trans (show _ = vs 7 by kernel_rfl)).trans (by repeat first | exact hpre.1 rfl | replace hpre := hpre.2)
    clear hA hpre
    go_simp
    first | exact hK _ _ hB (by trivial) (fun _ _ h => h) | (rw [if_neg (by omega)]; go_simp; exact hK _ _ hB rfl (fun _ _ h => h))
   ·intro vs Wx A hA hB hpre K hK
    have e60 := ((hA 60).trans (show _ = vs 8 by kernel_rfl)).trans (by repeat first | exact hpre.1 rfl | replace hpre := hpre.2)
    obtain ⟨⟨x0, x1, x2, x3, x4, x5⟩, ⟨y0, y1, y2, y3, y4, y5⟩, ⟨s0, s1, s2, s3⟩, ⟨t0, t1, t2, t3⟩⟩ := HXK.out Wx hB
    clear hA hpre
    go_simp
    first | exact hK _ _ hB (by trivial) (fun _ _ h => h) | (rw [if_neg (by omega)]; go_simp; exact hK _ _ hB rfl (fun _ _ h => h))
   ·intro vs Wx A hA hB hpre K hK
    have e56 := ((hA 56).trans (show _ = vs 4 by kernel_rfl)).trans (by repeat first | exact hpre.1 rfl | replace hpre := hpre.2)
    have e61 := ((hA 61).trans (show _ = vs 9 by kernel_rfl)).trans (by repeat first | exact hpre.1 rfl | replace hpre := hpre.2)
    clear hA hpre
    go_simp
    go_at_call 50
    refine (HCA.out Wx hB).mono ?_
    rintro e w4 ⟨rfl, hg⟩
    exact hK _ _ (below_trans hB hg) rfl (fun _ _ h => h)
   ·intro vs Wx A hA hB hpre K hK
    have e62 := ((hA 62).trans (show _ = vs 10 by kernel_rfl)).trans (by repeat first | exact hpre.1 rfl | replace hpre := hpre.2)
    clear hA hpre
    go_simp
    first | exact hK _ _ hB (by trivial) (fun _ _ h => h) | (rw [if_neg (by omega)]; go_simp; exact hK _ _ hB rfl (fun _ _ h => h))
   ·intro vs Wx hB hF
    have hL : vs 11 = .bool (!BB) := hF 11 (by decide)
    have HB3 : Hid (Below W.heap.size W Wx) := HBn.out.trans (hB.mono HBn.out.size)
    have HB4 : Hid (Below p w Wx) := HBw.out.trans (hB.mono (Nat.le_trans HPW.out HBn.out.size))
    clear hF hB HXK HCA HD
    simp only [Ri.puts]
    rw [hL]
    clear hL
    go_simp
    cases BB with
    | true =>
     have HE2 := Lib.hid (HQ.out (of_decide_eq_true HBB.out))
     clear HQ HN HBB
     go_wp2
     go_roundg (x.svs.length - (k + 1))
     case measure => omega
     case rel => exact ⟨k + 1, by omega, rfl, by go_num, HE2.out, HB3.out⟩
    | false =>
     have HE2 := Lib.hid (HN.out (of_decide_eq_false HBB.out))
     clear HQ HN HBB
     go_wp2
     go_ret
     exact ⟨by rw [HE2.out]; rfl, by first | exact HB4.out | (rw [hp]; exact HB4.out)⟩
  ·have hltz : ¬ (k : Int) < (x.svs.length : Int) := by omega
   have HE2 := Lib.hid (takes_all x.svs y.svs k (by omega) HL.out HA.out)
   go_wp2
   go_ret
   exact ⟨by rw [HE2.out]; rfl, by first | exact HBw.out | (rw [hp]; exact HBw.out)⟩
end Go.Proofs.Ytpfpjbeofogbgaa.Sv
end
section
set_option maxRecDepth 100000
namespace Go.Proofs.Ytpfpjbeofogbgaa.Sv
open Go.RowKit
open Bk (keepB below_alloc below_trans alloc_new)
open Cm (mk_ne takes_eq takes_ne takes_all lens_ne)
open Classical
set_option maxHeartbeats 8000000 in
theorem rsame_any (x y : Cp) (m m' : Value) (w : World) (hm : SvsAt All w m x.svs) (hm' : SvsAt All w m' y.svs) :
  Calls Try.prog 30 #[cpv x m, cpv y m'] w fun e w' => e = .returned (.bool (decide (x = y))) ∧ Below w.heap.size w w' := by
 obtain ⟨a, c, rfl, f1, f2⟩ := hm.form
 obtain ⟨a', c', rfl, f1', f2'⟩ := hm'.form
 have HB := Lib.hid (below_trans (below_alloc w (.cells (cpe x (.slice a x.svs.length c)) 38)) (below_alloc _ (.cells (cpe y (.slice a' y.svs.length c')) 38)))
 have HX := Lib.hid (keepB (alloc_new w (cpe x (.slice a x.svs.length c)) 38) (below_alloc _ (.cells (cpe y (.slice a' y.svs.length c')) 38)))
 have HY := Lib.hid (alloc_new (w.alloc (.cells (cpe x (.slice a x.svs.length c)) 38)) (cpe y (.slice a' y.svs.length c')) 38)
 rw [show (w.alloc (.cells (cpe x (.slice a x.svs.length c)) 38)).heap.size = w.heap.size + 1 by simp] at HY
 have HF := Lib.hid (hm.grw HB.out)
 have HF' := Lib.hid (hm'.grw HB.out)
 clear hm hm'
 have e_id := mk_ne x.id y.id
 have e_st : (x.st == y.st) = decide (x.st = y.st) := by rw [Bool.eq_iff_iff]; simp
 have n_st : (x.st != y.st) = !decide (x.st = y.st) := by rw [Bool.eq_iff_iff]; simp
 have e_bi : (x.bi == y.bi) = decide (x.bi = y.bi) := by rw [Bool.eq_iff_iff]; simp
 have n_bi : (x.bi != y.bi) = !decide (x.bi = y.bi) := by rw [Bool.eq_iff_iff]; simp
 have e_paid : (x.paid == y.paid) = decide (x.paid = y.paid) := by rw [Bool.eq_iff_iff]; simp
 have n_paid : (x.paid != y.paid) = !decide (x.paid = y.paid) := by rw [Bool.eq_iff_iff]; simp
 have e_mem : (x.mem == y.mem) = decide (x.mem = y.mem) := by rw [Bool.eq_iff_iff]; simp
 have n_mem : (x.mem != y.mem) = !decide (x.mem = y.mem) := by rw [Bool.eq_iff_iff]; simp
 cases h_id : decide (x.id = y.id)
 ·rw [h_id] at e_id
  rw [cp_ne x y (by simp [h_id])]
  clear e_st e_bi e_paid e_mem n_st n_bi n_paid n_mem HF HF' h_id
  go_enter Try.func30, Try.ntmps30
  go_upto_region 1 with fail
  generalize ((w.alloc (.cells (cpe x (.slice a x.svs.length c)) 38)).alloc (.cells (cpe y (.slice a' y.svs.length c')) 38)) = W at *
  generalize hp : w.heap.size = p at *
  obtain ⟨x0, x1, x2, x3, x4, x5⟩ := six HX.out
  obtain ⟨y0, y1, y2, y3, y4, y5⟩ := six HY.out
  go_wp2
  go_ret
  exact ⟨rfl, by first | exact HB.out | (rw [hp]; exact HB.out)⟩
 rw [h_id] at e_id
 cases h_st : decide (x.st = y.st)
 ·rw [h_st] at e_st n_st
  rw [cp_ne x y (by simp [h_st])]
  clear e_bi e_paid e_mem n_bi n_paid n_mem HF HF' h_id h_st
  go_enter Try.func30, Try.ntmps30
  go_upto_region 1 with fail
  generalize ((w.alloc (.cells (cpe x (.slice a x.svs.length c)) 38)).alloc (.cells (cpe y (.slice a' y.svs.length c')) 38)) = W at *
  generalize hp : w.heap.size = p at *
  obtain ⟨x0, x1, x2, x3, x4, x5⟩ := six HX.out
  obtain ⟨y0, y1, y2, y3, y4, y5⟩ := six HY.out
  go_wp2
  go_ret
  exact ⟨rfl, by first | exact HB.out | (rw [hp]; exact HB.out)⟩
 rw [h_st] at e_st n_st
 cases h_bi : decide (x.bi = y.bi)
 ·rw [h_bi] at e_bi n_bi
  rw [cp_ne x y (by simp [h_bi])]
  clear e_paid e_mem n_paid n_mem HF HF' h_id h_st h_bi
  go_enter Try.func30, Try.ntmps30
  go_upto_region 1 with fail
  generalize ((w.alloc (.cells (cpe x (.slice a x.svs.length c)) 38)).alloc (.cells (cpe y (.slice a' y.svs.length c')) 38)) = W at *
  generalize hp : w.heap.size = p at *
  obtain ⟨x0, x1, x2, x3, x4, x5⟩ := six HX.out
  obtain ⟨y0, y1, y2, y3, y4, y5⟩ := six HY.out
  go_wp2
  go_ret
  exact ⟨rfl, by first | exact HB.out | (rw [hp]; exact HB.out)⟩
 rw [h_bi] at e_bi n_bi
 cases h_paid : decide (x.paid = y.paid)
 ·rw [h_paid] at e_paid n_paid
  rw [cp_ne x y (by simp [h_paid])]
  clear e_mem n_mem HF HF' h_id h_st h_bi h_paid
  go_enter Try.func30, Try.ntmps30
  go_upto_region 1 with fail
  generalize ((w.alloc (.cells (cpe x (.slice a x.svs.length c)) 38)).alloc (.cells (cpe y (.slice a' y.svs.length c')) 38)) = W at *
  generalize hp : w.heap.size = p at *
  obtain ⟨x0, x1, x2, x3, x4, x5⟩ := six HX.out
  obtain ⟨y0, y1, y2, y3, y4, y5⟩ := six HY.out
  go_wp2
  go_ret
  exact ⟨rfl, by first | exact HB.out | (rw [hp]; exact HB.out)⟩
 rw [h_paid] at e_paid n_paid
 cases h_mem : decide (x.mem = y.mem)
 ·rw [h_mem] at e_mem n_mem
  rw [cp_ne x y (by simp [h_mem])]
  clear   HF HF' h_id h_st h_bi h_paid h_mem
  go_enter Try.func30, Try.ntmps30
  go_upto_region 1 with fail
  generalize ((w.alloc (.cells (cpe x (.slice a x.svs.length c)) 38)).alloc (.cells (cpe y (.slice a' y.svs.length c')) 38)) = W at *
  generalize hp : w.heap.size = p at *
  obtain ⟨x0, x1, x2, x3, x4, x5⟩ := six HX.out
  obtain ⟨y0, y1, y2, y3, y4, y5⟩ := six HY.out
  go_wp2
  go_ret
  exact ⟨rfl, by first | exact HB.out | (rw [hp]; exact HB.out)⟩
 rw [h_mem] at e_mem n_mem
 by_cases hl : x.svs.length = y.svs.length
 case neg =>
  have hlb : ((x.svs.length : Int) != (y.svs.length : Int)) = true := by simp; omega
  rw [cp_ne x y (by simp [lens_ne _ _ hl])]
  clear   HF HF' h_id h_st h_bi h_paid h_mem hl
  go_enter Try.func30, Try.ntmps30
  go_upto_region 1 with fail
  generalize ((w.alloc (.cells (cpe x (.slice a x.svs.length c)) 38)).alloc (.cells (cpe y (.slice a' y.svs.length c')) 38)) = W at *
  generalize hp : w.heap.size = p at *
  obtain ⟨x0, x1, x2, x3, x4, x5⟩ := six HX.out
  obtain ⟨y0, y1, y2, y3, y4, y5⟩ := six HY.out
  go_wp2
  go_ret
  exact ⟨rfl, by first | exact HB.out | (rw [hp]; exact HB.out)⟩
 have hlb : ((x.svs.length : Int) != (y.svs.length : Int)) = false := by rw [hl]; simp
 have HL := Lib.hid hl
 have hl2 : x.svs.length ≤ y.svs.length := by omega
 clear hl
 rw [cp_same x y h_id h_st h_bi h_paid h_mem]
 clear h_id h_st h_bi h_paid h_mem
 go_enter Try.func30, Try.ntmps30
 go_upto_region 1 with fail
 generalize ((w.alloc (.cells (cpe x (.slice a x.svs.length c)) 38)).alloc (.cells (cpe y (.slice a' y.svs.length c')) 38)) = W at *
 generalize hp : w.heap.size = p at *
 obtain ⟨x0, x1, x2, x3, x4, x5⟩ := six HX.out
 obtain ⟨y0, y1, y2, y3, y4, y5⟩ := six HY.out
 go_wp2
 have HPW : Hid (p ≤ W.heap.size) := by have := HB.out.size; rw [hp] at this; exact this
 go_loopg [5] (x.svs.length) (fun gg i wr => ∃ k : Nat, k ≤ x.svs.length ∧ gg = x.svs.length - k ∧ i = .int .i64 k ∧ Hid (x.svs.take k = y.svs.take k) ∧ Hid (Below W.heap.size W wr))
 case atStart => exact ⟨0, Nat.zero_le _, rfl, rfl, rfl, Below.refl _ _⟩
 case round =>
  obtain ⟨k, hk, hg, rfl, HA, HBn⟩ := hrel
  have HBw : Hid (Below p w wr) := HB.out.trans (HBn.out.mono HPW.out)
  obtain ⟨x0, x1, x2, x3, x4, x5⟩ := six (keepB HX.out HBn.out)
  obtain ⟨y0, y1, y2, y3, y4, y5⟩ := six (keepB HY.out HBn.out)
  by_cases hlt : k < x.svs.length
  ·have hltz : (k : Int) < (x.svs.length : Int) := by omega
   have hlt' : k < y.svs.length := by omega
   obtain ⟨b, o, mx, rfl, -, hbl, hx, hcx, hkx⟩ := SvsAt.get (HF.out.grw HBn.out) k hlt
   obtain ⟨b', o', my, rfl, -, hbl', hy, hcy, hky⟩ := SvsAt.get (HF'.out.grw HBn.out) k hlt'
   have HQ := Lib.hid (takes_eq x.svs y.svs k _ _ hx hy HA.out)
   have HN := Lib.hid (takes_ne x.svs y.svs k _ _ hx hy)
   have hi1 : k < x.svs.length := hlt
   have hi2 : k < y.svs.length := hlt'
   generalize x.svs[k] = s at *
   generalize y.svs[k] = t at *
   obtain ⟨ax, cs, rfl, u1, u2⟩ := hkx.form
   obtain ⟨at', ct, rfl, u3, u4⟩ := hky.form
   clear hx hy
   obtain ⟨wo, rfl⟩ : ∃ z, z = wr := ⟨_, rfl⟩
   obtain ⟨s0, s1, s2, s3⟩ := id hcx
   obtain ⟨t0, t1, t2, t3⟩ := id hcy
   have hcy2 : SrCells (wo.alloc (.cells (sre s (.slice ax s.cas.length cs)) Ts)) b' (o' + k * 4) t (.slice at' t.cas.length ct) := hcy.of ((below_alloc wo _).block b' hbl')
   obtain ⟨t0', t1', t2', t3'⟩ := hcy2
   obtain ⟨y0', y1', y2', y3', y4', y5'⟩ := six (keepB (keepB HY.out HBn.out) (below_alloc wo (.cells (sre s (.slice ax s.cas.length cs)) Ts)))
   have HBW2 : Hid (Below wo.heap.size wo ((wo.alloc (.cells (sre s (.slice ax s.cas.length cs)) Ts)).alloc (.cells (sre t (.slice at' t.cas.length ct)) Ts))) := below_trans (below_alloc wo _) (below_alloc _ _)
   have HXa := Lib.hid (keepB (alloc_new wo (sre s (.slice ax s.cas.length cs)) Ts) (below_alloc _ (.cells (sre t (.slice at' t.cas.length ct)) Ts)))
   have HXb := Lib.hid (alloc_new (wo.alloc (.cells (sre s (.slice ax s.cas.length cs)) Ts)) (sre t (.slice at' t.cas.length ct)) Ts)
   rw [show (wo.alloc (.cells (sre s (.slice ax s.cas.length cs)) Ts)).heap.size = wo.heap.size + 1 by simp] at HXb
   have HKX := Lib.hid (hkx.grw HBW2.out)
   have HKY := Lib.hid (hky.grw HBW2.out)
   have HQW : Hid (W.heap.size ≤ wo.heap.size) := HBn.out.size
   have HB2 : Hid (Below W.heap.size W ((wo.alloc (.cells (sre s (.slice ax s.cas.length cs)) Ts)).alloc (.cells (sre t (.slice at' t.cas.length ct)) Ts))) := HBn.out.trans (HBW2.out.mono HBn.out.size)
   have HB2w : Hid (Below p w ((wo.alloc (.cells (sre s (.slice ax s.cas.length cs)) Ts)).alloc (.cells (sre t (.slice at' t.cas.length ct)) Ts))) := HBw.out.trans (HBW2.out.mono (Nat.le_trans HPW.out HBn.out.size))
   have HXO := Lib.hid fun W' (hW : Below ((wo.alloc (.cells (sre s (.slice ax s.cas.length cs)) Ts)).alloc (.cells (sre t (.slice at' t.cas.length ct)) Ts)).heap.size ((wo.alloc (.cells (sre s (.slice ax s.cas.length cs)) Ts)).alloc (.cells (sre t (.slice at' t.cas.length ct)) Ts)) W') => (⟨six (keepB (keepB (keepB HX.out HBn.out) HBW2.out) hW), six (keepB (keepB (keepB HY.out HBn.out) HBW2.out) hW)⟩ : (W'.cell? ⟨p, 0, none⟩ = some (.string (mk x.id)) ∧ W'.cell? ⟨p, 1, none⟩ = some (.int .i64 x.st) ∧ W'.cell? ⟨p, 2, none⟩ = some (.int .i64 x.bi) ∧ W'.cell? ⟨p, 3, none⟩ = some (.int .i64 x.paid) ∧ W'.cell? ⟨p, 4, none⟩ = some (.int .i64 x.mem) ∧ W'.cell? ⟨p, 5, none⟩ = some (.slice (some ⟨b, o, none⟩) x.svs.length c)) ∧ (W'.cell? ⟨p + 1, 0, none⟩ = some (.string (mk y.id)) ∧ W'.cell? ⟨p + 1, 1, none⟩ = some (.int .i64 y.st) ∧ W'.cell? ⟨p + 1, 2, none⟩ = some (.int .i64 y.bi) ∧ W'.cell? ⟨p + 1, 3, none⟩ = some (.int .i64 y.paid) ∧ W'.cell? ⟨p + 1, 4, none⟩ = some (.int .i64 y.mem) ∧ W'.cell? ⟨p + 1, 5, none⟩ = some (.slice (some ⟨b', o', none⟩) y.svs.length c')))
   have HPS : Hid (p ≤ ((wo.alloc (.cells (sre s (.slice ax s.cas.length cs)) Ts)).alloc (.cells (sre t (.slice at' t.cas.length ct)) Ts)).heap.size) := Nat.le_trans HPW.out (HB2.out.size)
   clear hcx hcy hkx hky hbl hbl'
   go_upto_region 8 with fail
   generalize ((wo.alloc (.cells (sre s (.slice ax s.cas.length cs)) Ts)).alloc (.cells (sre t (.slice at' t.cas.length ct)) Ts)) = W2 at *
   generalize wo.heap.size = q at *
   clear x0 x1 x2 x3 x4 x5 y0 y1 y2 y3 y4 y5 y0' y1' y2' y3' y4' y5' s0 s1 s2 s3 t0 t1 t2 t3 t0' t1' t2' t3'
   obtain ⟨s0, s1, s2, s3⟩ := four HXa.out
   obtain ⟨t0, t1, t2, t3⟩ := four HXb.out
   have e_proc := mk_ne s.proc t.proc
   have e_bi : (s.bi == t.bi) = decide (s.bi = t.bi) := by rw [Bool.eq_iff_iff]; simp
   have n_bi : (s.bi != t.bi) = !decide (s.bi = t.bi) := by rw [Bool.eq_iff_iff]; simp
   have e_paid : (s.paid == t.paid) = decide (s.paid = t.paid) := by rw [Bool.eq_iff_iff]; simp
   have n_paid : (s.paid != t.paid) = !decide (s.paid = t.paid) := by rw [Bool.eq_iff_iff]; simp
   cases h_proc : decide (s.proc = t.proc)
   ·rw [h_proc] at e_proc
    have HE2 := Lib.hid (HN.out (of_decide_eq_false (sr_ne s t (by simp [h_proc]))))
    clear HQ HN e_bi e_paid n_bi n_paid h_proc
    go_wp2
    go_ret
    exact ⟨by rw [HE2.out]; rfl, by first | exact HB2w.out | (rw [hp]; exact HB2w.out)⟩
   rw [h_proc] at e_proc
   cases h_bi : decide (s.bi = t.bi)
   ·rw [h_bi] at e_bi n_bi
    have HE2 := Lib.hid (HN.out (of_decide_eq_false (sr_ne s t (by simp [h_bi]))))
    clear HQ HN e_paid n_paid h_proc h_bi
    go_wp2
    go_ret
    exact ⟨by rw [HE2.out]; rfl, by first | exact HB2w.out | (rw [hp]; exact HB2w.out)⟩
   rw [h_bi] at e_bi n_bi
   cases h_paid : decide (s.paid = t.paid)
   ·rw [h_paid] at e_paid n_paid
    have HE2 := Lib.hid (HN.out (of_decide_eq_false (sr_ne s t (by simp [h_paid]))))
    clear HQ HN   h_proc h_bi h_paid
    go_wp2
    go_ret
    exact ⟨by rw [HE2.out]; rfl, by first | exact HB2w.out | (rw [hp]; exact HB2w.out)⟩
   rw [h_paid] at e_paid n_paid
   by_cases hlc : s.cas.length = t.cas.length
   case neg =>
    have hlb2 : ((s.cas.length : Int) != (t.cas.length : Int)) = true := by simp; omega
    have hnl := lens_ne s.cas t.cas hlc
    have HE2 := Lib.hid (HN.out (of_decide_eq_false (sr_ne s t (by simp [hnl]))))
    clear HQ HN hlc hnl h_proc h_bi h_paid
    go_wp2
    go_ret
    exact ⟨by rw [HE2.out]; rfl, by first | exact HB2w.out | (rw [hp]; exact HB2w.out)⟩
   have hlb2 : ((s.cas.length : Int) != (t.cas.length : Int)) = false := by rw [hlc]; simp
   have HSS := Lib.hid (sr_same s t h_proc h_bi h_paid)
   have HLC := Lib.hid hlc
   have hlc2 : s.cas.length ≤ t.cas.length := by omega
   clear hlc h_proc h_bi h_paid
   go_wp2
   go_loopg [8] (s.cas.length) (fun gg i wr => ∃ j : Nat, j ≤ s.cas.length ∧ gg = s.cas.length - j ∧ i = .int .i64 j ∧ Hid (s.cas.take j = t.cas.take j) ∧ Hid (Below W2.heap.size W2 wr))
   case atStart => exact ⟨0, Nat.zero_le _, rfl, rfl, rfl, Below.refl _ _⟩
   case round =>
    obtain ⟨j, hj, hgj, rfl, HAj, HBj⟩ := hrel
    obtain ⟨s0, s1, s2, s3⟩ := four (keepB HXa.out HBj.out)
    obtain ⟨t0, t1, t2, t3⟩ := four (keepB HXb.out HBj.out)
    by_cases hlj : j < s.cas.length
    ·have hljz : (j : Int) < (s.cas.length : Int) := by omega
     have hlj' : j < t.cas.length := by omega
     obtain ⟨bc, oc, rfl, -, -, hcx, hc⟩ := CasAt.get (HKX.out.grw HBj.out) j hlj
     obtain ⟨bd, od, rfl, -, -, hcy, hd⟩ := CasAt.get (HKY.out.grw HBj.out) j hlj'
     have HQj := Lib.hid (takes_eq s.cas t.cas j _ _ hcx hcy HAj.out)
     have HNj := Lib.hid (takes_ne s.cas t.cas j _ _ hcx hcy)
     have hi3 : j < s.cas.length := hlj
     have hi4 : j < t.cas.length := hlj'
     generalize s.cas[j] = u at *
     generalize t.cas[j] = v at *
     obtain ⟨c0, c1, c2⟩ := hc
     obtain ⟨d0, d1, d2⟩ := hd
     clear hcx hcy
     have hne := neq_cas u v
     by_cases he : u = v
     ·have HE2 := Lib.hid (HQj.out he)
      rw [decide_eq_true he, Bool.not_true] at hne
      clear he HNj HQj
      go_wp2_with fail
      go_quiet (fail)
      have HBW : Hid (Below W2.heap.size W2 (wr.drewN nq)) := HBj.out.trans ⟨rfl, rfl, rfl, Nat.le_refl _, fun _ _ => rfl⟩
      go_wp2
      go_roundg (s.cas.length - (j + 1))
      case measure => omega
      case rel => exact ⟨j + 1, by omega, rfl, by go_num, HE2.out, HBW.out⟩
     ·have HE2 := Lib.hid (HN.out (of_decide_eq_false (by rw [HSS.out]; exact HNj.out he)))
      rw [decide_eq_false he, Bool.not_false] at hne
      clear he HNj HQj
      go_wp2_with fail
      go_quiet (fail)
      have HBW : Hid (Below W2.heap.size W2 (wr.drewN nq)) := HBj.out.trans ⟨rfl, rfl, rfl, Nat.le_refl _, fun _ _ => rfl⟩
      have HBF : Hid (Below p w (wr.drewN nq)) := HB2w.out.trans (HBW.out.mono (HPS.out))
      go_wp2
      go_ret
      exact ⟨by rw [HE2.out]; rfl, by first | exact HBF.out | (rw [hp]; exact HBF.out)⟩
    ·have hljz : ¬ (j : Int) < (s.cas.length : Int) := by omega
     have HE2 := Lib.hid (HQ.out (of_decide_eq_true (by rw [HSS.out]; exact takes_all s.cas t.cas j (by omega) HLC.out HAj.out)))
     have HB3 : Hid (Below W.heap.size W wr) := HB2.out.trans (HBj.out.mono HB2.out.size)
     obtain ⟨⟨x0, x1, x2, x3, x4, x5⟩, ⟨y0, y1, y2, y3, y4, y5⟩⟩ := HXO.out wr HBj.out
     go_wp2
     go_roundg (x.svs.length - (k + 1))
     case measure => omega
     case rel => exact ⟨k + 1, by omega, rfl, by go_num, HE2.out, HB3.out⟩
  ·have hltz : ¬ (k : Int) < (x.svs.length : Int) := by omega
   have HE2 := Lib.hid (takes_all x.svs y.svs k (by omega) HL.out HA.out)
   go_wp2
   go_ret
   exact ⟨by rw [HE2.out]; rfl, by first | exact HBw.out | (rw [hp]; exact HBw.out)⟩
end Go.Proofs.Ytpfpjbeofogbgaa.Sv
end
section
namespace Go.Proofs.Ytpfpjbeofogbgaa.Sh
open Go.RowKit
theorem keepB {w w' : World} {q : Nat} {o : Obj} (h : w.heap[q]? = some o) (hb : Below w.heap.size w w') : w'.heap[q]? = some o := by
 rw [hb.block q (Array.getElem?_eq_some_iff.1 h).1]; exact h
theorem below_alloc (w : World) (o : Obj) : Below w.heap.size w (w.alloc o) := (Below.refl _ w).alloc (Nat.le_refl _) o
theorem below_trans {a b c : World} (h : Below a.heap.size a b) (k : Below b.heap.size b c) : Below a.heap.size a c := h.trans (k.mono h.size)
theorem alloc_new (w : World) (cs : Array Value) (t : TypeId) : (w.alloc (.cells cs t)).heap[w.heap.size]? = some (.cells cs t (0, 0)) := heap_alloc_new w _
def Took (q : Nat) (l : Int) (w w' : World) : Prop :=
 w'.heap.size = w.heap.size ∧ w'.heap[q]? = some (.cells #[.int .i64 l] 2 (0, 0)) ∧ (∀ b, b ≠ q → w'.heap[b]? = w.heap[b]?) ∧ Below q w w'
theorem Took.keep {q : Nat} {l : Int} {w w' : World} (h : Took q l w w') {b : Nat} {o : Obj} (hb : w.heap[b]? = some o) (hne : b ≠ q) : w'.heap[b]? = some o := by
 rw [h.2.2.1 b hne]; exact hb
end Go.Proofs.Ytpfpjbeofogbgaa.Sh
end
section
namespace Go.Proofs.Ytpfpjbeofogbgaa.Ce
open Go.RowKit
end Go.Proofs.Ytpfpjbeofogbgaa.Ce
end
section
set_option maxRecDepth 100000
namespace Go.Proofs.Ytpfpjbeofogbgaa.Sh
open Go.RowKit
theorem heap_set {w : World} {b : Nat} {cs : Array Value} {t : TypeId} (h : w.heap[b]? = some (.cells cs t (0, 0))) (j : Nat) (u : Value) : (w.setCell ⟨b, j, none⟩ u).heap[b]? = some (.cells (cs.setIfInBounds j u) t (0, 0)) := by
 simp [World.setCell, Array.getElem?_modify, h]
theorem heap_far {w : World} {b q j : Nat} {o : Obj} {u : Value} (h : w.heap[b]? = some o) (hne : b ≠ q) : (w.setCell ⟨q, j, none⟩ u).heap[b]? = some o := by
 rw [Below.heap_setCell _ _ _ _ hne]; exact h
theorem eight {w : World} {b : Nat} {c0 c1 c2 c3 c4 c5 c6 c7 : Value} {T : TypeId} (h : w.heap[b]? = some (.cells #[c0, c1, c2, c3, c4, c5, c6, c7] T (0, 0))) : w.cell? ⟨b, 0, none⟩ = some c0 ∧ w.cell? ⟨b, 1, none⟩ = some c1 ∧ w.cell? ⟨b, 2, none⟩ = some c2 ∧ w.cell? ⟨b, 3, none⟩ = some c3 ∧ w.cell? ⟨b, 4, none⟩ = some c4 ∧ w.cell? ⟨b, 5, none⟩ = some c5 ∧ w.cell? ⟨b, 6, none⟩ = some c6 ∧ w.cell? ⟨b, 7, none⟩ = some c7 := by
 refine ⟨?_, ?_, ?_, ?_, ?_, ?_, ?_, ?_⟩ <;> (rw [cell_of_row w b _ _ T (0, 0) h]; rfl)
end Go.Proofs.Ytpfpjbeofogbgaa.Sh
end
