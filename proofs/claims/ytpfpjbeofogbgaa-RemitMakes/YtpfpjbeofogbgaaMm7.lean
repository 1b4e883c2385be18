/-
  Texts put together (merge.py): VRChk, VEq, VSame.
-/
import Derived.Laws.StructEq
import Derived.BigQuiet
import Derived.Test.YtpfpjbeofogbgaaMm6
set_option linter.unusedSimpArgs false
set_option linter.unusedVariables false
section
set_option maxRecDepth 100000
namespace Go.Proofs.Ytpfpjbeofogbgaa.Sv
open Go.RowKit
open Bk (keepB below_alloc below_trans alloc_new)
open Cm (mk_ne codeB)
theorem sumP_bd' : ∀ (l : List Ca), (∀ c ∈ l, Bd c.ct) → -(1125899906842624 * (l.length : Int)) ≤ sumP l ∧ sumP l ≤ 1125899906842624 * (l.length : Int)
 | [], _ => by simp [sumP]
 | c :: l, h => by
  have a := sumP_bd' l fun x hx => h x (List.mem_cons_of_mem _ hx)
  have b := h c (List.mem_cons_self ..)
  unfold Bd at b
  simp only [sumP, List.length_cons]
  split <;> (push_cast; omega)
theorem sumP_bd (l : List Ca) (hl : l.length ≤ 5) (h : ∀ c ∈ l, Bd c.ct) : -5629499534213120 ≤ sumP l ∧ sumP l ≤ 5629499534213120 := by
 have := sumP_bd' l h
 omega
set_option maxHeartbeats 8000000 in
theorem rcheck_any (x : Cp) (m : Value) (w : World) (hm : SvsAt All w m x.svs) (hz : CpOk x) :
  Calls Try.prog 32 #[cpv x m] w fun e w' => e = .returned (.int .i64 (checkE x)) ∧ Below w.heap.size w w' := by
 obtain ⟨z0, z1, z2, z3, z4, z5, z6⟩ := hz
 obtain ⟨a, cap, rfl, f1, f2⟩ := hm.form
 have HB := Lib.hid (below_alloc w (.cells (cpe x (.slice a x.svs.length cap)) 38))
 have HX := Lib.hid (alloc_new w (cpe x (.slice a x.svs.length cap)) 38)
 have HM : Hid (∀ w', Below w.heap.size w w' → SvsAt All w' (.slice a x.svs.length cap) x.svs) := fun w' hb => hm.grw hb
 have HC := Lib.hid fun w => Cm.rcode_any x.id 1 12 w (by omega)
 clear hm z0 z1 z2 z3 z4
 cases hc : codeB x.id 1 12 with
 | false =>
  rw [show checkE x = 9 from if_neg (by simp [hc])]
  rw [hc] at HC
  go_enter Try.func32, Try.ntmps32
  go_upto_region 1 with fail
  generalize w.alloc (.cells (cpe x (.slice a x.svs.length cap)) 38) = W at *
  generalize hp : w.heap.size = p at *
  have HPW : Hid (p ≤ W.heap.size) := by have := HB.out.size; rw [hp] at this; exact this
  obtain ⟨x0, x1, x2, x3, x4, x5⟩ := six HX.out
  go_wp2_with (first | (go_at_call 45; refine (HC.out _).mono ?_; rintro e w' ⟨rfl, hw⟩; rw [hw]; clear hw w'))
  go_ret
  exact ⟨rfl, by first | exact HB.out | (rw [hp]; exact HB.out)⟩
 | true =>
 rw [hc] at HC
 by_cases hs : x.st = 1 ∨ x.st = 22
 case neg =>
  rw [show checkE x = 9 from if_neg (fun h => hs h.2)]
  have n1 : (x.st != 1) = true := by simp; omega
  have n2 : (x.st != 22) = true := by simp; omega
  clear hs
  go_enter Try.func32, Try.ntmps32
  go_upto_region 1 with fail
  generalize w.alloc (.cells (cpe x (.slice a x.svs.length cap)) 38) = W at *
  generalize hp : w.heap.size = p at *
  have HPW : Hid (p ≤ W.heap.size) := by have := HB.out.size; rw [hp] at this; exact this
  obtain ⟨x0, x1, x2, x3, x4, x5⟩ := six HX.out
  go_wp2_with (first | (go_at_call 45; refine (HC.out _).mono ?_; rintro e w' ⟨rfl, hw⟩; rw [hw]; clear hw w'))
  go_ret
  exact ⟨rfl, by first | exact HB.out | (rw [hp]; exact HB.out)⟩
 by_cases hn : 1 ≤ x.svs.length ∧ x.svs.length ≤ 999
 case neg =>
  rw [show checkE x = 6 by unfold checkE; rw [if_pos ⟨hc, hs⟩, if_neg hn]]
  have HS1 : Hid (((x.st != 1) = true ∧ (x.st != 22) = false) ∨ (x.st != 1) = false) := by rcases hs with h | h <;> rw [h] <;> simp [Hid]
  by_cases hn1 : (x.svs.length : Int) < 1
  ·clear hs hn
   rcases HS1.out with ⟨n1, n2⟩ | n1 <;>
   ·clear HS1
    go_enter Try.func32, Try.ntmps32
    go_upto_region 1 with fail
    generalize w.alloc (.cells (cpe x (.slice a x.svs.length cap)) 38) = W at *
    generalize hp : w.heap.size = p at *
    have HPW : Hid (p ≤ W.heap.size) := by have := HB.out.size; rw [hp] at this; exact this
    obtain ⟨x0, x1, x2, x3, x4, x5⟩ := six HX.out
    go_wp2_with (first | (go_at_call 45; refine (HC.out _).mono ?_; rintro e w' ⟨rfl, hw⟩; rw [hw]; clear hw w'))
    go_ret
    exact ⟨rfl, by first | exact HB.out | (rw [hp]; exact HB.out)⟩
  ·have hn2 : (999 : Int) < (x.svs.length : Int) := by omega
   clear hs hn
   rcases HS1.out with ⟨n1, n2⟩ | n1 <;>
   ·clear HS1
    go_enter Try.func32, Try.ntmps32
    go_upto_region 1 with fail
    generalize w.alloc (.cells (cpe x (.slice a x.svs.length cap)) 38) = W at *
    generalize hp : w.heap.size = p at *
    have HPW : Hid (p ≤ W.heap.size) := by have := HB.out.size; rw [hp] at this; exact this
    obtain ⟨x0, x1, x2, x3, x4, x5⟩ := six HX.out
    go_wp2_with (first | (go_at_call 45; refine (HC.out _).mono ?_; rintro e w' ⟨rfl, hw⟩; rw [hw]; clear hw w'))
    go_ret
    exact ⟨rfl, by first | exact HB.out | (rw [hp]; exact HB.out)⟩
 have HR : Hid (checkE x = (if svcsE x.st x.svs = 0 then (if x.bi = totB x.svs ∧ x.paid = totP x.svs ∧ x.mem = totM x.svs ∧ okM x.st (totB x.svs) = true then 0 else 17) else svcsE x.st x.svs)) := by
  show _ = _; unfold checkE; rw [if_pos ⟨hc, hs⟩, if_pos hn]
 have HK : Hid (∀ s ∈ x.svs, ∀ m w, CasAt All w m s.cas → Calls Try.prog 46 #[.int .i64 x.st, srv s m] w fun e w' => e = .returned (.tuple #[.int .i64 (svcM x.st s), .int .i64 (svcE x.st s)]) ∧ Below w.heap.size w w') := fun s hs' m w hc => rsvc_any s m x.st w hc (z6 s hs')
 have HG := Lib.hid fun n w => rgood_any n x.st w
 have HS1 : Hid (((x.st != 1) = true ∧ (x.st != 22) = false) ∨ (x.st != 1) = false) := by rcases hs with h | h <;> rw [h] <;> simp [Hid]
 have hn1 : ¬ (x.svs.length : Int) < 1 := by omega
 have hn2 : ¬ (999 : Int) < (x.svs.length : Int) := by omega
 have hn3 := hn.2
 clear z6 hs hc hn
 generalize checkE x = R at *
 obtain ⟨E, hE⟩ : ∃ E, svcsE x.st x.svs = E := ⟨_, rfl⟩
 obtain ⟨TB, hTB⟩ : ∃ E, totB x.svs = E := ⟨_, rfl⟩
 obtain ⟨TP, hTP⟩ : ∃ E, totP x.svs = E := ⟨_, rfl⟩
 obtain ⟨TM, hTM⟩ : ∃ E, totM x.svs = E := ⟨_, rfl⟩
 rw [hE, hTB, hTP, hTM] at HR
 have HE0 := Lib.hid hE
 have HT0 : Hid (0 + totB (x.svs.drop 0) = TB ∧ 0 + totP (x.svs.drop 0) = TP ∧ 0 + totM (x.svs.drop 0) = TM) := by
  show _ ∧ _
  rw [List.drop_zero, hTB, hTP, hTM]; omega
 clear hE hTB hTP hTM
 rcases HS1.out with ⟨s1, s2⟩ | s1
 iterate 2
  ·go_enter Try.func32, Try.ntmps32
   go_upto_region 1 with fail
   generalize w.alloc (.cells (cpe x (.slice a x.svs.length cap)) 38) = W at *
   generalize hp : w.heap.size = p at *
   have HPW : Hid (p ≤ W.heap.size) := by have := HB.out.size; rw [hp] at this; exact this
   obtain ⟨x0, x1, x2, x3, x4, x5⟩ := six HX.out
   go_wp2_with (first | (go_at_call 45; refine (HC.out _).mono ?_; rintro e w' ⟨rfl, hw⟩; rw [hw]; clear hw w'))
   clear HS1
   go_loopg [3, 4, 5, 6] (x.svs.length) (fun gg t3 t4 t5 t6 wr => ∃ (k : Nat) (B Pd Mb : Int), k ≤ x.svs.length ∧ gg = x.svs.length - k ∧ t3 = .int .i64 B ∧ t4 = .int .i64 Pd ∧ t5 = .int .i64 Mb ∧ t6 = .int .i64 k ∧ (-1125899906842624 * k ≤ B ∧ B ≤ 1125899906842624 * k) ∧ (-1125899906842624 * k ≤ Pd ∧ Pd ≤ 1125899906842624 * k) ∧ (-5629499534213120 * k ≤ Mb ∧ Mb ≤ 5629499534213120 * k) ∧ Hid (B + totB (x.svs.drop k) = TB ∧ Pd + totP (x.svs.drop k) = TP ∧ Mb + totM (x.svs.drop k) = TM) ∧ Hid (svcsE x.st (x.svs.drop k) = E) ∧ Hid (Below W.heap.size W wr))
   case atStart => exact ⟨0, 0, 0, 0, Nat.zero_le _, rfl, rfl, rfl, rfl, rfl, by omega, by omega, by omega, HT0.out, HE0.out, Below.refl _ _⟩
   case round =>
    obtain ⟨k, B, Pd, Mb, hk, hg, rfl, rfl, rfl, rfl, ⟨hB1, hB2⟩, ⟨hP1, hP2⟩, ⟨hM1, hM2⟩, HT, HE1, HBn⟩ := hrel
    have HBw : Hid (Below p w wr) := HB.out.trans (HBn.out.mono HPW.out)
    obtain ⟨x0, x1, x2, x3, x4, x5⟩ := six (keepB HX.out HBn.out)
    by_cases hlt : k < x.svs.length
    ·have hltz : (k : Int) < (x.svs.length : Int) := by omega
     obtain ⟨b, o, mc, rfl, -, hbl, hx, hcell, hcas⟩ := SvsAt.get (HM.out _ HBw.out) k hlt
     have HKj := Lib.hid (HK.out _ (List.mem_of_getElem? hx))
     have HST := Lib.hid fun h => svcs_step hx HE1.out h
     have HBD := Lib.hid fun h => svcs_bad hx HE1.out h
     have HTS := Lib.hid (tot_step hx HT.out.1 HT.out.2.1 HT.out.2.2)
     have hi1 : k < x.svs.length := hlt
     generalize x.svs[k] = y at *
     obtain ⟨ac, kc, rfl, g1, g2⟩ := hcas.form
     have HCA : Hid (∀ w1, Below wr.heap.size wr w1 → CasAt All w1 (.slice ac y.cas.length kc) y.cas) := fun w1 hb => hcas.grw hb
     have HXK : Hid (∀ W', Below wr.heap.size wr W' → (W'.cell? ⟨p, 0, none⟩ = some (.string (mk x.id)) ∧ W'.cell? ⟨p, 1, none⟩ = some (.int .i64 x.st) ∧ W'.cell? ⟨p, 2, none⟩ = some (.int .i64 x.bi) ∧ W'.cell? ⟨p, 3, none⟩ = some (.int .i64 x.paid) ∧ W'.cell? ⟨p, 4, none⟩ = some (.int .i64 x.mem) ∧ W'.cell? ⟨p, 5, none⟩ = some (.slice (some ⟨b, o, none⟩) x.svs.length cap)) ∧ SrCells W' b (o + k * 4) y (.slice ac y.cas.length kc)) := fun W' hW => ⟨six (keepB (keepB HX.out HBn.out) hW), hcell.of (hW.block b hbl)⟩
     clear hx hcell hcas hbl
     have HD := Lib.hid (Below.drew (Below.refl wr.heap.size wr))
     obtain ⟨wo, rfl⟩ : ∃ z, z = wr := ⟨_, rfl⟩
     go_upto_region 11 with fail
     refine Ri.wp_region_lastingB (by kernel_rfl) (by kernel_rfl) (by kernel_rfl) (fun Wx => Below wo.heap.size wo Wx) (fun kz vs wz => (fun kx vx wx => match kx with | 0 => vx = .pointer (some ⟨p, 1, none⟩) | 1 => vx = .int .i64 x.st | 2 => vx = .pointer (some ⟨p, 5, none⟩) | 3 => vx = .slice (some ⟨b, o, none⟩) x.svs.length cap | 4 => vx = .int .i64 (k : Nat) | 5 => vx = .pointer (some ⟨b, o + k * 4, none⟩) | 6 => vx = srv y (.slice ac y.cas.length kc) | 7 => vx = .tuple #[.int .i64 (svcM x.st y), .int .i64 (svcE x.st y)] | 8 => vx = .tuple #[.int .i64 (svcM x.st y), .int .i64 (svcE x.st y)] | 9 => vx = .int .i64 (svcM x.st y) | 10 => vx = .int .i64 (svcE x.st y) | 11 => vx = .int .i64 (svcM x.st y) | 12 => vx = .int .i64 (svcE x.st y) | _ => True : Nat → Value → World → Prop) kz (vs kz) wz) (fun kz => [kz]) (by kernel_rfl) (fun jz vs iz vz wz hiz hz => Ri.loc_own (F := (fun kx vx wx => match kx with | 0 => vx = .pointer (some ⟨p, 1, none⟩) | 1 => vx = .int .i64 x.st | 2 => vx = .pointer (some ⟨p, 5, none⟩) | 3 => vx = .slice (some ⟨b, o, none⟩) x.svs.length cap | 4 => vx = .int .i64 (k : Nat) | 5 => vx = .pointer (some ⟨b, o + k * 4, none⟩) | 6 => vx = srv y (.slice ac y.cas.length kc) | 7 => vx = .tuple #[.int .i64 (svcM x.st y), .int .i64 (svcE x.st y)] | 8 => vx = .tuple #[.int .i64 (svcM x.st y), .int .i64 (svcE x.st y)] | 9 => vx = .int .i64 (svcM x.st y) | 10 => vx = .int .i64 (svcE x.st y) | 11 => vx = .int .i64 (svcM x.st y) | 12 => vx = .int .i64 (svcE x.st y) | _ => True : Nat → Value → World → Prop)) jz vs iz vz wz hiz hz) HD.out ⟨⟨rfl, ?_⟩, ⟨rfl, ?_⟩, ⟨rfl, ?_⟩, ⟨rfl, ?_⟩, ⟨rfl, ?_⟩, ⟨rfl, ?_⟩, ⟨rfl, ?_⟩, ⟨rfl, ?_⟩, ⟨rfl, ?_⟩, ⟨rfl, ?_⟩, ⟨rfl, ?_⟩, ⟨rfl, ?_⟩, ⟨rfl, ?_⟩, trivial⟩ ?_
     ·intro vs Wx A hA hB hpre K hK
      have e1 := (hA 1).trans (show _ = Value.pointer (some ⟨p, 0, none⟩) by kernel_rfl)
      clear hA hpre
      go_simp
      first | exact hK _ _ hB (by trivial) (fun _ _ h => h) | (rw [if_neg (by omega)]; go_simp; exact hK _ _ hB rfl (fun _ _ h => h))
     ·intro vs Wx A hA hB hpre K hK
      have e41 := ((hA 41).trans (show _ = vs 0 by kernel_rfl)).trans (by repeat first | exact hpre.1 rfl | replace hpre := hpre.2)
      obtain ⟨⟨x0, x1, x2, x3, x4, x5⟩, ⟨y0, y1, y2, y3⟩⟩ := HXK.out Wx hB
      clear hA hpre
      go_simp
      first | exact hK _ _ hB (by trivial) (fun _ _ h => h) | (rw [if_neg (by omega)]; go_simp; exact hK _ _ hB rfl (fun _ _ h => h))
     ·intro vs Wx A hA hB hpre K hK
      have e1 := (hA 1).trans (show _ = Value.pointer (some ⟨p, 0, none⟩) by kernel_rfl)
      clear hA hpre
      go_simp
      first | exact hK _ _ hB (by trivial) (fun _ _ h => h) | (rw [if_neg (by omega)]; go_simp; exact hK _ _ hB rfl (fun _ _ h => h))
     ·intro vs Wx A hA hB hpre K hK
      have e43 := ((hA 43).trans (show _ = vs 2 by kernel_rfl)).trans (by repeat first | exact hpre.1 rfl | replace hpre := hpre.2)
      obtain ⟨⟨x0, x1, x2, x3, x4, x5⟩, ⟨y0, y1, y2, y3⟩⟩ := HXK.out Wx hB
      clear hA hpre
      go_simp
      first | exact hK _ _ hB (by trivial) (fun _ _ h => h) | (rw [if_neg (by omega)]; go_simp; exact hK _ _ hB rfl (fun _ _ h => h))
     ·intro vs Wx A hA hB hpre K hK
      have e6 := (hA 6).trans (show _ = Value.int .i64 (k : Nat) by kernel_rfl)
      clear hA hpre
      go_simp
      first | exact hK _ _ hB (by trivial) (fun _ _ h => h) | (rw [if_neg (by omega)]; go_simp; exact hK _ _ hB rfl (fun _ _ h => h))
     ·intro vs Wx A hA hB hpre K hK
      have e44 := ((hA 44).trans (show _ = vs 3 by kernel_rfl)).trans (by repeat first | exact hpre.1 rfl | replace hpre := hpre.2)
      have e45 := ((hA 45).trans (show _ = vs 4 by kernel_rfl)).trans (by repeat first | exact hpre.1 rfl | replace hpre := hpre.2)
      clear hA hpre
      go_simp
      first | exact hK _ _ hB (by trivial) (fun _ _ h => h) | (rw [if_neg (by omega)]; go_simp; exact hK _ _ hB rfl (fun _ _ h => h))
     ·intro vs Wx A hA hB hpre K hK
      have e46 := ((hA 46).trans (show _ = vs 5 by kernel_rfl)).trans (by repeat first | exact hpre.1 rfl | replace hpre := hpre.2)
      obtain ⟨⟨x0, x1, x2, x3, x4, x5⟩, ⟨y0, y1, y2, y3⟩⟩ := HXK.out Wx hB
      clear hA hpre
      go_simp
      first | exact hK _ _ hB (by trivial) (fun _ _ h => h) | (rw [if_neg (by omega)]; go_simp; exact hK _ _ hB rfl (fun _ _ h => h))
     ·intro vs Wx A hA hB hpre K hK
      have e42 := ((hA 42).trans (show _ = vs 1 by kernel_rfl)).trans (by repeat first | exact hpre.1 rfl | replace hpre := hpre.2)
      have e47 := ((hA 47).trans (show _ = vs 6 by kernel_rfl)).trans (by repeat first | exact hpre.1 rfl | replace hpre := hpre.2)
      clear hA hpre
      go_simp
      go_at_call 46
      refine (HKj.out _ Wx (HCA.out Wx hB)).mono ?_
      rintro e w4 ⟨rfl, hg⟩
      exact hK _ _ (below_trans hB hg) rfl (fun _ _ h => h)
     ·intro vs Wx A hA hB hpre K hK
      have e48 := ((hA 48).trans (show _ = vs 7 by kernel_rfl)).trans (by repeat first | exact hpre.1 rfl | replace hpre := hpre.2)
      clear hA hpre
      go_simp
      first | exact hK _ _ hB (by trivial) (fun _ _ h => h) | (rw [if_neg (by omega)]; go_simp; exact hK _ _ hB rfl (fun _ _ h => h))
     iterate 2
      ·intro vs Wx A hA hB hpre K hK
       have e40 := ((hA 40).trans (show _ = vs 8 by kernel_rfl)).trans (by repeat first | exact hpre.1 rfl | replace hpre := hpre.2)
       clear hA hpre
       go_simp
       first | exact hK _ _ hB (by trivial) (fun _ _ h => h) | (rw [if_neg (by omega)]; go_simp; exact hK _ _ hB rfl (fun _ _ h => h))
     ·intro vs Wx A hA hB hpre K hK
      have e49 := ((hA 49).trans (show _ = vs 9 by kernel_rfl)).trans (by repeat first | exact hpre.1 rfl | replace hpre := hpre.2)
      clear hA hpre
      go_simp
      first | exact hK _ _ hB (by trivial) (fun _ _ h => h) | (rw [if_neg (by omega)]; go_simp; exact hK _ _ hB rfl (fun _ _ h => h))
     ·intro vs Wx A hA hB hpre K hK
      have e50 := ((hA 50).trans (show _ = vs 10 by kernel_rfl)).trans (by repeat first | exact hpre.1 rfl | replace hpre := hpre.2)
      clear hA hpre
      go_simp
      first | exact hK _ _ hB (by trivial) (fun _ _ h => h) | (rw [if_neg (by omega)]; go_simp; exact hK _ _ hB rfl (fun _ _ h => h))
     ·intro vs Wx hB hF
      have hL : vs 12 = .int .i64 (svcE x.st y) := hF 12 (by decide)
      have hLm : vs 11 = .int .i64 (svcM x.st y) := hF 11 (by decide)
      have HB3 : Hid (Below W.heap.size W Wx) := HBn.out.trans (hB.mono HBn.out.size)
      have HB4 : Hid (Below p w Wx) := HBw.out.trans (hB.mono (Nat.le_trans HPW.out HBn.out.size))
      obtain ⟨⟨x0, x1, x2, x3, x4, x5⟩, ⟨y0, y1, y2, y3⟩⟩ := HXK.out Wx hB
      clear hF hB HXK HCA HD HKj
      simp only [Ri.puts]
      rw [hL, hLm]
      clear hL hLm
      go_simp
      by_cases he : svcE x.st y = 0
      ·have HE2 := Lib.hid (HST.out he)
       have hMv : svcM x.st y = sumP y.cas := if_pos he
       obtain ⟨⟨z1, z2⟩, ⟨z3, z4⟩, z5, z6⟩ := bdS_of he
       have hsb := sumP_bd y.cas z5 z6
       rw [he, hMv]
       clear he HST HBD hMv z5 z6
       generalize sumP y.cas = sp at *
       go_wp2
       go_roundg (x.svs.length - (k + 1))
       case measure => omega
       case rel => exact ⟨k + 1, B + y.bi, Pd + y.paid, Mb + sp, by omega, rfl, rfl, rfl, rfl, by go_num, by omega, by omega, by omega, HTS.out, HE2.out, HB3.out⟩
      ·have hE2 := HBD.out he
       have hb0 : (svcE x.st y != 0) = true := by simpa using he
       have HRR : Hid (R = svcE x.st y) := by show _ = _; rw [HR.out, if_neg (by omega), hE2]
       clear he HBD HST hE2 HR
       go_wp2
       go_ret
       exact ⟨by rw [HRR.out]; rfl, by first | exact HB4.out | (rw [hp]; exact HB4.out)⟩
    ·have hltz : ¬ (k : Int) < (x.svs.length : Int) := by omega
     have h0 := svcs_end (by omega) HE1.out
     obtain ⟨t1, t2, t3⟩ := tot_end (by omega) HT.out.1 HT.out.2.1 HT.out.2.2
     have HRC : Hid (R = if x.bi = B ∧ x.paid = Pd ∧ x.mem = Mb ∧ okM x.st B = true then 0 else 17) := by show _ = _; rw [HR.out, if_pos h0, t1, t2, t3]
     clear h0 HR HE0 HE1 t1 t2 t3 HT HT0
     by_cases e1 : x.bi = B
     case neg =>
      have HRR : Hid (R = 17) := by show _ = _; rw [HRC.out, if_neg (fun h => e1 h.1)]
      have n1 : (x.bi != B) = true := by simpa using e1
      clear e1
      clear HRC
      go_wp2
      go_ret
      exact ⟨by rw [HRR.out]; rfl, by first | exact HBw.out | (rw [hp]; exact HBw.out)⟩
     by_cases e2 : x.paid = Pd
     case neg =>
      have HRR : Hid (R = 17) := by show _ = _; rw [HRC.out, if_neg (fun h => e2 h.2.1)]
      have n1 : (x.bi != B) = false := by simpa using e1
      have n2 : (x.paid != Pd) = true := by simpa using e2
      clear e1 e2
      clear HRC
      go_wp2
      go_ret
      exact ⟨by rw [HRR.out]; rfl, by first | exact HBw.out | (rw [hp]; exact HBw.out)⟩
     by_cases e3 : x.mem = Mb
     case neg =>
      have HRR : Hid (R = 17) := by show _ = _; rw [HRC.out, if_neg (fun h => e3 h.2.2.1)]
      have n1 : (x.bi != B) = false := by simpa using e1
      have n2 : (x.paid != Pd) = false := by simpa using e2
      have n3 : (x.mem != Mb) = true := by simpa using e3
      clear e1 e2 e3
      clear HRC
      go_wp2
      go_ret
      exact ⟨by rw [HRR.out]; rfl, by first | exact HBw.out | (rw [hp]; exact HBw.out)⟩
     have n1 : (x.bi != B) = false := by simpa using e1
     have n2 : (x.paid != Pd) = false := by simpa using e2
     have n3 : (x.mem != Mb) = false := by simpa using e3
     cases e4 : okM x.st B with
     | false =>
      have HRR : Hid (R = 17) := by show _ = _; rw [HRC.out, if_neg (fun h => by rw [e4] at h; simp at h)]
      clear e1 e2 e3
      clear HRC
      go_wp2_with (first | (go_at_call 47; refine (HG.out _ _).mono ?_; rintro e w2 ⟨rfl, hw⟩; rw [hw]; clear hw w2))
      go_ret
      exact ⟨by rw [HRR.out]; rfl, by first | exact HBw.out | (rw [hp]; exact HBw.out)⟩
     | true =>
      have HRR : Hid (R = 0) := by show _ = _; rw [HRC.out, if_pos ⟨e1, e2, e3, e4⟩]
      clear e1 e2 e3
      clear HRC
      go_wp2_with (first | (go_at_call 47; refine (HG.out _ _).mono ?_; rintro e w2 ⟨rfl, hw⟩; rw [hw]; clear hw w2))
      go_ret
      exact ⟨by rw [HRR.out]; rfl, by first | exact HBw.out | (rw [hp]; exact HBw.out)⟩
end Go.Proofs.Ytpfpjbeofogbgaa.Sv
end
section
set_option maxRecDepth 100000
namespace Go.Proofs.Ytpfpjbeofogbgaa.Sv
open Go.RowKit
open Cm (mk_ne)
open Classical
theorem undK : Try.prog.underlying Tk = some (.struct (Try.prog.fieldsOf Tk)) := by kernel_rfl
theorem fields_map : (Try.prog.fieldsOf Tk).toList.map (fun f => (f.name == "_", f.type, f.offset)) = [(false, 9, 0), (false, 3, 1), (false, 2, 2)] := by kernel_rfl
theorem three_list {l : List Field} (h : l.map (fun f => (f.name == "_", f.type, f.offset)) = [(false, 9, 0), (false, 3, 1), (false, 2, 2)]) : ∃ f g k : Field, l = [f, g, k] ∧ (f.name ≠ "_" ∧ f.type = 9 ∧ f.offset = 0) ∧ (g.name ≠ "_" ∧ g.type = 3 ∧ g.offset = 1) ∧ (k.name ≠ "_" ∧ k.type = 2 ∧ k.offset = 2) := by
 have hl : l.length = 3 := by have := congrArg List.length h; simpa using this
 match l, hl, h with
 | [f, g, k], _, h =>
  simp only [List.map_cons, List.map_nil, List.cons.injEq, Prod.mk.injEq, and_true, beq_eq_false_iff_ne] at h
  exact ⟨f, g, k, rfl, h.1, h.2.1, h.2.2⟩
theorem ca_dec (x y : Ca) : decide (x = y) = (decide (x.grp = y.grp) && (decide (x.why = y.why) && decide (x.ct = y.ct))) := by
 rw [Bool.eq_iff_iff]
 obtain ⟨a, b, c⟩ := x
 obtain ⟨d, e, f⟩ := y
 simp
theorem neq_cas (x y : Ca) (w : World) : (binOp .neq Tk (.agg #[.string (mk x.grp), .int .i64 x.why, .int .i64 x.ct]) (.agg #[.string (mk y.grp), .int .i64 y.why, .int .i64 y.ct])).run Try.prog w = .ok (.bool (!decide (x = y))) w := by
 rw [run_neq_struct, run_equalIn_agg w 9999 Tk _ _ undK (by kernel_rfl)]
 obtain ⟨f, g, k, hl, ⟨f1, f2, f3⟩, ⟨g1, g2, g3⟩, ⟨k1, k2, k3⟩⟩ := three_list fields_map
 rw [hl, ca_dec]
 have e1 := mk_ne x.grp y.grp
 have e2 : (x.why == y.why) = decide (x.why = y.why) := by rw [Bool.eq_iff_iff]; simp
 have e3 : (x.ct == y.ct) = decide (x.ct = y.ct) := by rw [Bool.eq_iff_iff]; simp
 simp only [Op.eqFields, if_pos f1, if_pos g1, if_pos k1, f2, f3, g2, g3, k2, k3]
 cases h1 : decide (x.grp = y.grp) <;> rw [h1] at e1 <;> cases h2 : decide (x.why = y.why) <;> rw [h2] at e2 <;> cases h3 : decide (x.ct = y.ct) <;> rw [h3] at e3 <;> simp [part, go_sem, e1, e2, e3]
end Go.Proofs.Ytpfpjbeofogbgaa.Sv
end
section
set_option maxRecDepth 100000
namespace Go.Proofs.Ytpfpjbeofogbgaa.Sv
open Go.RowKit
open Bk (keepB below_alloc below_trans alloc_new)
open Cm (mk_ne takes_eq takes_ne takes_all lens_ne)
open Classical
set_option maxHeartbeats 2000000 in
theorem equal_any (v v' : Value) (xs ys : List Ca) (w : World) (h : CasAt All w v xs) (h' : CasAt All w v' ys) :
  Calls Try.prog 62 #[v, v'] w fun e w' => e = .returned (.bool (decide (xs = ys))) ∧ Below w.heap.size w w' := by
 obtain ⟨a, c, rfl, f1, f2⟩ := h.form
 obtain ⟨a', c', rfl, f1', f2'⟩ := h'.form
 have HF := Lib.hid h
 have HF' := Lib.hid h'
 clear h h'
 by_cases hl : xs.length = ys.length
 ·have hlb : ((xs.length : Int) != (ys.length : Int)) = false := by rw [hl]; simp
  have HL := Lib.hid hl
  have hl2 : xs.length ≤ ys.length := by omega
  clear hl
  go_enter Try.func62, Try.ntmps62
  go_wp2
  go_loopg [13] (xs.length) (fun g i wr => ∃ (k : Nat), k ≤ xs.length ∧ g = xs.length - k ∧ i = .int .i64 k ∧ Hid (Below w.heap.size w wr) ∧ Hid (xs.take k = ys.take k))
  case atStart => exact ⟨0, Nat.zero_le _, rfl, rfl, Below.refl _ _, rfl⟩
  case round =>
   obtain ⟨k, hk, hg, rfl, HBn, HA⟩ := hrel
   by_cases hlt : k < xs.length
   ·have hltz : (k : Int) < (xs.length : Int) := by omega
    have hlt' : k < ys.length := by omega
    obtain ⟨b, oo, rfl, -, -, hx, hc⟩ := CasAt.get (HF.out.grw HBn.out) k hlt
    obtain ⟨b2, o2, rfl, -, -, hy, hc2⟩ := CasAt.get (HF'.out.grw HBn.out) k hlt'
    have HQ := Lib.hid (takes_eq xs ys k _ _ hx hy HA.out)
    have HN := Lib.hid (takes_ne xs ys k _ _ hx hy)
    have hi1 : k < xs.length := hlt
    have hi2 : k < ys.length := hlt'
    generalize xs[k] = x at *
    generalize ys[k] = y at *
    obtain ⟨x0, x1, x2⟩ := hc
    obtain ⟨y0, y1, y2⟩ := hc2
    clear hx hy
    have hne := neq_cas x y
    by_cases he : x = y
    ·have HE2 := Lib.hid (HQ.out he)
     rw [decide_eq_true he, Bool.not_true] at hne
     clear he HN HQ
     go_wp2_with fail
     go_quiet (fail)
     have HBW : Hid (Below w.heap.size w (wr.drewN nq)) := HBn.out.trans ⟨rfl, rfl, rfl, Nat.le_refl _, fun _ _ => rfl⟩
     go_wp2
     go_roundg (xs.length - (k + 1))
     case measure => omega
     case rel => exact ⟨k + 1, by omega, rfl, by go_num, HBW.out, HE2.out⟩
    ·have HE2 := Lib.hid (HN.out he)
     rw [decide_eq_false he, Bool.not_false] at hne
     clear he HN HQ
     go_wp2_with fail
     go_quiet (fail)
     have HBW : Hid (Below w.heap.size w (wr.drewN nq)) := HBn.out.trans ⟨rfl, rfl, rfl, Nat.le_refl _, fun _ _ => rfl⟩
     go_wp2
     go_ret
     exact ⟨by rw [HE2.out]; rfl, HBW.out⟩
   ·have hltz : ¬ (k : Int) < (xs.length : Int) := by omega
    have HE2 := Lib.hid (takes_all xs ys k (by omega) HL.out HA.out)
    go_wp2
    go_ret
    exact ⟨by rw [HE2.out]; rfl, HBn.out⟩
 ·have hlb : ((xs.length : Int) != (ys.length : Int)) = true := by simp; omega
  rw [lens_ne xs ys hl]
  clear hl
  go_enter Try.func62, Try.ntmps62
  go_wp2
  go_ret
  exact ⟨rfl, Below.refl _ _⟩
end Go.Proofs.Ytpfpjbeofogbgaa.Sv
end
