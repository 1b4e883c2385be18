/-
  Texts put together (merge.py): VChk.
-/
import Derived.Test.YtpfpjbeofogbgaaMg10
import Derived.Test.YtpfpjbeofogbgaaMg7
/-
  What svc.Check answers, as a contract: for all claims of remittances. (Written by gen_check.py.)
-/
section
set_option linter.unusedSimpArgs false
set_option linter.unusedVariables false
set_option maxRecDepth 100000
namespace Go.Proofs.Ytpfpjbeofogbgaa.Sv
open Go.RowKit
open Bk (keepB below_alloc below_trans alloc_new)
open Cm (mk_ne codeB)

def CpOk (x : Cp) : Prop := I64 x.st ∧ I64 x.bi ∧ I64 x.paid ∧ I64 x.mem ∧ x.id.length ≤ 281474976710656 ∧ x.svs.length ≤ 281474976710656 ∧ ∀ s ∈ x.svs, SrOk s
theorem svcs_step {st : Int} {l : List Sr} {j : Nat} {x : Sr} (hx : l[j]? = some x) {R : Int} (h : svcsE st (l.drop j) = R) (he : svcE st x = 0) : svcsE st (l.drop (j + 1)) = R := by
  obtain ⟨hl, he'⟩ := (List.getElem?_eq_some_iff.1 hx)
  rw [List.drop_eq_getElem_cons hl, he'] at h
  unfold svcsE at h
  rw [if_pos he] at h
  exact h
theorem svcs_bad {st : Int} {l : List Sr} {j : Nat} {x : Sr} (hx : l[j]? = some x) {R : Int} (h : svcsE st (l.drop j) = R) (he : svcE st x ≠ 0) : R = svcE st x := by
  obtain ⟨hl, he'⟩ := (List.getElem?_eq_some_iff.1 hx)
  rw [List.drop_eq_getElem_cons hl, he'] at h
  unfold svcsE at h
  rw [if_neg he] at h
  exact h.symm
theorem svcs_end {st : Int} {l : List Sr} {j : Nat} (hj : l.length ≤ j) {R : Int} (h : svcsE st (l.drop j) = R) : R = 0 := by
  rw [List.drop_eq_nil_of_le hj] at h; exact h.symm
theorem bd_of {st n : Int} (h : okM st n = true) : Bd n := by have := ok_range h; unfold Bd; omega
theorem bdS_of {st : Int} {s : Sr} (h : svcE st s = 0) : BdS s := by
  obtain ⟨_, h2, ⟨h3, h4⟩, h5, _⟩ := (svc_iff st s).1 h
  exact ⟨bd_of h3, bd_of h4, h2, fun c hc => bd_of (cas_ok (h5 c hc)).2.2.2⟩
theorem head_0 {id : Tx} {st n : Int} (h : headE id st n = 0) : codeB id 1 12 = true ∧ (st = 1 ∨ st = 22) ∧ 1 ≤ n ∧ n ≤ 999 := by
  unfold headE at h
  split at h
  · next a =>
    split at h
    · next b => exact ⟨a.1, a.2, b⟩
    · cases h
  · cases h
theorem check_head (x : Cp) (h : headE x.id x.st x.svs.length ≠ 0) : checkE x = headE x.id x.st x.svs.length := by
  unfold headE at *
  unfold checkE
  split
  · next a =>
    rw [if_pos a] at h
    split
    · next b => rw [if_pos (by omega)] at h; exact absurd rfl h
    · next b => rw [if_neg (by omega)]
  · rfl
theorem check_in (x : Cp) (h : headE x.id x.st x.svs.length = 0) : checkE x = (if svcsE x.st x.svs = 0 then (if x.bi = totB x.svs ∧ x.paid = totP x.svs ∧ x.mem = totM x.svs ∧ okM x.st (totB x.svs) = true then 0 else 17) else svcsE x.st x.svs) := by
  obtain ⟨a, b, c, d⟩ := head_0 h
  unfold checkE
  rw [if_pos ⟨a, b⟩, if_pos (by omega)]

set_option maxHeartbeats 8000000 in
theorem check_any (x : Cp) (m : Value) (w : World) (hm : SvsAt All w m x.svs) (hz : CpOk x) :
    Calls Try.prog 31 #[cpv x m] w fun e w' => e = .returned (.int .i64 (checkE x)) ∧ Below w.heap.size w w' := by
  obtain ⟨z0, z1, z2, z3, z4, z5, z6⟩ := hz
  obtain ⟨a, cap, rfl, f1, f2⟩ := hm.form
  have HB := Lib.hid (below_alloc w (.cells (cpe x (.slice a x.svs.length cap)) 38))
  have HX := Lib.hid (alloc_new w (cpe x (.slice a x.svs.length cap)) 38)
  have HM : Hid (∀ w', Below w.heap.size w w' → SvsAt All w' (.slice a x.svs.length cap) x.svs) := fun w' hb => hm.grw hb
  have HH := Lib.hid fun w => head_any x.id x.st x.svs.length w (by omega)
  clear hm z0 z2 z3 z4
  by_cases h0 : headE x.id x.st x.svs.length = 0
  case neg =>
    rw [check_head x h0]
    have hb0 : (headE x.id x.st x.svs.length != 0) = true := by simpa using h0
    generalize headE x.id x.st x.svs.length = E at *
    clear h0
    go_enter Try.func31, Try.ntmps31
    go_upto_region 1 with fail
    generalize w.alloc (.cells (cpe x (.slice a x.svs.length cap)) 38) = W at *
    generalize hp : w.heap.size = p at *
    obtain ⟨x0, x1, x2, x3, x4, x5⟩ := six HX.out
    go_wp2_with (first | (go_at_call 41; refine (HH.out _).mono ?_; rintro e w' ⟨rfl, hw⟩; rw [hw]; clear hw w'))
    go_ret
    exact ⟨rfl, by first | exact HB.out | (rw [hp]; exact HB.out)⟩
  have HR := Lib.hid (check_in x h0)
  obtain ⟨-, hs, n1, n2⟩ := head_0 h0
  rw [h0] at HH
  have HK : Hid (∀ s ∈ x.svs, ∀ m w, CasAt All w m s.cas → Calls Try.prog 42 #[srv s m, .int .i64 x.st] w fun e w' => e = .returned (.int .i64 (svcE x.st s)) ∧ Below w.heap.size w w') := fun s hs' m w hc => checkService_any s m x.st w hc (z6 s hs') hs
  have HTO : Hid (∀ w, SvsAt All w (.slice a x.svs.length cap) x.svs → (∀ s ∈ x.svs, svcE x.st s = 0) → Calls Try.prog 43 #[(.slice a x.svs.length cap)] w fun e w' => e = .returned (.tuple #[.int .i64 (totB x.svs), .int .i64 (totP x.svs), .int .i64 (totM x.svs)]) ∧ Below w.heap.size w w') := fun w hw hg => together_any x.svs _ w hw (by omega) (fun s hs' => bdS_of (hg s hs'))
  have HG := Lib.hid fun w => good_any x.bi x.st w z1 hs
  have HSI := Lib.hid (svcs_iff x.st x.svs)
  clear z1 z6 hs h0
  generalize checkE x = R at *
  obtain ⟨E, hE⟩ : ∃ E, svcsE x.st x.svs = E := ⟨_, rfl⟩
  rw [hE] at HR HSI
  have HE0 := Lib.hid hE
  clear hE
  go_enter Try.func31, Try.ntmps31
  go_upto_region 1 with fail
  generalize w.alloc (.cells (cpe x (.slice a x.svs.length cap)) 38) = W at *
  generalize hp : w.heap.size = p at *
  have HPW : Hid (p ≤ W.heap.size) := by have := HB.out.size; rw [hp] at this; exact this
  obtain ⟨x0, x1, x2, x3, x4, x5⟩ := six HX.out
  go_wp2_with (first | (go_at_call 41; refine (HH.out _).mono ?_; rintro e w' ⟨rfl, hw⟩; rw [hw]; clear hw w'))
  go_loopg [23] (x.svs.length) (fun gg t23 wr => ∃ (k : Nat), k ≤ x.svs.length ∧ gg = x.svs.length - k ∧ t23 = .int .i64 k ∧ Hid (svcsE x.st (x.svs.drop k) = E) ∧ Hid (Below W.heap.size W wr))
  case atStart => exact ⟨0, Nat.zero_le _, rfl, rfl, HE0.out, Below.refl _ _⟩
  case round =>
    obtain ⟨k, hk, hg, rfl, HE1, HBn⟩ := hrel
    have HBw : Hid (Below p w wr) := HB.out.trans (HBn.out.mono HPW.out)
    by_cases hlt : k < x.svs.length
    · have hltz : (k : Int) < (x.svs.length : Int) := by omega
      obtain ⟨b, o, mc, rfl, -, hbl, hx, hcell, hcas⟩ := SvsAt.get (HM.out _ HBw.out) k hlt
      have HKj := Lib.hid (HK.out _ (List.mem_of_getElem? hx))
      have HST := Lib.hid fun h => svcs_step hx HE1.out h
      have HBD := Lib.hid fun h => svcs_bad hx HE1.out h
      have hi1 : k < x.svs.length := hlt
      generalize x.svs[k] = y at *
      obtain ⟨ac, kc, rfl, g1, g2⟩ := hcas.form
      have HCA : Hid (∀ w1, Below wr.heap.size wr w1 → CasAt All w1 (.slice ac y.cas.length kc) y.cas) := fun w1 hb => hcas.grw hb
      have HXK : Hid (∀ W', Below wr.heap.size wr W' → (W'.cell? ⟨p, 0, none⟩ = some (.string (mk x.id)) ∧ W'.cell? ⟨p, 1, none⟩ = some (.int .i64 x.st) ∧ W'.cell? ⟨p, 2, none⟩ = some (.int .i64 x.bi) ∧ W'.cell? ⟨p, 3, none⟩ = some (.int .i64 x.paid) ∧ W'.cell? ⟨p, 4, none⟩ = some (.int .i64 x.mem) ∧ W'.cell? ⟨p, 5, none⟩ = some (.slice (some ⟨b, o, none⟩) x.svs.length cap)) ∧ SrCells W' b (o + k * 4) y (.slice ac y.cas.length kc)) := fun W' hW => ⟨six (keepB (keepB HX.out HBn.out) hW), hcell.of (hW.block b hbl)⟩
      clear hx hcell hcas hbl
      have HD := Lib.hid (Below.drew (Below.refl wr.heap.size wr))
      obtain ⟨wo, rfl⟩ : ∃ z, z = wr := ⟨_, rfl⟩
      go_upto_region 7 with fail
      refine Ri.wp_region_lasting (by kernel_rfl) (by kernel_rfl) (by kernel_rfl) (fun Wx => Below wo.heap.size wo Wx) (fun kz vs wz => (fun kx vx wx => match kx with | 0 => vx = .pointer (some ⟨p, 5, none⟩) | 1 => vx = .slice (some ⟨b, o, none⟩) x.svs.length cap | 2 => vx = .int .i64 (k : Nat) | 3 => vx = .pointer (some ⟨b, o + k * 4, none⟩) | 4 => vx = srv y (.slice ac y.cas.length kc) | 5 => vx = .pointer (some ⟨p, 1, none⟩) | 6 => vx = .int .i64 x.st | 7 => vx = .int .i64 (svcE x.st y) | 8 => vx = .int .i64 (svcE x.st y) | _ => True : Nat → Value → World → Prop) kz (vs kz) wz) (fun kz => [kz]) (by kernel_rfl) (fun jz vs iz vz wz hiz hz => Ri.loc_own (F := (fun kx vx wx => match kx with | 0 => vx = .pointer (some ⟨p, 5, none⟩) | 1 => vx = .slice (some ⟨b, o, none⟩) x.svs.length cap | 2 => vx = .int .i64 (k : Nat) | 3 => vx = .pointer (some ⟨b, o + k * 4, none⟩) | 4 => vx = srv y (.slice ac y.cas.length kc) | 5 => vx = .pointer (some ⟨p, 1, none⟩) | 6 => vx = .int .i64 x.st | 7 => vx = .int .i64 (svcE x.st y) | 8 => vx = .int .i64 (svcE x.st y) | _ => True : Nat → Value → World → Prop)) jz vs iz vz wz hiz hz) HD.out ⟨⟨rfl, ?_⟩, ⟨rfl, ?_⟩, ⟨rfl, ?_⟩, ⟨rfl, ?_⟩, ⟨rfl, ?_⟩, ⟨rfl, ?_⟩, ⟨rfl, ?_⟩, ⟨rfl, ?_⟩, ⟨rfl, ?_⟩, trivial⟩ ?_
      · intro vs Wx A hA hB hpre K hK
        have e1 := (hA 1).trans (show _ = Value.pointer (some ⟨p, 0, none⟩) by kernel_rfl)
        clear hA hpre
        go_simp
        first | exact hK _ _ hB rfl (fun _ _ h => h) | exact hK _ _ hB trivial (fun _ _ h => h) | (rw [if_neg (by omega)]; go_simp; exact hK _ _ hB rfl (fun _ _ h => h))
      · intro vs Wx A hA hB hpre K hK
        have e26 := ((hA 26).trans (show _ = vs 0 by kernel_rfl)).trans (by first | exact hpre.1 rfl | exact hpre.2.1 rfl | exact hpre.2.2.1 rfl | exact hpre.2.2.2.1 rfl | exact hpre.2.2.2.2.1 rfl | exact hpre.2.2.2.2.2.1 rfl | exact hpre.2.2.2.2.2.2.1 rfl | exact hpre.2.2.2.2.2.2.2.1 rfl | exact hpre.2.2.2.2.2.2.2.2.1 rfl | exact hpre.2.2.2.2.2.2.2.2.2.1 rfl)
        obtain ⟨⟨x0, x1, x2, x3, x4, x5⟩, ⟨y0, y1, y2, y3⟩⟩ := HXK.out Wx hB
        clear hA hpre
        go_simp
        first | exact hK _ _ hB rfl (fun _ _ h => h) | exact hK _ _ hB trivial (fun _ _ h => h) | (rw [if_neg (by omega)]; go_simp; exact hK _ _ hB rfl (fun _ _ h => h))
      · intro vs Wx A hA hB hpre K hK
        have e4 := (hA 4).trans (show _ = Value.int .i64 (k : Nat) by kernel_rfl)
        clear hA hpre
        go_simp
        first | exact hK _ _ hB rfl (fun _ _ h => h) | exact hK _ _ hB trivial (fun _ _ h => h) | (rw [if_neg (by omega)]; go_simp; exact hK _ _ hB rfl (fun _ _ h => h))
      · intro vs Wx A hA hB hpre K hK
        have e27 := ((hA 27).trans (show _ = vs 1 by kernel_rfl)).trans (by first | exact hpre.1 rfl | exact hpre.2.1 rfl | exact hpre.2.2.1 rfl | exact hpre.2.2.2.1 rfl | exact hpre.2.2.2.2.1 rfl | exact hpre.2.2.2.2.2.1 rfl | exact hpre.2.2.2.2.2.2.1 rfl | exact hpre.2.2.2.2.2.2.2.1 rfl | exact hpre.2.2.2.2.2.2.2.2.1 rfl | exact hpre.2.2.2.2.2.2.2.2.2.1 rfl)
        have e28 := ((hA 28).trans (show _ = vs 2 by kernel_rfl)).trans (by first | exact hpre.1 rfl | exact hpre.2.1 rfl | exact hpre.2.2.1 rfl | exact hpre.2.2.2.1 rfl | exact hpre.2.2.2.2.1 rfl | exact hpre.2.2.2.2.2.1 rfl | exact hpre.2.2.2.2.2.2.1 rfl | exact hpre.2.2.2.2.2.2.2.1 rfl | exact hpre.2.2.2.2.2.2.2.2.1 rfl | exact hpre.2.2.2.2.2.2.2.2.2.1 rfl)
        clear hA hpre
        go_simp
        first | exact hK _ _ hB rfl (fun _ _ h => h) | exact hK _ _ hB trivial (fun _ _ h => h) | (rw [if_neg (by omega)]; go_simp; exact hK _ _ hB rfl (fun _ _ h => h))
      · intro vs Wx A hA hB hpre K hK
        have e29 := ((hA 29).trans (show _ = vs 3 by kernel_rfl)).trans (by first | exact hpre.1 rfl | exact hpre.2.1 rfl | exact hpre.2.2.1 rfl | exact hpre.2.2.2.1 rfl | exact hpre.2.2.2.2.1 rfl | exact hpre.2.2.2.2.2.1 rfl | exact hpre.2.2.2.2.2.2.1 rfl | exact hpre.2.2.2.2.2.2.2.1 rfl | exact hpre.2.2.2.2.2.2.2.2.1 rfl | exact hpre.2.2.2.2.2.2.2.2.2.1 rfl)
        obtain ⟨⟨x0, x1, x2, x3, x4, x5⟩, ⟨y0, y1, y2, y3⟩⟩ := HXK.out Wx hB
        clear hA hpre
        go_simp
        first | exact hK _ _ hB rfl (fun _ _ h => h) | exact hK _ _ hB trivial (fun _ _ h => h) | (rw [if_neg (by omega)]; go_simp; exact hK _ _ hB rfl (fun _ _ h => h))
      · intro vs Wx A hA hB hpre K hK
        have e1 := (hA 1).trans (show _ = Value.pointer (some ⟨p, 0, none⟩) by kernel_rfl)
        clear hA hpre
        go_simp
        first | exact hK _ _ hB rfl (fun _ _ h => h) | exact hK _ _ hB trivial (fun _ _ h => h) | (rw [if_neg (by omega)]; go_simp; exact hK _ _ hB rfl (fun _ _ h => h))
      · intro vs Wx A hA hB hpre K hK
        have e31 := ((hA 31).trans (show _ = vs 5 by kernel_rfl)).trans (by first | exact hpre.1 rfl | exact hpre.2.1 rfl | exact hpre.2.2.1 rfl | exact hpre.2.2.2.1 rfl | exact hpre.2.2.2.2.1 rfl | exact hpre.2.2.2.2.2.1 rfl | exact hpre.2.2.2.2.2.2.1 rfl | exact hpre.2.2.2.2.2.2.2.1 rfl | exact hpre.2.2.2.2.2.2.2.2.1 rfl | exact hpre.2.2.2.2.2.2.2.2.2.1 rfl)
        obtain ⟨⟨x0, x1, x2, x3, x4, x5⟩, ⟨y0, y1, y2, y3⟩⟩ := HXK.out Wx hB
        clear hA hpre
        go_simp
        first | exact hK _ _ hB rfl (fun _ _ h => h) | exact hK _ _ hB trivial (fun _ _ h => h) | (rw [if_neg (by omega)]; go_simp; exact hK _ _ hB rfl (fun _ _ h => h))
      · intro vs Wx A hA hB hpre K hK
        have e30 := ((hA 30).trans (show _ = vs 4 by kernel_rfl)).trans (by first | exact hpre.1 rfl | exact hpre.2.1 rfl | exact hpre.2.2.1 rfl | exact hpre.2.2.2.1 rfl | exact hpre.2.2.2.2.1 rfl | exact hpre.2.2.2.2.2.1 rfl | exact hpre.2.2.2.2.2.2.1 rfl | exact hpre.2.2.2.2.2.2.2.1 rfl | exact hpre.2.2.2.2.2.2.2.2.1 rfl | exact hpre.2.2.2.2.2.2.2.2.2.1 rfl)
        have e32 := ((hA 32).trans (show _ = vs 6 by kernel_rfl)).trans (by first | exact hpre.1 rfl | exact hpre.2.1 rfl | exact hpre.2.2.1 rfl | exact hpre.2.2.2.1 rfl | exact hpre.2.2.2.2.1 rfl | exact hpre.2.2.2.2.2.1 rfl | exact hpre.2.2.2.2.2.2.1 rfl | exact hpre.2.2.2.2.2.2.2.1 rfl | exact hpre.2.2.2.2.2.2.2.2.1 rfl | exact hpre.2.2.2.2.2.2.2.2.2.1 rfl)
        clear hA hpre
        go_simp
        go_at_call 42
        refine (HKj.out _ Wx (HCA.out Wx hB)).mono ?_
        rintro e w4 ⟨rfl, hg⟩
        exact hK _ _ (below_trans hB hg) rfl (fun _ _ h => h)
      · intro vs Wx A hA hB hpre K hK
        have e33 := ((hA 33).trans (show _ = vs 7 by kernel_rfl)).trans (by first | exact hpre.1 rfl | exact hpre.2.1 rfl | exact hpre.2.2.1 rfl | exact hpre.2.2.2.1 rfl | exact hpre.2.2.2.2.1 rfl | exact hpre.2.2.2.2.2.1 rfl | exact hpre.2.2.2.2.2.2.1 rfl | exact hpre.2.2.2.2.2.2.2.1 rfl | exact hpre.2.2.2.2.2.2.2.2.1 rfl | exact hpre.2.2.2.2.2.2.2.2.2.1 rfl)
        clear hA hpre
        go_simp
        first | exact hK _ _ hB rfl (fun _ _ h => h) | exact hK _ _ hB trivial (fun _ _ h => h) | (rw [if_neg (by omega)]; go_simp; exact hK _ _ hB rfl (fun _ _ h => h))
      · intro vs Wx hB hF
        have hL : vs 8 = .int .i64 (svcE x.st y) := hF 8 (by decide)
        have HB3 : Hid (Below W.heap.size W Wx) := HBn.out.trans (hB.mono HBn.out.size)
        have HB4 : Hid (Below p w Wx) := HBw.out.trans (hB.mono (Nat.le_trans HPW.out HBn.out.size))
        clear hF hB HXK HCA HD HKj
        simp only [Ri.puts]
        rw [hL]
        clear hL
        go_simp
        by_cases he : svcE x.st y = 0
        · have HE2 := Lib.hid (HST.out he)
          rw [he]
          clear he HST HBD
          go_wp2
          go_roundg (x.svs.length - (k + 1))
          case measure => omega
          case rel => exact ⟨k + 1, by omega, rfl, by go_num, HE2.out, HB3.out⟩
        · have hE2 := HBD.out he
          have hb0 : (svcE x.st y != 0) = true := by simpa using he
          have HRR : Hid (R = svcE x.st y) := by show _ = _; rw [HR.out, if_neg (by omega), hE2]
          clear he HBD HST hE2 HR
          go_wp2
          go_ret
          exact ⟨by rw [HRR.out]; rfl, by first | exact HB4.out | (rw [hp]; exact HB4.out)⟩
    · have hltz : ¬ (k : Int) < (x.svs.length : Int) := by omega
      have h0 := svcs_end (by omega) HE1.out
      have HRC : Hid (R = if x.bi = totB x.svs ∧ x.paid = totP x.svs ∧ x.mem = totM x.svs ∧ okM x.st (totB x.svs) = true then 0 else 17) := by show _ = _; rw [HR.out, if_pos h0]
      have HTT := Lib.hid fun (w1 : World) (hb : Below wr.heap.size wr w1) => HTO.out w1 (HM.out _ (HBw.out.trans (hb.mono (Nat.le_trans HPW.out HBn.out.size)))) (HSI.out.1 h0)
      have HXK : Hid (∀ W', Below wr.heap.size wr W' → W'.cell? ⟨p, 0, none⟩ = some (.string (mk x.id)) ∧ W'.cell? ⟨p, 1, none⟩ = some (.int .i64 x.st) ∧ W'.cell? ⟨p, 2, none⟩ = some (.int .i64 x.bi) ∧ W'.cell? ⟨p, 3, none⟩ = some (.int .i64 x.paid) ∧ W'.cell? ⟨p, 4, none⟩ = some (.int .i64 x.mem) ∧ W'.cell? ⟨p, 5, none⟩ = some (.slice a x.svs.length cap)) := fun W' hW => six (keepB (keepB HX.out HBn.out) hW)
      have HFB : Hid (∀ W', Below wr.heap.size wr W' → Below p w W') := fun W' hW => HBw.out.trans (hW.mono (Nat.le_trans HPW.out HBn.out.size))
      have HRF := Lib.hid (Below.refl wr.heap.size wr)
      obtain ⟨x0, x1, x2, x3, x4, x5⟩ := HXK.out wr HRF.out
      clear h0 HR HE0 HE1 HSI HTO HK HB HX HH HM
      generalize totB x.svs = TB at *
      generalize totP x.svs = TP at *
      generalize totM x.svs = TM at *
      by_cases e1 : x.bi = TB
      case neg =>
        have HRR : Hid (R = 17) := by show _ = _; rw [HRC.out, if_neg (fun h => e1 h.1)]
        have n1 : (x.bi != TB) = true := by simpa using e1
        clear e1
        clear HRC
        go_wp2_with (first | (go_at_call 43; refine (HTT.out _ HRF.out).mono ?_; rintro e w1 ⟨rfl, hb⟩; obtain ⟨x0, x1, x2, x3, x4, x5⟩ := HXK.out w1 hb; have HB1 := Lib.hid (HFB.out w1 hb); clear hb))
        go_ret
        exact ⟨by rw [HRR.out]; rfl, by first | exact HB1.out | (rw [hp]; exact HB1.out)⟩
      by_cases e2 : x.paid = TP
      case neg =>
        have HRR : Hid (R = 17) := by show _ = _; rw [HRC.out, if_neg (fun h => e2 h.2.1)]
        have n1 : (x.bi != TB) = false := by simpa using e1
        have n2 : (x.paid != TP) = true := by simpa using e2
        clear e1 e2
        clear HRC
        go_wp2_with (first | (go_at_call 43; refine (HTT.out _ HRF.out).mono ?_; rintro e w1 ⟨rfl, hb⟩; obtain ⟨x0, x1, x2, x3, x4, x5⟩ := HXK.out w1 hb; have HB1 := Lib.hid (HFB.out w1 hb); clear hb))
        go_ret
        exact ⟨by rw [HRR.out]; rfl, by first | exact HB1.out | (rw [hp]; exact HB1.out)⟩
      by_cases e3 : x.mem = TM
      case neg =>
        have HRR : Hid (R = 17) := by show _ = _; rw [HRC.out, if_neg (fun h => e3 h.2.2.1)]
        have n1 : (x.bi != TB) = false := by simpa using e1
        have n2 : (x.paid != TP) = false := by simpa using e2
        have n3 : (x.mem != TM) = true := by simpa using e3
        clear e1 e2 e3
        clear HRC
        go_wp2_with (first | (go_at_call 43; refine (HTT.out _ HRF.out).mono ?_; rintro e w1 ⟨rfl, hb⟩; obtain ⟨x0, x1, x2, x3, x4, x5⟩ := HXK.out w1 hb; have HB1 := Lib.hid (HFB.out w1 hb); clear hb))
        go_ret
        exact ⟨by rw [HRR.out]; rfl, by first | exact HB1.out | (rw [hp]; exact HB1.out)⟩
      have n1 : (x.bi != TB) = false := by simpa using e1
      have n2 : (x.paid != TP) = false := by simpa using e2
      have n3 : (x.mem != TM) = false := by simpa using e3
      cases e4 : okM x.st x.bi with
      | false =>
        have HRR : Hid (R = 17) := by show _ = _; rw [HRC.out, if_neg (fun h => by rw [← e1, e4] at h; simp at h)]
        clear e1 e2 e3
        clear HRC
        go_wp2_with (first | (go_at_call 43; refine (HTT.out _ HRF.out).mono ?_; rintro e w1 ⟨rfl, hb⟩; obtain ⟨x0, x1, x2, x3, x4, x5⟩ := HXK.out w1 hb; have HB1 := Lib.hid (HFB.out w1 hb); clear hb) | (go_at_call 44; refine (HG.out _).mono ?_; rintro e w2 ⟨rfl, hw⟩; rw [hw]; clear hw w2))
        go_ret
        exact ⟨by rw [HRR.out]; rfl, by first | exact HB1.out | (rw [hp]; exact HB1.out)⟩
      | true =>
        have HRR : Hid (R = 0) := by show _ = _; rw [HRC.out, if_pos ⟨e1, e2, e3, by rw [← e1]; exact e4⟩]
        clear e1 e2 e3
        clear HRC
        go_wp2_with (first | (go_at_call 43; refine (HTT.out _ HRF.out).mono ?_; rintro e w1 ⟨rfl, hb⟩; obtain ⟨x0, x1, x2, x3, x4, x5⟩ := HXK.out w1 hb; have HB1 := Lib.hid (HFB.out w1 hb); clear hb) | (go_at_call 44; refine (HG.out _).mono ?_; rintro e w2 ⟨rfl, hw⟩; rw [hw]; clear hw w2))
        go_ret
        exact ⟨by rw [HRR.out]; rfl, by first | exact HB1.out | (rw [hp]; exact HB1.out)⟩
end Go.Proofs.Ytpfpjbeofogbgaa.Sv
end
