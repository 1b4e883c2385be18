/-
  Texts put together (merge.py): MChk.
-/
import Derived.BigQuiet
import Derived.Deep.Cut
import Derived.Test.YtpfpjbeofogbgaaMm14
import Derived.Test.YtpfpjbeofogbgaaMm6
import Derived.Test.YtpfpjbeofogbgaaMm7
import Derived.Test.YtpfpjbeofogbgaaMm3
set_option linter.unusedSimpArgs false
set_option linter.unusedVariables false
section
set_option maxRecDepth 100000
namespace Go.Proofs.Ytpfpjbeofogbgaa.Re
open Go.RowKit
open Sv (Ca Sr Cp SvsAt CasAt CpsAt CpCells cpv cpe four six Bd CpOk I64)
open Bk (keepB heap_far below_alloc below_trans alloc_new heap_set add_lit)
def mayB (n : Int) : Bool := decide (0 ≤ n) && decide (n ≤ 999999999)
theorem may_any (n : Int) (w : World) : Calls Try.prog 24 #[.int .i64 n] w fun e w' => e = .returned (.bool (mayB n)) ∧ w' = w := by
 by_cases h : 0 ≤ n
 ·have d1 : decide (0 ≤ n) = true := decide_eq_true h
  by_cases h2 : n ≤ 999999999
  ·rw [show mayB n = true by simp [mayB, h, h2]]
   go_enter Try.func24, Try.ntmps24
   go_wp2
   go_ret
   exact ⟨rfl, rfl⟩
  ·rw [show mayB n = false by simp [mayB, h, h2]]
   go_enter Try.func24, Try.ntmps24
   go_wp2
   go_ret
   exact ⟨rfl, rfl⟩
 ·rw [show mayB n = false by simp [mayB, h]]
  go_enter Try.func24, Try.ntmps24
  go_wp2
  go_ret
  exact ⟨rfl, rfl⟩
def csE : List Cp → Int
 | [] => 0
 | x :: l => if Sv.checkE x = 0 then csE l else Sv.checkE x
def chkE (r : Rm) : Int :=
 if (0 ≤ r.n ∧ r.n ≤ 999999999) ∧ r.cs.length ≤ 1024 then (if csE r.cs = 0 then (if (-1152921504606846976 ≤ r.held ∧ r.held ≤ 1152921504606846976) ∧ 0 ≤ r.paid ∧ r.paid = sum r.cs - r.held then 0 else 17) else csE r.cs) else 1
theorem cs_iff : ∀ (l : List Cp), csE l = 0 ↔ ∀ x ∈ l, Sv.checkE x = 0
 | [] => by simp [csE]
 | x :: l => by
  unfold csE
  by_cases h : Sv.checkE x = 0
  ·rw [if_pos h, cs_iff l]; simp [h]
  ·rw [if_neg h]; simp [h]
theorem cs_step {l : List Cp} {k : Nat} {x : Cp} (hx : l[k]? = some x) {E : Int} (h : csE (l.drop k) = E) (he : Sv.checkE x = 0) : csE (l.drop (k + 1)) = E := by
 obtain ⟨hl, e⟩ := List.getElem?_eq_some_iff.1 hx
 rw [List.drop_eq_getElem_cons hl, e] at h
 unfold csE at h
 rwa [if_pos he] at h
theorem cs_bad {l : List Cp} {k : Nat} {x : Cp} (hx : l[k]? = some x) {E : Int} (h : csE (l.drop k) = E) (he : Sv.checkE x ≠ 0) : E = Sv.checkE x := by
 obtain ⟨hl, e⟩ := List.getElem?_eq_some_iff.1 hx
 rw [List.drop_eq_getElem_cons hl, e] at h
 unfold csE at h
 rw [if_neg he] at h
 exact h.symm
theorem cs_end {l : List Cp} {k : Nat} (hk : l.length ≤ k) {E : Int} (h : csE (l.drop k) = E) : E = 0 := by
 rw [List.drop_eq_nil_of_le hk] at h
 exact h.symm
theorem chk_1 {r : Rm} (h : ¬ ((0 ≤ r.n ∧ r.n ≤ 999999999) ∧ r.cs.length ≤ 1024)) : chkE r = 1 := if_neg h
theorem chk_2 {r : Rm} (h : (0 ≤ r.n ∧ r.n ≤ 999999999) ∧ r.cs.length ≤ 1024) : chkE r = if csE r.cs = 0 then (if (-1152921504606846976 ≤ r.held ∧ r.held ≤ 1152921504606846976) ∧ 0 ≤ r.paid ∧ r.paid = sum r.cs - r.held then 0 else 17) else csE r.cs := if_pos h
theorem sum_bd : ∀ (l : List Cp), (∀ x ∈ l, Bd x.paid) → -1125899906842624 * (l.length : Int) ≤ sum l ∧ sum l ≤ 1125899906842624 * (l.length : Int)
 | [], _ => by simp [sum]
 | x :: l, h => by
  have a := sum_bd l fun y hy => h y (List.mem_cons_of_mem _ hy)
  have b := h x (List.mem_cons_self ..)
  unfold Bd at b
  simp only [sum, List.length_cons]
  push_cast
  omega
set_option maxHeartbeats 8000000 in
theorem check_any (r : Rm) (m : Value) (w : World) (h : CpsAt All w m r.cs) (hl : r.cs.length ≤ 2000) (hb : ∀ x ∈ r.cs, Bd x.paid) (hz : ∀ x ∈ r.cs, CpOk x) (hh : I64 r.held) (hpd : I64 r.paid) :
  Calls Try.prog 17 #[rmv r m] w fun e w' => e = .returned (.int .i64 (chkE r)) ∧ Below w.heap.size w w' := by
 obtain ⟨a, cap, rfl, f1, f2⟩ := h.form
 have HB := Lib.hid (below_alloc w (.cells (rme r (.slice a r.cs.length cap)) 27))
 have HX := Lib.hid (alloc_new w (rme r (.slice a r.cs.length cap)) 27)
 have HM : Hid (∀ w', Below w.heap.size w w' → CpsAt All w' (.slice a r.cs.length cap) r.cs) := fun w' hb => h.grw hb
 have HZ := Lib.hid hz
 obtain ⟨hh1, hh2⟩ := hh
 obtain ⟨hp1, hp2⟩ := hpd
 have HSU : Hid (∀ w', Below w.heap.size w w' → Calls Try.prog 19 #[rmv r (.slice a r.cs.length cap)] w' fun e w2 => e = .returned (.int .i64 (sum r.cs)) ∧ Below w'.heap.size w' w2) := fun w' hw => sum_any r _ w' (h.grw hw) hl hb
 have hsb := sum_bd r.cs hb
 have hsb1 : -2251799813685248000 ≤ sum r.cs := by omega
 have hsb2 : sum r.cs ≤ 2251799813685248000 := by omega
 clear h hb hz hsb
 have HMY := Lib.hid fun W => may_any r.n W
 cases qm : mayB r.n
 case false =>
  rw [chk_1 (by intro hc; simp [mayB, hc.1.1, hc.1.2] at qm)]
  clear HSU hsb1 hsb2 HM HZ
  go_enter Try.func17, Try.ntmps17
  go_upto_region 1 with fail
  generalize w.alloc (.cells (rme r (.slice a r.cs.length cap)) 27) = W at *
  generalize hp : w.heap.size = p at *
  obtain ⟨x0, x1, x2, x3⟩ := four HX.out
  go_wp2_with (first | (go_at_call 24; refine (HMY.out _).mono ?_; rintro e w9 ⟨rfl, hw⟩; rw [hw, qm]; clear hw w9))
  go_ret
  exact ⟨rfl, by first | exact HB.out | (rw [hp]; exact HB.out)⟩
 have hn0 : 0 ≤ r.n ∧ r.n ≤ 999999999 := by simpa [mayB] using qm
 by_cases hlen : r.cs.length ≤ 1024
 case neg =>
  have hlz : (1024 : Int) < (r.cs.length : Int) := by omega
  rw [chk_1 (by omega)]
  clear HSU hsb1 hsb2 HM HZ
  go_enter Try.func17, Try.ntmps17
  go_upto_region 1 with fail
  generalize w.alloc (.cells (rme r (.slice a r.cs.length cap)) 27) = W at *
  generalize hp : w.heap.size = p at *
  obtain ⟨x0, x1, x2, x3⟩ := four HX.out
  go_wp2_with (first | (go_at_call 24; refine (HMY.out _).mono ?_; rintro e w9 ⟨rfl, hw⟩; rw [hw, qm]; clear hw w9))
  go_ret
  exact ⟨rfl, by first | exact HB.out | (rw [hp]; exact HB.out)⟩
 have hlz : ¬ (1024 : Int) < (r.cs.length : Int) := by omega
 obtain ⟨R, hR⟩ : ∃ R, chkE r = R := ⟨_, rfl⟩
 rw [hR]
 rw [chk_2 (by omega)] at hR
 obtain ⟨E, hE⟩ : ∃ E, csE r.cs = E := ⟨_, rfl⟩
 rw [hE] at hR
 have HE0 := Lib.hid hE
 clear hE
 generalize hS : sum r.cs = S at *
 have HR := Lib.hid hR
 clear hR
 go_enter Try.func17, Try.ntmps17
 go_upto_region 1 with fail
 generalize w.alloc (.cells (rme r (.slice a r.cs.length cap)) 27) = W at *
 generalize hp : w.heap.size = p at *
 have HPW : Hid (p ≤ W.heap.size) := by have := HB.out.size; rw [hp] at this; exact this
 obtain ⟨x0, x1, x2, x3⟩ := four HX.out
 go_wp2_with (first | (go_at_call 24; refine (HMY.out _).mono ?_; rintro e w9 ⟨rfl, hw⟩; rw [hw, qm]; clear hw w9))
 clear x0 x1 x2 x3
 go_loopg [19] (r.cs.length) (fun gg t19 wr => ∃ (k : Nat), k ≤ r.cs.length ∧ gg = r.cs.length - k ∧ t19 = .int .i64 k ∧ Hid (csE (r.cs.drop k) = E) ∧ Hid (Below W.heap.size W wr))
 case atStart => exact ⟨0, Nat.zero_le _, rfl, rfl, HE0.out, Below.refl _ _⟩
 case round =>
  obtain ⟨k, hk, hg, rfl, HE1, HBn⟩ := hrel
  have HBw : Hid (Below p w wr) := HB.out.trans (HBn.out.mono HPW.out)
  by_cases hlt : k < r.cs.length
  ·have hltz : (k : Int) < (r.cs.length : Int) := by omega
   obtain ⟨b, o, m2, rfl, hbl, hx, hcell, hr⟩ := Sv.CpsAt.get (HM.out _ HBw.out) k hlt
   have HCK := Lib.hid fun (w2 : World) (hw2 : Below wr.heap.size wr w2) => Sv.check_any _ m2 w2 (hr.grw hw2) (HZ.out _ (List.mem_of_getElem? hx))
   have HST := Lib.hid fun h => cs_step hx HE1.out h
   have HBD := Lib.hid fun h => cs_bad hx HE1.out h
   have hi1 : k < r.cs.length := hlt
   generalize r.cs[k] = x at *
   obtain ⟨c0, c1, c2, c3, c4, c5⟩ := id hcell
   obtain ⟨am, nm, cm, rfl⟩ : ∃ am nm cm, m2 = .slice am nm cm := by
    obtain ⟨q1, q2, q3, -, -⟩ := SvsAt.form hr
    exact ⟨q1, _, q2, q3⟩
   obtain ⟨wo, rfl⟩ : ∃ z, z = wr := ⟨_, rfl⟩
   have HXn := Lib.hid (alloc_new wo (cpe x (.slice am nm cm)) 38)
   clear hx hr hcell hbl HM HZ HSU
   by_cases he : Sv.checkE x = 0
   ·have HE2 := Lib.hid (HST.out he)
    rw [he] at HCK
    clear he HST HBD
    go_wp2_with (first | (go_at_call 31; refine (HCK.out _ (below_alloc wo _)).mono ?_; rintro e w4 ⟨rfl, hg4⟩; have HB4 : Hid (Below W.heap.size W w4) := HBn.out.trans ((below_trans (below_alloc wo _) hg4).mono HBn.out.size); clear hg4))
    go_roundg (r.cs.length - (k + 1))
    case measure => omega
    case rel => exact ⟨k + 1, by omega, rfl, by go_num, HE2.out, HB4.out⟩
   ·have HEE := Lib.hid (HBD.out he)
    have hb0 : (Sv.checkE x != 0) = true := by simpa using he
    generalize Sv.checkE x = EE at *
    go_wp2_with (first | (go_at_call 31; refine (HCK.out _ (below_alloc wo _)).mono ?_; rintro e w4 ⟨rfl, hg4⟩; have HB4 : Hid (Below W.heap.size W w4) := HBn.out.trans ((below_trans (below_alloc wo _) hg4).mono HBn.out.size); clear hg4))
    go_ret
    have hRR : R = EE := by have h1 := HEE.out; have h2 := HR.out; rw [h1, if_neg he] at h2; exact h2.symm
    exact ⟨by rw [hRR]; rfl, by have h5 := HB.out.trans (HB4.out.mono HPW.out); first | exact h5 | (rw [hp]; exact h5)⟩
  ·have hltz : ¬ (k : Int) < (r.cs.length : Int) := by omega
   have hE00 := cs_end (by omega) HE1.out
   have hRC := HR.out
   rw [hE00, if_pos rfl] at hRC
   clear hE00
   obtain ⟨wo, rfl⟩ : ∃ z, z = wr := ⟨_, rfl⟩
   have HXK : Hid (∀ W', Below wo.heap.size wo W' → W'.heap[p]? = some (.cells (rme r (.slice a r.cs.length cap)) 27 (0, 0))) := fun W' hW => keepB (keepB HX.out HBn.out) hW
   have HFB : Hid (∀ W', Below wo.heap.size wo W' → Below p w W') := fun W' hW => HBw.out.trans (hW.mono (Nat.le_trans HPW.out HBn.out.size))
   have HSS : Hid (∀ W, Below wo.heap.size wo W → Calls Try.prog 19 #[rmv r (.slice a r.cs.length cap)] W fun e w2 => e = .returned (.int .i64 S) ∧ Below W.heap.size W w2) := fun W' hW => HSU.out W' (HFB.out W' hW)
   have HD := Lib.hid (Below.drew (Below.refl wo.heap.size wo))
   clear HM HZ HSU HE0 HE1
   go_upto_region 10 with fail
   by_cases q1 : r.held < -1152921504606846976
   ·obtain rfl : R = 17 := by rw [← hRC, if_neg (by omega)]
    clear hRC
    refine Ri.wp_region_lasting_g (by kernel_rfl) (by kernel_rfl) (by kernel_rfl) (fun Wx => Below wo.heap.size wo Wx) (fun kz vs wz => (fun kx vx wx => match kx with | 0 => vx = .pointer (some ⟨p, 2, none⟩) | 1 => vx = .int .i64 r.held | 2 => vx = .bool true | 3 => vx = .bool true | 4 => True | 5 => True | 6 => True | 7 => vx = .bool true | 8 => vx = .bool true | 9 => True | 10 => True | 11 => True | 12 => vx = .bool true | 13 => vx = .bool true | 14 => True | 15 => True | 16 => True | 17 => True | 18 => True | 19 => True | 20 => True | 21 => True | 22 => vx = .bool true | _ => True : Nat → Value → World → Prop) kz (vs kz) wz) (fun kz => [kz]) (by kernel_rfl) (fun jz vs iz vz wz hiz hz => Ri.loc_own (F := (fun kx vx wx => match kx with | 0 => vx = .pointer (some ⟨p, 2, none⟩) | 1 => vx = .int .i64 r.held | 2 => vx = .bool true | 3 => vx = .bool true | 4 => True | 5 => True | 6 => True | 7 => vx = .bool true | 8 => vx = .bool true | 9 => True | 10 => True | 11 => True | 12 => vx = .bool true | 13 => vx = .bool true | 14 => True | 15 => True | 16 => True | 17 => True | 18 => True | 19 => True | 20 => True | 21 => True | 22 => vx = .bool true | _ => True : Nat → Value → World → Prop)) jz vs iz vz wz hiz hz) HD.out ⟨Or.inl ⟨rfl, ?_⟩, Or.inl ⟨rfl, ?_⟩, Or.inl ⟨rfl, ?_⟩, Or.inl ⟨rfl, ?_⟩, Or.inr ⟨3, false, 32, rfl, rfl, ?_⟩, Or.inr ⟨3, false, 32, rfl, rfl, ?_⟩, Or.inr ⟨3, false, 32, rfl, rfl, ?_⟩, Or.inl ⟨rfl, ?_⟩, Or.inl ⟨rfl, ?_⟩, Or.inr ⟨8, false, 37, rfl, rfl, ?_⟩, Or.inr ⟨8, false, 37, rfl, rfl, ?_⟩, Or.inr ⟨8, false, 37, rfl, rfl, ?_⟩, Or.inl ⟨rfl, ?_⟩, Or.inl ⟨rfl, ?_⟩, Or.inr ⟨13, false, 42, rfl, rfl, ?_⟩, Or.inr ⟨13, false, 42, rfl, rfl, ?_⟩, Or.inr ⟨13, false, 42, rfl, rfl, ?_⟩, Or.inr ⟨13, false, 42, rfl, rfl, ?_⟩, Or.inr ⟨13, false, 42, rfl, rfl, ?_⟩, Or.inr ⟨13, false, 42, rfl, rfl, ?_⟩, Or.inr ⟨13, false, 42, rfl, rfl, ?_⟩, Or.inr ⟨13, false, 42, rfl, rfl, ?_⟩, Or.inl ⟨rfl, ?_⟩, trivial⟩ ?_
    ·intro vs Wx A hA hB hpre K hK
     have e1 := (hA 1).trans (show _ = Value.pointer (some ⟨p, 0, none⟩) by kernel_rfl)
     clear hA hpre
     go_simp
     first | exact hK _ _ hB (by trivial) (fun _ _ h => h) | (rw [if_neg (by omega)]; go_simp; exact hK _ _ hB rfl (fun _ _ h => h))
    ·intro vs Wx A hA hB hpre K hK
     have e29 := ((hA 29).trans (show _ = vs 0 by kernel_rfl)).trans (by repeat first | exact hpre.1 rfl | replace hpre := hpre.2)
     obtain ⟨x0, x1, x2, x3⟩ := four (HXK.out Wx hB)
     clear hA hpre
     go_simp
     first | exact hK _ _ hB (by trivial) (fun _ _ h => h) | (rw [if_neg (by omega)]; go_simp; exact hK _ _ hB rfl (fun _ _ h => h))
    ·intro vs Wx A hA hB hpre K hK
     have e30 := ((hA 30).trans (show _ = vs 1 by kernel_rfl)).trans (by repeat first | exact hpre.1 rfl | replace hpre := hpre.2)
     clear hA hpre
     go_simp
     first | exact hK _ _ hB (by trivial) (fun _ _ h => h) | (rw [if_neg (by omega)]; go_simp; exact hK _ _ hB rfl (fun _ _ h => h))
    ·intro vs Wx A hA hB hpre K hK
     have e31 := ((hA 31).trans (show _ = vs 2 by kernel_rfl)).trans (by repeat first | exact hpre.1 rfl | replace hpre := hpre.2)
     clear hA hpre
     go_simp
     first | exact hK _ _ hB (by trivial) (fun _ _ h => h) | (rw [if_neg (by omega)]; go_simp; exact hK _ _ hB rfl (fun _ _ h => h))
    iterate 3
     ·intro vs Wx A hA hB hpre
      have eg := ((hA 32).trans (show _ = vs 3 by kernel_rfl)).trans (by repeat first | exact hpre.1 rfl | replace hpre := hpre.2)
      exact ⟨true, eg, fun h => (by cases h), fun _ => trivial⟩
    ·intro vs Wx A hA hB hpre K hK
     have e32 := ((hA 32).trans (show _ = vs 3 by kernel_rfl)).trans (by repeat first | exact hpre.1 rfl | replace hpre := hpre.2)
     clear hA hpre
     go_simp
     first | exact hK _ _ hB (by trivial) (fun _ _ h => h) | (rw [if_neg (by omega)]; go_simp; exact hK _ _ hB rfl (fun _ _ h => h))
    ·intro vs Wx A hA hB hpre K hK
     have e36 := ((hA 36).trans (show _ = vs 7 by kernel_rfl)).trans (by repeat first | exact hpre.1 rfl | replace hpre := hpre.2)
     clear hA hpre
     go_simp
     first | exact hK _ _ hB (by trivial) (fun _ _ h => h) | (rw [if_neg (by omega)]; go_simp; exact hK _ _ hB rfl (fun _ _ h => h))
    iterate 3
     ·intro vs Wx A hA hB hpre
      have eg := ((hA 37).trans (show _ = vs 8 by kernel_rfl)).trans (by repeat first | exact hpre.1 rfl | replace hpre := hpre.2)
      exact ⟨true, eg, fun h => (by cases h), fun _ => trivial⟩
    ·intro vs Wx A hA hB hpre K hK
     have e37 := ((hA 37).trans (show _ = vs 8 by kernel_rfl)).trans (by repeat first | exact hpre.1 rfl | replace hpre := hpre.2)
     clear hA hpre
     go_simp
     first | exact hK _ _ hB (by trivial) (fun _ _ h => h) | (rw [if_neg (by omega)]; go_simp; exact hK _ _ hB rfl (fun _ _ h => h))
    ·intro vs Wx A hA hB hpre K hK
     have e41 := ((hA 41).trans (show _ = vs 12 by kernel_rfl)).trans (by repeat first | exact hpre.1 rfl | replace hpre := hpre.2)
     clear hA hpre
     go_simp
     first | exact hK _ _ hB (by trivial) (fun _ _ h => h) | (rw [if_neg (by omega)]; go_simp; exact hK _ _ hB rfl (fun _ _ h => h))
    iterate 8
     ·intro vs Wx A hA hB hpre
      have eg := ((hA 42).trans (show _ = vs 13 by kernel_rfl)).trans (by repeat first | exact hpre.1 rfl | replace hpre := hpre.2)
      exact ⟨true, eg, fun h => (by cases h), fun _ => trivial⟩
    ·intro vs Wx A hA hB hpre K hK
     have e42 := ((hA 42).trans (show _ = vs 13 by kernel_rfl)).trans (by repeat first | exact hpre.1 rfl | replace hpre := hpre.2)
     clear hA hpre
     go_simp
     first | exact hK _ _ hB (by trivial) (fun _ _ h => h) | (rw [if_neg (by omega)]; go_simp; exact hK _ _ hB rfl (fun _ _ h => h))
    intro vs Wx hB hF
    have h22 : vs 22 = .bool true := hF 22 (by decide)
    have HB6 := Lib.hid (HFB.out Wx hB)
    clear hF hB
    simp only [Ri.puts]
    rw [h22]
    clear h22
    go_simp
    go_wp2
    go_ret
    exact ⟨rfl, by first | exact HB6.out | (rw [hp]; exact HB6.out)⟩
   by_cases q2 : 1152921504606846976 < r.held
   ·obtain rfl : R = 17 := by rw [← hRC, if_neg (by omega)]
    clear hRC
    refine Ri.wp_region_lasting_g (by kernel_rfl) (by kernel_rfl) (by kernel_rfl) (fun Wx => Below wo.heap.size wo Wx) (fun kz vs wz => (fun kx vx wx => match kx with | 0 => vx = .pointer (some ⟨p, 2, none⟩) | 1 => vx = .int .i64 r.held | 2 => vx = .bool false | 3 => vx = .bool false | 4 => vx = .pointer (some ⟨p, 2, none⟩) | 5 => vx = .int .i64 r.held | 6 => vx = .bool true | 7 => vx = .bool true | 8 => vx = .bool true | 9 => True | 10 => True | 11 => True | 12 => vx = .bool true | 13 => vx = .bool true | 14 => True | 15 => True | 16 => True | 17 => True | 18 => True | 19 => True | 20 => True | 21 => True | 22 => vx = .bool true | _ => True : Nat → Value → World → Prop) kz (vs kz) wz) (fun kz => [kz]) (by kernel_rfl) (fun jz vs iz vz wz hiz hz => Ri.loc_own (F := (fun kx vx wx => match kx with | 0 => vx = .pointer (some ⟨p, 2, none⟩) | 1 => vx = .int .i64 r.held | 2 => vx = .bool false | 3 => vx = .bool false | 4 => vx = .pointer (some ⟨p, 2, none⟩) | 5 => vx = .int .i64 r.held | 6 => vx = .bool true | 7 => vx = .bool true | 8 => vx = .bool true | 9 => True | 10 => True | 11 => True | 12 => vx = .bool true | 13 => vx = .bool true | 14 => True | 15 => True | 16 => True | 17 => True | 18 => True | 19 => True | 20 => True | 21 => True | 22 => vx = .bool true | _ => True : Nat → Value → World → Prop)) jz vs iz vz wz hiz hz) HD.out ⟨Or.inl ⟨rfl, ?_⟩, Or.inl ⟨rfl, ?_⟩, Or.inl ⟨rfl, ?_⟩, Or.inl ⟨rfl, ?_⟩, Or.inr ⟨3, false, 32, rfl, rfl, ?_⟩, Or.inr ⟨3, false, 32, rfl, rfl, ?_⟩, Or.inr ⟨3, false, 32, rfl, rfl, ?_⟩, Or.inl ⟨rfl, ?_⟩, Or.inl ⟨rfl, ?_⟩, Or.inr ⟨8, false, 37, rfl, rfl, ?_⟩, Or.inr ⟨8, false, 37, rfl, rfl, ?_⟩, Or.inr ⟨8, false, 37, rfl, rfl, ?_⟩, Or.inl ⟨rfl, ?_⟩, Or.inl ⟨rfl, ?_⟩, Or.inr ⟨13, false, 42, rfl, rfl, ?_⟩, Or.inr ⟨13, false, 42, rfl, rfl, ?_⟩, Or.inr ⟨13, false, 42, rfl, rfl, ?_⟩, Or.inr ⟨13, false, 42, rfl, rfl, ?_⟩, Or.inr ⟨13, false, 42, rfl, rfl, ?_⟩, Or.inr ⟨13, false, 42, rfl, rfl, ?_⟩, Or.inr ⟨13, false, 42, rfl, rfl, ?_⟩, Or.inr ⟨13, false, 42, rfl, rfl, ?_⟩, Or.inl ⟨rfl, ?_⟩, trivial⟩ ?_
    ·intro vs Wx A hA hB hpre K hK
     have e1 := (hA 1).trans (show _ = Value.pointer (some ⟨p, 0, none⟩) by kernel_rfl)
     clear hA hpre
     go_simp
     first | exact hK _ _ hB (by trivial) (fun _ _ h => h) | (rw [if_neg (by omega)]; go_simp; exact hK _ _ hB rfl (fun _ _ h => h))
    ·intro vs Wx A hA hB hpre K hK
     have e29 := ((hA 29).trans (show _ = vs 0 by kernel_rfl)).trans (by repeat first | exact hpre.1 rfl | replace hpre := hpre.2)
     obtain ⟨x0, x1, x2, x3⟩ := four (HXK.out Wx hB)
     clear hA hpre
     go_simp
     first | exact hK _ _ hB (by trivial) (fun _ _ h => h) | (rw [if_neg (by omega)]; go_simp; exact hK _ _ hB rfl (fun _ _ h => h))
    ·intro vs Wx A hA hB hpre K hK
     have e30 := ((hA 30).trans (show _ = vs 1 by kernel_rfl)).trans (by repeat first | exact hpre.1 rfl | replace hpre := hpre.2)
     clear hA hpre
     go_simp
     first | exact hK _ _ hB (by trivial) (fun _ _ h => h) | (rw [if_neg (by omega)]; go_simp; exact hK _ _ hB rfl (fun _ _ h => h))
    ·intro vs Wx A hA hB hpre K hK
     have e31 := ((hA 31).trans (show _ = vs 2 by kernel_rfl)).trans (by repeat first | exact hpre.1 rfl | replace hpre := hpre.2)
     clear hA hpre
     go_simp
     first | exact hK _ _ hB (by trivial) (fun _ _ h => h) | (rw [if_neg (by omega)]; go_simp; exact hK _ _ hB rfl (fun _ _ h => h))
    ·intro vs Wx A hA hB hpre
     have eg := ((hA 32).trans (show _ = vs 3 by kernel_rfl)).trans (by repeat first | exact hpre.1 rfl | replace hpre := hpre.2)
     refine ⟨false, eg, fun _ K hK => ?_, fun h => absurd rfl h⟩
     have e1 := (hA 1).trans (show _ = Value.pointer (some ⟨p, 0, none⟩) by kernel_rfl)
     clear hA hpre
     go_simp
     first | exact hK _ _ hB (by trivial) (fun _ _ h => h) | (rw [if_neg (by omega)]; go_simp; exact hK _ _ hB rfl (fun _ _ h => h))
    ·intro vs Wx A hA hB hpre
     have eg := ((hA 32).trans (show _ = vs 3 by kernel_rfl)).trans (by repeat first | exact hpre.1 rfl | replace hpre := hpre.2)
     refine ⟨false, eg, fun _ K hK => ?_, fun h => absurd rfl h⟩
     have e33 := ((hA 33).trans (show _ = vs 4 by kernel_rfl)).trans (by repeat first | exact hpre.1 rfl | replace hpre := hpre.2)
     obtain ⟨x0, x1, x2, x3⟩ := four (HXK.out Wx hB)
     clear hA hpre
     go_simp
     first | exact hK _ _ hB (by trivial) (fun _ _ h => h) | (rw [if_neg (by omega)]; go_simp; exact hK _ _ hB rfl (fun _ _ h => h))
    ·intro vs Wx A hA hB hpre
     have eg := ((hA 32).trans (show _ = vs 3 by kernel_rfl)).trans (by repeat first | exact hpre.1 rfl | replace hpre := hpre.2)
     refine ⟨false, eg, fun _ K hK => ?_, fun h => absurd rfl h⟩
     have e34 := ((hA 34).trans (show _ = vs 5 by kernel_rfl)).trans (by repeat first | exact hpre.1 rfl | replace hpre := hpre.2)
     clear hA hpre
     go_simp
     first | exact hK _ _ hB (by trivial) (fun _ _ h => h) | (rw [if_neg (by omega)]; go_simp; exact hK _ _ hB rfl (fun _ _ h => h))
    ·intro vs Wx A hA hB hpre K hK
     have e32 := ((hA 32).trans (show _ = vs 3 by kernel_rfl)).trans (by repeat first | exact hpre.1 rfl | replace hpre := hpre.2)
     have e35 := ((hA 35).trans (show _ = vs 6 by kernel_rfl)).trans (by repeat first | exact hpre.1 rfl | replace hpre := hpre.2)
     clear hA hpre
     go_simp
     first | exact hK _ _ hB (by trivial) (fun _ _ h => h) | (rw [if_neg (by omega)]; go_simp; exact hK _ _ hB rfl (fun _ _ h => h))
    ·intro vs Wx A hA hB hpre K hK
     have e36 := ((hA 36).trans (show _ = vs 7 by kernel_rfl)).trans (by repeat first | exact hpre.1 rfl | replace hpre := hpre.2)
     clear hA hpre
     go_simp
     first | exact hK _ _ hB (by trivial) (fun _ _ h => h) | (rw [if_neg (by omega)]; go_simp; exact hK _ _ hB rfl (fun _ _ h => h))
    iterate 3
     ·intro vs Wx A hA hB hpre
      have eg := ((hA 37).trans (show _ = vs 8 by kernel_rfl)).trans (by repeat first | exact hpre.1 rfl | replace hpre := hpre.2)
      exact ⟨true, eg, fun h => (by cases h), fun _ => trivial⟩
    ·intro vs Wx A hA hB hpre K hK
     have e37 := ((hA 37).trans (show _ = vs 8 by kernel_rfl)).trans (by repeat first | exact hpre.1 rfl | replace hpre := hpre.2)
     clear hA hpre
     go_simp
     first | exact hK _ _ hB (by trivial) (fun _ _ h => h) | (rw [if_neg (by omega)]; go_simp; exact hK _ _ hB rfl (fun _ _ h => h))
    ·intro vs Wx A hA hB hpre K hK
     have e41 := ((hA 41).trans (show _ = vs 12 by kernel_rfl)).trans (by repeat first | exact hpre.1 rfl | replace hpre := hpre.2)
     clear hA hpre
     go_simp
     first | exact hK _ _ hB (by trivial) (fun _ _ h => h) | (rw [if_neg (by omega)]; go_simp; exact hK _ _ hB rfl (fun _ _ h => h))
    iterate 8
     ·intro vs Wx A hA hB hpre
      have eg := ((hA 42).trans (show _ = vs 13 by kernel_rfl)).trans (by repeat first | exact hpre.1 rfl | replace hpre := hpre.2)
      exact ⟨true, eg, fun h => (by cases h), fun _ => trivial⟩
    ·intro vs Wx A hA hB hpre K hK
     have e42 := ((hA 42).trans (show _ = vs 13 by kernel_rfl)).trans (by repeat first | exact hpre.1 rfl | replace hpre := hpre.2)
     clear hA hpre
     go_simp
     first | exact hK _ _ hB (by trivial) (fun _ _ h => h) | (rw [if_neg (by omega)]; go_simp; exact hK _ _ hB rfl (fun _ _ h => h))
    intro vs Wx hB hF
    have h22 : vs 22 = .bool true := hF 22 (by decide)
    have HB6 := Lib.hid (HFB.out Wx hB)
    clear hF hB
    simp only [Ri.puts]
    rw [h22]
    clear h22
    go_simp
    go_wp2
    go_ret
    exact ⟨rfl, by first | exact HB6.out | (rw [hp]; exact HB6.out)⟩
   by_cases q3 : r.paid < 0
   ·obtain rfl : R = 17 := by rw [← hRC, if_neg (by omega)]
    clear hRC
    refine Ri.wp_region_lasting_g (by kernel_rfl) (by kernel_rfl) (by kernel_rfl) (fun Wx => Below wo.heap.size wo Wx) (fun kz vs wz => (fun kx vx wx => match kx with | 0 => vx = .pointer (some ⟨p, 2, none⟩) | 1 => vx = .int .i64 r.held | 2 => vx = .bool false | 3 => vx = .bool false | 4 => vx = .pointer (some ⟨p, 2, none⟩) | 5 => vx = .int .i64 r.held | 6 => vx = .bool false | 7 => vx = .bool false | 8 => vx = .bool false | 9 => vx = .pointer (some ⟨p, 1, none⟩) | 10 => vx = .int .i64 r.paid | 11 => vx = .bool true | 12 => vx = .bool true | 13 => vx = .bool true | 14 => True | 15 => True | 16 => True | 17 => True | 18 => True | 19 => True | 20 => True | 21 => True | 22 => vx = .bool true | _ => True : Nat → Value → World → Prop) kz (vs kz) wz) (fun kz => [kz]) (by kernel_rfl) (fun jz vs iz vz wz hiz hz => Ri.loc_own (F := (fun kx vx wx => match kx with | 0 => vx = .pointer (some ⟨p, 2, none⟩) | 1 => vx = .int .i64 r.held | 2 => vx = .bool false | 3 => vx = .bool false | 4 => vx = .pointer (some ⟨p, 2, none⟩) | 5 => vx = .int .i64 r.held | 6 => vx = .bool false | 7 => vx = .bool false | 8 => vx = .bool false | 9 => vx = .pointer (some ⟨p, 1, none⟩) | 10 => vx = .int .i64 r.paid | 11 => vx = .bool true | 12 => vx = .bool true | 13 => vx = .bool true | 14 => True | 15 => True | 16 => True | 17 => True | 18 => True | 19 => True | 20 => True | 21 => True | 22 => vx = .bool true | _ => True : Nat → Value → World → Prop)) jz vs iz vz wz hiz hz) HD.out ⟨Or.inl ⟨rfl, ?_⟩, Or.inl ⟨rfl, ?_⟩, Or.inl ⟨rfl, ?_⟩, Or.inl ⟨rfl, ?_⟩, Or.inr ⟨3, false, 32, rfl, rfl, ?_⟩, Or.inr ⟨3, false, 32, rfl, rfl, ?_⟩, Or.inr ⟨3, false, 32, rfl, rfl, ?_⟩, Or.inl ⟨rfl, ?_⟩, Or.inl ⟨rfl, ?_⟩, Or.inr ⟨8, false, 37, rfl, rfl, ?_⟩, Or.inr ⟨8, false, 37, rfl, rfl, ?_⟩, Or.inr ⟨8, false, 37, rfl, rfl, ?_⟩, Or.inl ⟨rfl, ?_⟩, Or.inl ⟨rfl, ?_⟩, Or.inr ⟨13, false, 42, rfl, rfl, ?_⟩, Or.inr ⟨13, false, 42, rfl, rfl, ?_⟩, Or.inr ⟨13, false, 42, rfl, rfl, ?_⟩, Or.inr ⟨13, false, 42, rfl, rfl, ?_⟩, Or.inr ⟨13, false, 42, rfl, rfl, ?_⟩, Or.inr ⟨13, false, 42, rfl, rfl, ?_⟩, Or.inr ⟨13, false, 42, rfl, rfl, ?_⟩, Or.inr ⟨13, false, 42, rfl, rfl, ?_⟩, Or.inl ⟨rfl, ?_⟩, trivial⟩ ?_
    ·intro vs Wx A hA hB hpre K hK
     have e1 := (hA 1).trans (show _ = Value.pointer (some ⟨p, 0, none⟩) by kernel_rfl)
     clear hA hpre
     go_simp
     first | exact hK _ _ hB (by trivial) (fun _ _ h => h) | (rw [if_neg (by omega)]; go_simp; exact hK _ _ hB rfl (fun _ _ h => h))
    ·intro vs Wx A hA hB hpre K hK
     have e29 := ((hA 29).trans (show _ = vs 0 by kernel_rfl)).trans (by repeat first | exact hpre.1 rfl | replace hpre := hpre.2)
     obtain ⟨x0, x1, x2, x3⟩ := four (HXK.out Wx hB)
     clear hA hpre
     go_simp
     first | exact hK _ _ hB (by trivial) (fun _ _ h => h) | (rw [if_neg (by omega)]; go_simp; exact hK _ _ hB rfl (fun _ _ h => h))
    ·intro vs Wx A hA hB hpre K hK
     have e30 := ((hA 30).trans (show _ = vs 1 by kernel_rfl)).trans (by repeat first | exact hpre.1 rfl | replace hpre := hpre.2)
     clear hA hpre
     go_simp
     first | exact hK _ _ hB (by trivial) (fun _ _ h => h) | (rw [if_neg (by omega)]; go_simp; exact hK _ _ hB rfl (fun _ _ h => h))
    ·intro vs Wx A hA hB hpre K hK
     have e31 := ((hA 31).trans (show _ = vs 2 by kernel_rfl)).trans (by repeat first | exact hpre.1 rfl | replace hpre := hpre.2)
     clear hA hpre
     go_simp
     first | exact hK _ _ hB (by trivial) (fun _ _ h => h) | (rw [if_neg (by omega)]; go_simp; exact hK _ _ hB rfl (fun _ _ h => h))
    ·intro vs Wx A hA hB hpre
     have eg := ((hA 32).trans (show _ = vs 3 by kernel_rfl)).trans (by repeat first | exact hpre.1 rfl | replace hpre := hpre.2)
     refine ⟨false, eg, fun _ K hK => ?_, fun h => absurd rfl h⟩
     have e1 := (hA 1).trans (show _ = Value.pointer (some ⟨p, 0, none⟩) by kernel_rfl)
     clear hA hpre
     go_simp
     first | exact hK _ _ hB (by trivial) (fun _ _ h => h) | (rw [if_neg (by omega)]; go_simp; exact hK _ _ hB rfl (fun _ _ h => h))
    ·intro vs Wx A hA hB hpre
     have eg := ((hA 32).trans (show _ = vs 3 by kernel_rfl)).trans (by repeat first | exact hpre.1 rfl | replace hpre := hpre.2)
     refine ⟨false, eg, fun _ K hK => ?_, fun h => absurd rfl h⟩
     have e33 := ((hA 33).trans (show _ = vs 4 by kernel_rfl)).trans (by repeat first | exact hpre.1 rfl | replace hpre := hpre.2)
     obtain ⟨x0, x1, x2, x3⟩ := four (HXK.out Wx hB)
     clear hA hpre
     go_simp
     first | exact hK _ _ hB (by trivial) (fun _ _ h => h) | (rw [if_neg (by omega)]; go_simp; exact hK _ _ hB rfl (fun _ _ h => h))
    ·intro vs Wx A hA hB hpre
     have eg := ((hA 32).trans (show _ = vs 3 by kernel_rfl)).trans (by repeat first | exact hpre.1 rfl | replace hpre := hpre.2)
     refine ⟨false, eg, fun _ K hK => ?_, fun h => absurd rfl h⟩
     have e34 := ((hA 34).trans (show _ = vs 5 by kernel_rfl)).trans (by repeat first | exact hpre.1 rfl | replace hpre := hpre.2)
     clear hA hpre
     go_simp
     first | exact hK _ _ hB (by trivial) (fun _ _ h => h) | (rw [if_neg (by omega)]; go_simp; exact hK _ _ hB rfl (fun _ _ h => h))
    ·intro vs Wx A hA hB hpre K hK
     have e32 := ((hA 32).trans (show _ = vs 3 by kernel_rfl)).trans (by repeat first | exact hpre.1 rfl | replace hpre := hpre.2)
     have e35 := ((hA 35).trans (show _ = vs 6 by kernel_rfl)).trans (by repeat first | exact hpre.1 rfl | replace hpre := hpre.2)
     clear hA hpre
     go_simp
     first | exact hK _ _ hB (by trivial) (fun _ _ h => h) | (rw [if_neg (by omega)]; go_simp; exact hK _ _ hB rfl (fun _ _ h => h))
    ·intro vs Wx A hA hB hpre K hK
     have e36 := ((hA 36).trans (show _ = vs 7 by kernel_rfl)).trans (by repeat first | exact hpre.1 rfl | replace hpre := hpre.2)
     clear hA hpre
     go_simp
     first | exact hK _ _ hB (by trivial) (fun _ _ h => h) | (rw [if_neg (by omega)]; go_simp; exact hK _ _ hB rfl (fun _ _ h => h))
    ·intro vs Wx A hA hB hpre
     have eg := ((hA 37).trans (show _ = vs 8 by kernel_rfl)).trans (by repeat first | exact hpre.1 rfl | replace hpre := hpre.2)
     refine ⟨false, eg, fun _ K hK => ?_, fun h => absurd rfl h⟩
     have e1 := (hA 1).trans (show _ = Value.pointer (some ⟨p, 0, none⟩) by kernel_rfl)
     clear hA hpre
     go_simp
     first | exact hK _ _ hB (by trivial) (fun _ _ h => h) | (rw [if_neg (by omega)]; go_simp; exact hK _ _ hB rfl (fun _ _ h => h))
    ·intro vs Wx A hA hB hpre
     have eg := ((hA 37).trans (show _ = vs 8 by kernel_rfl)).trans (by repeat first | exact hpre.1 rfl | replace hpre := hpre.2)
     refine ⟨false, eg, fun _ K hK => ?_, fun h => absurd rfl h⟩
     have e38 := ((hA 38).trans (show _ = vs 9 by kernel_rfl)).trans (by repeat first | exact hpre.1 rfl | replace hpre := hpre.2)
     obtain ⟨x0, x1, x2, x3⟩ := four (HXK.out Wx hB)
     clear hA hpre
     go_simp
     first | exact hK _ _ hB (by trivial) (fun _ _ h => h) | (rw [if_neg (by omega)]; go_simp; exact hK _ _ hB rfl (fun _ _ h => h))
    ·intro vs Wx A hA hB hpre
     have eg := ((hA 37).trans (show _ = vs 8 by kernel_rfl)).trans (by repeat first | exact hpre.1 rfl | replace hpre := hpre.2)
     refine ⟨false, eg, fun _ K hK => ?_, fun h => absurd rfl h⟩
     have e39 := ((hA 39).trans (show _ = vs 10 by kernel_rfl)).trans (by repeat first | exact hpre.1 rfl | replace hpre := hpre.2)
     clear hA hpre
     go_simp
     first | exact hK _ _ hB (by trivial) (fun _ _ h => h) | (rw [if_neg (by omega)]; go_simp; exact hK _ _ hB rfl (fun _ _ h => h))
    ·intro vs Wx A hA hB hpre K hK
     have e37 := ((hA 37).trans (show _ = vs 8 by kernel_rfl)).trans (by repeat first | exact hpre.1 rfl | replace hpre := hpre.2)
     have e40 := ((hA 40).trans (show _ = vs 11 by kernel_rfl)).trans (by repeat first | exact hpre.1 rfl | replace hpre := hpre.2)
     clear hA hpre
     go_simp
     first | exact hK _ _ hB (by trivial) (fun _ _ h => h) | (rw [if_neg (by omega)]; go_simp; exact hK _ _ hB rfl (fun _ _ h => h))
    ·intro vs Wx A hA hB hpre K hK
     have e41 := ((hA 41).trans (show _ = vs 12 by kernel_rfl)).trans (by repeat first | exact hpre.1 rfl | replace hpre := hpre.2)
     clear hA hpre
     go_simp
     first | exact hK _ _ hB (by trivial) (fun _ _ h => h) | (rw [if_neg (by omega)]; go_simp; exact hK _ _ hB rfl (fun _ _ h => h))
    iterate 8
     ·intro vs Wx A hA hB hpre
      have eg := ((hA 42).trans (show _ = vs 13 by kernel_rfl)).trans (by repeat first | exact hpre.1 rfl | replace hpre := hpre.2)
      exact ⟨true, eg, fun h => (by cases h), fun _ => trivial⟩
    ·intro vs Wx A hA hB hpre K hK
     have e42 := ((hA 42).trans (show _ = vs 13 by kernel_rfl)).trans (by repeat first | exact hpre.1 rfl | replace hpre := hpre.2)
     clear hA hpre
     go_simp
     first | exact hK _ _ hB (by trivial) (fun _ _ h => h) | (rw [if_neg (by omega)]; go_simp; exact hK _ _ hB rfl (fun _ _ h => h))
    intro vs Wx hB hF
    have h22 : vs 22 = .bool true := hF 22 (by decide)
    have HB6 := Lib.hid (HFB.out Wx hB)
    clear hF hB
    simp only [Ri.puts]
    rw [h22]
    clear h22
    go_simp
    go_wp2
    go_ret
    exact ⟨rfl, by first | exact HB6.out | (rw [hp]; exact HB6.out)⟩
   have hw1 : IntKind.i64.wrap (S - r.held) = S - r.held := by rw [IntKind.wrap_i64]; omega
   by_cases q4 : r.paid = S - r.held
   ·obtain rfl : R = 0 := by rw [← hRC, if_pos ⟨by omega, by omega, q4⟩]
    clear hRC
    have hne : (r.paid != S - r.held) = false := by rw [← q4]; simp
    clear q4
    refine Ri.wp_region_lasting_g (by kernel_rfl) (by kernel_rfl) (by kernel_rfl) (fun Wx => Below wo.heap.size wo Wx) (fun kz vs wz => (fun kx vx wx => match kx with | 0 => vx = .pointer (some ⟨p, 2, none⟩) | 1 => vx = .int .i64 r.held | 2 => vx = .bool false | 3 => vx = .bool false | 4 => vx = .pointer (some ⟨p, 2, none⟩) | 5 => vx = .int .i64 r.held | 6 => vx = .bool false | 7 => vx = .bool false | 8 => vx = .bool false | 9 => vx = .pointer (some ⟨p, 1, none⟩) | 10 => vx = .int .i64 r.paid | 11 => vx = .bool false | 12 => vx = .bool false | 13 => vx = .bool false | 14 => vx = .pointer (some ⟨p, 1, none⟩) | 15 => vx = .int .i64 r.paid | 16 => vx = rmv r (.slice a r.cs.length cap) | 17 => vx = .int .i64 S | 18 => vx = .pointer (some ⟨p, 2, none⟩) | 19 => vx = .int .i64 r.held | 20 => vx = .int .i64 (S - r.held) | 21 => vx = .bool false | 22 => vx = .bool false | _ => True : Nat → Value → World → Prop) kz (vs kz) wz) (fun kz => [kz]) (by kernel_rfl) (fun jz vs iz vz wz hiz hz => Ri.loc_own (F := (fun kx vx wx => match kx with | 0 => vx = .pointer (some ⟨p, 2, none⟩) | 1 => vx = .int .i64 r.held | 2 => vx = .bool false | 3 => vx = .bool false | 4 => vx = .pointer (some ⟨p, 2, none⟩) | 5 => vx = .int .i64 r.held | 6 => vx = .bool false | 7 => vx = .bool false | 8 => vx = .bool false | 9 => vx = .pointer (some ⟨p, 1, none⟩) | 10 => vx = .int .i64 r.paid | 11 => vx = .bool false | 12 => vx = .bool false | 13 => vx = .bool false | 14 => vx = .pointer (some ⟨p, 1, none⟩) | 15 => vx = .int .i64 r.paid | 16 => vx = rmv r (.slice a r.cs.length cap) | 17 => vx = .int .i64 S | 18 => vx = .pointer (some ⟨p, 2, none⟩) | 19 => vx = .int .i64 r.held | 20 => vx = .int .i64 (S - r.held) | 21 => vx = .bool false | 22 => vx = .bool false | _ => True : Nat → Value → World → Prop)) jz vs iz vz wz hiz hz) HD.out ⟨Or.inl ⟨rfl, ?_⟩, Or.inl ⟨rfl, ?_⟩, Or.inl ⟨rfl, ?_⟩, Or.inl ⟨rfl, ?_⟩, Or.inr ⟨3, false, 32, rfl, rfl, ?_⟩, Or.inr ⟨3, false, 32, rfl, rfl, ?_⟩, Or.inr ⟨3, false, 32, rfl, rfl, ?_⟩, Or.inl ⟨rfl, ?_⟩, Or.inl ⟨rfl, ?_⟩, Or.inr ⟨8, false, 37, rfl, rfl, ?_⟩, Or.inr ⟨8, false, 37, rfl, rfl, ?_⟩, Or.inr ⟨8, false, 37, rfl, rfl, ?_⟩, Or.inl ⟨rfl, ?_⟩, Or.inl ⟨rfl, ?_⟩, Or.inr ⟨13, false, 42, rfl, rfl, ?_⟩, Or.inr ⟨13, false, 42, rfl, rfl, ?_⟩, Or.inr ⟨13, false, 42, rfl, rfl, ?_⟩, Or.inr ⟨13, false, 42, rfl, rfl, ?_⟩, Or.inr ⟨13, false, 42, rfl, rfl, ?_⟩, Or.inr ⟨13, false, 42, rfl, rfl, ?_⟩, Or.inr ⟨13, false, 42, rfl, rfl, ?_⟩, Or.inr ⟨13, false, 42, rfl, rfl, ?_⟩, Or.inl ⟨rfl, ?_⟩, trivial⟩ ?_
    ·intro vs Wx A hA hB hpre K hK
     have e1 := (hA 1).trans (show _ = Value.pointer (some ⟨p, 0, none⟩) by kernel_rfl)
     clear hA hpre
     go_simp
     first | exact hK _ _ hB (by trivial) (fun _ _ h => h) | (rw [if_neg (by omega)]; go_simp; exact hK _ _ hB rfl (fun _ _ h => h))
    ·intro vs Wx A hA hB hpre K hK
     have e29 := ((hA 29).trans (show _ = vs 0 by kernel_rfl)).trans (by repeat first | exact hpre.1 rfl | replace hpre := hpre.2)
     obtain ⟨x0, x1, x2, x3⟩ := four (HXK.out Wx hB)
     clear hA hpre
     go_simp
     first | exact hK _ _ hB (by trivial) (fun _ _ h => h) | (rw [if_neg (by omega)]; go_simp; exact hK _ _ hB rfl (fun _ _ h => h))
    ·intro vs Wx A hA hB hpre K hK
     have e30 := ((hA 30).trans (show _ = vs 1 by kernel_rfl)).trans (by repeat first | exact hpre.1 rfl | replace hpre := hpre.2)
     clear hA hpre
     go_simp
     first | exact hK _ _ hB (by trivial) (fun _ _ h => h) | (rw [if_neg (by omega)]; go_simp; exact hK _ _ hB rfl (fun _ _ h => h))
    ·intro vs Wx A hA hB hpre K hK
     have e31 := ((hA 31).trans (show _ = vs 2 by kernel_rfl)).trans (by repeat first | exact hpre.1 rfl | replace hpre := hpre.2)
     clear hA hpre
     go_simp
     first | exact hK _ _ hB (by trivial) (fun _ _ h => h) | (rw [if_neg (by omega)]; go_simp; exact hK _ _ hB rfl (fun _ _ h => h))
    ·intro vs Wx A hA hB hpre
     have eg := ((hA 32).trans (show _ = vs 3 by kernel_rfl)).trans (by repeat first | exact hpre.1 rfl | replace hpre := hpre.2)
     refine ⟨false, eg, fun _ K hK => ?_, fun h => absurd rfl h⟩
     have e1 := (hA 1).trans (show _ = Value.pointer (some ⟨p, 0, none⟩) by kernel_rfl)
     clear hA hpre
     go_simp
     first | exact hK _ _ hB (by trivial) (fun _ _ h => h) | (rw [if_neg (by omega)]; go_simp; exact hK _ _ hB rfl (fun _ _ h => h))
    ·intro vs Wx A hA hB hpre
     have eg := ((hA 32).trans (show _ = vs 3 by kernel_rfl)).trans (by repeat first | exact hpre.1 rfl | replace hpre := hpre.2)
     refine ⟨false, eg, fun _ K hK => ?_, fun h => absurd rfl h⟩
     have e33 := ((hA 33).trans (show _ = vs 4 by kernel_rfl)).trans (by repeat first | exact hpre.1 rfl | replace hpre := hpre.2)
     obtain ⟨x0, x1, x2, x3⟩ := four (HXK.out Wx hB)
     clear hA hpre
     go_simp
     first | exact hK _ _ hB (by trivial) (fun _ _ h => h) | (rw [if_neg (by omega)]; go_simp; exact hK _ _ hB rfl (fun _ _ h => h))
    ·intro vs Wx A hA hB hpre
     have eg := ((hA 32).trans (show _ = vs 3 by kernel_rfl)).trans (by repeat first | exact hpre.1 rfl | replace hpre := hpre.2)
     refine ⟨false, eg, fun _ K hK => ?_, fun h => absurd rfl h⟩
     have e34 := ((hA 34).trans (show _ = vs 5 by kernel_rfl)).trans (by repeat first | exact hpre.1 rfl | replace hpre := hpre.2)
     clear hA hpre
     go_simp
     first | exact hK _ _ hB (by trivial) (fun _ _ h => h) | (rw [if_neg (by omega)]; go_simp; exact hK _ _ hB rfl (fun _ _ h => h))
    ·intro vs Wx A hA hB hpre K hK
     have e32 := ((hA 32).trans (show _ = vs 3 by kernel_rfl)).trans (by repeat first | exact hpre.1 rfl | replace hpre := hpre.2)
     have e35 := ((hA 35).trans (show _ = vs 6 by kernel_rfl)).trans (by repeat first | exact hpre.1 rfl | replace hpre := hpre.2)
     clear hA hpre
     go_simp
     first | exact hK _ _ hB (by trivial) (fun _ _ h => h) | (rw [if_neg (by omega)]; go_simp; exact hK _ _ hB rfl (fun _ _ h => h))
    ·intro vs Wx A hA hB hpre K hK
     have e36 := ((hA 36).trans (show _ = vs 7 by kernel_rfl)).trans (by repeat first | exact hpre.1 rfl | replace hpre := hpre.2)
     clear hA hpre
     go_simp
     first | exact hK _ _ hB (by trivial) (fun _ _ h => h) | (rw [if_neg (by omega)]; go_simp; exact hK _ _ hB rfl (fun _ _ h => h))
    ·intro vs Wx A hA hB hpre
     have eg := ((hA 37).trans (show _ = vs 8 by kernel_rfl)).trans (by repeat first | exact hpre.1 rfl | replace hpre := hpre.2)
     refine ⟨false, eg, fun _ K hK => ?_, fun h => absurd rfl h⟩
     have e1 := (hA 1).trans (show _ = Value.pointer (some ⟨p, 0, none⟩) by kernel_rfl)
     clear hA hpre
     go_simp
     first | exact hK _ _ hB (by trivial) (fun _ _ h => h) | (rw [if_neg (by omega)]; go_simp; exact hK _ _ hB rfl (fun _ _ h => h))
    ·intro vs Wx A hA hB hpre
     have eg := ((hA 37).trans (show _ = vs 8 by kernel_rfl)).trans (by repeat first | exact hpre.1 rfl | replace hpre := hpre.2)
     refine ⟨false, eg, fun _ K hK => ?_, fun h => absurd rfl h⟩
     have e38 := ((hA 38).trans (show _ = vs 9 by kernel_rfl)).trans (by repeat first | exact hpre.1 rfl | replace hpre := hpre.2)
     obtain ⟨x0, x1, x2, x3⟩ := four (HXK.out Wx hB)
     clear hA hpre
     go_simp
     first | exact hK _ _ hB (by trivial) (fun _ _ h => h) | (rw [if_neg (by omega)]; go_simp; exact hK _ _ hB rfl (fun _ _ h => h))
    ·intro vs Wx A hA hB hpre
     have eg := ((hA 37).trans (show _ = vs 8 by kernel_rfl)).trans (by repeat first | exact hpre.1 rfl | replace hpre := hpre.2)
     refine ⟨false, eg, fun _ K hK => ?_, fun h => absurd rfl h⟩
     have e39 := ((hA 39).trans (show _ = vs 10 by kernel_rfl)).trans (by repeat first | exact hpre.1 rfl | replace hpre := hpre.2)
     clear hA hpre
     go_simp
     first | exact hK _ _ hB (by trivial) (fun _ _ h => h) | (rw [if_neg (by omega)]; go_simp; exact hK _ _ hB rfl (fun _ _ h => h))
    ·intro vs Wx A hA hB hpre K hK
     have e37 := ((hA 37).trans (show _ = vs 8 by kernel_rfl)).trans (by repeat first | exact hpre.1 rfl | replace hpre := hpre.2)
     have e40 := ((hA 40).trans (show _ = vs 11 by kernel_rfl)).trans (by repeat first | exact hpre.1 rfl | replace hpre := hpre.2)
     clear hA hpre
     go_simp
     first | exact hK _ _ hB (by trivial) (fun _ _ h => h) | (rw [if_neg (by omega)]; go_simp; exact hK _ _ hB rfl (fun _ _ h => h))
    ·intro vs Wx A hA hB hpre K hK
     have e41 := ((hA 41).trans (show _ = vs 12 by kernel_rfl)).trans (by repeat first | exact hpre.1 rfl | replace hpre := hpre.2)
     clear hA hpre
     go_simp
     first | exact hK _ _ hB (by trivial) (fun _ _ h => h) | (rw [if_neg (by omega)]; go_simp; exact hK _ _ hB rfl (fun _ _ h => h))
    ·intro vs Wx A hA hB hpre
     have eg := ((hA 42).trans (show _ = vs 13 by kernel_rfl)).trans (by repeat first | exact hpre.1 rfl | replace hpre := hpre.2)
     refine ⟨false, eg, fun _ K hK => ?_, fun h => absurd rfl h⟩
     have e1 := (hA 1).trans (show _ = Value.pointer (some ⟨p, 0, none⟩) by kernel_rfl)
     clear hA hpre
     go_simp
     first | exact hK _ _ hB (by trivial) (fun _ _ h => h) | (rw [if_neg (by omega)]; go_simp; exact hK _ _ hB rfl (fun _ _ h => h))
    ·intro vs Wx A hA hB hpre
     have eg := ((hA 42).trans (show _ = vs 13 by kernel_rfl)).trans (by repeat first | exact hpre.1 rfl | replace hpre := hpre.2)
     refine ⟨false, eg, fun _ K hK => ?_, fun h => absurd rfl h⟩
     have e43 := ((hA 43).trans (show _ = vs 14 by kernel_rfl)).trans (by repeat first | exact hpre.1 rfl | replace hpre := hpre.2)
     obtain ⟨x0, x1, x2, x3⟩ := four (HXK.out Wx hB)
     clear hA hpre
     go_simp
     first | exact hK _ _ hB (by trivial) (fun _ _ h => h) | (rw [if_neg (by omega)]; go_simp; exact hK _ _ hB rfl (fun _ _ h => h))
    ·intro vs Wx A hA hB hpre
     have eg := ((hA 42).trans (show _ = vs 13 by kernel_rfl)).trans (by repeat first | exact hpre.1 rfl | replace hpre := hpre.2)
     refine ⟨false, eg, fun _ K hK => ?_, fun h => absurd rfl h⟩
     have e1 := (hA 1).trans (show _ = Value.pointer (some ⟨p, 0, none⟩) by kernel_rfl)
     obtain ⟨x0, x1, x2, x3⟩ := four (HXK.out Wx hB)
     clear hA hpre
     go_simp
     first | exact hK _ _ hB (by trivial) (fun _ _ h => h) | (rw [if_neg (by omega)]; go_simp; exact hK _ _ hB rfl (fun _ _ h => h))
    ·intro vs Wx A hA hB hpre
     have eg := ((hA 42).trans (show _ = vs 13 by kernel_rfl)).trans (by repeat first | exact hpre.1 rfl | replace hpre := hpre.2)
     refine ⟨false, eg, fun _ K hK => ?_, fun h => absurd rfl h⟩
     have e45 := ((hA 45).trans (show _ = vs 16 by kernel_rfl)).trans (by repeat first | exact hpre.1 rfl | replace hpre := hpre.2)
     clear hA hpre
     go_simp
     go_at_call 19
     refine (HSS.out Wx hB).mono ?_
     rintro e w4 ⟨rfl, hg⟩
     exact hK _ _ (below_trans hB hg) rfl (fun _ _ h => h)
    ·intro vs Wx A hA hB hpre
     have eg := ((hA 42).trans (show _ = vs 13 by kernel_rfl)).trans (by repeat first | exact hpre.1 rfl | replace hpre := hpre.2)
     refine ⟨false, eg, fun _ K hK => ?_, fun h => absurd rfl h⟩
     have e1 := (hA 1).trans (show _ = Value.pointer (some ⟨p, 0, none⟩) by kernel_rfl)
     clear hA hpre
     go_simp
     first | exact hK _ _ hB (by trivial) (fun _ _ h => h) | (rw [if_neg (by omega)]; go_simp; exact hK _ _ hB rfl (fun _ _ h => h))
    ·intro vs Wx A hA hB hpre
     have eg := ((hA 42).trans (show _ = vs 13 by kernel_rfl)).trans (by repeat first | exact hpre.1 rfl | replace hpre := hpre.2)
     refine ⟨false, eg, fun _ K hK => ?_, fun h => absurd rfl h⟩
     have e47 := ((hA 47).trans (show _ = vs 18 by kernel_rfl)).trans (by repeat first | exact hpre.1 rfl | replace hpre := hpre.2)
     obtain ⟨x0, x1, x2, x3⟩ := four (HXK.out Wx hB)
     clear hA hpre
     go_simp
     first | exact hK _ _ hB (by trivial) (fun _ _ h => h) | (rw [if_neg (by omega)]; go_simp; exact hK _ _ hB rfl (fun _ _ h => h))
    ·intro vs Wx A hA hB hpre
     have eg := ((hA 42).trans (show _ = vs 13 by kernel_rfl)).trans (by repeat first | exact hpre.1 rfl | replace hpre := hpre.2)
     refine ⟨false, eg, fun _ K hK => ?_, fun h => absurd rfl h⟩
     have e46 := ((hA 46).trans (show _ = vs 17 by kernel_rfl)).trans (by repeat first | exact hpre.1 rfl | replace hpre := hpre.2)
     have e48 := ((hA 48).trans (show _ = vs 19 by kernel_rfl)).trans (by repeat first | exact hpre.1 rfl | replace hpre := hpre.2)
     clear hA hpre
     go_simp
     first | exact hK _ _ hB (by trivial) (fun _ _ h => h) | (rw [if_neg (by omega)]; go_simp; exact hK _ _ hB rfl (fun _ _ h => h))
    ·intro vs Wx A hA hB hpre
     have eg := ((hA 42).trans (show _ = vs 13 by kernel_rfl)).trans (by repeat first | exact hpre.1 rfl | replace hpre := hpre.2)
     refine ⟨false, eg, fun _ K hK => ?_, fun h => absurd rfl h⟩
     have e44 := ((hA 44).trans (show _ = vs 15 by kernel_rfl)).trans (by repeat first | exact hpre.1 rfl | replace hpre := hpre.2)
     have e49 := ((hA 49).trans (show _ = vs 20 by kernel_rfl)).trans (by repeat first | exact hpre.1 rfl | replace hpre := hpre.2)
     clear hA hpre
     go_simp
     first | exact hK _ _ hB (by trivial) (fun _ _ h => h) | (rw [if_neg (by omega)]; go_simp; exact hK _ _ hB rfl (fun _ _ h => h))
    ·intro vs Wx A hA hB hpre K hK
     have e42 := ((hA 42).trans (show _ = vs 13 by kernel_rfl)).trans (by repeat first | exact hpre.1 rfl | replace hpre := hpre.2)
     have e50 := ((hA 50).trans (show _ = vs 21 by kernel_rfl)).trans (by repeat first | exact hpre.1 rfl | replace hpre := hpre.2)
     clear hA hpre
     go_simp
     first | exact hK _ _ hB (by trivial) (fun _ _ h => h) | (rw [if_neg (by omega)]; go_simp; exact hK _ _ hB rfl (fun _ _ h => h))
    intro vs Wx hB hF
    have h22 : vs 22 = .bool false := hF 22 (by decide)
    have HB6 := Lib.hid (HFB.out Wx hB)
    clear hF hB
    simp only [Ri.puts]
    rw [h22]
    clear h22
    go_simp
    go_wp2
    go_ret
    exact ⟨rfl, by first | exact HB6.out | (rw [hp]; exact HB6.out)⟩
   ·obtain rfl : R = 17 := by rw [← hRC, if_neg (fun h => q4 h.2.2)]
    clear hRC
    have hne : (r.paid != S - r.held) = true := by simpa using q4
    clear q4
    refine Ri.wp_region_lasting_g (by kernel_rfl) (by kernel_rfl) (by kernel_rfl) (fun Wx => Below wo.heap.size wo Wx) (fun kz vs wz => (fun kx vx wx => match kx with | 0 => vx = .pointer (some ⟨p, 2, none⟩) | 1 => vx = .int .i64 r.held | 2 => vx = .bool false | 3 => vx = .bool false | 4 => vx = .pointer (some ⟨p, 2, none⟩) | 5 => vx = .int .i64 r.held | 6 => vx = .bool false | 7 => vx = .bool false | 8 => vx = .bool false | 9 => vx = .pointer (some ⟨p, 1, none⟩) | 10 => vx = .int .i64 r.paid | 11 => vx = .bool false | 12 => vx = .bool false | 13 => vx = .bool false | 14 => vx = .pointer (some ⟨p, 1, none⟩) | 15 => vx = .int .i64 r.paid | 16 => vx = rmv r (.slice a r.cs.length cap) | 17 => vx = .int .i64 S | 18 => vx = .pointer (some ⟨p, 2, none⟩) | 19 => vx = .int .i64 r.held | 20 => vx = .int .i64 (S - r.held) | 21 => vx = .bool true | 22 => vx = .bool true | _ => True : Nat → Value → World → Prop) kz (vs kz) wz) (fun kz => [kz]) (by kernel_rfl) (fun jz vs iz vz wz hiz hz => Ri.loc_own (F := (fun kx vx wx => match kx with | 0 => vx = .pointer (some ⟨p, 2, none⟩) | 1 => vx = .int .i64 r.held | 2 => vx = .bool false | 3 => vx = .bool false | 4 => vx = .pointer (some ⟨p, 2, none⟩) | 5 => vx = .int .i64 r.held | 6 => vx = .bool false | 7 => vx = .bool false | 8 => vx = .bool false | 9 => vx = .pointer (some ⟨p, 1, none⟩) | 10 => vx = .int .i64 r.paid | 11 => vx = .bool false | 12 => vx = .bool false | 13 => vx = .bool false | 14 => vx = .pointer (some ⟨p, 1, none⟩) | 15 => vx = .int .i64 r.paid | 16 => vx = rmv r (.slice a r.cs.length cap) | 17 => vx = .int .i64 S | 18 => vx = .pointer (some ⟨p, 2, none⟩) | 19 => vx = .int .i64 r.held | 20 => vx = .int .i64 (S - r.held) | 21 => vx = .bool true | 22 => vx = .bool true | _ => True : Nat → Value → World → Prop)) jz vs iz vz wz hiz hz) HD.out ⟨Or.inl ⟨rfl, ?_⟩, Or.inl ⟨rfl, ?_⟩, Or.inl ⟨rfl, ?_⟩, Or.inl ⟨rfl, ?_⟩, Or.inr ⟨3, false, 32, rfl, rfl, ?_⟩, Or.inr ⟨3, false, 32, rfl, rfl, ?_⟩, Or.inr ⟨3, false, 32, rfl, rfl, ?_⟩, Or.inl ⟨rfl, ?_⟩, Or.inl ⟨rfl, ?_⟩, Or.inr ⟨8, false, 37, rfl, rfl, ?_⟩, Or.inr ⟨8, false, 37, rfl, rfl, ?_⟩, Or.inr ⟨8, false, 37, rfl, rfl, ?_⟩, Or.inl ⟨rfl, ?_⟩, Or.inl ⟨rfl, ?_⟩, Or.inr ⟨13, false, 42, rfl, rfl, ?_⟩, Or.inr ⟨13, false, 42, rfl, rfl, ?_⟩, Or.inr ⟨13, false, 42, rfl, rfl, ?_⟩, Or.inr ⟨13, false, 42, rfl, rfl, ?_⟩, Or.inr ⟨13, false, 42, rfl, rfl, ?_⟩, Or.inr ⟨13, false, 42, rfl, rfl, ?_⟩, Or.inr ⟨13, false, 42, rfl, rfl, ?_⟩, Or.inr ⟨13, false, 42, rfl, rfl, ?_⟩, Or.inl ⟨rfl, ?_⟩, trivial⟩ ?_
    ·intro vs Wx A hA hB hpre K hK
     have e1 := (hA 1).trans (show _ = Value.pointer (some ⟨p, 0, none⟩) by kernel_rfl)
     clear hA hpre
     go_simp
     first | exact hK _ _ hB (by trivial) (fun _ _ h => h) | (rw [if_neg (by omega)]; go_simp; exact hK _ _ hB rfl (fun _ _ h => h))
    ·intro vs Wx A hA hB hpre K hK
     have e29 := ((hA 29).trans (show _ = vs 0 by kernel_rfl)).trans (by repeat first | exact hpre.1 rfl | replace hpre := hpre.2)
     obtain ⟨x0, x1, x2, x3⟩ := four (HXK.out Wx hB)
     clear hA hpre
     go_simp
     first | exact hK _ _ hB (by trivial) (fun _ _ h => h) | (rw [if_neg (by omega)]; go_simp; exact hK _ _ hB rfl (fun _ _ h => h))
    ·intro vs Wx A hA hB hpre K hK
     have e30 := ((hA 30).trans (show _ = vs 1 by kernel_rfl)).trans (by repeat first | exact hpre.1 rfl | replace hpre := hpre.2)
     clear hA hpre
     go_simp
     first | exact hK _ _ hB (by trivial) (fun _ _ h => h) | (rw [if_neg (by omega)]; go_simp; exact hK _ _ hB rfl (fun _ _ h => h))
    ·intro vs Wx A hA hB hpre K hK
     have e31 := ((hA 31).trans (show _ = vs 2 by kernel_rfl)).trans (by repeat first | exact hpre.1 rfl | replace hpre := hpre.2)
     clear hA hpre
     go_simp
     first | exact hK _ _ hB (by trivial) (fun _ _ h => h) | (rw [if_neg (by omega)]; go_simp; exact hK _ _ hB rfl (fun _ _ h => h))
    ·intro vs Wx A hA hB hpre
     have eg := ((hA 32).trans (show _ = vs 3 by kernel_rfl)).trans (by repeat first | exact hpre.1 rfl | replace hpre := hpre.2)
     refine ⟨false, eg, fun _ K hK => ?_, fun h => absurd rfl h⟩
     have e1 := (hA 1).trans (show _ = Value.pointer (some ⟨p, 0, none⟩) by kernel_rfl)
     clear hA hpre
     go_simp
     first | exact hK _ _ hB (by trivial) (fun _ _ h => h) | (rw [if_neg (by omega)]; go_simp; exact hK _ _ hB rfl (fun _ _ h => h))
    ·intro vs Wx A hA hB hpre
     have eg := ((hA 32).trans (show _ = vs 3 by kernel_rfl)).trans (by repeat first | exact hpre.1 rfl | replace hpre := hpre.2)
     refine ⟨false, eg, fun _ K hK => ?_, fun h => absurd rfl h⟩
     have e33 := ((hA 33).trans (show _ = vs 4 by kernel_rfl)).trans (by repeat first | exact hpre.1 rfl | replace hpre := hpre.2)
     obtain ⟨x0, x1, x2, x3⟩ := four (HXK.out Wx hB)
     clear hA hpre
     go_simp
     first | exact hK _ _ hB (by trivial) (fun _ _ h => h) | (rw [if_neg (by omega)]; go_simp; exact hK _ _ hB rfl (fun _ _ h => h))
    ·intro vs Wx A hA hB hpre
     have eg := ((hA 32).trans (show _ = vs 3 by kernel_rfl)).trans (by repeat first | exact hpre.1 rfl | replace hpre := hpre.2)
     refine ⟨false, eg, fun _ K hK => ?_, fun h => absurd rfl h⟩
     have e34 := ((hA 34).trans (show _ = vs 5 by kernel_rfl)).trans (by repeat first | exact hpre.1 rfl | replace hpre := hpre.2)
     clear hA hpre
     go_simp
     first | exact hK _ _ hB (by trivial) (fun _ _ h => h) | (rw [if_neg (by omega)]; go_simp; exact hK _ _ hB rfl (fun _ _ h => h))
    ·intro vs Wx A hA hB hpre K hK
     have e32 := ((hA 32).trans (show _ = vs 3 by kernel_rfl)).trans (by repeat first | exact hpre.1 rfl | replace hpre := hpre.2)
     have e35 := ((hA 35).trans (show _ = vs 6 by kernel_rfl)).trans (by repeat first | exact hpre.1 rfl | replace hpre := hpre.2)
     clear hA hpre
     go_simp
     first | exact hK _ _ hB (by trivial) (fun _ _ h => h) | (rw [if_neg (by omega)]; go_simp; exact hK _ _ hB rfl (fun _ _ h => h))
    ·intro vs Wx A hA hB hpre K hK
     have e36 := ((hA 36).trans (show _ = vs 7 by kernel_rfl)).trans (by repeat first | exact hpre.1 rfl | replace hpre := hpre.2)
     clear hA hpre
     go_simp
     first | exact hK _ _ hB (by trivial) (fun _ _ h => h) | (rw [if_neg (by omega)]; go_simp; exact hK _ _ hB rfl (fun _ _ h => h))
    ·intro vs Wx A hA hB hpre
     have eg := ((hA 37).trans (show _ = vs 8 by kernel_rfl)).trans (by repeat first | exact hpre.1 rfl | replace hpre := hpre.2)
     refine ⟨false, eg, fun _ K hK => ?_, fun h => absurd rfl h⟩
     have e1 := (hA 1).trans (show _ = Value.pointer (some ⟨p, 0, none⟩) by kernel_rfl)
     clear hA hpre
     go_simp
     first | exact hK _ _ hB (by trivial) (fun _ _ h => h) | (rw [if_neg (by omega)]; go_simp; exact hK _ _ hB rfl (fun _ _ h => h))
    ·intro vs Wx A hA hB hpre
     have eg := ((hA 37).trans (show _ = vs 8 by kernel_rfl)).trans (by repeat first | exact hpre.1 rfl | replace hpre := hpre.2)
     refine ⟨false, eg, fun _ K hK => ?_, fun h => absurd rfl h⟩
     have e38 := ((hA 38).trans (show _ = vs 9 by kernel_rfl)).trans (by repeat first | exact hpre.1 rfl | replace hpre := hpre.2)
     obtain ⟨x0, x1, x2, x3⟩ := four (HXK.out Wx hB)
     clear hA hpre
     go_simp
     first | exact hK _ _ hB (by trivial) (fun _ _ h => h) | (rw [if_neg (by omega)]; go_simp; exact hK _ _ hB rfl (fun _ _ h => h))
    ·intro vs Wx A hA hB hpre
     have eg := ((hA 37).trans (show _ = vs 8 by kernel_rfl)).trans (by repeat first | exact hpre.1 rfl | replace hpre := hpre.2)
     refine ⟨false, eg, fun _ K hK => ?_, fun h => absurd rfl h⟩
     have e39 := ((hA 39).trans (show _ = vs 10 by kernel_rfl)).trans (by repeat first | exact hpre.1 rfl | replace hpre := hpre.2)
     clear hA hpre
     go_simp
     first | exact hK _ _ hB (by trivial) (fun _ _ h => h) | (rw [if_neg (by omega)]; go_simp; exact hK _ _ hB rfl (fun _ _ h => h))
    ·intro vs Wx A hA hB hpre K hK
     have e37 := ((hA 37).trans (show _ = vs 8 by kernel_rfl)).trans (by repeat first | exact hpre.1 rfl | replace hpre := hpre.2)
     have e40 := ((hA 40).trans (show _ = vs 11 by kernel_rfl)).trans (by repeat first | exact hpre.1 rfl | replace hpre := hpre.2)
     clear hA hpre
     go_simp
     first | exact hK _ _ hB (by trivial) (fun _ _ h => h) | (rw [if_neg (by omega)]; go_simp; exact hK _ _ hB rfl (fun _ _ h => h))
    ·intro vs Wx A hA hB hpre K hK
     have e41 := ((hA 41).trans (show _ = vs 12 by kernel_rfl)).trans (by repeat first | exact hpre.1 rfl | replace hpre := hpre.2)
     clear hA hpre
     go_simp
     first | exact hK _ _ hB (by trivial) (fun _ _ h => h) | (rw [if_neg (by omega)]; go_simp; exact hK _ _ hB rfl (fun _ _ h => h))
    ·intro vs Wx A hA hB hpre
     have eg := ((hA 42).trans (show _ = vs 13 by kernel_rfl)).trans (by repeat first | exact hpre.1 rfl | replace hpre := hpre.2)
     refine ⟨false, eg, fun _ K hK => ?_, fun h => absurd rfl h⟩
     have e1 := (hA 1).trans (show _ = Value.pointer (some ⟨p, 0, none⟩) by kernel_rfl)
     clear hA hpre
     go_simp
     first | exact hK _ _ hB (by trivial) (fun _ _ h => h) | (rw [if_neg (by omega)]; go_simp; exact hK _ _ hB rfl (fun _ _ h => h))
    ·intro vs Wx A hA hB hpre
     have eg := ((hA 42).trans (show _ = vs 13 by kernel_rfl)).trans (by repeat first | exact hpre.1 rfl | replace hpre := hpre.2)
     refine ⟨false, eg, fun _ K hK => ?_, fun h => absurd rfl h⟩
     have e43 := ((hA 43).trans (show _ = vs 14 by kernel_rfl)).trans (by repeat first | exact hpre.1 rfl | replace hpre := hpre.2)
     obtain ⟨x0, x1, x2, x3⟩ := four (HXK.out Wx hB)
     clear hA hpre
     go_simp
     first | exact hK _ _ hB (by trivial) (fun _ _ h => h) | (rw [if_neg (by omega)]; go_simp; exact hK _ _ hB rfl (fun _ _ h => h))
    ·intro vs Wx A hA hB hpre
     have eg := ((hA 42).trans (show _ = vs 13 by kernel_rfl)).trans (by repeat first | exact hpre.1 rfl | replace hpre := hpre.2)
     refine ⟨false, eg, fun _ K hK => ?_, fun h => absurd rfl h⟩
     have e1 := (hA 1).trans (show _ = Value.pointer (some ⟨p, 0, none⟩) by kernel_rfl)
     obtain ⟨x0, x1, x2, x3⟩ := four (HXK.out Wx hB)
     clear hA hpre
     go_simp
     first | exact hK _ _ hB (by trivial) (fun _ _ h => h) | (rw [if_neg (by omega)]; go_simp; exact hK _ _ hB rfl (fun _ _ h => h))
    ·intro vs Wx A hA hB hpre
     have eg := ((hA 42).trans (show _ = vs 13 by kernel_rfl)).trans (by repeat first | exact hpre.1 rfl | replace hpre := hpre.2)
     refine ⟨false, eg, fun _ K hK => ?_, fun h => absurd rfl h⟩
     have e45 := ((hA 45).trans (show _ = vs 16 by kernel_rfl)).trans (by repeat first | exact hpre.1 rfl | replace hpre := hpre.2)
     clear hA hpre
     go_simp
     go_at_call 19
     refine (HSS.out Wx hB).mono ?_
     rintro e w4 ⟨rfl, hg⟩
     exact hK _ _ (below_trans hB hg) rfl (fun _ _ h => h)
    ·intro vs Wx A hA hB hpre
     have eg := ((hA 42).trans (show _ = vs 13 by kernel_rfl)).trans (by repeat first | exact hpre.1 rfl | replace hpre := hpre.2)
     refine ⟨false, eg, fun _ K hK => ?_, fun h => absurd rfl h⟩
     have e1 := (hA 1).trans (show _ = Value.pointer (some ⟨p, 0, none⟩) by kernel_rfl)
     clear hA hpre
     go_simp
     first | exact hK _ _ hB (by trivial) (fun _ _ h => h) | (rw [if_neg (by omega)]; go_simp; exact hK _ _ hB rfl (fun _ _ h => h))
    ·intro vs Wx A hA hB hpre
     have eg := ((hA 42).trans (show _ = vs 13 by kernel_rfl)).trans (by repeat first | exact hpre.1 rfl | replace hpre := hpre.2)
     refine ⟨false, eg, fun _ K hK => ?_, fun h => absurd rfl h⟩
     have e47 := ((hA 47).trans (show _ = vs 18 by kernel_rfl)).trans (by repeat first | exact hpre.1 rfl | replace hpre := hpre.2)
     obtain ⟨x0, x1, x2, x3⟩ := four (HXK.out Wx hB)
     clear hA hpre
     go_simp
     first | exact hK _ _ hB (by trivial) (fun _ _ h => h) | (rw [if_neg (by omega)]; go_simp; exact hK _ _ hB rfl (fun _ _ h => h))
    ·intro vs Wx A hA hB hpre
     have eg := ((hA 42).trans (show _ = vs 13 by kernel_rfl)).trans (by repeat first | exact hpre.1 rfl | replace hpre := hpre.2)
     refine ⟨false, eg, fun _ K hK => ?_, fun h => absurd rfl h⟩
     have e46 := ((hA 46).trans (show _ = vs 17 by kernel_rfl)).trans (by repeat first | exact hpre.1 rfl | replace hpre := hpre.2)
     have e48 := ((hA 48).trans (show _ = vs 19 by kernel_rfl)).trans (by repeat first | exact hpre.1 rfl | replace hpre := hpre.2)
     clear hA hpre
     go_simp
     first | exact hK _ _ hB (by trivial) (fun _ _ h => h) | (rw [if_neg (by omega)]; go_simp; exact hK _ _ hB rfl (fun _ _ h => h))
    ·intro vs Wx A hA hB hpre
     have eg := ((hA 42).trans (show _ = vs 13 by kernel_rfl)).trans (by repeat first | exact hpre.1 rfl | replace hpre := hpre.2)
     refine ⟨false, eg, fun _ K hK => ?_, fun h => absurd rfl h⟩
     have e44 := ((hA 44).trans (show _ = vs 15 by kernel_rfl)).trans (by repeat first | exact hpre.1 rfl | replace hpre := hpre.2)
     have e49 := ((hA 49).trans (show _ = vs 20 by kernel_rfl)).trans (by repeat first | exact hpre.1 rfl | replace hpre := hpre.2)
     clear hA hpre
     go_simp
     first | exact hK _ _ hB (by trivial) (fun _ _ h => h) | (rw [if_neg (by omega)]; go_simp; exact hK _ _ hB rfl (fun _ _ h => h))
    ·intro vs Wx A hA hB hpre K hK
     have e42 := ((hA 42).trans (show _ = vs 13 by kernel_rfl)).trans (by repeat first | exact hpre.1 rfl | replace hpre := hpre.2)
     have e50 := ((hA 50).trans (show _ = vs 21 by kernel_rfl)).trans (by repeat first | exact hpre.1 rfl | replace hpre := hpre.2)
     clear hA hpre
     go_simp
     first | exact hK _ _ hB (by trivial) (fun _ _ h => h) | (rw [if_neg (by omega)]; go_simp; exact hK _ _ hB rfl (fun _ _ h => h))
    intro vs Wx hB hF
    have h22 : vs 22 = .bool true := hF 22 (by decide)
    have HB6 := Lib.hid (HFB.out Wx hB)
    clear hF hB
    simp only [Ri.puts]
    rw [h22]
    clear h22
    go_simp
    go_wp2
    go_ret
    exact ⟨rfl, by first | exact HB6.out | (rw [hp]; exact HB6.out)⟩
set_option maxHeartbeats 8000000 in
theorem rcheck_any (r : Rm) (m : Value) (w : World) (h : CpsAt All w m r.cs) (hl : r.cs.length ≤ 2000) (hb : ∀ x ∈ r.cs, Bd x.paid) (hz : ∀ x ∈ r.cs, CpOk x) (hh : I64 r.held) (hpd : I64 r.paid) :
  Calls Try.prog 18 #[rmv r m] w fun e w' => e = .returned (.int .i64 (chkE r)) ∧ Below w.heap.size w w' := by
 obtain ⟨a, cap, rfl, f1, f2⟩ := h.form
 have HB := Lib.hid (below_alloc w (.cells (rme r (.slice a r.cs.length cap)) 27))
 have HX := Lib.hid (alloc_new w (rme r (.slice a r.cs.length cap)) 27)
 have HM : Hid (∀ w', Below w.heap.size w w' → CpsAt All w' (.slice a r.cs.length cap) r.cs) := fun w' hb => h.grw hb
 have HZ := Lib.hid hz
 obtain ⟨hh1, hh2⟩ := hh
 obtain ⟨hp1, hp2⟩ := hpd
 have HSU : Hid (∀ w', Below w.heap.size w w' → Calls Try.prog 20 #[rmv r (.slice a r.cs.length cap)] w' fun e w2 => e = .returned (.int .i64 (sum r.cs)) ∧ Below w'.heap.size w' w2) := fun w' hw => rsum_any r _ w' (h.grw hw) hl hb
 have hsb := sum_bd r.cs hb
 have hsb1 : -2251799813685248000 ≤ sum r.cs := by omega
 have hsb2 : sum r.cs ≤ 2251799813685248000 := by omega
 clear h hb hz hsb
 by_cases hn1 : r.n < 0
 case pos =>
  rw [chk_1 (by omega)]
  clear HSU hsb1 hsb2 HM HZ
  go_enter Try.func18, Try.ntmps18
  go_upto_region 1 with fail
  generalize w.alloc (.cells (rme r (.slice a r.cs.length cap)) 27) = W at *
  generalize hp : w.heap.size = p at *
  obtain ⟨x0, x1, x2, x3⟩ := four HX.out
  go_wp2_with fail
  go_ret
  exact ⟨rfl, by first | exact HB.out | (rw [hp]; exact HB.out)⟩
 by_cases hn2 : 999999999 < r.n
 case pos =>
  rw [chk_1 (by omega)]
  clear HSU hsb1 hsb2 HM HZ
  go_enter Try.func18, Try.ntmps18
  go_upto_region 1 with fail
  generalize w.alloc (.cells (rme r (.slice a r.cs.length cap)) 27) = W at *
  generalize hp : w.heap.size = p at *
  obtain ⟨x0, x1, x2, x3⟩ := four HX.out
  go_wp2_with fail
  go_ret
  exact ⟨rfl, by first | exact HB.out | (rw [hp]; exact HB.out)⟩
 by_cases hlen : r.cs.length ≤ 1024
 case neg =>
  have hlz : (1024 : Int) < (r.cs.length : Int) := by omega
  rw [chk_1 (by omega)]
  clear HSU hsb1 hsb2 HM HZ
  go_enter Try.func18, Try.ntmps18
  go_upto_region 1 with fail
  generalize w.alloc (.cells (rme r (.slice a r.cs.length cap)) 27) = W at *
  generalize hp : w.heap.size = p at *
  obtain ⟨x0, x1, x2, x3⟩ := four HX.out
  go_wp2_with fail
  go_ret
  exact ⟨rfl, by first | exact HB.out | (rw [hp]; exact HB.out)⟩
 have hlz : ¬ (1024 : Int) < (r.cs.length : Int) := by omega
 obtain ⟨R, hR⟩ : ∃ R, chkE r = R := ⟨_, rfl⟩
 rw [hR]
 rw [chk_2 (by omega)] at hR
 obtain ⟨E, hE⟩ : ∃ E, csE r.cs = E := ⟨_, rfl⟩
 rw [hE] at hR
 have HE0 := Lib.hid hE
 clear hE
 generalize hS : sum r.cs = S at *
 have HR := Lib.hid hR
 clear hR
 go_enter Try.func18, Try.ntmps18
 go_upto_region 1 with fail
 generalize w.alloc (.cells (rme r (.slice a r.cs.length cap)) 27) = W at *
 generalize hp : w.heap.size = p at *
 have HPW : Hid (p ≤ W.heap.size) := by have := HB.out.size; rw [hp] at this; exact this
 obtain ⟨x0, x1, x2, x3⟩ := four HX.out
 go_wp2_with fail
 clear x0 x1 x2 x3
 go_loopg [3] (r.cs.length) (fun gg t3 wr => ∃ (k : Nat), k ≤ r.cs.length ∧ gg = r.cs.length - k ∧ t3 = .int .i64 k ∧ Hid (csE (r.cs.drop k) = E) ∧ Hid (Below W.heap.size W wr))
 case atStart => exact ⟨0, Nat.zero_le _, rfl, rfl, HE0.out, Below.refl _ _⟩
 case round =>
  obtain ⟨k, hk, hg, rfl, HE1, HBn⟩ := hrel
  have HBw : Hid (Below p w wr) := HB.out.trans (HBn.out.mono HPW.out)
  by_cases hlt : k < r.cs.length
  ·have hltz : (k : Int) < (r.cs.length : Int) := by omega
   obtain ⟨b, o, m2, rfl, hbl, hx, hcell, hr⟩ := Sv.CpsAt.get (HM.out _ HBw.out) k hlt
   have HCK := Lib.hid fun (w2 : World) (hw2 : Below wr.heap.size wr w2) => Sv.rcheck_any _ m2 w2 (hr.grw hw2) (HZ.out _ (List.mem_of_getElem? hx))
   have HST := Lib.hid fun h => cs_step hx HE1.out h
   have HBD := Lib.hid fun h => cs_bad hx HE1.out h
   have hi1 : k < r.cs.length := hlt
   generalize r.cs[k] = x at *
   obtain ⟨c0, c1, c2, c3, c4, c5⟩ := id hcell
   obtain ⟨am, nm, cm, rfl⟩ : ∃ am nm cm, m2 = .slice am nm cm := by
    obtain ⟨q1, q2, q3, -, -⟩ := SvsAt.form hr
    exact ⟨q1, _, q2, q3⟩
   obtain ⟨wo, rfl⟩ : ∃ z, z = wr := ⟨_, rfl⟩
   obtain ⟨x0, x1, x2, x3⟩ := four (keepB HX.out HBn.out)
   clear hx hr hcell hbl HM HZ HSU
   by_cases he : Sv.checkE x = 0
   ·have HE2 := Lib.hid (HST.out he)
    rw [he] at HCK
    clear he HST HBD
    go_wp2_with (first | (go_at_call 32; refine (HCK.out _ (Below.refl _ _)).mono ?_; rintro e w4 ⟨rfl, hg4⟩; have HB4 : Hid (Below W.heap.size W w4) := HBn.out.trans (hg4.mono HBn.out.size); clear hg4))
    go_roundg (r.cs.length - (k + 1))
    case measure => omega
    case rel => exact ⟨k + 1, by omega, rfl, by go_num, HE2.out, HB4.out⟩
   ·have HEE := Lib.hid (HBD.out he)
    have hb0 : (Sv.checkE x != 0) = true := by simpa using he
    generalize Sv.checkE x = EE at *
    go_wp2_with (first | (go_at_call 32; refine (HCK.out _ (Below.refl _ _)).mono ?_; rintro e w4 ⟨rfl, hg4⟩; have HB4 : Hid (Below W.heap.size W w4) := HBn.out.trans (hg4.mono HBn.out.size); clear hg4))
    go_ret
    have hRR : R = EE := by have h1 := HEE.out; have h2 := HR.out; rw [h1, if_neg he] at h2; exact h2.symm
    exact ⟨by rw [hRR]; rfl, by have h5 := HB.out.trans (HB4.out.mono HPW.out); first | exact h5 | (rw [hp]; exact h5)⟩
  ·have hltz : ¬ (k : Int) < (r.cs.length : Int) := by omega
   have hE00 := cs_end (by omega) HE1.out
   have hRC := HR.out
   rw [hE00, if_pos rfl] at hRC
   clear hE00
   obtain ⟨wo, rfl⟩ : ∃ z, z = wr := ⟨_, rfl⟩
   have HXK : Hid (∀ W', Below wo.heap.size wo W' → W'.heap[p]? = some (.cells (rme r (.slice a r.cs.length cap)) 27 (0, 0))) := fun W' hW => keepB (keepB HX.out HBn.out) hW
   have HFB : Hid (∀ W', Below wo.heap.size wo W' → Below p w W') := fun W' hW => HBw.out.trans (hW.mono (Nat.le_trans HPW.out HBn.out.size))
   have HSS : Hid (∀ W, Below wo.heap.size wo W → Calls Try.prog 20 #[rmv r (.slice a r.cs.length cap)] W fun e w2 => e = .returned (.int .i64 S) ∧ Below W.heap.size W w2) := fun W' hW => HSU.out W' (HFB.out W' hW)
   have HD := Lib.hid (Below.drew (Below.refl wo.heap.size wo))
   obtain ⟨x0, x1, x2, x3⟩ := four (keepB HX.out HBn.out)
   clear HM HZ HSU HE0 HE1
   go_upto_region 9 with fail
   clear x0 x1 x2 x3
   by_cases q1 : r.held < -1152921504606846976
   ·obtain rfl : R = 17 := by rw [← hRC, if_neg (by omega)]
    clear hRC
    refine Ri.wp_region_lasting_g (by kernel_rfl) (by kernel_rfl) (by kernel_rfl) (fun Wx => Below wo.heap.size wo Wx) (fun kz vs wz => (fun kx vx wx => match kx with | 0 => vx = .pointer (some ⟨p, 2, none⟩) | 1 => vx = .int .i64 r.held | 2 => vx = .bool true | 3 => vx = .bool true | 4 => True | 5 => True | 6 => True | 7 => vx = .bool true | 8 => vx = .bool true | 9 => True | 10 => True | 11 => True | 12 => vx = .bool true | 13 => vx = .bool true | 14 => True | 15 => True | 16 => True | 17 => True | 18 => True | 19 => True | 20 => True | 21 => True | 22 => vx = .bool true | _ => True : Nat → Value → World → Prop) kz (vs kz) wz) (fun kz => [kz]) (by kernel_rfl) (fun jz vs iz vz wz hiz hz => Ri.loc_own (F := (fun kx vx wx => match kx with | 0 => vx = .pointer (some ⟨p, 2, none⟩) | 1 => vx = .int .i64 r.held | 2 => vx = .bool true | 3 => vx = .bool true | 4 => True | 5 => True | 6 => True | 7 => vx = .bool true | 8 => vx = .bool true | 9 => True | 10 => True | 11 => True | 12 => vx = .bool true | 13 => vx = .bool true | 14 => True | 15 => True | 16 => True | 17 => True | 18 => True | 19 => True | 20 => True | 21 => True | 22 => vx = .bool true | _ => True : Nat → Value → World → Prop)) jz vs iz vz wz hiz hz) HD.out ⟨Or.inl ⟨rfl, ?_⟩, Or.inl ⟨rfl, ?_⟩, Or.inl ⟨rfl, ?_⟩, Or.inl ⟨rfl, ?_⟩, Or.inr ⟨3, false, 38, rfl, rfl, ?_⟩, Or.inr ⟨3, false, 38, rfl, rfl, ?_⟩, Or.inr ⟨3, false, 38, rfl, rfl, ?_⟩, Or.inl ⟨rfl, ?_⟩, Or.inl ⟨rfl, ?_⟩, Or.inr ⟨8, false, 43, rfl, rfl, ?_⟩, Or.inr ⟨8, false, 43, rfl, rfl, ?_⟩, Or.inr ⟨8, false, 43, rfl, rfl, ?_⟩, Or.inl ⟨rfl, ?_⟩, Or.inl ⟨rfl, ?_⟩, Or.inr ⟨13, false, 48, rfl, rfl, ?_⟩, Or.inr ⟨13, false, 48, rfl, rfl, ?_⟩, Or.inr ⟨13, false, 48, rfl, rfl, ?_⟩, Or.inr ⟨13, false, 48, rfl, rfl, ?_⟩, Or.inr ⟨13, false, 48, rfl, rfl, ?_⟩, Or.inr ⟨13, false, 48, rfl, rfl, ?_⟩, Or.inr ⟨13, false, 48, rfl, rfl, ?_⟩, Or.inr ⟨13, false, 48, rfl, rfl, ?_⟩, Or.inl ⟨rfl, ?_⟩, trivial⟩ ?_
    ·intro vs Wx A hA hB hpre K hK
     have e1 := (hA 1).trans (show _ = Value.pointer (some ⟨p, 0, none⟩) by kernel_rfl)
     clear hA hpre
     go_simp
     first | exact hK _ _ hB (by trivial) (fun _ _ h => h) | (rw [if_neg (by omega)]; go_simp; exact hK _ _ hB rfl (fun _ _ h => h))
    ·intro vs Wx A hA hB hpre K hK
     have e35 := ((hA 35).trans (show _ = vs 0 by kernel_rfl)).trans (by repeat first | exact hpre.1 rfl | replace hpre := hpre.2)
     obtain ⟨x0, x1, x2, x3⟩ := four (HXK.out Wx hB)
     clear hA hpre
     go_simp
     first | exact hK _ _ hB (by trivial) (fun _ _ h => h) | (rw [if_neg (by omega)]; go_simp; exact hK _ _ hB rfl (fun _ _ h => h))
    ·intro vs Wx A hA hB hpre K hK
     have e36 := ((hA 36).trans (show _ = vs 1 by kernel_rfl)).trans (by repeat first | exact hpre.1 rfl | replace hpre := hpre.2)
     clear hA hpre
     go_simp
     first | exact hK _ _ hB (by trivial) (fun _ _ h => h) | (rw [if_neg (by omega)]; go_simp; exact hK _ _ hB rfl (fun _ _ h => h))
    ·intro vs Wx A hA hB hpre K hK
     have e37 := ((hA 37).trans (show _ = vs 2 by kernel_rfl)).trans (by repeat first | exact hpre.1 rfl | replace hpre := hpre.2)
     clear hA hpre
     go_simp
     first | exact hK _ _ hB (by trivial) (fun _ _ h => h) | (rw [if_neg (by omega)]; go_simp; exact hK _ _ hB rfl (fun _ _ h => h))
    iterate 3
     ·intro vs Wx A hA hB hpre
      have eg := ((hA 38).trans (show _ = vs 3 by kernel_rfl)).trans (by repeat first | exact hpre.1 rfl | replace hpre := hpre.2)
      exact ⟨true, eg, fun h => (by cases h), fun _ => trivial⟩
    ·intro vs Wx A hA hB hpre K hK
     have e38 := ((hA 38).trans (show _ = vs 3 by kernel_rfl)).trans (by repeat first | exact hpre.1 rfl | replace hpre := hpre.2)
     clear hA hpre
     go_simp
     first | exact hK _ _ hB (by trivial) (fun _ _ h => h) | (rw [if_neg (by omega)]; go_simp; exact hK _ _ hB rfl (fun _ _ h => h))
    ·intro vs Wx A hA hB hpre K hK
     have e42 := ((hA 42).trans (show _ = vs 7 by kernel_rfl)).trans (by repeat first | exact hpre.1 rfl | replace hpre := hpre.2)
     clear hA hpre
     go_simp
     first | exact hK _ _ hB (by trivial) (fun _ _ h => h) | (rw [if_neg (by omega)]; go_simp; exact hK _ _ hB rfl (fun _ _ h => h))
    iterate 3
     ·intro vs Wx A hA hB hpre
      have eg := ((hA 43).trans (show _ = vs 8 by kernel_rfl)).trans (by repeat first | exact hpre.1 rfl | replace hpre := hpre.2)
      exact ⟨true, eg, fun h => (by cases h), fun _ => trivial⟩
    ·intro vs Wx A hA hB hpre K hK
     have e43 := ((hA 43).trans (show _ = vs 8 by kernel_rfl)).trans (by repeat first | exact hpre.1 rfl | replace hpre := hpre.2)
     clear hA hpre
     go_simp
     first | exact hK _ _ hB (by trivial) (fun _ _ h => h) | (rw [if_neg (by omega)]; go_simp; exact hK _ _ hB rfl (fun _ _ h => h))
    ·intro vs Wx A hA hB hpre K hK
     have e47 := ((hA 47).trans (show _ = vs 12 by kernel_rfl)).trans (by repeat first | exact hpre.1 rfl | replace hpre := hpre.2)
     clear hA hpre
     go_simp
     first | exact hK _ _ hB (by trivial) (fun _ _ h => h) | (rw [if_neg (by omega)]; go_simp; exact hK _ _ hB rfl (fun _ _ h => h))
    iterate 8
     ·intro vs Wx A hA hB hpre
      have eg := ((hA 48).trans (show _ = vs 13 by kernel_rfl)).trans (by repeat first | exact hpre.1 rfl | replace hpre := hpre.2)
      exact ⟨true, eg, fun h => (by cases h), fun _ => trivial⟩
    ·intro vs Wx A hA hB hpre K hK
     have e48 := ((hA 48).trans (show _ = vs 13 by kernel_rfl)).trans (by repeat first | exact hpre.1 rfl | replace hpre := hpre.2)
     clear hA hpre
     go_simp
     first | exact hK _ _ hB (by trivial) (fun _ _ h => h) | (rw [if_neg (by omega)]; go_simp; exact hK _ _ hB rfl (fun _ _ h => h))
    intro vs Wx hB hF
    have h22 : vs 22 = .bool true := hF 22 (by decide)
    have HB6 := Lib.hid (HFB.out Wx hB)
    clear hF hB
    simp only [Ri.puts]
    rw [h22]
    clear h22
    go_simp
    go_wp2
    go_ret
    exact ⟨rfl, by first | exact HB6.out | (rw [hp]; exact HB6.out)⟩
   by_cases q2 : 1152921504606846976 < r.held
   ·obtain rfl : R = 17 := by rw [← hRC, if_neg (by omega)]
    clear hRC
    refine Ri.wp_region_lasting_g (by kernel_rfl) (by kernel_rfl) (by kernel_rfl) (fun Wx => Below wo.heap.size wo Wx) (fun kz vs wz => (fun kx vx wx => match kx with | 0 => vx = .pointer (some ⟨p, 2, none⟩) | 1 => vx = .int .i64 r.held | 2 => vx = .bool false | 3 => vx = .bool false | 4 => vx = .pointer (some ⟨p, 2, none⟩) | 5 => vx = .int .i64 r.held | 6 => vx = .bool true | 7 => vx = .bool true | 8 => vx = .bool true | 9 => True | 10 => True | 11 => True | 12 => vx = .bool true | 13 => vx = .bool true | 14 => True | 15 => True | 16 => True | 17 => True | 18 => True | 19 => True | 20 => True | 21 => True | 22 => vx = .bool true | _ => True : Nat → Value → World → Prop) kz (vs kz) wz) (fun kz => [kz]) (by kernel_rfl) (fun jz vs iz vz wz hiz hz => Ri.loc_own (F := (fun kx vx wx => match kx with | 0 => vx = .pointer (some ⟨p, 2, none⟩) | 1 => vx = .int .i64 r.held | 2 => vx = .bool false | 3 => vx = .bool false | 4 => vx = .pointer (some ⟨p, 2, none⟩) | 5 => vx = .int .i64 r.held | 6 => vx = .bool true | 7 => vx = .bool true | 8 => vx = .bool true | 9 => True | 10 => True | 11 => True | 12 => vx = .bool true | 13 => vx = .bool true | 14 => True | 15 => True | 16 => True | 17 => True | 18 => True | 19 => True | 20 => True | 21 => True | 22 => vx = .bool true | _ => True : Nat → Value → World → Prop)) jz vs iz vz wz hiz hz) HD.out ⟨Or.inl ⟨rfl, ?_⟩, Or.inl ⟨rfl, ?_⟩, Or.inl ⟨rfl, ?_⟩, Or.inl ⟨rfl, ?_⟩, Or.inr ⟨3, false, 38, rfl, rfl, ?_⟩, Or.inr ⟨3, false, 38, rfl, rfl, ?_⟩, Or.inr ⟨3, false, 38, rfl, rfl, ?_⟩, Or.inl ⟨rfl, ?_⟩, Or.inl ⟨rfl, ?_⟩, Or.inr ⟨8, false, 43, rfl, rfl, ?_⟩, Or.inr ⟨8, false, 43, rfl, rfl, ?_⟩, Or.inr ⟨8, false, 43, rfl, rfl, ?_⟩, Or.inl ⟨rfl, ?_⟩, Or.inl ⟨rfl, ?_⟩, Or.inr ⟨13, false, 48, rfl, rfl, ?_⟩, Or.inr ⟨13, false, 48, rfl, rfl, ?_⟩, Or.inr ⟨13, false, 48, rfl, rfl, ?_⟩, Or.inr ⟨13, false, 48, rfl, rfl, ?_⟩, Or.inr ⟨13, false, 48, rfl, rfl, ?_⟩, Or.inr ⟨13, false, 48, rfl, rfl, ?_⟩, Or.inr ⟨13, false, 48, rfl, rfl, ?_⟩, Or.inr ⟨13, false, 48, rfl, rfl, ?_⟩, Or.inl ⟨rfl, ?_⟩, trivial⟩ ?_
    ·intro vs Wx A hA hB hpre K hK
     have e1 := (hA 1).trans (show _ = Value.pointer (some ⟨p, 0, none⟩) by kernel_rfl)
     clear hA hpre
     go_simp
     first | exact hK _ _ hB (by trivial) (fun _ _ h => h) | (rw [if_neg (by omega)]; go_simp; exact hK _ _ hB rfl (fun _ _ h => h))
    ·intro vs Wx A hA hB hpre K hK
     have e35 := ((hA 35).trans (show _ = vs 0 by kernel_rfl)).trans (by repeat first | exact hpre.1 rfl | replace hpre := hpre.2)
     obtain ⟨x0, x1, x2, x3⟩ := four (HXK.out Wx hB)
     clear hA hpre
     go_simp
     first | exact hK _ _ hB (by trivial) (fun _ _ h => h) | (rw [if_neg (by omega)]; go_simp; exact hK _ _ hB rfl (fun _ _ h => h))
    ·intro vs Wx A hA hB hpre K hK
     have e36 := ((hA 36).trans (show _ = vs 1 by kernel_rfl)).trans (by repeat first | exact hpre.1 rfl | replace hpre := hpre.2)
     clear hA hpre
     go_simp
     first | exact hK _ _ hB (by trivial) (fun _ _ h => h) | (rw [if_neg (by omega)]; go_simp; exact hK _ _ hB rfl (fun _ _ h => h))
    ·intro vs Wx A hA hB hpre K hK
     have e37 := ((hA 37).trans (show _ = vs 2 by kernel_rfl)).trans (by repeat first | exact hpre.1 rfl | replace hpre := hpre.2)
     clear hA hpre
     go_simp
     first | exact hK _ _ hB (by trivial) (fun _ _ h => h) | (rw [if_neg (by omega)]; go_simp; exact hK _ _ hB rfl (fun _ _ h => h))
    ·intro vs Wx A hA hB hpre
     have eg := ((hA 38).trans (show _ = vs 3 by kernel_rfl)).trans (by repeat first | exact hpre.1 rfl | replace hpre := hpre.2)
     refine ⟨false, eg, fun _ K hK => ?_, fun h => absurd rfl h⟩
     have e1 := (hA 1).trans (show _ = Value.pointer (some ⟨p, 0, none⟩) by kernel_rfl)
     clear hA hpre
     go_simp
     first | exact hK _ _ hB (by trivial) (fun _ _ h => h) | (rw [if_neg (by omega)]; go_simp; exact hK _ _ hB rfl (fun _ _ h => h))
    ·intro vs Wx A hA hB hpre
     have eg := ((hA 38).trans (show _ = vs 3 by kernel_rfl)).trans (by repeat first | exact hpre.1 rfl | replace hpre := hpre.2)
     refine ⟨false, eg, fun _ K hK => ?_, fun h => absurd rfl h⟩
     have e39 := ((hA 39).trans (show _ = vs 4 by kernel_rfl)).trans (by repeat first | exact hpre.1 rfl | replace hpre := hpre.2)
     obtain ⟨x0, x1, x2, x3⟩ := four (HXK.out Wx hB)
     clear hA hpre
     go_simp
     first | exact hK _ _ hB (by trivial) (fun _ _ h => h) | (rw [if_neg (by omega)]; go_simp; exact hK _ _ hB rfl (fun _ _ h => h))
    ·intro vs Wx A hA hB hpre
     have eg := ((hA 38).trans (show _ = vs 3 by kernel_rfl)).trans (by repeat first | exact hpre.1 rfl | replace hpre := hpre.2)
     refine ⟨false, eg, fun _ K hK => ?_, fun h => absurd rfl h⟩
     have e40 := ((hA 40).trans (show _ = vs 5 by kernel_rfl)).trans (by repeat first | exact hpre.1 rfl | replace hpre := hpre.2)
     clear hA hpre
     go_simp
     first | exact hK _ _ hB (by trivial) (fun _ _ h => h) | (rw [if_neg (by omega)]; go_simp; exact hK _ _ hB rfl (fun _ _ h => h))
    ·intro vs Wx A hA hB hpre K hK
     have e38 := ((hA 38).trans (show _ = vs 3 by kernel_rfl)).trans (by repeat first | exact hpre.1 rfl | replace hpre := hpre.2)
     have e41 := ((hA 41).trans (show _ = vs 6 by kernel_rfl)).trans (by repeat first | exact hpre.1 rfl | replace hpre := hpre.2)
     clear hA hpre
     go_simp
     first | exact hK _ _ hB (by trivial) (fun _ _ h => h) | (rw [if_neg (by omega)]; go_simp; exact hK _ _ hB rfl (fun _ _ h => h))
    ·intro vs Wx A hA hB hpre K hK
     have e42 := ((hA 42).trans (show _ = vs 7 by kernel_rfl)).trans (by repeat first | exact hpre.1 rfl | replace hpre := hpre.2)
     clear hA hpre
     go_simp
     first | exact hK _ _ hB (by trivial) (fun _ _ h => h) | (rw [if_neg (by omega)]; go_simp; exact hK _ _ hB rfl (fun _ _ h => h))
    iterate 3
     ·intro vs Wx A hA hB hpre
      have eg := ((hA 43).trans (show _ = vs 8 by kernel_rfl)).trans (by repeat first | exact hpre.1 rfl | replace hpre := hpre.2)
      exact ⟨true, eg, fun h => (by cases h), fun _ => trivial⟩
    ·intro vs Wx A hA hB hpre K hK
     have e43 := ((hA 43).trans (show _ = vs 8 by kernel_rfl)).trans (by repeat first | exact hpre.1 rfl | replace hpre := hpre.2)
     clear hA hpre
     go_simp
     first | exact hK _ _ hB (by trivial) (fun _ _ h => h) | (rw [if_neg (by omega)]; go_simp; exact hK _ _ hB rfl (fun _ _ h => h))
    ·intro vs Wx A hA hB hpre K hK
     have e47 := ((hA 47).trans (show _ = vs 12 by kernel_rfl)).trans (by repeat first | exact hpre.1 rfl | replace hpre := hpre.2)
     clear hA hpre
     go_simp
     first | exact hK _ _ hB (by trivial) (fun _ _ h => h) | (rw [if_neg (by omega)]; go_simp; exact hK _ _ hB rfl (fun _ _ h => h))
    iterate 8
     ·intro vs Wx A hA hB hpre
      have eg := ((hA 48).trans (show _ = vs 13 by kernel_rfl)).trans (by repeat first | exact hpre.1 rfl | replace hpre := hpre.2)
      exact ⟨true, eg, fun h => (by cases h), fun _ => trivial⟩
    ·intro vs Wx A hA hB hpre K hK
     have e48 := ((hA 48).trans (show _ = vs 13 by kernel_rfl)).trans (by repeat first | exact hpre.1 rfl | replace hpre := hpre.2)
     clear hA hpre
     go_simp
     first | exact hK _ _ hB (by trivial) (fun _ _ h => h) | (rw [if_neg (by omega)]; go_simp; exact hK _ _ hB rfl (fun _ _ h => h))
    intro vs Wx hB hF
    have h22 : vs 22 = .bool true := hF 22 (by decide)
    have HB6 := Lib.hid (HFB.out Wx hB)
    clear hF hB
    simp only [Ri.puts]
    rw [h22]
    clear h22
    go_simp
    go_wp2
    go_ret
    exact ⟨rfl, by first | exact HB6.out | (rw [hp]; exact HB6.out)⟩
   by_cases q3 : r.paid < 0
   ·obtain rfl : R = 17 := by rw [← hRC, if_neg (by omega)]
    clear hRC
    refine Ri.wp_region_lasting_g (by kernel_rfl) (by kernel_rfl) (by kernel_rfl) (fun Wx => Below wo.heap.size wo Wx) (fun kz vs wz => (fun kx vx wx => match kx with | 0 => vx = .pointer (some ⟨p, 2, none⟩) | 1 => vx = .int .i64 r.held | 2 => vx = .bool false | 3 => vx = .bool false | 4 => vx = .pointer (some ⟨p, 2, none⟩) | 5 => vx = .int .i64 r.held | 6 => vx = .bool false | 7 => vx = .bool false | 8 => vx = .bool false | 9 => vx = .pointer (some ⟨p, 1, none⟩) | 10 => vx = .int .i64 r.paid | 11 => vx = .bool true | 12 => vx = .bool true | 13 => vx = .bool true | 14 => True | 15 => True | 16 => True | 17 => True | 18 => True | 19 => True | 20 => True | 21 => True | 22 => vx = .bool true | _ => True : Nat → Value → World → Prop) kz (vs kz) wz) (fun kz => [kz]) (by kernel_rfl) (fun jz vs iz vz wz hiz hz => Ri.loc_own (F := (fun kx vx wx => match kx with | 0 => vx = .pointer (some ⟨p, 2, none⟩) | 1 => vx = .int .i64 r.held | 2 => vx = .bool false | 3 => vx = .bool false | 4 => vx = .pointer (some ⟨p, 2, none⟩) | 5 => vx = .int .i64 r.held | 6 => vx = .bool false | 7 => vx = .bool false | 8 => vx = .bool false | 9 => vx = .pointer (some ⟨p, 1, none⟩) | 10 => vx = .int .i64 r.paid | 11 => vx = .bool true | 12 => vx = .bool true | 13 => vx = .bool true | 14 => True | 15 => True | 16 => True | 17 => True | 18 => True | 19 => True | 20 => True | 21 => True | 22 => vx = .bool true | _ => True : Nat → Value → World → Prop)) jz vs iz vz wz hiz hz) HD.out ⟨Or.inl ⟨rfl, ?_⟩, Or.inl ⟨rfl, ?_⟩, Or.inl ⟨rfl, ?_⟩, Or.inl ⟨rfl, ?_⟩, Or.inr ⟨3, false, 38, rfl, rfl, ?_⟩, Or.inr ⟨3, false, 38, rfl, rfl, ?_⟩, Or.inr ⟨3, false, 38, rfl, rfl, ?_⟩, Or.inl ⟨rfl, ?_⟩, Or.inl ⟨rfl, ?_⟩, Or.inr ⟨8, false, 43, rfl, rfl, ?_⟩, Or.inr ⟨8, false, 43, rfl, rfl, ?_⟩, Or.inr ⟨8, false, 43, rfl, rfl, ?_⟩, Or.inl ⟨rfl, ?_⟩, Or.inl ⟨rfl, ?_⟩, Or.inr ⟨13, false, 48, rfl, rfl, ?_⟩, Or.inr ⟨13, false, 48, rfl, rfl, ?_⟩, Or.inr ⟨13, false, 48, rfl, rfl, ?_⟩, Or.inr ⟨13, false, 48, rfl, rfl, ?_⟩, Or.inr ⟨13, false, 48, rfl, rfl, ?_⟩, Or.inr ⟨13, false, 48, rfl, rfl, ?_⟩, Or.inr ⟨13, false, 48, rfl, rfl, ?_⟩, Or.inr ⟨13, false, 48, rfl, rfl, ?_⟩, Or.inl ⟨rfl, ?_⟩, trivial⟩ ?_
    ·intro vs Wx A hA hB hpre K hK
     have e1 := (hA 1).trans (show _ = Value.pointer (some ⟨p, 0, none⟩) by kernel_rfl)
     clear hA hpre
     go_simp
     first | exact hK _ _ hB (by trivial) (fun _ _ h => h) | (rw [if_neg (by omega)]; go_simp; exact hK _ _ hB rfl (fun _ _ h => h))
    ·intro vs Wx A hA hB hpre K hK
     have e35 := ((hA 35).trans (show _ = vs 0 by kernel_rfl)).trans (by repeat first | exact hpre.1 rfl | replace hpre := hpre.2)
     obtain ⟨x0, x1, x2, x3⟩ := four (HXK.out Wx hB)
     clear hA hpre
     go_simp
     first | exact hK _ _ hB (by trivial) (fun _ _ h => h) | (rw [if_neg (by omega)]; go_simp; exact hK _ _ hB rfl (fun _ _ h => h))
    ·intro vs Wx A hA hB hpre K hK
     have e36 := ((hA 36).trans (show _ = vs 1 by kernel_rfl)).trans (by repeat first | exact hpre.1 rfl | replace hpre := hpre.2)
     clear hA hpre
     go_simp
     first | exact hK _ _ hB (by trivial) (fun _ _ h => h) | (rw [if_neg (by omega)]; go_simp; exact hK _ _ hB rfl (fun _ _ h => h))
    ·intro vs Wx A hA hB hpre K hK
     have e37 := ((hA 37).trans (show _ = vs 2 by kernel_rfl)).trans (by repeat first | exact hpre.1 rfl | replace hpre := hpre.2)
     clear hA hpre
     go_simp
     first | exact hK _ _ hB (by trivial) (fun _ _ h => h) | (rw [if_neg (by omega)]; go_simp; exact hK _ _ hB rfl (fun _ _ h => h))
    ·intro vs Wx A hA hB hpre
     have eg := ((hA 38).trans (show _ = vs 3 by kernel_rfl)).trans (by repeat first | exact hpre.1 rfl | replace hpre := hpre.2)
     refine ⟨false, eg, fun _ K hK => ?_, fun h => absurd rfl h⟩
     have e1 := (hA 1).trans (show _ = Value.pointer (some ⟨p, 0, none⟩) by kernel_rfl)
     clear hA hpre
     go_simp
     first | exact hK _ _ hB (by trivial) (fun _ _ h => h) | (rw [if_neg (by omega)]; go_simp; exact hK _ _ hB rfl (fun _ _ h => h))
    ·intro vs Wx A hA hB hpre
     have eg := ((hA 38).trans (show _ = vs 3 by kernel_rfl)).trans (by repeat first | exact hpre.1 rfl | replace hpre := hpre.2)
     refine ⟨false, eg, fun _ K hK => ?_, fun h => absurd rfl h⟩
     have e39 := ((hA 39).trans (show _ = vs 4 by kernel_rfl)).trans (by repeat first | exact hpre.1 rfl | replace hpre := hpre.2)
     obtain ⟨x0, x1, x2, x3⟩ := four (HXK.out Wx hB)
     clear hA hpre
     go_simp
     first | exact hK _ _ hB (by trivial) (fun _ _ h => h) | (rw [if_neg (by omega)]; go_simp; exact hK _ _ hB rfl (fun _ _ h => h))
    ·intro vs Wx A hA hB hpre
     have eg := ((hA 38).trans (show _ = vs 3 by kernel_rfl)).trans (by repeat first | exact hpre.1 rfl | replace hpre := hpre.2)
     refine ⟨false, eg, fun _ K hK => ?_, fun h => absurd rfl h⟩
     have e40 := ((hA 40).trans (show _ = vs 5 by kernel_rfl)).trans (by repeat first | exact hpre.1 rfl | replace hpre := hpre.2)
     clear hA hpre
     go_simp
     first | exact hK _ _ hB (by trivial) (fun _ _ h => h) | (rw [if_neg (by omega)]; go_simp; exact hK _ _ hB rfl (fun _ _ h => h))
    ·intro vs Wx A hA hB hpre K hK
     have e38 := ((hA 38).trans (show _ = vs 3 by kernel_rfl)).trans (by repeat first | exact hpre.1 rfl | replace hpre := hpre.2)
     have e41 := ((hA 41).trans (show _ = vs 6 by kernel_rfl)).trans (by repeat first | exact hpre.1 rfl | replace hpre := hpre.2)
     clear hA hpre
     go_simp
     first | exact hK _ _ hB (by trivial) (fun _ _ h => h) | (rw [if_neg (by omega)]; go_simp; exact hK _ _ hB rfl (fun _ _ h => h))
    ·intro vs Wx A hA hB hpre K hK
     have e42 := ((hA 42).trans (show _ = vs 7 by kernel_rfl)).trans (by repeat first | exact hpre.1 rfl | replace hpre := hpre.2)
     clear hA hpre
     go_simp
     first | exact hK _ _ hB (by trivial) (fun _ _ h => h) | (rw [if_neg (by omega)]; go_simp; exact hK _ _ hB rfl (fun _ _ h => h))
    ·intro vs Wx A hA hB hpre
     have eg := ((hA 43).trans (show _ = vs 8 by kernel_rfl)).trans (by repeat first | exact hpre.1 rfl | replace hpre := hpre.2)
     refine ⟨false, eg, fun _ K hK => ?_, fun h => absurd rfl h⟩
     have e1 := (hA 1).trans (show _ = Value.pointer (some ⟨p, 0, none⟩) by kernel_rfl)
     clear hA hpre
     go_simp
     first | exact hK _ _ hB (by trivial) (fun _ _ h => h) | (rw [if_neg (by omega)]; go_simp; exact hK _ _ hB rfl (fun _ _ h => h))
    ·intro vs Wx A hA hB hpre
     have eg := ((hA 43).trans (show _ = vs 8 by kernel_rfl)).trans (by repeat first | exact hpre.1 rfl | replace hpre := hpre.2)
     refine ⟨false, eg, fun _ K hK => ?_, fun h => absurd rfl h⟩
     have e44 := ((hA 44).trans (show _ = vs 9 by kernel_rfl)).trans (by repeat first | exact hpre.1 rfl | replace hpre := hpre.2)
     obtain ⟨x0, x1, x2, x3⟩ := four (HXK.out Wx hB)
     clear hA hpre
     go_simp
     first | exact hK _ _ hB (by trivial) (fun _ _ h => h) | (rw [if_neg (by omega)]; go_simp; exact hK _ _ hB rfl (fun _ _ h => h))
    ·intro vs Wx A hA hB hpre
     have eg := ((hA 43).trans (show _ = vs 8 by kernel_rfl)).trans (by repeat first | exact hpre.1 rfl | replace hpre := hpre.2)
     refine ⟨false, eg, fun _ K hK => ?_, fun h => absurd rfl h⟩
     have e45 := ((hA 45).trans (show _ = vs 10 by kernel_rfl)).trans (by repeat first | exact hpre.1 rfl | replace hpre := hpre.2)
     clear hA hpre
     go_simp
     first | exact hK _ _ hB (by trivial) (fun _ _ h => h) | (rw [if_neg (by omega)]; go_simp; exact hK _ _ hB rfl (fun _ _ h => h))
    ·intro vs Wx A hA hB hpre K hK
     have e43 := ((hA 43).trans (show _ = vs 8 by kernel_rfl)).trans (by repeat first | exact hpre.1 rfl | replace hpre := hpre.2)
     have e46 := ((hA 46).trans (show _ = vs 11 by kernel_rfl)).trans (by repeat first | exact hpre.1 rfl | replace hpre := hpre.2)
     clear hA hpre
     go_simp
     first | exact hK _ _ hB (by trivial) (fun _ _ h => h) | (rw [if_neg (by omega)]; go_simp; exact hK _ _ hB rfl (fun _ _ h => h))
    ·intro vs Wx A hA hB hpre K hK
     have e47 := ((hA 47).trans (show _ = vs 12 by kernel_rfl)).trans (by repeat first | exact hpre.1 rfl | replace hpre := hpre.2)
     clear hA hpre
     go_simp
     first | exact hK _ _ hB (by trivial) (fun _ _ h => h) | (rw [if_neg (by omega)]; go_simp; exact hK _ _ hB rfl (fun _ _ h => h))
    iterate 8
     ·intro vs Wx A hA hB hpre
      have eg := ((hA 48).trans (show _ = vs 13 by kernel_rfl)).trans (by repeat first | exact hpre.1 rfl | replace hpre := hpre.2)
      exact ⟨true, eg, fun h => (by cases h), fun _ => trivial⟩
    ·intro vs Wx A hA hB hpre K hK
     have e48 := ((hA 48).trans (show _ = vs 13 by kernel_rfl)).trans (by repeat first | exact hpre.1 rfl | replace hpre := hpre.2)
     clear hA hpre
     go_simp
     first | exact hK _ _ hB (by trivial) (fun _ _ h => h) | (rw [if_neg (by omega)]; go_simp; exact hK _ _ hB rfl (fun _ _ h => h))
    intro vs Wx hB hF
    have h22 : vs 22 = .bool true := hF 22 (by decide)
    have HB6 := Lib.hid (HFB.out Wx hB)
    clear hF hB
    simp only [Ri.puts]
    rw [h22]
    clear h22
    go_simp
    go_wp2
    go_ret
    exact ⟨rfl, by first | exact HB6.out | (rw [hp]; exact HB6.out)⟩
   have hw1 : IntKind.i64.wrap (S - r.held) = S - r.held := by rw [IntKind.wrap_i64]; omega
   by_cases q4 : r.paid = S - r.held
   ·obtain rfl : R = 0 := by rw [← hRC, if_pos ⟨by omega, by omega, q4⟩]
    clear hRC
    have hne : (S - r.held != r.paid) = false := by rw [← q4]; simp
    clear q4
    refine Ri.wp_region_lasting_g (by kernel_rfl) (by kernel_rfl) (by kernel_rfl) (fun Wx => Below wo.heap.size wo Wx) (fun kz vs wz => (fun kx vx wx => match kx with | 0 => vx = .pointer (some ⟨p, 2, none⟩) | 1 => vx = .int .i64 r.held | 2 => vx = .bool false | 3 => vx = .bool false | 4 => vx = .pointer (some ⟨p, 2, none⟩) | 5 => vx = .int .i64 r.held | 6 => vx = .bool false | 7 => vx = .bool false | 8 => vx = .bool false | 9 => vx = .pointer (some ⟨p, 1, none⟩) | 10 => vx = .int .i64 r.paid | 11 => vx = .bool false | 12 => vx = .bool false | 13 => vx = .bool false | 14 => vx = rmv r (.slice a r.cs.length cap) | 15 => vx = .int .i64 S | 16 => vx = .pointer (some ⟨p, 2, none⟩) | 17 => vx = .int .i64 r.held | 18 => vx = .int .i64 (S - r.held) | 19 => vx = .pointer (some ⟨p, 1, none⟩) | 20 => vx = .int .i64 r.paid | 21 => vx = .bool false | 22 => vx = .bool false | _ => True : Nat → Value → World → Prop) kz (vs kz) wz) (fun kz => [kz]) (by kernel_rfl) (fun jz vs iz vz wz hiz hz => Ri.loc_own (F := (fun kx vx wx => match kx with | 0 => vx = .pointer (some ⟨p, 2, none⟩) | 1 => vx = .int .i64 r.held | 2 => vx = .bool false | 3 => vx = .bool false | 4 => vx = .pointer (some ⟨p, 2, none⟩) | 5 => vx = .int .i64 r.held | 6 => vx = .bool false | 7 => vx = .bool false | 8 => vx = .bool false | 9 => vx = .pointer (some ⟨p, 1, none⟩) | 10 => vx = .int .i64 r.paid | 11 => vx = .bool false | 12 => vx = .bool false | 13 => vx = .bool false | 14 => vx = rmv r (.slice a r.cs.length cap) | 15 => vx = .int .i64 S | 16 => vx = .pointer (some ⟨p, 2, none⟩) | 17 => vx = .int .i64 r.held | 18 => vx = .int .i64 (S - r.held) | 19 => vx = .pointer (some ⟨p, 1, none⟩) | 20 => vx = .int .i64 r.paid | 21 => vx = .bool false | 22 => vx = .bool false | _ => True : Nat → Value → World → Prop)) jz vs iz vz wz hiz hz) HD.out ⟨Or.inl ⟨rfl, ?_⟩, Or.inl ⟨rfl, ?_⟩, Or.inl ⟨rfl, ?_⟩, Or.inl ⟨rfl, ?_⟩, Or.inr ⟨3, false, 38, rfl, rfl, ?_⟩, Or.inr ⟨3, false, 38, rfl, rfl, ?_⟩, Or.inr ⟨3, false, 38, rfl, rfl, ?_⟩, Or.inl ⟨rfl, ?_⟩, Or.inl ⟨rfl, ?_⟩, Or.inr ⟨8, false, 43, rfl, rfl, ?_⟩, Or.inr ⟨8, false, 43, rfl, rfl, ?_⟩, Or.inr ⟨8, false, 43, rfl, rfl, ?_⟩, Or.inl ⟨rfl, ?_⟩, Or.inl ⟨rfl, ?_⟩, Or.inr ⟨13, false, 48, rfl, rfl, ?_⟩, Or.inr ⟨13, false, 48, rfl, rfl, ?_⟩, Or.inr ⟨13, false, 48, rfl, rfl, ?_⟩, Or.inr ⟨13, false, 48, rfl, rfl, ?_⟩, Or.inr ⟨13, false, 48, rfl, rfl, ?_⟩, Or.inr ⟨13, false, 48, rfl, rfl, ?_⟩, Or.inr ⟨13, false, 48, rfl, rfl, ?_⟩, Or.inr ⟨13, false, 48, rfl, rfl, ?_⟩, Or.inl ⟨rfl, ?_⟩, trivial⟩ ?_
    ·intro vs Wx A hA hB hpre K hK
     have e1 := (hA 1).trans (show _ = Value.pointer (some ⟨p, 0, none⟩) by kernel_rfl)
     clear hA hpre
     go_simp
     first | exact hK _ _ hB (by trivial) (fun _ _ h => h) | (rw [if_neg (by omega)]; go_simp; exact hK _ _ hB rfl (fun _ _ h => h))
    ·intro vs Wx A hA hB hpre K hK
     have e35 := ((hA 35).trans (show _ = vs 0 by kernel_rfl)).trans (by repeat first | exact hpre.1 rfl | replace hpre := hpre.2)
     obtain ⟨x0, x1, x2, x3⟩ := four (HXK.out Wx hB)
     clear hA hpre
     go_simp
     first | exact hK _ _ hB (by trivial) (fun _ _ h => h) | (rw [if_neg (by omega)]; go_simp; exact hK _ _ hB rfl (fun _ _ h => h))
    ·intro vs Wx A hA hB hpre K hK
     have e36 := ((hA 36).trans (show _ = vs 1 by kernel_rfl)).trans (by repeat first | exact hpre.1 rfl | replace hpre := hpre.2)
     clear hA hpre
     go_simp
     first | exact hK _ _ hB (by trivial) (fun _ _ h => h) | (rw [if_neg (by omega)]; go_simp; exact hK _ _ hB rfl (fun _ _ h => h))
    ·intro vs Wx A hA hB hpre K hK
     have e37 := ((hA 37).trans (show _ = vs 2 by kernel_rfl)).trans (by repeat first | exact hpre.1 rfl | replace hpre := hpre.2)
     clear hA hpre
     go_simp
     first | exact hK _ _ hB (by trivial) (fun _ _ h => h) | (rw [if_neg (by omega)]; go_simp; exact hK _ _ hB rfl (fun _ _ h => h))
    ·intro vs Wx A hA hB hpre
     have eg := ((hA 38).trans (show _ = vs 3 by kernel_rfl)).trans (by repeat first | exact hpre.1 rfl | replace hpre := hpre.2)
     refine ⟨false, eg, fun _ K hK => ?_, fun h => absurd rfl h⟩
     have e1 := (hA 1).trans (show _ = Value.pointer (some ⟨p, 0, none⟩) by kernel_rfl)
     clear hA hpre
     go_simp
     first | exact hK _ _ hB (by trivial) (fun _ _ h => h) | (rw [if_neg (by omega)]; go_simp; exact hK _ _ hB rfl (fun _ _ h => h))
    ·intro vs Wx A hA hB hpre
     have eg := ((hA 38).trans (show _ = vs 3 by kernel_rfl)).trans (by repeat first | exact hpre.1 rfl | replace hpre := hpre.2)
     refine ⟨false, eg, fun _ K hK => ?_, fun h => absurd rfl h⟩
     have e39 := ((hA 39).trans (show _ = vs 4 by kernel_rfl)).trans (by repeat first | exact hpre.1 rfl | replace hpre := hpre.2)
     obtain ⟨x0, x1, x2, x3⟩ := four (HXK.out Wx hB)
     clear hA hpre
     go_simp
     first | exact hK _ _ hB (by trivial) (fun _ _ h => h) | (rw [if_neg (by omega)]; go_simp; exact hK _ _ hB rfl (fun _ _ h => h))
    ·intro vs Wx A hA hB hpre
     have eg := ((hA 38).trans (show _ = vs 3 by kernel_rfl)).trans (by repeat first | exact hpre.1 rfl | replace hpre := hpre.2)
     refine ⟨false, eg, fun _ K hK => ?_, fun h => absurd rfl h⟩
     have e40 := ((hA 40).trans (show _ = vs 5 by kernel_rfl)).trans (by repeat first | exact hpre.1 rfl | replace hpre := hpre.2)
     clear hA hpre
     go_simp
     first | exact hK _ _ hB (by trivial) (fun _ _ h => h) | (rw [if_neg (by omega)]; go_simp; exact hK _ _ hB rfl (fun _ _ h => h))
    ·intro vs Wx A hA hB hpre K hK
     have e38 := ((hA 38).trans (show _ = vs 3 by kernel_rfl)).trans (by repeat first | exact hpre.1 rfl | replace hpre := hpre.2)
     have e41 := ((hA 41).trans (show _ = vs 6 by kernel_rfl)).trans (by repeat first | exact hpre.1 rfl | replace hpre := hpre.2)
     clear hA hpre
     go_simp
     first | exact hK _ _ hB (by trivial) (fun _ _ h => h) | (rw [if_neg (by omega)]; go_simp; exact hK _ _ hB rfl (fun _ _ h => h))
    ·intro vs Wx A hA hB hpre K hK
     have e42 := ((hA 42).trans (show _ = vs 7 by kernel_rfl)).trans (by repeat first | exact hpre.1 rfl | replace hpre := hpre.2)
     clear hA hpre
     go_simp
     first | exact hK _ _ hB (by trivial) (fun _ _ h => h) | (rw [if_neg (by omega)]; go_simp; exact hK _ _ hB rfl (fun _ _ h => h))
    ·intro vs Wx A hA hB hpre
     have eg := ((hA 43).trans (show _ = vs 8 by kernel_rfl)).trans (by repeat first | exact hpre.1 rfl | replace hpre := hpre.2)
     refine ⟨false, eg, fun _ K hK => ?_, fun h => absurd rfl h⟩
     have e1 := (hA 1).trans (show _ = Value.pointer (some ⟨p, 0, none⟩) by kernel_rfl)
     clear hA hpre
     go_simp
     first | exact hK _ _ hB (by trivial) (fun _ _ h => h) | (rw [if_neg (by omega)]; go_simp; exact hK _ _ hB rfl (fun _ _ h => h))
    ·intro vs Wx A hA hB hpre
     have eg := ((hA 43).trans (show _ = vs 8 by kernel_rfl)).trans (by repeat first | exact hpre.1 rfl | replace hpre := hpre.2)
     refine ⟨false, eg, fun _ K hK => ?_, fun h => absurd rfl h⟩
     have e44 := ((hA 44).trans (show _ = vs 9 by kernel_rfl)).trans (by repeat first | exact hpre.1 rfl | replace hpre := hpre.2)
     obtain ⟨x0, x1, x2, x3⟩ := four (HXK.out Wx hB)
     clear hA hpre
     go_simp
     first | exact hK _ _ hB (by trivial) (fun _ _ h => h) | (rw [if_neg (by omega)]; go_simp; exact hK _ _ hB rfl (fun _ _ h => h))
    ·intro vs Wx A hA hB hpre
     have eg := ((hA 43).trans (show _ = vs 8 by kernel_rfl)).trans (by repeat first | exact hpre.1 rfl | replace hpre := hpre.2)
     refine ⟨false, eg, fun _ K hK => ?_, fun h => absurd rfl h⟩
     have e45 := ((hA 45).trans (show _ = vs 10 by kernel_rfl)).trans (by repeat first | exact hpre.1 rfl | replace hpre := hpre.2)
     clear hA hpre
     go_simp
     first | exact hK _ _ hB (by trivial) (fun _ _ h => h) | (rw [if_neg (by omega)]; go_simp; exact hK _ _ hB rfl (fun _ _ h => h))
    ·intro vs Wx A hA hB hpre K hK
     have e43 := ((hA 43).trans (show _ = vs 8 by kernel_rfl)).trans (by repeat first | exact hpre.1 rfl | replace hpre := hpre.2)
     have e46 := ((hA 46).trans (show _ = vs 11 by kernel_rfl)).trans (by repeat first | exact hpre.1 rfl | replace hpre := hpre.2)
     clear hA hpre
     go_simp
     first | exact hK _ _ hB (by trivial) (fun _ _ h => h) | (rw [if_neg (by omega)]; go_simp; exact hK _ _ hB rfl (fun _ _ h => h))
    ·intro vs Wx A hA hB hpre K hK
     have e47 := ((hA 47).trans (show _ = vs 12 by kernel_rfl)).trans (by repeat first | exact hpre.1 rfl | replace hpre := hpre.2)
     clear hA hpre
     go_simp
     first | exact hK _ _ hB (by trivial) (fun _ _ h => h) | (rw [if_neg (by omega)]; go_simp; exact hK _ _ hB rfl (fun _ _ h => h))
    ·intro vs Wx A hA hB hpre
     have eg := ((hA 48).trans (show _ = vs 13 by kernel_rfl)).trans (by repeat first | exact hpre.1 rfl | replace hpre := hpre.2)
     refine ⟨false, eg, fun _ K hK => ?_, fun h => absurd rfl h⟩
     have e1 := (hA 1).trans (show _ = Value.pointer (some ⟨p, 0, none⟩) by kernel_rfl)
     obtain ⟨x0, x1, x2, x3⟩ := four (HXK.out Wx hB)
     clear hA hpre
     go_simp
     first | exact hK _ _ hB (by trivial) (fun _ _ h => h) | (rw [if_neg (by omega)]; go_simp; exact hK _ _ hB rfl (fun _ _ h => h))
    ·intro vs Wx A hA hB hpre
     have eg := ((hA 48).trans (show _ = vs 13 by kernel_rfl)).trans (by repeat first | exact hpre.1 rfl | replace hpre := hpre.2)
     refine ⟨false, eg, fun _ K hK => ?_, fun h => absurd rfl h⟩
     have e49 := ((hA 49).trans (show _ = vs 14 by kernel_rfl)).trans (by repeat first | exact hpre.1 rfl | replace hpre := hpre.2)
     clear hA hpre
     go_simp
     go_at_call 20
     refine (HSS.out Wx hB).mono ?_
     rintro e w4 ⟨rfl, hg⟩
     exact hK _ _ (below_trans hB hg) rfl (fun _ _ h => h)
    ·intro vs Wx A hA hB hpre
     have eg := ((hA 48).trans (show _ = vs 13 by kernel_rfl)).trans (by repeat first | exact hpre.1 rfl | replace hpre := hpre.2)
     refine ⟨false, eg, fun _ K hK => ?_, fun h => absurd rfl h⟩
     have e1 := (hA 1).trans (show _ = Value.pointer (some ⟨p, 0, none⟩) by kernel_rfl)
     clear hA hpre
     go_simp
     first | exact hK _ _ hB (by trivial) (fun _ _ h => h) | (rw [if_neg (by omega)]; go_simp; exact hK _ _ hB rfl (fun _ _ h => h))
    ·intro vs Wx A hA hB hpre
     have eg := ((hA 48).trans (show _ = vs 13 by kernel_rfl)).trans (by repeat first | exact hpre.1 rfl | replace hpre := hpre.2)
     refine ⟨false, eg, fun _ K hK => ?_, fun h => absurd rfl h⟩
     have e51 := ((hA 51).trans (show _ = vs 16 by kernel_rfl)).trans (by repeat first | exact hpre.1 rfl | replace hpre := hpre.2)
     obtain ⟨x0, x1, x2, x3⟩ := four (HXK.out Wx hB)
     clear hA hpre
     go_simp
     first | exact hK _ _ hB (by trivial) (fun _ _ h => h) | (rw [if_neg (by omega)]; go_simp; exact hK _ _ hB rfl (fun _ _ h => h))
    ·intro vs Wx A hA hB hpre
     have eg := ((hA 48).trans (show _ = vs 13 by kernel_rfl)).trans (by repeat first | exact hpre.1 rfl | replace hpre := hpre.2)
     refine ⟨false, eg, fun _ K hK => ?_, fun h => absurd rfl h⟩
     have e50 := ((hA 50).trans (show _ = vs 15 by kernel_rfl)).trans (by repeat first | exact hpre.1 rfl | replace hpre := hpre.2)
     have e52 := ((hA 52).trans (show _ = vs 17 by kernel_rfl)).trans (by repeat first | exact hpre.1 rfl | replace hpre := hpre.2)
     clear hA hpre
     go_simp
     first | exact hK _ _ hB (by trivial) (fun _ _ h => h) | (rw [if_neg (by omega)]; go_simp; exact hK _ _ hB rfl (fun _ _ h => h))
    ·intro vs Wx A hA hB hpre
     have eg := ((hA 48).trans (show _ = vs 13 by kernel_rfl)).trans (by repeat first | exact hpre.1 rfl | replace hpre := hpre.2)
     refine ⟨false, eg, fun _ K hK => ?_, fun h => absurd rfl h⟩
     have e1 := (hA 1).trans (show _ = Value.pointer (some ⟨p, 0, none⟩) by kernel_rfl)
     clear hA hpre
     go_simp
     first | exact hK _ _ hB (by trivial) (fun _ _ h => h) | (rw [if_neg (by omega)]; go_simp; exact hK _ _ hB rfl (fun _ _ h => h))
    ·intro vs Wx A hA hB hpre
     have eg := ((hA 48).trans (show _ = vs 13 by kernel_rfl)).trans (by repeat first | exact hpre.1 rfl | replace hpre := hpre.2)
     refine ⟨false, eg, fun _ K hK => ?_, fun h => absurd rfl h⟩
     have e54 := ((hA 54).trans (show _ = vs 19 by kernel_rfl)).trans (by repeat first | exact hpre.1 rfl | replace hpre := hpre.2)
     obtain ⟨x0, x1, x2, x3⟩ := four (HXK.out Wx hB)
     clear hA hpre
     go_simp
     first | exact hK _ _ hB (by trivial) (fun _ _ h => h) | (rw [if_neg (by omega)]; go_simp; exact hK _ _ hB rfl (fun _ _ h => h))
    ·intro vs Wx A hA hB hpre
     have eg := ((hA 48).trans (show _ = vs 13 by kernel_rfl)).trans (by repeat first | exact hpre.1 rfl | replace hpre := hpre.2)
     refine ⟨false, eg, fun _ K hK => ?_, fun h => absurd rfl h⟩
     have e53 := ((hA 53).trans (show _ = vs 18 by kernel_rfl)).trans (by repeat first | exact hpre.1 rfl | replace hpre := hpre.2)
     have e55 := ((hA 55).trans (show _ = vs 20 by kernel_rfl)).trans (by repeat first | exact hpre.1 rfl | replace hpre := hpre.2)
     clear hA hpre
     go_simp
     first | exact hK _ _ hB (by trivial) (fun _ _ h => h) | (rw [if_neg (by omega)]; go_simp; exact hK _ _ hB rfl (fun _ _ h => h))
    ·intro vs Wx A hA hB hpre K hK
     have e48 := ((hA 48).trans (show _ = vs 13 by kernel_rfl)).trans (by repeat first | exact hpre.1 rfl | replace hpre := hpre.2)
     have e56 := ((hA 56).trans (show _ = vs 21 by kernel_rfl)).trans (by repeat first | exact hpre.1 rfl | replace hpre := hpre.2)
     clear hA hpre
     go_simp
     first | exact hK _ _ hB (by trivial) (fun _ _ h => h) | (rw [if_neg (by omega)]; go_simp; exact hK _ _ hB rfl (fun _ _ h => h))
    intro vs Wx hB hF
    have h22 : vs 22 = .bool false := hF 22 (by decide)
    have HB6 := Lib.hid (HFB.out Wx hB)
    clear hF hB
    simp only [Ri.puts]
    rw [h22]
    clear h22
    go_simp
    go_wp2
    go_ret
    exact ⟨rfl, by first | exact HB6.out | (rw [hp]; exact HB6.out)⟩
   ·obtain rfl : R = 17 := by rw [← hRC, if_neg (fun h => q4 h.2.2)]
    clear hRC
    have hne : (S - r.held != r.paid) = true := by simpa using fun h => q4 h.symm
    clear q4
    refine Ri.wp_region_lasting_g (by kernel_rfl) (by kernel_rfl) (by kernel_rfl) (fun Wx => Below wo.heap.size wo Wx) (fun kz vs wz => (fun kx vx wx => match kx with | 0 => vx = .pointer (some ⟨p, 2, none⟩) | 1 => vx = .int .i64 r.held | 2 => vx = .bool false | 3 => vx = .bool false | 4 => vx = .pointer (some ⟨p, 2, none⟩) | 5 => vx = .int .i64 r.held | 6 => vx = .bool false | 7 => vx = .bool false | 8 => vx = .bool false | 9 => vx = .pointer (some ⟨p, 1, none⟩) | 10 => vx = .int .i64 r.paid | 11 => vx = .bool false | 12 => vx = .bool false | 13 => vx = .bool false | 14 => vx = rmv r (.slice a r.cs.length cap) | 15 => vx = .int .i64 S | 16 => vx = .pointer (some ⟨p, 2, none⟩) | 17 => vx = .int .i64 r.held | 18 => vx = .int .i64 (S - r.held) | 19 => vx = .pointer (some ⟨p, 1, none⟩) | 20 => vx = .int .i64 r.paid | 21 => vx = .bool true | 22 => vx = .bool true | _ => True : Nat → Value → World → Prop) kz (vs kz) wz) (fun kz => [kz]) (by kernel_rfl) (fun jz vs iz vz wz hiz hz => Ri.loc_own (F := (fun kx vx wx => match kx with | 0 => vx = .pointer (some ⟨p, 2, none⟩) | 1 => vx = .int .i64 r.held | 2 => vx = .bool false | 3 => vx = .bool false | 4 => vx = .pointer (some ⟨p, 2, none⟩) | 5 => vx = .int .i64 r.held | 6 => vx = .bool false | 7 => vx = .bool false | 8 => vx = .bool false | 9 => vx = .pointer (some ⟨p, 1, none⟩) | 10 => vx = .int .i64 r.paid | 11 => vx = .bool false | 12 => vx = .bool false | 13 => vx = .bool false | 14 => vx = rmv r (.slice a r.cs.length cap) | 15 => vx = .int .i64 S | 16 => vx = .pointer (some ⟨p, 2, none⟩) | 17 => vx = .int .i64 r.held | 18 => vx = .int .i64 (S - r.held) | 19 => vx = .pointer (some ⟨p, 1, none⟩) | 20 => vx = .int .i64 r.paid | 21 => vx = .bool true | 22 => vx = .bool true | _ => True : Nat → Value → World → Prop)) jz vs iz vz wz hiz hz) HD.out ⟨Or.inl ⟨rfl, ?_⟩, Or.inl ⟨rfl, ?_⟩, Or.inl ⟨rfl, ?_⟩, Or.inl ⟨rfl, ?_⟩, Or.inr ⟨3, false, 38, rfl, rfl, ?_⟩, Or.inr ⟨3, false, 38, rfl, rfl, ?_⟩, Or.inr ⟨3, false, 38, rfl, rfl, ?_⟩, Or.inl ⟨rfl, ?_⟩, Or.inl ⟨rfl, ?_⟩, Or.inr ⟨8, false, 43, rfl, rfl, ?_⟩, Or.inr ⟨8, false, 43, rfl, rfl, ?_⟩, Or.inr ⟨8, false, 43, rfl, rfl, ?_⟩, Or.inl ⟨rfl, ?_⟩, Or.inl ⟨rfl, ?_⟩, Or.inr ⟨13, false, 48, rfl, rfl, ?_⟩, Or.inr ⟨13, false, 48, rfl, rfl, ?_⟩, Or.inr ⟨13, false, 48, rfl, rfl, ?_⟩, Or.inr ⟨13, false, 48, rfl, rfl, ?_⟩, Or.inr ⟨13, false, 48, rfl, rfl, ?_⟩, Or.inr ⟨13, false, 48, rfl, rfl, ?_⟩, Or.inr ⟨13, false, 48, rfl, rfl, ?_⟩, Or.inr ⟨13, false, 48, rfl, rfl, ?_⟩, Or.inl ⟨rfl, ?_⟩, trivial⟩ ?_
    ·intro vs Wx A hA hB hpre K hK
     have e1 := (hA 1).trans (show _ = Value.pointer (some ⟨p, 0, none⟩) by kernel_rfl)
     clear hA hpre
     go_simp
     first | exact hK _ _ hB (by trivial) (fun _ _ h => h) | (rw [if_neg (by omega)]; go_simp; exact hK _ _ hB rfl (fun _ _ h => h))
    ·intro vs Wx A hA hB hpre K hK
     have e35 := ((hA 35).trans (show _ = vs 0 by kernel_rfl)).trans (by repeat first | exact hpre.1 rfl | replace hpre := hpre.2)
     obtain ⟨x0, x1, x2, x3⟩ := four (HXK.out Wx hB)
     clear hA hpre
     go_simp
     first | exact hK _ _ hB (by trivial) (fun _ _ h => h) | (rw [if_neg (by omega)]; go_simp; exact hK _ _ hB rfl (fun _ _ h => h))
    ·intro vs Wx A hA hB hpre K hK
     have e36 := ((hA 36).trans (show _ = vs 1 by kernel_rfl)).trans (by repeat first | exact hpre.1 rfl | replace hpre := hpre.2)
     clear hA hpre
     go_simp
     first | exact hK _ _ hB (by trivial) (fun _ _ h => h) | (rw [if_neg (by omega)]; go_simp; exact hK _ _ hB rfl (fun _ _ h => h))
    ·intro vs Wx A hA hB hpre K hK
     have e37 := ((hA 37).trans (show _ = vs 2 by kernel_rfl)).trans (by repeat first | exact hpre.1 rfl | replace hpre := hpre.2)
     clear hA hpre
     go_simp
     first | exact hK _ _ hB (by trivial) (fun _ _ h => h) | (rw [if_neg (by omega)]; go_simp; exact hK _ _ hB rfl (fun _ _ h => h))
    ·intro vs Wx A hA hB hpre
     have eg := ((hA 38).trans (show _ = vs 3 by kernel_rfl)).trans (by repeat first | exact hpre.1 rfl | replace hpre := hpre.2)
     refine ⟨false, eg, fun _ K hK => ?_, fun h => absurd rfl h⟩
     have e1 := (hA 1).trans (show _ = Value.pointer (some ⟨p, 0, none⟩) by kernel_rfl)
     clear hA hpre
     go_simp
     first | exact hK _ _ hB (by trivial) (fun _ _ h => h) | (rw [if_neg (by omega)]; go_simp; exact hK _ _ hB rfl (fun _ _ h => h))
    ·intro vs Wx A hA hB hpre
     have eg := ((hA 38).trans (show _ = vs 3 by kernel_rfl)).trans (by repeat first | exact hpre.1 rfl | replace hpre := hpre.2)
     refine ⟨false, eg, fun _ K hK => ?_, fun h => absurd rfl h⟩
     have e39 := ((hA 39).trans (show _ = vs 4 by kernel_rfl)).trans (by repeat first | exact hpre.1 rfl | replace hpre := hpre.2)
     obtain ⟨x0, x1, x2, x3⟩ := four (HXK.out Wx hB)
     clear hA hpre
     go_simp
     first | exact hK _ _ hB (by trivial) (fun _ _ h => h) | (rw [if_neg (by omega)]; go_simp; exact hK _ _ hB rfl (fun _ _ h => h))
    ·intro vs Wx A hA hB hpre
     have eg := ((hA 38).trans (show _ = vs 3 by kernel_rfl)).trans (by repeat first | exact hpre.1 rfl | replace hpre := hpre.2)
     refine ⟨false, eg, fun _ K hK => ?_, fun h => absurd rfl h⟩
     have e40 := ((hA 40).trans (show _ = vs 5 by kernel_rfl)).trans (by repeat first | exact hpre.1 rfl | replace hpre := hpre.2)
     clear hA hpre
     go_simp
     first | exact hK _ _ hB (by trivial) (fun _ _ h => h) | (rw [if_neg (by omega)]; go_simp; exact hK _ _ hB rfl (fun _ _ h => h))
    ·intro vs Wx A hA hB hpre K hK
     have e38 := ((hA 38).trans (show _ = vs 3 by kernel_rfl)).trans (by repeat first | exact hpre.1 rfl | replace hpre := hpre.2)
     have e41 := ((hA 41).trans (show _ = vs 6 by kernel_rfl)).trans (by repeat first | exact hpre.1 rfl | replace hpre := hpre.2)
     clear hA hpre
     go_simp
     first | exact hK _ _ hB (by trivial) (fun _ _ h => h) | (rw [if_neg (by omega)]; go_simp; exact hK _ _ hB rfl (fun _ _ h => h))
    ·intro vs Wx A hA hB hpre K hK
     have e42 := ((hA 42).trans (show _ = vs 7 by kernel_rfl)).trans (by repeat first | exact hpre.1 rfl | replace hpre := hpre.2)
     clear hA hpre
     go_simp
     first | exact hK _ _ hB (by trivial) (fun _ _ h => h) | (rw [if_neg (by omega)]; go_simp; exact hK _ _ hB rfl (fun _ _ h => h))
    ·intro vs Wx A hA hB hpre
     have eg := ((hA 43).trans (show _ = vs 8 by kernel_rfl)).trans (by repeat first | exact hpre.1 rfl | replace hpre := hpre.2)
     refine ⟨false, eg, fun _ K hK => ?_, fun h => absurd rfl h⟩
     have e1 := (hA 1).trans (show _ = Value.pointer (some ⟨p, 0, none⟩) by kernel_rfl)
     clear hA hpre
     go_simp
     first | exact hK _ _ hB (by trivial) (fun _ _ h => h) | (rw [if_neg (by omega)]; go_simp; exact hK _ _ hB rfl (fun _ _ h => h))
    ·intro vs Wx A hA hB hpre
     have eg := ((hA 43).trans (show _ = vs 8 by kernel_rfl)).trans (by repeat first | exact hpre.1 rfl | replace hpre := hpre.2)
     refine ⟨false, eg, fun _ K hK => ?_, fun h => absurd rfl h⟩
     have e44 := ((hA 44).trans (show _ = vs 9 by kernel_rfl)).trans (by repeat first | exact hpre.1 rfl | replace hpre := hpre.2)
     obtain ⟨x0, x1, x2, x3⟩ := four (HXK.out Wx hB)
     clear hA hpre
     go_simp
     first | exact hK _ _ hB (by trivial) (fun _ _ h => h) | (rw [if_neg (by omega)]; go_simp; exact hK _ _ hB rfl (fun _ _ h => h))
    ·intro vs Wx A hA hB hpre
     have eg := ((hA 43).trans (show _ = vs 8 by kernel_rfl)).trans (by repeat first | exact hpre.1 rfl | replace hpre := hpre.2)
     refine ⟨false, eg, fun _ K hK => ?_, fun h => absurd rfl h⟩
     have e45 := ((hA 45).trans (show _ = vs 10 by kernel_rfl)).trans (by repeat first | exact hpre.1 rfl | replace hpre := hpre.2)
     clear hA hpre
     go_simp
     first | exact hK _ _ hB (by trivial) (fun _ _ h => h) | (rw [if_neg (by omega)]; go_simp; exact hK _ _ hB rfl (fun _ _ h => h))
    ·intro vs Wx A hA hB hpre K hK
     have e43 := ((hA 43).trans (show _ = vs 8 by kernel_rfl)).trans (by repeat first | exact hpre.1 rfl | replace hpre := hpre.2)
     have e46 := ((hA 46).trans (show _ = vs 11 by kernel_rfl)).trans (by repeat first | exact hpre.1 rfl | replace hpre := hpre.2)
     clear hA hpre
     go_simp
     first | exact hK _ _ hB (by trivial) (fun _ _ h => h) | (rw [if_neg (by omega)]; go_simp; exact hK _ _ hB rfl (fun _ _ h => h))
    ·intro vs Wx A hA hB hpre K hK
     have e47 := ((hA 47).trans (show _ = vs 12 by kernel_rfl)).trans (by repeat first | exact hpre.1 rfl | replace hpre := hpre.2)
     clear hA hpre
     go_simp
     first | exact hK _ _ hB (by trivial) (fun _ _ h => h) | (rw [if_neg (by omega)]; go_simp; exact hK _ _ hB rfl (fun _ _ h => h))
    ·intro vs Wx A hA hB hpre
     have eg := ((hA 48).trans (show _ = vs 13 by kernel_rfl)).trans (by repeat first | exact hpre.1 rfl | replace hpre := hpre.2)
     refine ⟨false, eg, fun _ K hK => ?_, fun h => absurd rfl h⟩
     have e1 := (hA 1).trans (show _ = Value.pointer (some ⟨p, 0, none⟩) by kernel_rfl)
     obtain ⟨x0, x1, x2, x3⟩ := four (HXK.out Wx hB)
     clear hA hpre
     go_simp
     first | exact hK _ _ hB (by trivial) (fun _ _ h => h) | (rw [if_neg (by omega)]; go_simp; exact hK _ _ hB rfl (fun _ _ h => h))
    ·intro vs Wx A hA hB hpre
     have eg := ((hA 48).trans (show _ = vs 13 by kernel_rfl)).trans (by repeat first | exact hpre.1 rfl | replace hpre := hpre.2)
     refine ⟨false, eg, fun _ K hK => ?_, fun h => absurd rfl h⟩
     have e49 := ((hA 49).trans (show _ = vs 14 by kernel_rfl)).trans (by repeat first | exact hpre.1 rfl | replace hpre := hpre.2)
     clear hA hpre
     go_simp
     go_at_call 20
     refine (HSS.out Wx hB).mono ?_
     rintro e w4 ⟨rfl, hg⟩
     exact hK _ _ (below_trans hB hg) rfl (fun _ _ h => h)
    ·intro vs Wx A hA hB hpre
     have eg := ((hA 48).trans (show _ = vs 13 by kernel_rfl)).trans (by repeat first | exact hpre.1 rfl | replace hpre := hpre.2)
     refine ⟨false, eg, fun _ K hK => ?_, fun h => absurd rfl h⟩
     have e1 := (hA 1).trans (show _ = Value.pointer (some ⟨p, 0, none⟩) by kernel_rfl)
     clear hA hpre
     go_simp
     first | exact hK _ _ hB (by trivial) (fun _ _ h => h) | (rw [if_neg (by omega)]; go_simp; exact hK _ _ hB rfl (fun _ _ h => h))
    ·intro vs Wx A hA hB hpre
     have eg := ((hA 48).trans (show _ = vs 13 by kernel_rfl)).trans (by repeat first | exact hpre.1 rfl | replace hpre := hpre.2)
     refine ⟨false, eg, fun _ K hK => ?_, fun h => absurd rfl h⟩
     have e51 := ((hA 51).trans (show _ = vs 16 by kernel_rfl)).trans (by repeat first | exact hpre.1 rfl | replace hpre := hpre.2)
     obtain ⟨x0, x1, x2, x3⟩ := four (HXK.out Wx hB)
     clear hA hpre
     go_simp
     first | exact hK _ _ hB (by trivial) (fun _ _ h => h) | (rw [if_neg (by omega)]; go_simp; exact hK _ _ hB rfl (fun _ _ h => h))
    ·intro vs Wx A hA hB hpre
     have eg := ((hA 48).trans (show _ = vs 13 by kernel_rfl)).trans (by repeat first | exact hpre.1 rfl | replace hpre := hpre.2)
     refine ⟨false, eg, fun _ K hK => ?_, fun h => absurd rfl h⟩
     have e50 := ((hA 50).trans (show _ = vs 15 by kernel_rfl)).trans (by repeat first | exact hpre.1 rfl | replace hpre := hpre.2)
     have e52 := ((hA 52).trans (show _ = vs 17 by kernel_rfl)).trans (by repeat first | exact hpre.1 rfl | replace hpre := hpre.2)
     clear hA hpre
     go_simp
     first | exact hK _ _ hB (by trivial) (fun _ _ h => h) | (rw [if_neg (by omega)]; go_simp; exact hK _ _ hB rfl (fun _ _ h => h))
    ·intro vs Wx A hA hB hpre
     have eg := ((hA 48).trans (show _ = vs 13 by kernel_rfl)).trans (by repeat first | exact hpre.1 rfl | replace hpre := hpre.2)
     refine ⟨false, eg, fun _ K hK => ?_, fun h => absurd rfl h⟩
     have e1 := (hA 1).trans (show _ = Value.pointer (some ⟨p, 0, none⟩) by kernel_rfl)
     clear hA hpre
     go_simp
     first | exact hK _ _ hB (by trivial) (fun _ _ h => h) | (rw [if_neg (by omega)]; go_simp; exact hK _ _ hB rfl (fun _ _ h => h))
    ·intro vs Wx A hA hB hpre
     have eg := ((hA 48).trans (show _ = vs 13 by kernel_rfl)).trans (by repeat first | exact hpre.1 rfl | replace hpre := hpre.2)
     refine ⟨false, eg, fun _ K hK => ?_, fun h => absurd rfl h⟩
     have e54 := ((hA 54).trans (show _ = vs 19 by kernel_rfl)).trans (by repeat first | exact hpre.1 rfl | replace hpre := hpre.2)
     obtain ⟨x0, x1, x2, x3⟩ := four (HXK.out Wx hB)
     clear hA hpre
     go_simp
     first | exact hK _ _ hB (by trivial) (fun _ _ h => h) | (rw [if_neg (by omega)]; go_simp; exact hK _ _ hB rfl (fun _ _ h => h))
    ·intro vs Wx A hA hB hpre
     have eg := ((hA 48).trans (show _ = vs 13 by kernel_rfl)).trans (by repeat first | exact hpre.1 rfl | replace hpre := hpre.2)
     refine ⟨false, eg, fun _ K hK => ?_, fun h => absurd rfl h⟩
     have e53 := ((hA 53).trans (show _ = vs 18 by kernel_rfl)).trans (by repeat first | exact hpre.1 rfl | replace hpre := hpre.2)
     have e55 := ((hA 55).trans (show _ = vs 20 by kernel_rfl)).trans (by repeat first | exact hpre.1 rfl | replace hpre := hpre.2)
     clear hA hpre
     go_simp
     first | exact hK _ _ hB (by trivial) (fun _ _ h => h) | (rw [if_neg (by omega)]; go_simp; exact hK _ _ hB rfl (fun _ _ h => h))
    ·intro vs Wx A hA hB hpre K hK
     have e48 := ((hA 48).trans (show _ = vs 13 by kernel_rfl)).trans (by repeat first | exact hpre.1 rfl | replace hpre := hpre.2)
     have e56 := ((hA 56).trans (show _ = vs 21 by kernel_rfl)).trans (by repeat first | exact hpre.1 rfl | replace hpre := hpre.2)
     clear hA hpre
     go_simp
     first | exact hK _ _ hB (by trivial) (fun _ _ h => h) | (rw [if_neg (by omega)]; go_simp; exact hK _ _ hB rfl (fun _ _ h => h))
    intro vs Wx hB hF
    have h22 : vs 22 = .bool true := hF 22 (by decide)
    have HB6 := Lib.hid (HFB.out Wx hB)
    clear hF hB
    simp only [Ri.puts]
    rw [h22]
    clear h22
    go_simp
    go_wp2
    go_ret
    exact ⟨rfl, by first | exact HB6.out | (rw [hp]; exact HB6.out)⟩
end Go.Proofs.Ytpfpjbeofogbgaa.Re
end
