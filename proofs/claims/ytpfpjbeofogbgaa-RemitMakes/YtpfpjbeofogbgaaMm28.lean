/-
  Texts put together (merge.py): MSame.
-/
import Derived.BigQuiet
import Derived.Deep.Cut
import Derived.Test.YtpfpjbeofogbgaaMm2
import Derived.Test.YtpfpjbeofogbgaaMm8
import Derived.Test.YtpfpjbeofogbgaaMm3
set_option linter.unusedSimpArgs false
set_option linter.unusedVariables false
section
set_option maxRecDepth 100000
namespace Go.Proofs.Ytpfpjbeofogbgaa.Re
open Go.RowKit
open Sv (Ca Sr Cp SvsAt CasAt CpsAt CpCells cpv cpe four six)
open Bk (keepB heap_far below_alloc below_trans alloc_new heap_set add_lit)
open Classical in
theorem same_self (x : Cp) : ∀ (m m' : Value) (w : World), SvsAt All w m x.svs → SvsAt All w m' x.svs → Calls Try.prog 30 #[cpv x m, cpv x m'] w fun e w' => e = .returned (.bool true) ∧ Below w.heap.size w w' := fun m m' w h h' => by
 have h1 := Sv.rsame_any x x m m' w h h'
 rw [decide_eq_true (rfl : x = x)] at h1
 exact h1
set_option maxHeartbeats 4000000 in
theorem sameall_eq (l : List Cp) (v u : Value) (w : World) (h : CpsAt All w v l) (g : CpsAt All w u l) :
  Calls Try.prog 14 #[v, u] w fun e w' => e = .returned (.bool true) ∧ Below w.heap.size w w' := by
 obtain ⟨a, c, rfl, f1, f2⟩ := h.form
 obtain ⟨a', c', rfl, f1', f2'⟩ := g.form
 have HM : Hid (∀ w', Below w.heap.size w w' → CpsAt All w' (.slice a l.length c) l) := fun w' hb => h.grw hb
 have HN : Hid (∀ w', Below w.heap.size w w' → CpsAt All w' (.slice a' l.length c') l) := fun w' hb => g.grw hb
 have HRF := Lib.hid (Below.refl w.heap.size w)
 clear h g
 go_enter Try.func14, Try.ntmps14
 go_wp2
 go_loopg [5] (l.length) (fun gg t5 wr => ∃ (k : Nat), k ≤ l.length ∧ gg = l.length - k ∧ t5 = .int .i64 k ∧ Hid (Below w.heap.size w wr))
 case atStart => exact ⟨0, Nat.zero_le _, rfl, rfl, HRF.out⟩
 case round =>
  obtain ⟨k, hk, hg, rfl, HBn⟩ := hrel
  by_cases hlt : k < l.length
  case neg =>
   have hltz : ¬ (k : Int) < (l.length : Int) := by omega
   go_wp2
   go_ret
   exact ⟨rfl, HBn.out⟩
  have hltz : (k : Int) < (l.length : Int) := by omega
  obtain ⟨b, o, m, rfl, hbl, hx, hcell, hr⟩ := Sv.CpsAt.get (HM.out _ HBn.out) k hlt
  obtain ⟨b', o', m', rfl, hbl', hx', hcell', hr'⟩ := Sv.CpsAt.get (HN.out _ HBn.out) k hlt
  have hi1 : k < l.length := hlt
  generalize l[k] = x at *
  obtain ⟨wo, rfl⟩ : ∃ z, z = wr := ⟨_, rfl⟩
  have HXK : Hid (∀ W, Below wo.heap.size wo W → CpCells W b (o + k * 6) x m ∧ CpCells W b' (o' + k * 6) x m') := fun W hW => ⟨hcell.of (hW.block b hbl), hcell'.of (hW.block b' hbl')⟩
  have HXS : Hid (∀ W, Below wo.heap.size wo W → SvsAt All W m x.svs ∧ SvsAt All W m' x.svs) := fun W hW => ⟨hr.grw hW, hr'.grw hW⟩
  obtain ⟨am, nm, cm, rfl⟩ : ∃ am nm cm, m = .slice am nm cm := by
   obtain ⟨q1, q2, q3, -, -⟩ := SvsAt.form hr
   exact ⟨q1, _, q2, q3⟩
  obtain ⟨am', nm', cm', rfl⟩ : ∃ am nm cm, m' = .slice am nm cm := by
   obtain ⟨q1, q2, q3, -, -⟩ := SvsAt.form hr'
   exact ⟨q1, _, q2, q3⟩
  have HD := Lib.hid (Below.drew (Below.refl wo.heap.size wo))
  have HSS : Hid (∀ W, Below wo.heap.size wo W → Calls Try.prog 30 #[cpv x (.slice am nm cm), cpv x (.slice am' nm' cm')] W fun e w' => e = .returned (.bool true) ∧ Below W.heap.size W w') := fun W hW => same_self x _ _ W (HXS.out W hW).1 (HXS.out W hW).2
  clear hx hx' hcell hcell' hr hr' hbl hbl' HXS
  go_upto_region 6 with fail
  refine Ri.wp_region_lasting (by kernel_rfl) (by kernel_rfl) (by kernel_rfl) (fun Wx => Below wo.heap.size wo Wx) (fun kz vs wz => (fun kx vx wx => match kx with | 0 => vx = Value.slice (some ⟨b, o, none⟩) l.length c | 1 => vx = .int .i64 (k : Nat) | 2 => vx = .pointer (some ⟨b, o + k * 6, none⟩) | 3 => vx = cpv x (.slice am nm cm) | 4 => vx = Value.slice (some ⟨b', o', none⟩) l.length c' | 5 => vx = .int .i64 (k : Nat) | 6 => vx = .pointer (some ⟨b', o' + k * 6, none⟩) | 7 => vx = cpv x (.slice am' nm' cm') | 8 => vx = .bool true | 9 => vx = .bool false | _ => True : Nat → Value → World → Prop) kz (vs kz) wz) (fun kz => [kz]) (by kernel_rfl) (fun jz vs iz vz wz hiz hz => Ri.loc_own (F := (fun kx vx wx => match kx with | 0 => vx = Value.slice (some ⟨b, o, none⟩) l.length c | 1 => vx = .int .i64 (k : Nat) | 2 => vx = .pointer (some ⟨b, o + k * 6, none⟩) | 3 => vx = cpv x (.slice am nm cm) | 4 => vx = Value.slice (some ⟨b', o', none⟩) l.length c' | 5 => vx = .int .i64 (k : Nat) | 6 => vx = .pointer (some ⟨b', o' + k * 6, none⟩) | 7 => vx = cpv x (.slice am' nm' cm') | 8 => vx = .bool true | 9 => vx = .bool false | _ => True : Nat → Value → World → Prop)) jz vs iz vz wz hiz hz) HD.out ⟨⟨rfl, ?_⟩, ⟨rfl, ?_⟩, ⟨rfl, ?_⟩, ⟨rfl, ?_⟩, ⟨rfl, ?_⟩, ⟨rfl, ?_⟩, ⟨rfl, ?_⟩, ⟨rfl, ?_⟩, ⟨rfl, ?_⟩, ⟨rfl, ?_⟩, trivial⟩ ?_
  ·intro vs Wx A hA hB hpre K hK
   have e0 := (hA 0).trans (show _ = Value.slice (some ⟨b, o, none⟩) l.length c by kernel_rfl)
   clear hA hpre
   go_simp
   first | exact hK _ _ hB (by trivial) (fun _ _ h => h) | (rw [if_neg (by omega)]; go_simp; exact hK _ _ hB rfl (fun _ _ h => h))
  ·intro vs Wx A hA hB hpre K hK
   have e5 := (hA 5).trans (show _ = Value.int .i64 (k : Nat) by kernel_rfl)
   clear hA hpre
   go_simp
   first | exact hK _ _ hB (by trivial) (fun _ _ h => h) | (rw [if_neg (by omega)]; go_simp; exact hK _ _ hB rfl (fun _ _ h => h))
  ·intro vs Wx A hA hB hpre K hK
   have e17 := ((hA 17).trans (show _ = vs 0 by kernel_rfl)).trans (by repeat first | exact hpre.1 rfl | replace hpre := hpre.2)
   have e18 := ((hA 18).trans (show _ = vs 1 by kernel_rfl)).trans (by repeat first | exact hpre.1 rfl | replace hpre := hpre.2)
   clear hA hpre
   go_simp
   first | exact hK _ _ hB (by trivial) (fun _ _ h => h) | (rw [if_neg (by omega)]; go_simp; exact hK _ _ hB rfl (fun _ _ h => h))
  ·intro vs Wx A hA hB hpre K hK
   have e19 := ((hA 19).trans (show _ = vs 2 by kernel_rfl)).trans (by repeat first | exact hpre.1 rfl | replace hpre := hpre.2)
   obtain ⟨⟨c0, c1, c2, c3, c4, c5⟩, ⟨d0, d1, d2, d3, d4, d5⟩⟩ := HXK.out Wx hB
   clear hA hpre
   go_simp
   first | exact hK _ _ hB (by trivial) (fun _ _ h => h) | (rw [if_neg (by omega)]; go_simp; exact hK _ _ hB rfl (fun _ _ h => h))
  ·intro vs Wx A hA hB hpre K hK
   have e1 := (hA 1).trans (show _ = Value.slice (some ⟨b', o', none⟩) l.length c' by kernel_rfl)
   clear hA hpre
   go_simp
   first | exact hK _ _ hB (by trivial) (fun _ _ h => h) | (rw [if_neg (by omega)]; go_simp; exact hK _ _ hB rfl (fun _ _ h => h))
  ·intro vs Wx A hA hB hpre K hK
   have e5 := (hA 5).trans (show _ = Value.int .i64 (k : Nat) by kernel_rfl)
   clear hA hpre
   go_simp
   first | exact hK _ _ hB (by trivial) (fun _ _ h => h) | (rw [if_neg (by omega)]; go_simp; exact hK _ _ hB rfl (fun _ _ h => h))
  ·intro vs Wx A hA hB hpre K hK
   have e21 := ((hA 21).trans (show _ = vs 4 by kernel_rfl)).trans (by repeat first | exact hpre.1 rfl | replace hpre := hpre.2)
   have e22 := ((hA 22).trans (show _ = vs 5 by kernel_rfl)).trans (by repeat first | exact hpre.1 rfl | replace hpre := hpre.2)
   clear hA hpre
   go_simp
   first | exact hK _ _ hB (by trivial) (fun _ _ h => h) | (rw [if_neg (by omega)]; go_simp; exact hK _ _ hB rfl (fun _ _ h => h))
  ·intro vs Wx A hA hB hpre K hK
   have e23 := ((hA 23).trans (show _ = vs 6 by kernel_rfl)).trans (by repeat first | exact hpre.1 rfl | replace hpre := hpre.2)
   obtain ⟨⟨c0, c1, c2, c3, c4, c5⟩, ⟨d0, d1, d2, d3, d4, d5⟩⟩ := HXK.out Wx hB
   clear hA hpre
   go_simp
   first | exact hK _ _ hB (by trivial) (fun _ _ h => h) | (rw [if_neg (by omega)]; go_simp; exact hK _ _ hB rfl (fun _ _ h => h))
  ·intro vs Wx A hA hB hpre K hK
   have e20 := ((hA 20).trans (show _ = vs 3 by kernel_rfl)).trans (by repeat first | exact hpre.1 rfl | replace hpre := hpre.2)
   have e24 := ((hA 24).trans (show _ = vs 7 by kernel_rfl)).trans (by repeat first | exact hpre.1 rfl | replace hpre := hpre.2)
   clear hA hpre
   go_simp
   go_at_call 30
   refine (HSS.out Wx hB).mono ?_
   rintro e w4 ⟨rfl, hg⟩
   exact hK _ _ (below_trans hB hg) rfl (fun _ _ h => h)
  ·intro vs Wx A hA hB hpre K hK
   have e25 := ((hA 25).trans (show _ = vs 8 by kernel_rfl)).trans (by repeat first | exact hpre.1 rfl | replace hpre := hpre.2)
   clear hA hpre
   go_simp
   first | exact hK _ _ hB (by trivial) (fun _ _ h => h) | (rw [if_neg (by omega)]; go_simp; exact hK _ _ hB rfl (fun _ _ h => h))
  intro vs Wx hB hF
  have h9 : vs 9 = .bool false := hF 9 (by decide)
  have HB3 : Hid (Below w.heap.size w Wx) := HBn.out.trans (hB.mono HBn.out.size)
  clear hF hB
  simp only [Ri.puts]
  rw [h9]
  clear h9
  go_simp
  go_wp2
  go_roundg (l.length - (k + 1))
  case measure => omega
  case rel => exact ⟨k + 1, by omega, rfl, by go_num, HB3.out⟩
set_option maxHeartbeats 4000000 in
theorem same_eq (r : Rm) (m m' : Value) (w : World) (h : CpsAt All w m r.cs) (g : CpsAt All w m' r.cs) :
  Calls Try.prog 13 #[rmv r m, rmv r m'] w fun e w' => e = .returned (.bool true) ∧ Below w.heap.size w w' := by
 obtain ⟨a, c, rfl, f1, f2⟩ := h.form
 obtain ⟨a', c', rfl, f1', f2'⟩ := g.form
 have HB := Lib.hid (below_trans (below_alloc w (.cells (rme r (.slice a r.cs.length c)) 27)) (below_alloc _ (.cells (rme r (.slice a' r.cs.length c')) 27)))
 have HX := Lib.hid (keepB (alloc_new w (rme r (.slice a r.cs.length c)) 27) (below_alloc _ (.cells (rme r (.slice a' r.cs.length c')) 27)))
 have HY := Lib.hid (alloc_new (w.alloc (.cells (rme r (.slice a r.cs.length c)) 27)) (rme r (.slice a' r.cs.length c')) 27)
 rw [show (w.alloc (.cells (rme r (.slice a r.cs.length c)) 27)).heap.size = w.heap.size + 1 by simp] at HY
 have HSA : Hid (∀ W, Below w.heap.size w W → Calls Try.prog 14 #[.slice a r.cs.length c, .slice a' r.cs.length c'] W fun e w' => e = .returned (.bool true) ∧ Below W.heap.size W w') := fun W hW => sameall_eq r.cs _ _ W (h.grw hW) (g.grw hW)
 clear h g
 have n1 : (r.n == r.n) = true := by simp
 have n2 : (r.paid == r.paid) = true := by simp
 have n3 : (r.held == r.held) = true := by simp
 go_enter Try.func13, Try.ntmps13
 go_upto_region 1 with fail
 generalize ((w.alloc (.cells (rme r (.slice a r.cs.length c)) 27)).alloc (.cells (rme r (.slice a' r.cs.length c')) 27)) = W at *
 generalize hp : w.heap.size = p at *
 have HPW : Hid (p ≤ W.heap.size) := by have := HB.out.size; rw [hp] at this; exact this
 obtain ⟨x0, x1, x2, x3⟩ := four HX.out
 obtain ⟨y0, y1, y2, y3⟩ := four HY.out
 go_wp2_with (first | (go_at_call 14; refine (HSA.out _ HB.out).mono ?_; rintro e w4 ⟨rfl, hg⟩; have HB4 : Hid (Below p w w4) := HB.out.trans (hg.mono HPW.out); clear hg))
 go_ret
 exact ⟨rfl, by first | exact HB4.out | (rw [hp]; exact HB4.out)⟩
end Go.Proofs.Ytpfpjbeofogbgaa.Re
end
