/-
  Texts put together (merge.py): MTake, MSum.
-/
import Derived.BigQuiet
import Derived.Deep.Cut
import Derived.Test.YtpfpjbeofogbgaaMm2
import Derived.Test.YtpfpjbeofogbgaaMm13
import Derived.Test.YtpfpjbeofogbgaaMm6
set_option linter.unusedSimpArgs false
set_option linter.unusedVariables false
section
set_option maxRecDepth 100000
namespace Go.Proofs.Ytpfpjbeofogbgaa.Re
open Go.RowKit
open Sv (Ca Sr Cp SvsAt CasAt CpsAt CpCells cpv cpe four six Bd BdS CpOk I64 backO_eq checkE svcE totB totP totM totC sumC sumP sgn)
open Bk (keepB heap_far below_alloc below_trans alloc_new heap_set add_lit)
theorem totC_sgn (st : Int) : ∀ (l : List Sr), (∀ s ∈ l, svcE st s = 0) → 0 ≤ sgn st * totC l
 | [], _ => by simp [totC]
 | s :: l, h => by
  have a := totC_sgn st l fun x hx => h x (List.mem_cons_of_mem _ hx)
  have b := Sv.sumP_sgn st s.cas ((Sv.svc_iff st s).1 (h s (List.mem_cons_self ..))).2.2.2.1
  simp only [totC, Int.mul_add]
  omega
theorem sumP_bd : ∀ (l : List Ca), (∀ c ∈ l, Bd c.ct) → -(1125899906842624 * (l.length : Int)) ≤ sumP l ∧ sumP l ≤ 1125899906842624 * (l.length : Int)
 | [], _ => by simp [sumP]
 | c :: l, h => by
  have a := sumP_bd l fun x hx => h x (List.mem_cons_of_mem _ hx)
  have b := h c (List.mem_cons_self ..)
  unfold Bd at b
  simp only [sumP, List.length_cons]
  push_cast
  split <;> omega
theorem totM_bd : ∀ (l : List Sr), (∀ s ∈ l, BdS s) → -(5629499534213120 * (l.length : Int)) ≤ totM l ∧ totM l ≤ 5629499534213120 * (l.length : Int)
 | [], _ => by simp [totM]
 | s :: l, h => by
  have a := totM_bd l fun x hx => h x (List.mem_cons_of_mem _ hx)
  obtain ⟨-, -, b5, b6⟩ := h s (List.mem_cons_self ..)
  have b := sumP_bd s.cas b6
  simp only [totM, List.length_cons]
  push_cast
  omega
theorem paid_bd {x : Cp} (h : checkE x = 0) : (-10000000000000 ≤ x.paid ∧ x.paid ≤ 10000000000000) ∧ (-10000000000000 ≤ x.bi ∧ x.bi ≤ 10000000000000) := by
 obtain ⟨⟨_, hs⟩, _, c, d1, d2, d3, d4⟩ := (Sv.check_iff x).1 h
 have t1 := Sv.tot_bal x.st x.svs c
 obtain ⟨t2, -, -⟩ := Sv.tot_sgn x.st x.svs c
 have t3 := totC_sgn x.st x.svs c
 have t4 := Sv.ok_range d4
 rcases hs with e | e
 ·rw [e] at t2 t3 d4
  have := (Sv.ok_one _).1 d4
  simp only [sgn, if_true] at t2 t3
  rw [d2, d1]
  omega
 ·rw [e] at t2 t3 d4
  have := (Sv.ok_back _).1 d4
  simp [sgn] at t2 t3
  rw [d2, d1]
  omega
theorem mem_bd {x : Cp} (h : checkE x = 0) : -5623870034678906880 ≤ x.mem ∧ x.mem ≤ 5623870034678906880 := by
 obtain ⟨_, hl, c, d1, d2, d3, d4⟩ := (Sv.check_iff x).1 h
 have := totM_bd x.svs fun s hs => Sv.bdS_of (c s hs)
 rw [d3]
 omega
theorem back_is {x : Cp} (h : checkE x = 0) : Sv.backO x = Sv.back x := by
 obtain ⟨_, hl, c, -⟩ := (Sv.check_iff x).1 h
 have h1 := paid_bd h
 have h2 := mem_bd h
 refine backO_eq ⟨by omega, by omega, by omega, fun s hs => ?_⟩
 obtain ⟨b1, b2, -, b4⟩ := Sv.bdS_of (c s hs)
 unfold Bd at b1 b2 b4
 exact ⟨by omega, by omega, fun k hk => by have := b4 k hk; omega⟩
theorem small_of {x : Cp} (h : checkE x = 0) : x.svs.length ≤ 1000000 ∧ ∀ s ∈ x.svs, s.cas.length ≤ 1000000 := by
 obtain ⟨_, hl, c, -⟩ := (Sv.check_iff x).1 h
 exact ⟨by omega, fun s hs => by have := (Sv.bdS_of (c s hs)).2.2.1; omega⟩
theorem backC_any (x : Cp) (m : Value) (w : World) (hm : SvsAt All w m x.svs) (hz : CpOk x) (h : checkE x = 0) :
  Calls Try.prog 48 #[cpv x m] w fun e w' => (∃ u, e = .returned (cpv (Sv.back x) u) ∧ SvsAt (fun b => w.heap.size ≤ b) w' u (Sv.back x).svs) ∧ Below w.heap.size w w' := by
 have := Sv.back_any x m w hm hz (small_of h).1 (small_of h).2
 rwa [back_is h] at this
theorem take_no (v : Value) (hv : ∃ a n c, v = .slice a n c) (x : Cp) (m : Value) (hm : ∃ a n c, m = .slice a n c) (w : World) :
  Calls Try.prog 34 #[v, cpv x m, .bool false] w fun e w' => e = .returned v ∧ Below w.heap.size w w' := by
 obtain ⟨a, n, c, rfl⟩ := hv
 obtain ⟨a', n', c', rfl⟩ := hm
 have HB := Lib.hid (below_alloc w (.cells (cpe x (.slice a' n' c')) 38))
 go_enter Try.func34, Try.ntmps34
 go_wp2
 go_ret
 exact ⟨rfl, HB.out⟩
set_option maxHeartbeats 1000000 in
theorem take_yes (B : Nat) (v : Value) (L : List Cx) (x : Cp) (m : Value) (w : World) (ho : OwnC B w v L) (hB : B ≤ w.heap.size) (hbd : L.length ≤ 900000) (hm : SvsAt All w m x.svs) (hz : CpOk x) (h : checkE x = 0) :
  Calls Try.prog 34 #[v, cpv x m, .bool true] w fun e w' => ∃ v' u, e = .returned v' ∧ OwnC B w' v' (L ++ [⟨Sv.back x, u⟩]) ∧ w.grownBy w' v.ownBlock ∧ (v'.ownBlock = v.ownBlock ∨ ∃ g, v'.ownBlock = some g ∧ w.heap.size ≤ g) ∧ SvsAt (fun b => w.heap.size ≤ b ∧ v'.ownBlock ≠ some b) w' u (Sv.back x).svs := by
 obtain ⟨a, n, c, rfl⟩ : ∃ a n c, v = .slice a n c := by
  obtain ⟨q1, q2, q3, -, -⟩ := ho.form
  exact ⟨q1, _, q2, q3⟩
 obtain ⟨am, nm, cm, rfl⟩ : ∃ a n c, m = .slice a n c := by
  obtain ⟨q1, q2, q3, -, -⟩ := hm.form
  exact ⟨q1, _, q2, q3⟩
 have HB := Lib.hid (below_alloc w (.cells (cpe x (.slice am nm cm)) 38))
 have HX := Lib.hid (alloc_new w (cpe x (.slice am nm cm)) 38)
 have HBK := Lib.hid (backC_any x (.slice am nm cm) (w.alloc (.cells (cpe x (.slice am nm cm)) 38)) (hm.grw HB.out) hz h)
 have HO := Lib.hid ho
 have HBB := Lib.hid hB
 have HBD := Lib.hid hbd
 clear ho hB hbd hm hz h
 generalize Sv.back x = y at *
 go_enter Try.func34, Try.ntmps34
 go_upto_region 1 with fail
 obtain ⟨W, hW⟩ : ∃ z, z = w.alloc (.cells (cpe x (.slice am nm cm)) 38) := ⟨_, rfl⟩
 rw [← hW] at HB HX HBK ⊢
 have HSW : Hid (W.heap.size = w.heap.size + 1) := by show _ = _; rw [hW]; simp
 clear hW
 generalize hp : w.heap.size = p at *
 obtain ⟨x0, x1, x2, x3, x4, x5⟩ := six HX.out
 have HF : Hid (∀ w1 (au : Option Addr) (nu cu : Nat), Below W.heap.size W w1 → SvsAt (fun b => W.heap.size ≤ b) w1 (.slice au nu cu) y.svs → OwnC B (w1.alloc (.cells (cpe y (.slice au nu cu)) 38)) (.slice a n c) L ∧ (w1.alloc (.cells (cpe y (.slice au nu cu)) 38)).heap[w1.heap.size]? = some (.cells (cpe y (.slice au nu cu)) 38 (0, 0)) ∧ B ≤ (w1.alloc (.cells (cpe y (.slice au nu cu)) 38)).heap.size ∧ L.length ≤ 1000000 ∧ ∀ v' w', OwnC B w' v' (L ++ [⟨y, .slice au nu cu⟩]) → (w1.alloc (.cells (cpe y (.slice au nu cu)) 38)).grownBy w' (Value.slice a n c).ownBlock → (v'.ownBlock = (Value.slice a n c).ownBlock ∨ v'.ownBlock = some (w1.alloc (.cells (cpe y (.slice au nu cu)) 38)).heap.size) → w.grownBy w' (Value.slice a n c).ownBlock ∧ (v'.ownBlock = (Value.slice a n c).ownBlock ∨ ∃ g, v'.ownBlock = some g ∧ p ≤ g) ∧ SvsAt (fun b => p ≤ b ∧ v'.ownBlock ≠ some b) w' (.slice au nu cu) y.svs) := fun w1 au nu cu hb hs => by
  have s1 := hb.size
  have s2 := HSW.out
  have s3 := HBB.out
  have hbw : Below p w w1 := HB.out.trans (hb.mono (by omega))
  have hk : ∀ b, b < p → (w1.alloc (.cells (cpe y (.slice au nu cu)) 38)).heap[b]? = w.heap[b]? := fun b hlt => ((below_alloc w1 _).block b (by omega)).trans (hbw.block b hlt)
  have hown : ∀ g, (Value.slice a n c).ownBlock = some g → g < p := fun g hg => by have := (HO.out.lt hg).2; omega
  refine ⟨HO.out.keep fun g hg => hk g (hown g hg), alloc_new w1 _ _, by simp; omega, by have := HBD.out; omega, fun v' w' ho hg hat => ⟨⟨?_, ?_, ?_, ?_, ?_⟩, ?_, ?_⟩⟩
  ·exact hg.os.trans hbw.os
  ·exact hg.tape.trans hbw.tape
  ·exact hg.output.trans hbw.output
  ·have := hg.size; simp at this; omega
  ·intro b hlt hne
   exact (hg.block b (by simp; omega) hne).trans (hk b (by omega))
  ·rcases hat with e | e
   ·exact Or.inl e
   ·exact Or.inr ⟨_, e, by simp; omega⟩
  ·refine (hs.move (K' := fun b => p ≤ b ∧ v'.ownBlock ≠ some b ∧ (Value.slice a n c).ownBlock ≠ some b) (w' := (w1.alloc (.cells (cpe y (.slice au nu cu)) 38))) ⟨by simp, fun b hlt hk => ⟨⟨by omega, ?_, fun e => by have := hown b e; omega⟩, (below_alloc w1 _).block b hlt⟩⟩).move ⟨hg.size, fun b hlt hk => ⟨⟨hk.1, hk.2.1⟩, hg.block b hlt (fun e => hk.2.2 e.symm)⟩⟩
   rcases hat with e | e
   ·rw [e]; exact fun e => by have := hown b e; omega
   ·rw [e]; intro q; injection q with q; simp at q; omega
 go_wp2_with (first | (go_at_call 48; refine HBK.out.mono ?_; rintro e w1 ⟨⟨u, rfl, hs⟩, hb⟩; obtain ⟨au, nu, cu, rfl⟩ : ∃ a n c, u = .slice a n c := (by obtain ⟨q1, q2, q3, -, -⟩ := SvsAt.form hs; exact ⟨q1, _, q2, q3⟩); have HG := Lib.hid (HF.out w1 au nu cu hb hs); clear hs hb) | (at_builtin; refine wpList_plain (by rfl) (fun K hK => ?_); refine wp_appC _ _ rfl B (.slice a n c) L rfl HG.out.1 _ 1 (⟨y, .slice au nu cu⟩ : Cx) rfl HG.out.2.1 rfl HG.out.2.2.2.1 HG.out.2.2.1 (fun v' w' ho hg hat => ?_); have HFF := Lib.hid (HG.out.2.2.2.2 v' w' ho hg hat); have HOO := Lib.hid ho; clear hg hat ho; refine hK _ _ ?_; clear hK))
 go_ret
 exact ⟨_, _, rfl, HOO.out, HFF.out.1, by first | exact HFF.out.2.1 | (rw [hp]; exact HFF.out.2.1), by first | exact HFF.out.2.2 | (rw [hp]; exact HFF.out.2.2)⟩
end Go.Proofs.Ytpfpjbeofogbgaa.Re
end
section
set_option maxRecDepth 100000
namespace Go.Proofs.Ytpfpjbeofogbgaa.Re
open Go.RowKit
open Sv (Ca Sr Cp SvsAt CasAt CpsAt CpCells cpv cpe four six Bd)
open Bk (keepB heap_far below_alloc below_trans alloc_new heap_set add_lit)
theorem sum_step {l : List Cp} {k : Nat} {x : Cp} (hx : l[k]? = some x) {S s : Int} (h : S + sum (l.drop k) = s) : (S + x.paid) + sum (l.drop (k + 1)) = s := by
 obtain ⟨hl, e⟩ := List.getElem?_eq_some_iff.1 hx
 rw [List.drop_eq_getElem_cons hl, e] at h
 simp only [sum] at h
 omega
theorem sum_end {l : List Cp} {k : Nat} (hk : l.length ≤ k) {S s : Int} (h : S + sum (l.drop k) = s) : s = S := by
 rw [List.drop_eq_nil_of_le hk] at h
 simp only [sum] at h
 omega
set_option maxHeartbeats 4000000 in
theorem sum_any (r : Rm) (m : Value) (w : World) (h : CpsAt All w m r.cs) (hl : r.cs.length ≤ 2000) (hb : ∀ x ∈ r.cs, Bd x.paid) :
  Calls Try.prog 19 #[rmv r m] w fun e w' => e = .returned (.int .i64 (sum r.cs)) ∧ Below w.heap.size w w' := by
 obtain ⟨a, cap, rfl, f1, f2⟩ := h.form
 have HB := Lib.hid (below_alloc w (.cells (rme r (.slice a r.cs.length cap)) 27))
 have HX := Lib.hid (alloc_new w (rme r (.slice a r.cs.length cap)) 27)
 have HM : Hid (∀ w', Below w.heap.size w w' → CpsAt All w' (.slice a r.cs.length cap) r.cs) := fun w' hb => h.grw hb
 have HZ := Lib.hid hb
 clear h hb
 obtain ⟨s, hs⟩ : ∃ s, sum r.cs = s := ⟨_, rfl⟩
 rw [hs]
 have H0 : Hid (0 + sum (r.cs.drop 0) = s) := by show _ = _; rw [List.drop_zero, hs]; omega
 clear hs
 go_enter Try.func19, Try.ntmps19
 go_upto_region 1 with fail
 generalize w.alloc (.cells (rme r (.slice a r.cs.length cap)) 27) = W at *
 generalize hp : w.heap.size = p at *
 have HPW : Hid (p ≤ W.heap.size) := by have := HB.out.size; rw [hp] at this; exact this
 obtain ⟨x0, x1, x2, x3⟩ := four HX.out
 go_wp2
 clear x0 x1 x2 x3
 go_loopg [3, 9] (r.cs.length) (fun gg t3 t9 wr => ∃ (k : Nat) (S : Int), k ≤ r.cs.length ∧ gg = r.cs.length - k ∧ t3 = .int .i64 S ∧ t9 = .int .i64 k ∧ (-1125899906842624 * k ≤ S ∧ S ≤ 1125899906842624 * k) ∧ Hid (S + sum (r.cs.drop k) = s) ∧ Hid (Below W.heap.size W wr))
 case atStart => exact ⟨0, 0, Nat.zero_le _, rfl, rfl, rfl, by omega, H0.out, Below.refl _ _⟩
 case round =>
  obtain ⟨k, S, hk, hg, rfl, rfl, ⟨hS1, hS2⟩, HT, HBn⟩ := hrel
  have HBw : Hid (Below p w wr) := HB.out.trans (HBn.out.mono HPW.out)
  by_cases hlt : k < r.cs.length
  ·have hltz : (k : Int) < (r.cs.length : Int) := by omega
   obtain ⟨b, o, m2, rfl, hbl, hx, hcell, hr⟩ := Sv.CpsAt.get (HM.out _ HBw.out) k hlt
   obtain ⟨z1, z2⟩ := HZ.out _ (List.mem_of_getElem? hx)
   have HS := Lib.hid (sum_step hx HT.out)
   have hi1 : k < r.cs.length := hlt
   generalize r.cs[k] = x at *
   obtain ⟨c0, c1, c2, c3, c4, c5⟩ := id hcell
   obtain ⟨am, nm, cm, rfl⟩ : ∃ am nm cm, m2 = .slice am nm cm := by
    obtain ⟨q1, q2, q3, -, -⟩ := SvsAt.form hr
    exact ⟨q1, _, q2, q3⟩
   have HXn := Lib.hid (alloc_new wr (cpe x (.slice am nm cm)) 38)
   have HB2 : Hid (Below W.heap.size W (wr.alloc (.cells (cpe x (.slice am nm cm)) 38))) := HBn.out.trans ((below_alloc wr _).mono HBn.out.size)
   clear hx hr hcell
   go_wp2
   go_roundg (r.cs.length - (k + 1))
   case measure => omega
   case rel => exact ⟨k + 1, S + x.paid, by omega, rfl, rfl, by go_num, by omega, HS.out, HB2.out⟩
  ·have hltz : ¬ (k : Int) < (r.cs.length : Int) := by omega
   have HE := Lib.hid (sum_end (by omega) HT.out)
   skip
   go_wp2
   go_ret
   exact ⟨by rw [HE.out]; rfl, by first | exact HBw.out | (rw [hp]; exact HBw.out)⟩
set_option maxHeartbeats 4000000 in
theorem rsum_any (r : Rm) (m : Value) (w : World) (h : CpsAt All w m r.cs) (hl : r.cs.length ≤ 2000) (hb : ∀ x ∈ r.cs, Bd x.paid) :
  Calls Try.prog 20 #[rmv r m] w fun e w' => e = .returned (.int .i64 (sum r.cs)) ∧ Below w.heap.size w w' := by
 obtain ⟨a, cap, rfl, f1, f2⟩ := h.form
 have HB := Lib.hid (below_alloc w (.cells (rme r (.slice a r.cs.length cap)) 27))
 have HX := Lib.hid (alloc_new w (rme r (.slice a r.cs.length cap)) 27)
 have HM : Hid (∀ w', Below w.heap.size w w' → CpsAt All w' (.slice a r.cs.length cap) r.cs) := fun w' hb => h.grw hb
 have HZ := Lib.hid hb
 clear h hb
 obtain ⟨s, hs⟩ : ∃ s, sum r.cs = s := ⟨_, rfl⟩
 rw [hs]
 have H0 : Hid (0 + sum (r.cs.drop 0) = s) := by show _ = _; rw [List.drop_zero, hs]; omega
 clear hs
 go_enter Try.func20, Try.ntmps20
 go_upto_region 1 with fail
 generalize w.alloc (.cells (rme r (.slice a r.cs.length cap)) 27) = W at *
 generalize hp : w.heap.size = p at *
 have HPW : Hid (p ≤ W.heap.size) := by have := HB.out.size; rw [hp] at this; exact this
 obtain ⟨x0, x1, x2, x3⟩ := four HX.out
 go_wp2
 clear x0 x1 x2 x3
 go_loopg [3, 4] (r.cs.length) (fun gg t3 t4 wr => ∃ (k : Nat) (S : Int), k ≤ r.cs.length ∧ gg = r.cs.length - k ∧ t3 = .int .i64 S ∧ t4 = .int .i64 k ∧ (-1125899906842624 * k ≤ S ∧ S ≤ 1125899906842624 * k) ∧ Hid (S + sum (r.cs.drop k) = s) ∧ Hid (Below W.heap.size W wr))
 case atStart => exact ⟨0, 0, Nat.zero_le _, rfl, rfl, rfl, by omega, H0.out, Below.refl _ _⟩
 case round =>
  obtain ⟨k, S, hk, hg, rfl, rfl, ⟨hS1, hS2⟩, HT, HBn⟩ := hrel
  have HBw : Hid (Below p w wr) := HB.out.trans (HBn.out.mono HPW.out)
  by_cases hlt : k < r.cs.length
  ·have hltz : (k : Int) < (r.cs.length : Int) := by omega
   obtain ⟨b, o, m2, rfl, hbl, hx, hcell, hr⟩ := Sv.CpsAt.get (HM.out _ HBw.out) k hlt
   obtain ⟨z1, z2⟩ := HZ.out _ (List.mem_of_getElem? hx)
   have HS := Lib.hid (sum_step hx HT.out)
   have hi1 : k < r.cs.length := hlt
   generalize r.cs[k] = x at *
   obtain ⟨c0, c1, c2, c3, c4, c5⟩ := id hcell
   obtain ⟨am, nm, cm, rfl⟩ : ∃ am nm cm, m2 = .slice am nm cm := by
    obtain ⟨q1, q2, q3, -, -⟩ := SvsAt.form hr
    exact ⟨q1, _, q2, q3⟩
   have HXK : Hid (∀ W', Below W.heap.size W W' → W'.heap[p]? = some (.cells (rme r (.slice (some ⟨b, o, none⟩) r.cs.length cap)) 27 (0, 0))) := fun W' hW => keepB HX.out hW
   obtain ⟨x0, x1, x2, x3⟩ := four (keepB HX.out HBn.out)
   clear hx hr hcell
   go_wp2
   go_roundg (r.cs.length - (k + 1))
   case measure => omega
   case rel => exact ⟨k + 1, S + x.paid, by omega, rfl, rfl, by go_num, by omega, HS.out, HBn.out⟩
  ·have hltz : ¬ (k : Int) < (r.cs.length : Int) := by omega
   have HE := Lib.hid (sum_end (by omega) HT.out)
   obtain ⟨x0, x1, x2, x3⟩ := four (keepB HX.out HBn.out)
   go_wp2
   go_ret
   exact ⟨by rw [HE.out]; rfl, by first | exact HBw.out | (rw [hp]; exact HBw.out)⟩
end Go.Proofs.Ytpfpjbeofogbgaa.Re
end
