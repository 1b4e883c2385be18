/-
  Texts put together (merge.py): MROne.
-/
import Derived.BigQuiet
import Derived.Deep.Cut
import Derived.Test.YtpfpjbeofogbgaaMm22
import Derived.Test.YtpfpjbeofogbgaaMm23
import Derived.Test.YtpfpjbeofogbgaaMm16
import Derived.Test.YtpfpjbeofogbgaaMm25
import Derived.Test.YtpfpjbeofogbgaaMm8
import Derived.Test.YtpfpjbeofogbgaaMm4
import Derived.Test.YtpfpjbeofogbgaaMm3
set_option linter.unusedSimpArgs false
set_option linter.unusedVariables false
section
set_option maxRecDepth 100000
namespace Go.Proofs.Ytpfpjbeofogbgaa.Re
open Go.RowKit
open Sv (Ca Sr Cp SvsAt CasAt CpsAt CpCells cpv cpe cp0 four six CpOk checkE ofE ofV Sm)
open Bk (En EnsAt EnCells Cont EnOk OtsAt keepB heap_far below_alloc below_trans alloc_new heap_set add_lit ten)
open Cm (Ln Cl LnsAt clv ClOk)
open Sh (Ot)
def OneV (W : List Cp) (y : En) (w : World) (e : Ending) (w' : World) : Prop :=
 (∃ v1 v2, e = .returned (.tuple #[v1, v2, .int .i64 (entE y)]) ∧ (entE y = 0 → CpsAt (fun b => w.heap.size ≤ b) w' v1 (entO W y) ∧ CpsAt (fun b => w.heap.size ≤ b) w' v2 (entN y)) ∧ (entE y ≠ 0 → v1 = .slice none 0 0 ∧ v2 = .slice none 0 0)) ∧ Below w.heap.size w w'
theorem cps_one {K : Nat → Prop} {w : World} {g : Nat} {x : Cp} {m : Value} (h : w.heap[g]? = some (.cells (cpe x m) 38 (0, 0))) (hK : K g) (hm : SvsAt K w m x.svs) : CpsAt K w (.slice (some ⟨g, 0, none⟩) 1 1) [x] := by
 refine ⟨_, 1, rfl, by simp, by simp [maxLen], Or.inr ⟨g, 0, rfl, hK, (Array.getElem?_eq_some_iff.1 h).1, fun j z hj => ?_⟩⟩
 have hj0 : j = 0 := by have := (List.getElem?_eq_some_iff.1 hj).1; simpa using this
 subst hj0
 obtain rfl : x = z := by simpa using hj
 obtain ⟨h0, h1, h2, h3, h4, h5⟩ := six h
 exact ⟨m, ⟨h0, h1, h2, h3, h4, h5⟩, hm⟩
set_option maxHeartbeats 16000000 in
theorem rone_any (W : List Cp) (y : En) (v ml mo : Value) (w : World) (h : CpsAt All w v W) (hc : Cont All w ⟨y, ml, mo⟩) (hW : ∀ x ∈ W, CpOk x ∧ checkE x = 0) (hz : EnOk y) (hs : Sm y.cl y.outs) (hn : y.outs.length ≤ 300) :
  Calls Try.prog 28 #[v, Bk.env y ml mo] w fun e w' => OneV W y w e w' := by
 obtain ⟨hcl, hco⟩ : LnsAt All w ml y.cl.lines ∧ OtsAt All w mo y.outs := hc
 obtain ⟨a, cap, rfl, f1, f2⟩ := h.form
 obtain ⟨al, nl, cl, rfl⟩ : ∃ a n c, ml = .slice a n c := by
  obtain ⟨q1, q2, q3, -, -⟩ := Cm.LnsAt.form hcl
  exact ⟨q1, _, q2, q3⟩
 obtain ⟨ao, no, co, rfl⟩ : ∃ a n c, mo = .slice a n c := by
  obtain ⟨q1, q2, q3, -, -⟩ := hco.form
  exact ⟨q1, _, q2, q3⟩
 have hb0 := below_alloc w (.cells (Bk.enc y (.slice al nl cl) (.slice ao no co)) 48)
 have HB := Lib.hid hb0
 have HX := Lib.hid (alloc_new w (Bk.enc y (.slice al nl cl) (.slice ao no co)) 48)
 have HS0 : Hid ((w.alloc (.cells (Bk.enc y (.slice al nl cl) (.slice ao no co)) 48)).heap.size = w.heap.size + 1) := by show _ = _; simp
 have HFI := Lib.hid (rfind_any W y.cl.id _ (w.alloc (.cells (Bk.enc y (.slice al nl cl) (.slice ao no co)) 48)) (h.grw hb0))
 have HWM : Hid (∀ W', Below w.heap.size w W' → CpsAt All W' (.slice a W.length cap) W) := fun W' hb => h.grw hb
 have HOF : Hid (∀ W', Below w.heap.size w W' → Calls Try.prog 40 #[clv y.cl (.slice al nl cl), (.slice ao no co)] W' fun e w' => Sv.OfV y.cl y.outs W' e w') := fun W' hb => Sv.rof_any y.cl (.slice al nl cl) y.outs (.slice ao no co) W' (hcl.move (Below.moves hb)) (hco.grw hb) hz.1 hs hn
 have HWW := Lib.hid hW
 have HE1 : Hid (∀ w' v1 v2, entE y = 0 → Below w.heap.size w w' → CpsAt (fun b => w.heap.size ≤ b) w' v1 (entO W y) → CpsAt (fun b => w.heap.size ≤ b) w' v2 (entN y) → OneV W y w (.returned (.tuple #[v1, v2, .int .i64 0])) w') := fun w' v1 v2 h0 hb h1 h2 => ⟨⟨_, _, by rw [h0], fun _ => ⟨h1, h2⟩, fun h => absurd h0 h⟩, hb⟩
 have HE2 : Hid (∀ w' E, entE y = E → E ≠ 0 → Below w.heap.size w w' → OneV W y w (.returned (.tuple #[.slice none 0 0, .slice none 0 0, .int .i64 E])) w') := fun w' E h0 hE hb => ⟨⟨_, _, by rw [h0], fun h => absurd (h0.symm.trans h) hE, fun _ => ⟨rfl, rfl⟩⟩, hb⟩
 clear h hcl hco hW hz hs hb0 hn
 go_enter Try.func28, Try.ntmps28
 go_upto_region 1 with fail
 generalize w.alloc (.cells (Bk.enc y (.slice al nl cl) (.slice ao no co)) 48) = W0 at *
 generalize hp : w.heap.size = p at *
 obtain ⟨x0, x1, x2, x3, x4, x5, x6, x7, x8, x9⟩ := ten HX.out
 go_wp2_with fail
 try (go_at_call 38)
 refine HFI.out.mono ?_
 rintro e w1 ⟨⟨i, rfl, hi⟩, hb⟩
 have HX1 := Lib.hid (keepB HX.out hb)
 have HB1 : Hid (Below p w w1) := HB.out.trans (hb.mono (by have := HS0.out; omega))
 have HP1 : Hid (p + 1 ≤ w1.heap.size) := by have := hb.size; have := HS0.out; show _ ≤ _; omega
 clear hb HFI HX HB HS0 x0 x1 x2 x3 x4 x5 x6 x7 x8 x9
 obtain ⟨x0, x1, x2, x3, x4, x5, x6, x7, x8, x9⟩ := ten HX1.out
 rcases hi with ⟨hno, rfl⟩ | ⟨k, F, rfl, hkx, hso⟩
 ·have HFD : Hid (findC W y.cl.id = if false = true then some cp0 else none) := hno
  clear hno HWW HWM
  by_cases hst : y.st = 0
  case neg =>
   have hbs : (y.st != 0) = true := by simpa using hst
   obtain ⟨e1, e2, e3⟩ := ent_dead HFD.out hst
   have HQ := Lib.hid fun hb => HE1.out w1 (.slice none 0 0) (.slice none 0 0) e1 hb (by rw [e2]; exact cps_nil _ _) (by rw [e3]; exact cps_nil _ _)
   clear e1 e2 e3 hst
   go_wp2
   go_ret3
   first | exact HQ.out HB1.out | exact HQ.out (by rw [hp]; exact HB1.out)
  have hbs : (y.st != 0) = false := by simpa using hst
  have HNW := Lib.hid (ent_new HFD.out hst)
  have HBD := Lib.hid (ent_bad hst)
  have HOF1 := Lib.hid (HOF.out w1 (by first | exact HB1.out | (rw [hp]; exact HB1.out)))
  unfold Sv.OfV at HOF1
  generalize ofV y.cl y.outs = X at *
  generalize ofE y.cl y.outs = EE at *
  clear HOF
  by_cases hoe : EE = 0
  case neg =>
   have hbe : (EE != 0) = true := by simpa using hoe
   have HFIN := Lib.hid fun w' hb => HE2.out w' EE HBD.out hoe hb
   clear hoe hst
   have HBQ : Hid (∀ w2 o, Below w1.heap.size w1 w2 → Below p w (w2.alloc o)) := fun w2 o hb => HB1.out.trans ((below_trans hb (below_alloc w2 o)).mono (by have := HP1.out; omega))
   go_wp2_with (first | (go_at_call 40; refine HOF1.out.mono ?_; rintro e w2 ⟨⟨u, rfl, hs2⟩, hb2⟩; obtain ⟨ax, nx, cx, rfl⟩ : ∃ a n c, u = .slice a n c := (by obtain ⟨q1, q2, q3, -, -⟩ := SvsAt.form hs2; exact ⟨q1, _, q2, q3⟩); have HBB := Lib.hid (HBQ.out w2 (.cells (cpe X (.slice ax nx cx)) 38) hb2); clear hs2 hb2))
   go_ret3
   first | exact HFIN.out _ HBB.out | exact HFIN.out _ (by rw [hp]; exact HBB.out)
  have hbe : (EE != 0) = false := by simpa using hoe
  have HE0 : Hid (entE y = 0) := HBD.out.trans hoe
  obtain ⟨k1, k2, k3⟩ := HNW.out
  have HK2 := Lib.hid k2
  have HK3 := Lib.hid k3
  have HQ := Lib.hid fun w' v1 v2 (hb : Below p w w') (h1 : CpsAt (fun b => p ≤ b) w' v1 (entO W y)) (h2 : CpsAt (fun b => p ≤ b) w' v2 [X]) => HE1.out w' v1 v2 HE0.out hb h1 (by rw [k1]; exact h2)
  clear k1 k2 k3 HNW HBD hst hoe HE1 HE2
  have HFA : Hid (∀ w2 (ax : Option Addr) (nx cx : Nat), Below w1.heap.size w1 w2 → SvsAt (fun b => w1.heap.size ≤ b) w2 (.slice ax nx cx) X.svs → (w2.alloc (.cells (cpe X (.slice ax nx cx)) 38)).heap[w2.heap.size]? = some (.cells (cpe X (.slice ax nx cx)) 38 (0, 0)) ∧ SvsAt (fun b => p + 1 ≤ b ∧ b < w2.heap.size) (w2.alloc (.cells (cpe X (.slice ax nx cx)) 38)) (.slice ax nx cx) X.svs ∧ Below w1.heap.size w1 (w2.alloc (.cells (cpe X (.slice ax nx cx)) 38)) ∧ Below p w (w2.alloc (.cells (cpe X (.slice ax nx cx)) 38)) ∧ (w2.alloc (.cells (cpe X (.slice ax nx cx)) 38)).heap.size = w2.heap.size + 1 ∧ p + 1 ≤ w2.heap.size) := fun w2 ax nx cx hb hs => by
   have hba := below_alloc w2 (.cells (cpe X (.slice ax nx cx)) 38)
   have h1 := HP1.out
   have h2 := hb.size
   exact ⟨alloc_new w2 _ _, hs.move ⟨hba.size, fun b hlt hk => ⟨⟨by omega, hlt⟩, hba.block b hlt⟩⟩, below_trans hb hba, HB1.out.trans ((below_trans hb hba).mono (by omega)), by simp, by omega⟩
  go_upto_region 10 with (first | (go_at_call 40; refine HOF1.out.mono ?_; rintro e w2 ⟨⟨u, rfl, hs2⟩, hb2⟩; obtain ⟨ax, nx, cx, rfl⟩ : ∃ a n c, u = .slice a n c := (by obtain ⟨q1, q2, q3, -, -⟩ := SvsAt.form hs2; exact ⟨q1, _, q2, q3⟩); have HG2 := Lib.hid (HFA.out w2 ax nx cx hb2 hs2); clear hs2 hb2))
  generalize w2.alloc (.cells (cpe X (.slice ax nx cx)) 38) = W3 at *
  generalize hq : w2.heap.size = q at *
  obtain ⟨h1, h2, h3, h4, h5, h6⟩ := HG2.out
  have HXX := Lib.hid h1
  have HXS := Lib.hid h2
  have HB13 := Lib.hid h3
  have HB3 := Lib.hid h4
  have HS3 := Lib.hid h5
  have HPQ := Lib.hid h6
  clear h1 h2 h3 h4 h5 h6 HG2 HFA HOF1 x0 x1 x2 x3 x4 x5 x6 x7 x8 x9
  have HXK : Hid (∀ Wx, Below W3.heap.size W3 Wx → Wx.heap[q]? = some (.cells (cpe X (.slice ax nx cx)) 38 (0, 0)) ∧ SvsAt (fun b => p + 1 ≤ b ∧ b < q) Wx (.slice ax nx cx) X.svs ∧ Below p w Wx ∧ Below w1.heap.size w1 Wx) := fun Wx hb => ⟨keepB HXX.out hb, HXS.out.move ⟨hb.size, fun b hlt hk => ⟨hk, hb.block b hlt⟩⟩, HB3.out.trans (hb.mono (by have := HS3.out; have := HPQ.out; omega)), below_trans HB13.out hb⟩
  have HD := Lib.hid (Below.drew (Below.refl W3.heap.size W3))
  refine Ri.wp_region_lasting_g (by kernel_rfl) (by kernel_rfl) (by kernel_rfl) (fun Wx => Below W3.heap.size W3 Wx) (fun kz vs wz => (fun kx vx wx => match kx with | 0 => vx = .int .i64 (-1) | 1 => vx = .bool false | 2 => vx = .bool false | 3 => True | 4 => True | 5 => True | 6 => True | 7 => True | 8 => True | 9 => vx = .bool false | _ => True : Nat → Value → World → Prop) kz (vs kz) wz) (fun kz => [kz]) (by kernel_rfl) (fun jz vs iz vz wz hiz hz => Ri.loc_own (F := (fun kx vx wx => match kx with | 0 => vx = .int .i64 (-1) | 1 => vx = .bool false | 2 => vx = .bool false | 3 => True | 4 => True | 5 => True | 6 => True | 7 => True | 8 => True | 9 => vx = .bool false | _ => True : Nat → Value → World → Prop)) jz vs iz vz wz hiz hz) HD.out ⟨Or.inl ⟨rfl, ?_⟩, Or.inl ⟨rfl, ?_⟩, Or.inl ⟨rfl, ?_⟩, Or.inr ⟨2, true, 43, rfl, rfl, ?_⟩, Or.inr ⟨2, true, 43, rfl, rfl, ?_⟩, Or.inr ⟨2, true, 43, rfl, rfl, ?_⟩, Or.inr ⟨2, true, 43, rfl, rfl, ?_⟩, Or.inr ⟨2, true, 43, rfl, rfl, ?_⟩, Or.inr ⟨2, true, 43, rfl, rfl, ?_⟩, Or.inl ⟨rfl, ?_⟩, trivial⟩ ?_
  ·intro vs Wx A hA hB hpre K hK
   have e7 := (hA 7).trans (show _ = Value.int .i64 (-1) by kernel_rfl)
   clear hA hpre
   go_simp
   first | exact hK _ _ hB (by trivial) (fun _ _ h => h) | (rw [if_neg (by omega)]; go_simp; exact hK _ _ hB rfl (fun _ _ h => h))
  ·intro vs Wx A hA hB hpre K hK
   have e41 := ((hA 41).trans (show _ = vs 0 by kernel_rfl)).trans (by repeat first | exact hpre.1 rfl | replace hpre := hpre.2)
   clear hA hpre
   go_simp
   first | exact hK _ _ hB (by trivial) (fun _ _ h => h) | (rw [if_neg (by omega)]; go_simp; exact hK _ _ hB rfl (fun _ _ h => h))
  ·intro vs Wx A hA hB hpre K hK
   have e42 := ((hA 42).trans (show _ = vs 1 by kernel_rfl)).trans (by repeat first | exact hpre.1 rfl | replace hpre := hpre.2)
   clear hA hpre
   go_simp
   first | exact hK _ _ hB (by trivial) (fun _ _ h => h) | (rw [if_neg (by omega)]; go_simp; exact hK _ _ hB rfl (fun _ _ h => h))
  iterate 6
   ·intro vs Wx A hA hB hpre
    have eg := ((hA 43).trans (show _ = vs 2 by kernel_rfl)).trans (by repeat first | exact hpre.1 rfl | replace hpre := hpre.2)
    exact ⟨false, eg, fun h => (by cases h), fun _ => trivial⟩
  ·intro vs Wx A hA hB hpre K hK
   have e43 := ((hA 43).trans (show _ = vs 2 by kernel_rfl)).trans (by repeat first | exact hpre.1 rfl | replace hpre := hpre.2)
   clear hA hpre
   go_simp
   first | exact hK _ _ hB (by trivial) (fun _ _ h => h) | (rw [if_neg (by omega)]; go_simp; exact hK _ _ hB rfl (fun _ _ h => h))
  intro vs Wx hB hF
  have h9 : vs 9 = .bool false := hF 9 (by decide)
  have HBW := Lib.hid hB
  clear hF hB
  simp only [Ri.puts]
  rw [h9]
  clear h9
  go_simp
  have HOE : Hid (entO W y = [] ++ [X]) := HK3.out (fun h => by cases h)
  obtain ⟨y0, y1, y2, y3, y4, y5⟩ := six (HXK.out Wx HBW.out).1
  have HT14 : Hid (Two p Wx (.slice none 0 0) (.slice none 0 0) [] []) := Two.nil p Wx
  have HB14 := Lib.hid HBW.out
  have HOB14 : Hid ((Value.slice none 0 0).ownBlock = none ∨ ∃ g, (Value.slice none 0 0).ownBlock = some g ∧ q + 1 ≤ g) := Or.inl rfl
  go_upto_region 14 with fail
  have HA14 : Hid (OwnC p (Wx.alloc (.cells (cpe X (.slice ax nx cx)) 38)) (.slice none 0 0) [] ∧ (Wx.alloc (.cells (cpe X (.slice ax nx cx)) 38)).heap[Wx.heap.size]? = some (.cells (cpe X (.slice ax nx cx)) 38 (0, 0)) ∧ p ≤ (Wx.alloc (.cells (cpe X (.slice ax nx cx)) 38)).heap.size ∧ ∀ v' w', OwnC p w' v' ([] ++ [⟨X, (.slice ax nx cx)⟩]) → (Wx.alloc (.cells (cpe X (.slice ax nx cx)) 38)).grownBy w' (Value.slice none 0 0).ownBlock → (v'.ownBlock = (Value.slice none 0 0).ownBlock ∨ v'.ownBlock = some (Wx.alloc (.cells (cpe X (.slice ax nx cx)) 38)).heap.size) → CpsAt (fun b => p ≤ b) w' v' ([] ++ [X]) ∧ Below W3.heap.size W3 w') := by
   have h0 := HPQ.out
   have h1 := HB14.out.size
   have h2 := HS3.out
   have hba := below_alloc Wx (.cells (cpe X (.slice ax nx cx)) 38)
   have hT := HT14.out.grw hba
   refine ⟨hT.o1, alloc_new Wx _ _, by simp; omega, fun v' w' ho hg hat => ?_⟩
   have hxs := (HXK.out Wx HB14.out).2.1
   have hob := HOB14.out
   have hT2 := hT.app (f := ⟨X, (.slice ax nx cx)⟩) (hxs.move ⟨hba.size, fun b hlt hk => ⟨⟨by omega, fun e => by
    rcases hob with r | ⟨g, r, hr⟩
    ·rw [r] at e; cases e
    ·rw [r] at e; injection e with e; omega, by simp [Value.ownBlock]⟩, hba.block b hlt⟩⟩) ho hg hat
   refine ⟨by have h3 := hT2.at1; simpa using h3, Below.trans (below_trans HB14.out hba) ⟨hg.os, hg.tape, hg.output, hg.size, fun b hlt => hg.block b (by simp; omega) (fun e => ?_)⟩⟩
   rcases hob with r | ⟨g, r, hr⟩
   ·rw [r] at e; cases e
   ·rw [r] at e; injection e with e; omega
  go_upto_region 15 with (first | (at_builtin; refine wpList_plain (by rfl) (fun K hK => ?_); refine wp_appC _ _ rfl p (.slice none 0 0) [] rfl HA14.out.1 _ 1 (⟨X, (.slice ax nx cx)⟩ : Cx) rfl HA14.out.2.1 rfl (by simp) HA14.out.2.2.1 (fun v' w10 ho hg hat => ?_); have HG10 := Lib.hid (HA14.out.2.2.2 v' w10 ho hg hat); obtain ⟨a10, n10, c10, rfl⟩ : ∃ a n c, v' = Value.slice a n c := (by obtain ⟨q1, q2, q3, -, -⟩ := OwnC.form ho; exact ⟨q1, _, q2, q3⟩); clear ho hg hat; refine hK _ _ ?_; clear hK))
  clear y0 y1 y2 y3 y4 y5 HA14 HT14 HB14 HOB14 HBW
  have HBW := Lib.hid HG10.out.2
  obtain ⟨y0, y1, y2, y3, y4, y5⟩ := six (HXK.out w10 HBW.out).1
  have HD2 := Lib.hid (Below.drew (Below.refl w10.heap.size w10))
  clear y0 y1 y2 y3 y4 y5
  refine Ri.wp_region_lastingB (by kernel_rfl) (by kernel_rfl) (by kernel_rfl) (fun Wy => Below w10.heap.size w10 Wy) (fun kz vs wz => (fun kx vx wx => match kx with | 0 => vx = .slice a10 n10 c10 | 1 => vx = cpv X (.slice ax nx cx) | 2 => (∃ g : Nat, vx = .slice (some ⟨g, 0, none⟩) 1 1 ∧ w10.heap.size ≤ g ∧ wx.heap[g]? = some (.cells (cpe X (.slice ax nx cx)) 38 (0, 0))) | 3 => vx = .slice a10 n10 c10 | 4 => (∃ g : Nat, vx = .slice (some ⟨g, 0, none⟩) 1 1 ∧ w10.heap.size ≤ g ∧ wx.heap[g]? = some (.cells (cpe X (.slice ax nx cx)) 38 (0, 0))) | 5 => vx = .int .i64 0 | _ => True : Nat → Value → World → Prop) kz (vs kz) wz) (fun kz => [kz]) (by kernel_rfl) (fun jz vs iz vz wz hiz hz => Ri.loc_own (F := (fun kx vx wx => match kx with | 0 => vx = .slice a10 n10 c10 | 1 => vx = cpv X (.slice ax nx cx) | 2 => (∃ g : Nat, vx = .slice (some ⟨g, 0, none⟩) 1 1 ∧ w10.heap.size ≤ g ∧ wx.heap[g]? = some (.cells (cpe X (.slice ax nx cx)) 38 (0, 0))) | 3 => vx = .slice a10 n10 c10 | 4 => (∃ g : Nat, vx = .slice (some ⟨g, 0, none⟩) 1 1 ∧ w10.heap.size ≤ g ∧ wx.heap[g]? = some (.cells (cpe X (.slice ax nx cx)) 38 (0, 0))) | 5 => vx = .int .i64 0 | _ => True : Nat → Value → World → Prop)) jz vs iz vz wz hiz hz) HD2.out ⟨⟨rfl, ?_⟩, ⟨rfl, ?_⟩, ⟨rfl, ?_⟩, ⟨rfl, ?_⟩, ⟨rfl, ?_⟩, ⟨rfl, ?_⟩, trivial⟩ ?_
  ·intro vs Wy A hA hB hpre K hK
   have e8 := (hA 8).trans (show _ = Value.slice a10 n10 c10 by kernel_rfl)
   clear hA hpre
   go_simp
   first | exact hK _ _ hB (by trivial) (fun _ _ h => h) | (rw [if_neg (by omega)]; go_simp; exact hK _ _ hB rfl (fun _ _ h => h))
  ·intro vs Wy A hA hB hpre K hK
   have e9 := (hA 9).trans (show _ = Value.pointer (some ⟨q, 0, none⟩) by kernel_rfl)
   obtain ⟨y0, y1, y2, y3, y4, y5⟩ := six (HXK.out Wy (below_trans HBW.out hB)).1
   clear hA hpre
   go_simp
   first | exact hK _ _ hB (by trivial) (fun _ _ h => h) | (rw [if_neg (by omega)]; go_simp; exact hK _ _ hB rfl (fun _ _ h => h))
  ·intro vs Wy A hA hB hpre K hK
   have e68 := ((hA 68).trans (show _ = vs 1 by kernel_rfl)).trans (by repeat first | exact hpre.1 rfl | replace hpre := hpre.2)
   clear hA hpre
   go_simp
   refine hK _ _ (below_trans hB (below_alloc Wy _)) ⟨_, rfl, hB.size, heap_alloc_new Wy _⟩ (fun jz hj hz => ?_)
   have hgx := below_alloc Wy (.cells (cpe X (.slice ax nx cx)) 38)
   match jz, hj, hz with
   | 0, _, hz => exact hz
   | 1, _, hz => exact hz
   | 2, hj, _ => exact absurd rfl hj
   | 3, _, hz => exact hz
   | 4, _, hz => exact (by obtain ⟨g, r1, r2, r3⟩ := hz; exact ⟨g, r1, r2, keepB r3 hgx⟩)
   | 5, _, hz => exact hz
   | n + 6, _, hz => exact hz
  ·intro vs Wy A hA hB hpre K hK
   have e67 := ((hA 67).trans (show _ = vs 0 by kernel_rfl)).trans (by repeat first | exact hpre.1 rfl | replace hpre := hpre.2)
   clear hA hpre
   go_simp
   first | exact hK _ _ hB (by trivial) (fun _ _ h => h) | (rw [if_neg (by omega)]; go_simp; exact hK _ _ hB rfl (fun _ _ h => h))
  ·intro vs Wy A hA hB hpre K hK
   have hx2 : (∃ g : Nat, vs 2 = .slice (some ⟨g, 0, none⟩) 1 1 ∧ w10.heap.size ≤ g ∧ Wy.heap[g]? = some (.cells (cpe X (.slice ax nx cx)) 38 (0, 0))) := by repeat first | exact hpre.1 rfl | replace hpre := hpre.2
   obtain ⟨gx2, hv2, hh2⟩ := hx2
   have e69 := ((hA 69).trans (show _ = vs 2 by kernel_rfl)).trans hv2
   clear hA hpre
   go_simp
   exact hK _ _ hB (by first | exact ⟨gx2, rfl, hh2⟩ | (rw [hv2]; exact ⟨gx2, rfl, hh2⟩)) (fun _ _ h => h)
  ·intro vs Wy A hA hB hpre K hK
   clear hA hpre
   go_simp
   first | exact hK _ _ hB (by trivial) (fun _ _ h => h) | (rw [if_neg (by omega)]; go_simp; exact hK _ _ hB rfl (fun _ _ h => h))
  intro vs Wy hB hF
  obtain ⟨g, e3, hg1, hg2⟩ : ∃ g : Nat, vs 4 = .slice (some ⟨g, 0, none⟩) 1 1 ∧ w10.heap.size ≤ g ∧ Wy.heap[g]? = some (.cells (cpe X (.slice ax nx cx)) 38 (0, 0)) := hF 4 (by decide)
  have h2 : vs 3 = .slice a10 n10 c10 := hF 3 (by decide)
  have h4 : vs 5 = .int .i64 0 := hF 5 (by decide)
  obtain ⟨-, hxs, hbp, -⟩ := HXK.out Wy (below_trans HBW.out hB)
  have HBF := Lib.hid hbp
  have HC1 : Hid (CpsAt (fun b => p ≤ b) Wy (.slice a10 n10 c10) (entO W y)) := by show CpsAt _ _ _ _; rw [HOE.out]; exact HG10.out.1.move ⟨hB.size, fun b hlt hk => ⟨hk, hB.block b hlt⟩⟩
  have HC2 : Hid (CpsAt (fun b => p ≤ b) Wy (.slice (some ⟨g, 0, none⟩) 1 1) [X]) := cps_one hg2 (by have h1 := HBW.out.size; have h2 := HS3.out; have h3 := HPQ.out; omega) (hxs.move (moves_weak Wy fun b _ k => by omega))
  clear hF hB hg1 hg2 hxs hbp
  simp only [Ri.puts]
  rw [h2, h4, e3]
  clear h2 h4 e3
  go_simp
  go_wp2
  go_ret3
  exact HQ.out Wy _ _ HBF.out HC1.out HC2.out
 ·have HFD : Hid (findC W y.cl.id = if true = true then some F else none) := hso
  obtain ⟨hkl, hkF⟩ := List.getElem?_eq_some_iff.1 hkx
  obtain ⟨bb, oo, mf, hab, hblF, hxF, hcellF, hrF⟩ := Sv.CpsAt.get (HWM.out w1 (by first | exact HB1.out | (rw [hp]; exact HB1.out))) k hkl
  have HWF := Lib.hid (HWW.out _ (List.mem_of_getElem? hkx))
  simp only [hkF] at hcellF hrF
  clear hkF
  subst hab
  obtain ⟨af, nf, cf, rfl⟩ : ∃ a n c, mf = .slice a n c := by
   obtain ⟨q1, q2, q3, -, -⟩ := SvsAt.form hrF
   exact ⟨q1, _, q2, q3⟩
  have HFS : Hid (∀ Wx, Below w1.heap.size w1 Wx → CpCells Wx bb (oo + k * 6) F (.slice af nf cf) ∧ SvsAt All Wx (.slice af nf cf) F.svs) := fun Wx hb => ⟨hcellF.of (hb.block bb hblF), hrF.grw hb⟩
  have HBK := Lib.hid fun (Wx : World) (hb : Below w1.heap.size w1 Wx) => rback_any F (.slice af nf cf) Wx (HFS.out Wx hb).2 HWF.out.2
  obtain ⟨d0, d1, d2, d3, d4, d5⟩ := id hcellF
  have hkz : (k : Int) < (W.length : Int) := by omega
  clear hso hkx hxF hcellF hrF hblF HWW HWM
  by_cases hst : y.st = 0
  case neg =>
   have hbs : (y.st != 0) = true := by simpa using hst
   obtain ⟨e1, e2, e3⟩ := ent_dead HFD.out hst
   have HQ := Lib.hid fun w' v1 (hb : Below p w w') (h1 : CpsAt (fun b => p ≤ b) w' v1 [Sv.back F]) => HE1.out w' v1 (.slice none 0 0) e1 hb (by rw [e2]; exact h1) (by rw [e3]; exact cps_nil _ _)
   clear e1 e2 e3 hst
   have HBC := Lib.hid (Below.refl w1.heap.size w1)
   have HBA : Hid (∀ wb (au : Option Addr) (nu cu : Nat), Below w1.heap.size w1 wb → SvsAt (fun b => w1.heap.size ≤ b) wb (.slice au nu cu) (Sv.back F).svs → (wb.alloc (.cells (cpe (Sv.back F) (.slice au nu cu)) 38)).heap[wb.heap.size]? = some (.cells (cpe (Sv.back F) (.slice au nu cu)) 38 (0, 0)) ∧ p ≤ (wb.alloc (.cells (cpe (Sv.back F) (.slice au nu cu)) 38)).heap.size ∧ ∀ v' w', OwnC p w' v' ([] ++ [⟨Sv.back F, .slice au nu cu⟩]) → (wb.alloc (.cells (cpe (Sv.back F) (.slice au nu cu)) 38)).grownBy w' (Value.slice none 0 0).ownBlock → (v'.ownBlock = (Value.slice none 0 0).ownBlock ∨ v'.ownBlock = some (wb.alloc (.cells (cpe (Sv.back F) (.slice au nu cu)) 38)).heap.size) → CpsAt (fun b => p ≤ b) w' v' [Sv.back F] ∧ Below p w w') := fun wb au nu cu hb hs => by
    have h1 := HP1.out
    have h2 := hb.size
    have hba := below_alloc wb (.cells (cpe (Sv.back F) (.slice au nu cu)) 38)
    refine ⟨alloc_new wb _ _, by simp; omega, fun v' w' ho hg hat => ?_⟩
    have hT := (Two.nil p (wb.alloc (.cells (cpe (Sv.back F) (.slice au nu cu)) 38))).app (f := ⟨Sv.back F, .slice au nu cu⟩) (hs.move ⟨hba.size, fun b hlt hk => ⟨⟨by omega, by simp [Value.ownBlock], by simp [Value.ownBlock]⟩, hba.block b hlt⟩⟩) ho hg hat
    exact ⟨hT.at1, HB1.out.trans (((hb.mono (by omega)).trans (hba.mono (by omega))).trans ((OwnC.low (ownC_nil p _) hg (by simp; omega))))⟩
   go_wp2_with (first | (go_at_call 39; refine (HBK.out _ HBC.out).mono ?_; rintro e wb ⟨⟨u, rfl, hsb⟩, hbb⟩; obtain ⟨au, nu, cu, rfl⟩ : ∃ a n c, u = .slice a n c := (by obtain ⟨q1, q2, q3, -, -⟩ := SvsAt.form hsb; exact ⟨q1, _, q2, q3⟩); have HG := Lib.hid (HBA.out wb au nu cu hbb hsb); clear hsb hbb) | (at_builtin; refine wpList_plain (by rfl) (fun K hK => ?_); refine wp_appC _ _ rfl p (.slice none 0 0) [] rfl (ownC_nil _ _) _ 1 (⟨Sv.back F, .slice au nu cu⟩ : Cx) rfl HG.out.1 rfl (by simp) HG.out.2.1 (fun v' w9 ho hg hat => ?_); have HT9 := Lib.hid (HG.out.2.2 v' w9 ho hg hat); obtain ⟨a9, n9, c9, rfl⟩ : ∃ a n c, v' = Value.slice a n c := (by obtain ⟨q1, q2, q3, -, -⟩ := OwnC.form ho; exact ⟨q1, _, q2, q3⟩); clear ho hg hat; refine hK _ _ ?_; clear hK))
   go_ret3
   first | exact HQ.out _ _ HT9.out.2 HT9.out.1 | (have h1 := HT9.out.1; have h2 := HT9.out.2; rw [← hp] at h1 h2; exact HQ.out _ _ h2 h1)
  clear d0 d1 d2 d3 d4 d5
  have hbs : (y.st != 0) = false := by simpa using hst
  have HNW := Lib.hid (ent_new HFD.out hst)
  have HBD := Lib.hid (ent_bad hst)
  have HOF1 := Lib.hid (HOF.out w1 (by first | exact HB1.out | (rw [hp]; exact HB1.out)))
  unfold Sv.OfV at HOF1
  generalize ofV y.cl y.outs = X at *
  generalize ofE y.cl y.outs = EE at *
  clear HOF
  by_cases hoe : EE = 0
  case neg =>
   have hbe : (EE != 0) = true := by simpa using hoe
   have HFIN := Lib.hid fun w' hb => HE2.out w' EE HBD.out hoe hb
   clear hoe hst
   have HBQ : Hid (∀ w2 o, Below w1.heap.size w1 w2 → Below p w (w2.alloc o)) := fun w2 o hb => HB1.out.trans ((below_trans hb (below_alloc w2 o)).mono (by have := HP1.out; omega))
   go_wp2_with (first | (go_at_call 40; refine HOF1.out.mono ?_; rintro e w2 ⟨⟨u, rfl, hs2⟩, hb2⟩; obtain ⟨ax, nx, cx, rfl⟩ : ∃ a n c, u = .slice a n c := (by obtain ⟨q1, q2, q3, -, -⟩ := SvsAt.form hs2; exact ⟨q1, _, q2, q3⟩); have HBB := Lib.hid (HBQ.out w2 (.cells (cpe X (.slice ax nx cx)) 38) hb2); clear hs2 hb2))
   go_ret3
   first | exact HFIN.out _ HBB.out | exact HFIN.out _ (by rw [hp]; exact HBB.out)
  have hbe : (EE != 0) = false := by simpa using hoe
  have HE0 : Hid (entE y = 0) := HBD.out.trans hoe
  obtain ⟨k1, k2, k3⟩ := HNW.out
  have HK2 := Lib.hid k2
  have HK3 := Lib.hid k3
  have HQ := Lib.hid fun w' v1 v2 (hb : Below p w w') (h1 : CpsAt (fun b => p ≤ b) w' v1 (entO W y)) (h2 : CpsAt (fun b => p ≤ b) w' v2 [X]) => HE1.out w' v1 v2 HE0.out hb h1 (by rw [k1]; exact h2)
  clear k1 k2 k3 HNW HBD hst hoe HE1 HE2
  have HFA : Hid (∀ w2 (ax : Option Addr) (nx cx : Nat), Below w1.heap.size w1 w2 → SvsAt (fun b => w1.heap.size ≤ b) w2 (.slice ax nx cx) X.svs → (w2.alloc (.cells (cpe X (.slice ax nx cx)) 38)).heap[w2.heap.size]? = some (.cells (cpe X (.slice ax nx cx)) 38 (0, 0)) ∧ SvsAt (fun b => p + 1 ≤ b ∧ b < w2.heap.size) (w2.alloc (.cells (cpe X (.slice ax nx cx)) 38)) (.slice ax nx cx) X.svs ∧ Below w1.heap.size w1 (w2.alloc (.cells (cpe X (.slice ax nx cx)) 38)) ∧ Below p w (w2.alloc (.cells (cpe X (.slice ax nx cx)) 38)) ∧ (w2.alloc (.cells (cpe X (.slice ax nx cx)) 38)).heap.size = w2.heap.size + 1 ∧ p + 1 ≤ w2.heap.size) := fun w2 ax nx cx hb hs => by
   have hba := below_alloc w2 (.cells (cpe X (.slice ax nx cx)) 38)
   have h1 := HP1.out
   have h2 := hb.size
   exact ⟨alloc_new w2 _ _, hs.move ⟨hba.size, fun b hlt hk => ⟨⟨by omega, hlt⟩, hba.block b hlt⟩⟩, below_trans hb hba, HB1.out.trans ((below_trans hb hba).mono (by omega)), by simp, by omega⟩
  go_upto_region 10 with (first | (go_at_call 40; refine HOF1.out.mono ?_; rintro e w2 ⟨⟨u, rfl, hs2⟩, hb2⟩; obtain ⟨ax, nx, cx, rfl⟩ : ∃ a n c, u = .slice a n c := (by obtain ⟨q1, q2, q3, -, -⟩ := SvsAt.form hs2; exact ⟨q1, _, q2, q3⟩); have HG2 := Lib.hid (HFA.out w2 ax nx cx hb2 hs2); clear hs2 hb2))
  generalize w2.alloc (.cells (cpe X (.slice ax nx cx)) 38) = W3 at *
  generalize hq : w2.heap.size = q at *
  obtain ⟨h1, h2, h3, h4, h5, h6⟩ := HG2.out
  have HXX := Lib.hid h1
  have HXS := Lib.hid h2
  have HB13 := Lib.hid h3
  have HB3 := Lib.hid h4
  have HS3 := Lib.hid h5
  have HPQ := Lib.hid h6
  clear h1 h2 h3 h4 h5 h6 HG2 HFA HOF1 x0 x1 x2 x3 x4 x5 x6 x7 x8 x9
  have HXK : Hid (∀ Wx, Below W3.heap.size W3 Wx → Wx.heap[q]? = some (.cells (cpe X (.slice ax nx cx)) 38 (0, 0)) ∧ SvsAt (fun b => p + 1 ≤ b ∧ b < q) Wx (.slice ax nx cx) X.svs ∧ Below p w Wx ∧ Below w1.heap.size w1 Wx) := fun Wx hb => ⟨keepB HXX.out hb, HXS.out.move ⟨hb.size, fun b hlt hk => ⟨hk, hb.block b hlt⟩⟩, HB3.out.trans (hb.mono (by have := HS3.out; have := HPQ.out; omega)), below_trans HB13.out hb⟩
  have HD := Lib.hid (Below.drew (Below.refl W3.heap.size W3))
  have HSM : Hid (∀ Wx, Below W3.heap.size W3 Wx → Calls Try.prog 30 #[cpv F (.slice af nf cf), cpv X (.slice ax nx cx)] Wx fun e w' => e = .returned (.bool (sameB F X)) ∧ Below Wx.heap.size Wx w') := fun Wx hb => by
   have h1 := Sv.rsame_any F X (.slice af nf cf) (.slice ax nx cx) Wx (HFS.out Wx (HXK.out Wx hb).2.2.2).2 (SvsAt.all (HXK.out Wx hb).2.1)
   rwa [same_dec] at h1
  generalize hDD : sameB F X = D at *
  refine Ri.wp_region_lasting_g (by kernel_rfl) (by kernel_rfl) (by kernel_rfl) (fun Wx => Below W3.heap.size W3 Wx) (fun kz vs wz => (fun kx vx wx => match kx with | 0 => vx = .int .i64 (k : Nat) | 1 => vx = .bool true | 2 => vx = .bool true | 3 => vx = .slice (some ⟨bb, oo, none⟩) W.length cap | 4 => vx = .int .i64 (k : Nat) | 5 => vx = .pointer (some ⟨bb, oo + k * 6, none⟩) | 6 => vx = cpv F (.slice af nf cf) | 7 => vx = cpv X (.slice ax nx cx) | 8 => vx = .bool D | 9 => vx = .bool D | _ => True : Nat → Value → World → Prop) kz (vs kz) wz) (fun kz => [kz]) (by kernel_rfl) (fun jz vs iz vz wz hiz hz => Ri.loc_own (F := (fun kx vx wx => match kx with | 0 => vx = .int .i64 (k : Nat) | 1 => vx = .bool true | 2 => vx = .bool true | 3 => vx = .slice (some ⟨bb, oo, none⟩) W.length cap | 4 => vx = .int .i64 (k : Nat) | 5 => vx = .pointer (some ⟨bb, oo + k * 6, none⟩) | 6 => vx = cpv F (.slice af nf cf) | 7 => vx = cpv X (.slice ax nx cx) | 8 => vx = .bool D | 9 => vx = .bool D | _ => True : Nat → Value → World → Prop)) jz vs iz vz wz hiz hz) HD.out ⟨Or.inl ⟨rfl, ?_⟩, Or.inl ⟨rfl, ?_⟩, Or.inl ⟨rfl, ?_⟩, Or.inr ⟨2, true, 43, rfl, rfl, ?_⟩, Or.inr ⟨2, true, 43, rfl, rfl, ?_⟩, Or.inr ⟨2, true, 43, rfl, rfl, ?_⟩, Or.inr ⟨2, true, 43, rfl, rfl, ?_⟩, Or.inr ⟨2, true, 43, rfl, rfl, ?_⟩, Or.inr ⟨2, true, 43, rfl, rfl, ?_⟩, Or.inl ⟨rfl, ?_⟩, trivial⟩ ?_
  ·intro vs Wx A hA hB hpre K hK
   have e7 := (hA 7).trans (show _ = Value.int .i64 (k : Nat) by kernel_rfl)
   clear hA hpre
   go_simp
   first | exact hK _ _ hB (by trivial) (fun _ _ h => h) | (rw [if_neg (by omega)]; go_simp; exact hK _ _ hB rfl (fun _ _ h => h))
  ·intro vs Wx A hA hB hpre K hK
   have e41 := ((hA 41).trans (show _ = vs 0 by kernel_rfl)).trans (by repeat first | exact hpre.1 rfl | replace hpre := hpre.2)
   clear hA hpre
   go_simp
   first | exact hK _ _ hB (by trivial) (fun _ _ h => h) | (rw [if_neg (by omega)]; go_simp; exact hK _ _ hB rfl (fun _ _ h => h))
  ·intro vs Wx A hA hB hpre K hK
   have e42 := ((hA 42).trans (show _ = vs 1 by kernel_rfl)).trans (by repeat first | exact hpre.1 rfl | replace hpre := hpre.2)
   clear hA hpre
   go_simp
   first | exact hK _ _ hB (by trivial) (fun _ _ h => h) | (rw [if_neg (by omega)]; go_simp; exact hK _ _ hB rfl (fun _ _ h => h))
  ·intro vs Wx A hA hB hpre
   have eg := ((hA 43).trans (show _ = vs 2 by kernel_rfl)).trans (by repeat first | exact hpre.1 rfl | replace hpre := hpre.2)
   refine ⟨true, eg, fun _ K hK => ?_, fun h => absurd rfl h⟩
   have e0 := (hA 0).trans (show _ = Value.slice (some ⟨bb, oo, none⟩) W.length cap by kernel_rfl)
   clear hA hpre
   go_simp
   first | exact hK _ _ hB (by trivial) (fun _ _ h => h) | (rw [if_neg (by omega)]; go_simp; exact hK _ _ hB rfl (fun _ _ h => h))
  ·intro vs Wx A hA hB hpre
   have eg := ((hA 43).trans (show _ = vs 2 by kernel_rfl)).trans (by repeat first | exact hpre.1 rfl | replace hpre := hpre.2)
   refine ⟨true, eg, fun _ K hK => ?_, fun h => absurd rfl h⟩
   have e7 := (hA 7).trans (show _ = Value.int .i64 (k : Nat) by kernel_rfl)
   clear hA hpre
   go_simp
   first | exact hK _ _ hB (by trivial) (fun _ _ h => h) | (rw [if_neg (by omega)]; go_simp; exact hK _ _ hB rfl (fun _ _ h => h))
  ·intro vs Wx A hA hB hpre
   have eg := ((hA 43).trans (show _ = vs 2 by kernel_rfl)).trans (by repeat first | exact hpre.1 rfl | replace hpre := hpre.2)
   refine ⟨true, eg, fun _ K hK => ?_, fun h => absurd rfl h⟩
   have e44 := ((hA 44).trans (show _ = vs 3 by kernel_rfl)).trans (by repeat first | exact hpre.1 rfl | replace hpre := hpre.2)
   have e45 := ((hA 45).trans (show _ = vs 4 by kernel_rfl)).trans (by repeat first | exact hpre.1 rfl | replace hpre := hpre.2)
   clear hA hpre
   go_simp
   first | exact hK _ _ hB (by trivial) (fun _ _ h => h) | (rw [if_neg (by omega)]; go_simp; exact hK _ _ hB rfl (fun _ _ h => h))
  ·intro vs Wx A hA hB hpre
   have eg := ((hA 43).trans (show _ = vs 2 by kernel_rfl)).trans (by repeat first | exact hpre.1 rfl | replace hpre := hpre.2)
   refine ⟨true, eg, fun _ K hK => ?_, fun h => absurd rfl h⟩
   have e46 := ((hA 46).trans (show _ = vs 5 by kernel_rfl)).trans (by repeat first | exact hpre.1 rfl | replace hpre := hpre.2)
   obtain ⟨d0, d1, d2, d3, d4, d5⟩ := (HFS.out Wx (HXK.out Wx hB).2.2.2).1
   obtain ⟨y0, y1, y2, y3, y4, y5⟩ := six (HXK.out Wx hB).1
   clear hA hpre
   go_simp
   first | exact hK _ _ hB (by trivial) (fun _ _ h => h) | (rw [if_neg (by omega)]; go_simp; exact hK _ _ hB rfl (fun _ _ h => h))
  ·intro vs Wx A hA hB hpre
   have eg := ((hA 43).trans (show _ = vs 2 by kernel_rfl)).trans (by repeat first | exact hpre.1 rfl | replace hpre := hpre.2)
   refine ⟨true, eg, fun _ K hK => ?_, fun h => absurd rfl h⟩
   have e9 := (hA 9).trans (show _ = Value.pointer (some ⟨q, 0, none⟩) by kernel_rfl)
   obtain ⟨d0, d1, d2, d3, d4, d5⟩ := (HFS.out Wx (HXK.out Wx hB).2.2.2).1
   obtain ⟨y0, y1, y2, y3, y4, y5⟩ := six (HXK.out Wx hB).1
   clear hA hpre
   go_simp
   first | exact hK _ _ hB (by trivial) (fun _ _ h => h) | (rw [if_neg (by omega)]; go_simp; exact hK _ _ hB rfl (fun _ _ h => h))
  ·intro vs Wx A hA hB hpre
   have eg := ((hA 43).trans (show _ = vs 2 by kernel_rfl)).trans (by repeat first | exact hpre.1 rfl | replace hpre := hpre.2)
   refine ⟨true, eg, fun _ K hK => ?_, fun h => absurd rfl h⟩
   have e47 := ((hA 47).trans (show _ = vs 6 by kernel_rfl)).trans (by repeat first | exact hpre.1 rfl | replace hpre := hpre.2)
   have e48 := ((hA 48).trans (show _ = vs 7 by kernel_rfl)).trans (by repeat first | exact hpre.1 rfl | replace hpre := hpre.2)
   clear hA hpre
   go_simp
   go_at_call 30
   refine (HSM.out Wx hB).mono ?_
   rintro e w4 ⟨rfl, hg⟩
   exact hK _ _ (below_trans hB hg) rfl (fun _ _ h => h)
  ·intro vs Wx A hA hB hpre K hK
   have e43 := ((hA 43).trans (show _ = vs 2 by kernel_rfl)).trans (by repeat first | exact hpre.1 rfl | replace hpre := hpre.2)
   have e49 := ((hA 49).trans (show _ = vs 8 by kernel_rfl)).trans (by repeat first | exact hpre.1 rfl | replace hpre := hpre.2)
   clear hA hpre
   go_simp
   first | exact hK _ _ hB (by trivial) (fun _ _ h => h) | (rw [if_neg (by omega)]; go_simp; exact hK _ _ hB rfl (fun _ _ h => h))
  intro vs Wx hB hF
  have h9 : vs 9 = .bool D := hF 9 (by decide)
  have HBW := Lib.hid hB
  clear hF hB
  simp only [Ri.puts]
  rw [h9]
  clear h9
  go_simp
  cases D
  case true =>
   have HOE : Hid (entO W y = []) := HK2.out (by first | rfl | trivial) (by first | rfl | trivial | exact hDD)
   obtain ⟨y0, y1, y2, y3, y4, y5⟩ := six (HXK.out Wx HBW.out).1
   go_upto_region 11 with fail
   clear y0 y1 y2 y3 y4 y5
   obtain ⟨y0, y1, y2, y3, y4, y5⟩ := six (HXK.out Wx HBW.out).1
   have HD2 := Lib.hid (Below.drew (Below.refl Wx.heap.size Wx))
   clear y0 y1 y2 y3 y4 y5
   refine Ri.wp_region_lastingB (by kernel_rfl) (by kernel_rfl) (by kernel_rfl) (fun Wy => Below Wx.heap.size Wx Wy) (fun kz vs wz => (fun kx vx wx => match kx with | 0 => vx = cpv X (.slice ax nx cx) | 1 => (∃ g : Nat, vx = .slice (some ⟨g, 0, none⟩) 1 1 ∧ Wx.heap.size ≤ g ∧ wx.heap[g]? = some (.cells (cpe X (.slice ax nx cx)) 38 (0, 0))) | 2 => vx = .slice none 0 0 | 3 => (∃ g : Nat, vx = .slice (some ⟨g, 0, none⟩) 1 1 ∧ Wx.heap.size ≤ g ∧ wx.heap[g]? = some (.cells (cpe X (.slice ax nx cx)) 38 (0, 0))) | 4 => vx = .int .i64 0 | _ => True : Nat → Value → World → Prop) kz (vs kz) wz) (fun kz => [kz]) (by kernel_rfl) (fun jz vs iz vz wz hiz hz => Ri.loc_own (F := (fun kx vx wx => match kx with | 0 => vx = cpv X (.slice ax nx cx) | 1 => (∃ g : Nat, vx = .slice (some ⟨g, 0, none⟩) 1 1 ∧ Wx.heap.size ≤ g ∧ wx.heap[g]? = some (.cells (cpe X (.slice ax nx cx)) 38 (0, 0))) | 2 => vx = .slice none 0 0 | 3 => (∃ g : Nat, vx = .slice (some ⟨g, 0, none⟩) 1 1 ∧ Wx.heap.size ≤ g ∧ wx.heap[g]? = some (.cells (cpe X (.slice ax nx cx)) 38 (0, 0))) | 4 => vx = .int .i64 0 | _ => True : Nat → Value → World → Prop)) jz vs iz vz wz hiz hz) HD2.out ⟨⟨rfl, ?_⟩, ⟨rfl, ?_⟩, ⟨rfl, ?_⟩, ⟨rfl, ?_⟩, ⟨rfl, ?_⟩, trivial⟩ ?_
   ·intro vs Wy A hA hB hpre K hK
    have e9 := (hA 9).trans (show _ = Value.pointer (some ⟨q, 0, none⟩) by kernel_rfl)
    obtain ⟨y0, y1, y2, y3, y4, y5⟩ := six (HXK.out Wy (below_trans HBW.out hB)).1
    clear hA hpre
    go_simp
    first | exact hK _ _ hB (by trivial) (fun _ _ h => h) | (rw [if_neg (by omega)]; go_simp; exact hK _ _ hB rfl (fun _ _ h => h))
   ·intro vs Wy A hA hB hpre K hK
    have e51 := ((hA 51).trans (show _ = vs 0 by kernel_rfl)).trans (by repeat first | exact hpre.1 rfl | replace hpre := hpre.2)
    clear hA hpre
    go_simp
    refine hK _ _ (below_trans hB (below_alloc Wy _)) ⟨_, rfl, hB.size, heap_alloc_new Wy _⟩ (fun jz hj hz => ?_)
    have hgx := below_alloc Wy (.cells (cpe X (.slice ax nx cx)) 38)
    match jz, hj, hz with
    | 0, _, hz => exact hz
    | 1, hj, _ => exact absurd rfl hj
    | 2, _, hz => exact hz
    | 3, _, hz => exact (by obtain ⟨g, r1, r2, r3⟩ := hz; exact ⟨g, r1, r2, keepB r3 hgx⟩)
    | 4, _, hz => exact hz
    | n + 5, _, hz => exact hz
   ·intro vs Wy A hA hB hpre K hK
    clear hA hpre
    go_simp
    first | exact hK _ _ hB (by trivial) (fun _ _ h => h) | (rw [if_neg (by omega)]; go_simp; exact hK _ _ hB rfl (fun _ _ h => h))
   ·intro vs Wy A hA hB hpre K hK
    have hx1 : (∃ g : Nat, vs 1 = .slice (some ⟨g, 0, none⟩) 1 1 ∧ Wx.heap.size ≤ g ∧ Wy.heap[g]? = some (.cells (cpe X (.slice ax nx cx)) 38 (0, 0))) := by repeat first | exact hpre.1 rfl | replace hpre := hpre.2
    obtain ⟨gx1, hv1, hh1⟩ := hx1
    have e52 := ((hA 52).trans (show _ = vs 1 by kernel_rfl)).trans hv1
    clear hA hpre
    go_simp
    exact hK _ _ hB (by first | exact ⟨gx1, rfl, hh1⟩ | (rw [hv1]; exact ⟨gx1, rfl, hh1⟩)) (fun _ _ h => h)
   ·intro vs Wy A hA hB hpre K hK
    clear hA hpre
    go_simp
    first | exact hK _ _ hB (by trivial) (fun _ _ h => h) | (rw [if_neg (by omega)]; go_simp; exact hK _ _ hB rfl (fun _ _ h => h))
   intro vs Wy hB hF
   obtain ⟨g, e3, hg1, hg2⟩ : ∃ g : Nat, vs 3 = .slice (some ⟨g, 0, none⟩) 1 1 ∧ Wx.heap.size ≤ g ∧ Wy.heap[g]? = some (.cells (cpe X (.slice ax nx cx)) 38 (0, 0)) := hF 3 (by decide)
   have h2 : vs 2 = .slice none 0 0 := hF 2 (by decide)
   have h4 : vs 4 = .int .i64 0 := hF 4 (by decide)
   obtain ⟨-, hxs, hbp, -⟩ := HXK.out Wy (below_trans HBW.out hB)
   have HBF := Lib.hid hbp
   have HC1 : Hid (CpsAt (fun b => p ≤ b) Wy (.slice none 0 0) (entO W y)) := by show CpsAt _ _ _ _; rw [HOE.out]; exact cps_nil _ _
   have HC2 : Hid (CpsAt (fun b => p ≤ b) Wy (.slice (some ⟨g, 0, none⟩) 1 1) [X]) := cps_one hg2 (by have h1 := HBW.out.size; have h2 := HS3.out; have h3 := HPQ.out; omega) (hxs.move (moves_weak Wy fun b _ k => by omega))
   clear hF hB hg1 hg2 hxs hbp
   simp only [Ri.puts]
   rw [h2, h4, e3]
   clear h2 h4 e3
   go_simp
   go_wp2
   go_ret3
   exact HQ.out Wy _ _ HBF.out HC1.out HC2.out
  have HOE : Hid (entO W y = [Sv.back F] ++ [X]) := HK3.out (fun _ => rfl)
  obtain ⟨y0, y1, y2, y3, y4, y5⟩ := six (HXK.out Wx HBW.out).1
  have HBC := Lib.hid (HXK.out Wx HBW.out).2.2.2
  have HPX : Hid (q + 1 ≤ Wx.heap.size) := by have := HBW.out.size; have := HS3.out; show _ ≤ _; omega
  obtain ⟨d0, d1, d2, d3, d4, d5⟩ := (HFS.out Wx HBC.out).1
  have HBA : Hid (∀ wb (au : Option Addr) (nu cu : Nat), Below Wx.heap.size Wx wb → SvsAt (fun b => Wx.heap.size ≤ b) wb (.slice au nu cu) (Sv.back F).svs → (wb.alloc (.cells (cpe (Sv.back F) (.slice au nu cu)) 38)).heap[wb.heap.size]? = some (.cells (cpe (Sv.back F) (.slice au nu cu)) 38 (0, 0)) ∧ p ≤ (wb.alloc (.cells (cpe (Sv.back F) (.slice au nu cu)) 38)).heap.size ∧ ∀ v' w', OwnC p w' v' ([] ++ [⟨Sv.back F, .slice au nu cu⟩]) → (wb.alloc (.cells (cpe (Sv.back F) (.slice au nu cu)) 38)).grownBy w' (Value.slice none 0 0).ownBlock → (v'.ownBlock = (Value.slice none 0 0).ownBlock ∨ v'.ownBlock = some (wb.alloc (.cells (cpe (Sv.back F) (.slice au nu cu)) 38)).heap.size) → Two p w' v' (.slice none 0 0) [⟨Sv.back F, .slice au nu cu⟩] [] ∧ Below Wx.heap.size Wx w' ∧ (v'.ownBlock = none ∨ ∃ g, v'.ownBlock = some g ∧ q + 1 ≤ g)) := fun wb au nu cu hb hs => by
   have h1 := HPX.out
   have h0 := HPQ.out
   have h2 := hb.size
   have hba := below_alloc wb (.cells (cpe (Sv.back F) (.slice au nu cu)) 38)
   refine ⟨alloc_new wb _ _, by simp; omega, fun v' w' ho hg hat => ?_⟩
   have hT := (Two.nil p (wb.alloc (.cells (cpe (Sv.back F) (.slice au nu cu)) 38))).app (f := ⟨Sv.back F, .slice au nu cu⟩) (hs.move ⟨hba.size, fun b hlt hk => ⟨⟨by omega, by simp [Value.ownBlock], by simp [Value.ownBlock]⟩, hba.block b hlt⟩⟩) ho hg hat
   refine ⟨hT, below_trans hb (below_trans hba ⟨hg.os, hg.tape, hg.output, hg.size, fun b hlt => hg.block b hlt (by simp [Value.ownBlock])⟩), ?_⟩
   rcases hat with e | e
   ·exact Or.inl e
   ·exact Or.inr ⟨_, e, by simp; omega⟩
  go_upto_region 14 with (first | (go_at_call 39; refine (HBK.out _ HBC.out).mono ?_; rintro e wb ⟨⟨u, rfl, hsb⟩, hbb⟩; obtain ⟨au, nu, cu, rfl⟩ : ∃ a n c, u = .slice a n c := (by obtain ⟨q1, q2, q3, -, -⟩ := SvsAt.form hsb; exact ⟨q1, _, q2, q3⟩); have HG := Lib.hid (HBA.out wb au nu cu hbb hsb); clear hsb hbb) | (at_builtin; refine wpList_plain (by rfl) (fun K hK => ?_); refine wp_appC _ _ rfl p (.slice none 0 0) [] rfl (ownC_nil _ _) _ 1 (⟨Sv.back F, .slice au nu cu⟩ : Cx) rfl HG.out.1 rfl (by simp) HG.out.2.1 (fun v' w9 ho hg hat => ?_); have HT9 := Lib.hid (HG.out.2.2 v' w9 ho hg hat); obtain ⟨a9, n9, c9, rfl⟩ : ∃ a n c, v' = Value.slice a n c := (by obtain ⟨q1, q2, q3, -, -⟩ := OwnC.form ho; exact ⟨q1, _, q2, q3⟩); clear ho hg hat; refine hK _ _ ?_; clear hK))
  have HT14 : Hid (Two p w9 (.slice a9 n9 c9) (.slice none 0 0) [⟨Sv.back F, .slice au nu cu⟩] []) := HT9.out.1
  have HB14 : Hid (Below W3.heap.size W3 w9) := below_trans HBW.out HT9.out.2.1
  have HOB14 := Lib.hid HT9.out.2.2
  clear HT9 HG HBA HBC y0 y1 y2 y3 y4 y5 d0 d1 d2 d3 d4 d5
  obtain ⟨y0, y1, y2, y3, y4, y5⟩ := six (HXK.out w9 HB14.out).1
  have HA14 : Hid (OwnC p (w9.alloc (.cells (cpe X (.slice ax nx cx)) 38)) (.slice a9 n9 c9) [⟨Sv.back F, .slice au nu cu⟩] ∧ (w9.alloc (.cells (cpe X (.slice ax nx cx)) 38)).heap[w9.heap.size]? = some (.cells (cpe X (.slice ax nx cx)) 38 (0, 0)) ∧ p ≤ (w9.alloc (.cells (cpe X (.slice ax nx cx)) 38)).heap.size ∧ ∀ v' w', OwnC p w' v' ([⟨Sv.back F, .slice au nu cu⟩] ++ [⟨X, (.slice ax nx cx)⟩]) → (w9.alloc (.cells (cpe X (.slice ax nx cx)) 38)).grownBy w' (Value.slice a9 n9 c9).ownBlock → (v'.ownBlock = (Value.slice a9 n9 c9).ownBlock ∨ v'.ownBlock = some (w9.alloc (.cells (cpe X (.slice ax nx cx)) 38)).heap.size) → CpsAt (fun b => p ≤ b) w' v' ([Sv.back F] ++ [X]) ∧ Below W3.heap.size W3 w') := by
   have h0 := HPQ.out
   have h1 := HB14.out.size
   have h2 := HS3.out
   have hba := below_alloc w9 (.cells (cpe X (.slice ax nx cx)) 38)
   have hT := HT14.out.grw hba
   refine ⟨hT.o1, alloc_new w9 _ _, by simp; omega, fun v' w' ho hg hat => ?_⟩
   have hxs := (HXK.out w9 HB14.out).2.1
   have hob := HOB14.out
   have hT2 := hT.app (f := ⟨X, (.slice ax nx cx)⟩) (hxs.move ⟨hba.size, fun b hlt hk => ⟨⟨by omega, fun e => by
    rcases hob with r | ⟨g, r, hr⟩
    ·rw [r] at e; cases e
    ·rw [r] at e; injection e with e; omega, by simp [Value.ownBlock]⟩, hba.block b hlt⟩⟩) ho hg hat
   refine ⟨by have h3 := hT2.at1; simpa using h3, Below.trans (below_trans HB14.out hba) ⟨hg.os, hg.tape, hg.output, hg.size, fun b hlt => hg.block b (by simp; omega) (fun e => ?_)⟩⟩
   rcases hob with r | ⟨g, r, hr⟩
   ·rw [r] at e; cases e
   ·rw [r] at e; injection e with e; omega
  go_upto_region 15 with (first | (at_builtin; refine wpList_plain (by rfl) (fun K hK => ?_); refine wp_appC _ _ rfl p (.slice a9 n9 c9) [⟨Sv.back F, .slice au nu cu⟩] rfl HA14.out.1 _ 1 (⟨X, (.slice ax nx cx)⟩ : Cx) rfl HA14.out.2.1 rfl (by simp) HA14.out.2.2.1 (fun v' w10 ho hg hat => ?_); have HG10 := Lib.hid (HA14.out.2.2.2 v' w10 ho hg hat); obtain ⟨a10, n10, c10, rfl⟩ : ∃ a n c, v' = Value.slice a n c := (by obtain ⟨q1, q2, q3, -, -⟩ := OwnC.form ho; exact ⟨q1, _, q2, q3⟩); clear ho hg hat; refine hK _ _ ?_; clear hK))
  clear y0 y1 y2 y3 y4 y5 HA14 HT14 HB14 HOB14 HBW
  have HBW := Lib.hid HG10.out.2
  obtain ⟨y0, y1, y2, y3, y4, y5⟩ := six (HXK.out w10 HBW.out).1
  have HD2 := Lib.hid (Below.drew (Below.refl w10.heap.size w10))
  clear y0 y1 y2 y3 y4 y5
  refine Ri.wp_region_lastingB (by kernel_rfl) (by kernel_rfl) (by kernel_rfl) (fun Wy => Below w10.heap.size w10 Wy) (fun kz vs wz => (fun kx vx wx => match kx with | 0 => vx = .slice a10 n10 c10 | 1 => vx = cpv X (.slice ax nx cx) | 2 => (∃ g : Nat, vx = .slice (some ⟨g, 0, none⟩) 1 1 ∧ w10.heap.size ≤ g ∧ wx.heap[g]? = some (.cells (cpe X (.slice ax nx cx)) 38 (0, 0))) | 3 => vx = .slice a10 n10 c10 | 4 => (∃ g : Nat, vx = .slice (some ⟨g, 0, none⟩) 1 1 ∧ w10.heap.size ≤ g ∧ wx.heap[g]? = some (.cells (cpe X (.slice ax nx cx)) 38 (0, 0))) | 5 => vx = .int .i64 0 | _ => True : Nat → Value → World → Prop) kz (vs kz) wz) (fun kz => [kz]) (by kernel_rfl) (fun jz vs iz vz wz hiz hz => Ri.loc_own (F := (fun kx vx wx => match kx with | 0 => vx = .slice a10 n10 c10 | 1 => vx = cpv X (.slice ax nx cx) | 2 => (∃ g : Nat, vx = .slice (some ⟨g, 0, none⟩) 1 1 ∧ w10.heap.size ≤ g ∧ wx.heap[g]? = some (.cells (cpe X (.slice ax nx cx)) 38 (0, 0))) | 3 => vx = .slice a10 n10 c10 | 4 => (∃ g : Nat, vx = .slice (some ⟨g, 0, none⟩) 1 1 ∧ w10.heap.size ≤ g ∧ wx.heap[g]? = some (.cells (cpe X (.slice ax nx cx)) 38 (0, 0))) | 5 => vx = .int .i64 0 | _ => True : Nat → Value → World → Prop)) jz vs iz vz wz hiz hz) HD2.out ⟨⟨rfl, ?_⟩, ⟨rfl, ?_⟩, ⟨rfl, ?_⟩, ⟨rfl, ?_⟩, ⟨rfl, ?_⟩, ⟨rfl, ?_⟩, trivial⟩ ?_
  ·intro vs Wy A hA hB hpre K hK
   have e8 := (hA 8).trans (show _ = Value.slice a10 n10 c10 by kernel_rfl)
   clear hA hpre
   go_simp
   first | exact hK _ _ hB (by trivial) (fun _ _ h => h) | (rw [if_neg (by omega)]; go_simp; exact hK _ _ hB rfl (fun _ _ h => h))
  ·intro vs Wy A hA hB hpre K hK
   have e9 := (hA 9).trans (show _ = Value.pointer (some ⟨q, 0, none⟩) by kernel_rfl)
   obtain ⟨y0, y1, y2, y3, y4, y5⟩ := six (HXK.out Wy (below_trans HBW.out hB)).1
   clear hA hpre
   go_simp
   first | exact hK _ _ hB (by trivial) (fun _ _ h => h) | (rw [if_neg (by omega)]; go_simp; exact hK _ _ hB rfl (fun _ _ h => h))
  ·intro vs Wy A hA hB hpre K hK
   have e68 := ((hA 68).trans (show _ = vs 1 by kernel_rfl)).trans (by repeat first | exact hpre.1 rfl | replace hpre := hpre.2)
   clear hA hpre
   go_simp
   refine hK _ _ (below_trans hB (below_alloc Wy _)) ⟨_, rfl, hB.size, heap_alloc_new Wy _⟩ (fun jz hj hz => ?_)
   have hgx := below_alloc Wy (.cells (cpe X (.slice ax nx cx)) 38)
   match jz, hj, hz with
   | 0, _, hz => exact hz
   | 1, _, hz => exact hz
   | 2, hj, _ => exact absurd rfl hj
   | 3, _, hz => exact hz
   | 4, _, hz => exact (by obtain ⟨g, r1, r2, r3⟩ := hz; exact ⟨g, r1, r2, keepB r3 hgx⟩)
   | 5, _, hz => exact hz
   | n + 6, _, hz => exact hz
  ·intro vs Wy A hA hB hpre K hK
   have e67 := ((hA 67).trans (show _ = vs 0 by kernel_rfl)).trans (by repeat first | exact hpre.1 rfl | replace hpre := hpre.2)
   clear hA hpre
   go_simp
   first | exact hK _ _ hB (by trivial) (fun _ _ h => h) | (rw [if_neg (by omega)]; go_simp; exact hK _ _ hB rfl (fun _ _ h => h))
  ·intro vs Wy A hA hB hpre K hK
   have hx2 : (∃ g : Nat, vs 2 = .slice (some ⟨g, 0, none⟩) 1 1 ∧ w10.heap.size ≤ g ∧ Wy.heap[g]? = some (.cells (cpe X (.slice ax nx cx)) 38 (0, 0))) := by repeat first | exact hpre.1 rfl | replace hpre := hpre.2
   obtain ⟨gx2, hv2, hh2⟩ := hx2
   have e69 := ((hA 69).trans (show _ = vs 2 by kernel_rfl)).trans hv2
   clear hA hpre
   go_simp
   exact hK _ _ hB (by first | exact ⟨gx2, rfl, hh2⟩ | (rw [hv2]; exact ⟨gx2, rfl, hh2⟩)) (fun _ _ h => h)
  ·intro vs Wy A hA hB hpre K hK
   clear hA hpre
   go_simp
   first | exact hK _ _ hB (by trivial) (fun _ _ h => h) | (rw [if_neg (by omega)]; go_simp; exact hK _ _ hB rfl (fun _ _ h => h))
  intro vs Wy hB hF
  obtain ⟨g, e3, hg1, hg2⟩ : ∃ g : Nat, vs 4 = .slice (some ⟨g, 0, none⟩) 1 1 ∧ w10.heap.size ≤ g ∧ Wy.heap[g]? = some (.cells (cpe X (.slice ax nx cx)) 38 (0, 0)) := hF 4 (by decide)
  have h2 : vs 3 = .slice a10 n10 c10 := hF 3 (by decide)
  have h4 : vs 5 = .int .i64 0 := hF 5 (by decide)
  obtain ⟨-, hxs, hbp, -⟩ := HXK.out Wy (below_trans HBW.out hB)
  have HBF := Lib.hid hbp
  have HC1 : Hid (CpsAt (fun b => p ≤ b) Wy (.slice a10 n10 c10) (entO W y)) := by show CpsAt _ _ _ _; rw [HOE.out]; exact HG10.out.1.move ⟨hB.size, fun b hlt hk => ⟨hk, hB.block b hlt⟩⟩
  have HC2 : Hid (CpsAt (fun b => p ≤ b) Wy (.slice (some ⟨g, 0, none⟩) 1 1) [X]) := cps_one hg2 (by have h1 := HBW.out.size; have h2 := HS3.out; have h3 := HPQ.out; omega) (hxs.move (moves_weak Wy fun b _ k => by omega))
  clear hF hB hg1 hg2 hxs hbp
  simp only [Ri.puts]
  rw [h2, h4, e3]
  clear h2 h4 e3
  go_simp
  go_wp2
  go_ret3
  exact HQ.out Wy _ _ HBF.out HC1.out HC2.out
end Go.Proofs.Ytpfpjbeofogbgaa.Re
end
