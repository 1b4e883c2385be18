/-
  Texts put together (merge.py): MDup.
-/
import Derived.Test.YtpfpjbeofogbgaaMm2
import Derived.Test.YtpfpjbeofogbgaaMm13
import Derived.Test.YtpfpjbeofogbgaaMm4
set_option linter.unusedSimpArgs false
set_option linter.unusedVariables false
section
set_option maxRecDepth 100000
namespace Go.Proofs.Ytpfpjbeofogbgaa.Re
open Go.RowKit
open Sv (Ca Sr Cp Sx SvsAt CasAt CpsAt CpCells SrCells cpv cpe four six frz6 OwnS OwnK FullS SxAt scs svs_sx ownS_at ownS_of ownS_grw app_at app_set app_len cas_of_own ownK_form put6_heap put6_below put6_keep cloneS_any cloneK_any)
open Bk (keepB heap_far below_alloc below_trans alloc_new heap_set add_lit)
theorem scs_putm (l : List Sx) (i : Nat) (x : Sx) (h : l[i]? = some x) (y : Value) : scs (l.set i ⟨x.s, y⟩) = (scs l).set (i * 4 + 3) y := by
 induction l generalizing i with
 | nil => simp at h
 | cons a r ih =>
  cases i with
  | zero => simp at h; subst h; rfl
  | succ i =>
   have e := ih i (by simpa using h)
   rw [show (i + 1) * 4 + 3 = (i * 4 + 3) + 1 + 1 + 1 + 1 by omega]
   simp only [List.set_cons_succ, scs]
   rw [e]
theorem ownS_putm {B : Nat} {w : World} {g c : Nat} {l : List Sx} (h : OwnS B w (.slice (some ⟨g, 0, none⟩) l.length c) l) (i : Nat) (x : Sx) (hx : l[i]? = some x) (y : Value) : OwnS B (w.setCell ⟨g, i * 4 + 3, none⟩ y) (.slice (some ⟨g, 0, none⟩) l.length c) (l.set i ⟨x.s, y⟩) := by
 obtain ⟨hl, h⟩ := h
 rcases h with ⟨e, h0⟩ | ⟨g', cap, cur, e, hbg, hg, h1, h2, hs, ht⟩
 ·cases e
 ·simp only [Value.slice.injEq, Option.some.injEq, Addr.mk.injEq, and_true, true_and] at e
  obtain ⟨rfl, rfl⟩ := e
  refine ⟨by rw [Sv.scs_len, List.length_set], Or.inr ⟨g, c, cur.setIfInBounds (i * 4 + 3) y, by rw [List.length_set], hbg, ?_, by rw [List.length_set]; exact h1, h2, by simpa using hs, ?_⟩⟩
  ·simp [World.setCell, Array.getElem?_modify, hg]
  ·rw [scs_putm l i x hx y, List.length_set, ← ht, Array.toList_setIfInBounds, List.take_set]
theorem ownK_base {B C : Nat} {w : World} {v : Value} {l : List Ca} (h : OwnK B w v l) (hc : C ≤ B) : OwnK C w v l := by
 refine ⟨h.1, h.2.imp id ?_⟩
 rintro ⟨g, c, cur, rfl, h0, hr⟩
 exact ⟨g, c, cur, rfl, Nat.le_trans hc h0, hr⟩
set_option maxHeartbeats 16000000 in
theorem dup_any (x : Cp) (m : Value) (w : World) (hm : SvsAt All w m x.svs) (hl : x.svs.length ≤ 1000000) (hlc : ∀ s ∈ x.svs, s.cas.length ≤ 1000000) :
  Calls Try.prog 37 #[cpv x m] w fun e w' => (∃ u, e = .returned (cpv x u) ∧ SvsAt (fun b => w.heap.size ≤ b) w' u x.svs) ∧ Below w.heap.size w w' := by
 obtain ⟨am, cm, rfl, f1, f2⟩ := hm.form
 obtain ⟨L, hLs, hLx, hSl, hLc⟩ := svs_sx hm
 have hLl : L.length = x.svs.length := by rw [← hLs, List.length_map]
 have hb0 : Below w.heap.size w ((w.alloc (.cells (#[.string (mk x.id), .int .i64 x.st, .int .i64 x.bi, .int .i64 x.paid, .int .i64 x.mem, (.slice am x.svs.length cm)] : Array Value) 38)).alloc (.cells (#[.string { data := #[] }, .int .i64 0, .int .i64 0, .int .i64 0, .int .i64 0, .slice none 0 0] : Array Value) 38)) := below_trans (below_alloc w _) (below_alloc _ _)
 have HB := Lib.hid hb0
 have HX := Lib.hid (keepB (alloc_new w (#[.string (mk x.id), .int .i64 x.st, .int .i64 x.bi, .int .i64 x.paid, .int .i64 x.mem, (.slice am x.svs.length cm)] : Array Value) 38) (below_alloc _ (.cells (#[.string { data := #[] }, .int .i64 0, .int .i64 0, .int .i64 0, .int .i64 0, .slice none 0 0] : Array Value) 38)))
 have HY := Lib.hid (alloc_new (w.alloc (.cells (#[.string (mk x.id), .int .i64 x.st, .int .i64 x.bi, .int .i64 x.paid, .int .i64 x.mem, (.slice am x.svs.length cm)] : Array Value) 38)) (#[.string { data := #[] }, .int .i64 0, .int .i64 0, .int .i64 0, .int .i64 0, .slice none 0 0] : Array Value) 38)
 rw [show (w.alloc (.cells (#[.string (mk x.id), .int .i64 x.st, .int .i64 x.bi, .int .i64 x.paid, .int .i64 x.mem, (.slice am x.svs.length cm)] : Array Value) 38)).heap.size = w.heap.size + 1 by simp] at HY
 have HS0 : Hid (w.heap.size + 2 ≤ ((w.alloc (.cells (#[.string (mk x.id), .int .i64 x.st, .int .i64 x.bi, .int .i64 x.paid, .int .i64 x.mem, (.slice am x.svs.length cm)] : Array Value) 38)).alloc (.cells (#[.string { data := #[] }, .int .i64 0, .int .i64 0, .int .i64 0, .int .i64 0, .slice none 0 0] : Array Value) 38)).heap.size) := by show _ ≤ _; simp
 have HLX : Hid (∀ W, Below w.heap.size w W → SxAt W (.slice am x.svs.length cm) L) := fun W hW => by
  obtain ⟨a, c, e, h1, h2, h3⟩ := hLx
  refine ⟨a, c, e, h1, h2, h3.imp id ?_⟩
  rintro ⟨b, o, e2, hc⟩
  exact ⟨b, o, e2, fun j x hj => (hc j x hj).of (hW.block b (World.block_lt_of_cell? w _ (hc j x hj).1))⟩
 have HLC : Hid (∀ W, Below w.heap.size w W → ∀ y ∈ L, CasAt All W y.m y.s.cas) := fun W hW y hy => (hLc y hy).grw hW
 have HSl := Lib.hid hSl
 have HOK : Hid (∀ y ∈ L, y.s.cas.length ≤ 1000000) := fun y hy => by
  have hs : y.s ∈ x.svs := by rw [← hLs]; exact List.mem_map.2 ⟨y, hy, rfl⟩
  exact hlc _ hs
 have HLS := Lib.hid hLs
 clear hm hLx hSl hLc hLs hb0 hlc
 go_enter Try.func37, Try.ntmps37
 go_upto_region 1 with fail
 generalize ((w.alloc (.cells (#[.string (mk x.id), .int .i64 x.st, .int .i64 x.bi, .int .i64 x.paid, .int .i64 x.mem, (.slice am x.svs.length cm)] : Array Value) 38)).alloc (.cells (#[.string { data := #[] }, .int .i64 0, .int .i64 0, .int .i64 0, .int .i64 0, .slice none 0 0] : Array Value) 38)) = W at *
 generalize hp : w.heap.size = p at *
 obtain ⟨x0, x1, x2, x3, x4, x5⟩ := six HX.out
 obtain ⟨k0, k1, k2, k3, k4, k5⟩ := frz6 HX.out
 have HCL := Lib.hid (cloneS_any L (.slice am x.svs.length cm) W (HLX.out W HB.out) (by omega) HSl.out)
 have HCF : Hid (∀ w4 v', OwnS W.heap.size w4 v' L → Below W.heap.size W w4 → ∃ u c, v' = .slice u x.svs.length c ∧ w4.heap[p]? = some (.cells (#[.string (mk x.id), .int .i64 x.st, .int .i64 x.bi, .int .i64 x.paid, .int .i64 x.mem, (.slice am x.svs.length cm)] : Array Value) 38 (0, 0)) ∧ w4.heap[p + 1]? = some (.cells (#[.string { data := #[] }, .int .i64 0, .int .i64 0, .int .i64 0, .int .i64 0, .slice none 0 0] : Array Value) 38 (0, 0)) ∧ Below p w w4 ∧ OwnS (p + 2) w4 v' L ∧ p + 2 ≤ w4.heap.size) := fun w4 v' ho hb => by
  have hs := HS0.out
  obtain ⟨u, c, e⟩ : ∃ u c, v' = .slice u x.svs.length c := by
   rcases ho.2 with ⟨rfl, h0⟩ | ⟨g, cap, cur, rfl, _⟩
   ·exact ⟨none, 0, by rw [← hLl, h0]⟩
   ·exact ⟨_, cap, by rw [← hLl]⟩
  refine ⟨u, c, e, keepB HX.out hb, keepB HY.out hb, HB.out.trans (hb.mono (by omega)), ⟨ho.1, ho.2.imp id ?_⟩, Nat.le_trans hs hb.size⟩
  rintro ⟨g, cap, cur, e, h0, hr⟩
  exact ⟨g, cap, cur, e, Nat.le_trans hs h0, hr⟩
 go_upto_region 2 with (first | (go_at_call 51; refine HCL.out.mono ?_; rintro e w4 ⟨v', rfl, ho, hb⟩; obtain ⟨u, uc, rfl, hx4, hy4, hb4, ho4, hs4⟩ := HCF.out w4 v' ho hb; obtain ⟨x0, x1, x2, x3, x4, x5⟩ := six hx4; obtain ⟨k0, k1, k2, k3, k4, k5⟩ := frz6 hx4; have HX5 : Hid ((w4.setCell ⟨p, 5, none⟩ (.slice u x.svs.length uc)).heap[p]? = some (.cells (#[.string (mk x.id), .int .i64 x.st, .int .i64 x.bi, .int .i64 x.paid, .int .i64 x.mem, (.slice u x.svs.length uc)] : Array Value) 38 (0, 0))) := (by have := heap_set hx4 5 (.slice u x.svs.length uc); show _ = _; rw [this]; rfl); have HY5 : Hid ((w4.setCell ⟨p, 5, none⟩ (.slice u x.svs.length uc)).heap[p + 1]? = some (.cells (#[.string { data := #[] }, .int .i64 0, .int .i64 0, .int .i64 0, .int .i64 0, .slice none 0 0] : Array Value) 38 (0, 0))) := heap_far hy4 (by omega); have HB5 : Hid (Below p w (w4.setCell ⟨p, 5, none⟩ (.slice u x.svs.length uc))) := hb4.setCell (p := ⟨p, 5, none⟩) (Nat.le_refl p) _; have HS5 : Hid (p + 2 ≤ (w4.setCell ⟨p, 5, none⟩ (.slice u x.svs.length uc)).heap.size) := (by show _ ≤ _; simpa using hs4); have HO5 : Hid (OwnS (p + 2) (w4.setCell ⟨p, 5, none⟩ (.slice u x.svs.length uc)) (.slice u x.svs.length uc) L) := ⟨ho4.1, ho4.2.imp id (by rintro ⟨g, cap, cur, e, h0, hh, hr⟩; exact ⟨g, cap, cur, e, h0, heap_far hh (by omega), hr⟩)⟩; clear ho hb hx4 hy4 hb4 ho4 hs4 HX HY HB HS0))
 generalize w4.setCell ⟨p, 5, none⟩ (.slice u x.svs.length uc) = W5 at *
 clear x0 x1 x2 x3 x4 x5 k0 k1 k2 k3 k4 k5 HCL HCF HLX HSl
 obtain ⟨x0, x1, x2, x3, x4, x5⟩ := six HX5.out
 go_wp2
 go_loopg [11] (x.svs.length) (fun gg t11 wr => ∃ (k : Nat) (N : List Sx), k ≤ x.svs.length ∧ gg = x.svs.length - k ∧ t11 = .int .i64 k ∧ N.length = k ∧ Hid (N.map (·.s) = (L.map (·.s)).take k) ∧ Hid (OwnS (p + 2) wr (.slice u x.svs.length uc) (N ++ L.drop k)) ∧ Hid (∀ y ∈ N, CasAt (fun b => p + 2 ≤ b ∧ (Value.slice u x.svs.length uc).ownBlock ≠ some b) wr y.m y.s.cas) ∧ Hid (wr.heap[p]? = some (.cells (#[.string (mk x.id), .int .i64 x.st, .int .i64 x.bi, .int .i64 x.paid, .int .i64 x.mem, (.slice u x.svs.length uc)] : Array Value) 38 (0, 0))) ∧ Hid (wr.heap[p + 1]? = some (.cells (#[.string { data := #[] }, .int .i64 0, .int .i64 0, .int .i64 0, .int .i64 0, .slice none 0 0] : Array Value) 38 (0, 0))) ∧ Hid (Below p w wr) ∧ Hid (p + 2 ≤ wr.heap.size))
 case atStart => exact ⟨0, [], Nat.zero_le _, rfl, rfl, rfl, rfl, HO5.out, by simp [Hid], HX5.out, HY5.out, HB5.out, HS5.out⟩
 case round =>
  clear x0 x1 x2 x3 x4 x5 HX5 HY5 HB5 HS5 HO5
  obtain ⟨k, N, hk, hgk, rfl, hN, HNm, HO, HNc, HX, HY, HB, HS⟩ := hrel
  obtain ⟨x0, x1, x2, x3, x4, x5⟩ := six HX.out
  by_cases hlt : k < x.svs.length
  ·have hltz : (k : Int) < (x.svs.length : Int) := by omega
   have hkL : k < L.length := by omega
   obtain ⟨g, c2, e, hpg, hgl, hcl, hfz⟩ := ownS_at HO.out k _ (app_at N L k hN hkL)
   rw [app_len N L k hN (by omega), hLl] at e
   simp only [Value.slice.injEq, true_and] at e
   obtain ⟨rfl, rfl⟩ := e
   have HYm := Lib.hid (List.getElem_mem hkL)
   have HAT := Lib.hid (app_at N L k hN hkL)
   have HST := Lib.hid (app_set N L k hN hkL)
   have HLN := Lib.hid (app_len N L k hN (by omega))
   have HMN : Hid (∀ m', (N ++ [(⟨L[k].s, m'⟩ : Sx)]).map (·.s) = (L.map (·.s)).take (k + 1)) := fun m' => by
    rw [List.map_append, HNm.out, List.take_add_one, List.getElem?_map, List.getElem?_eq_getElem hkL]; rfl
   have w4b := HOK.out _ HYm.out
   have HCy : Hid (∀ W, Below p w W → CasAt All W L[k].m L[k].s.cas) := fun W hW => HLC.out W hW _ HYm.out
   have HCB : Hid (∀ W, Below wr.heap.size wr W → Below p w W) := fun W hW => HB.out.trans (hW.mono (by have := HS.out; omega))
   generalize L[k] = y at *
   have hi1 : k < x.svs.length := hlt
   go_upto_region 5 with fail
   obtain ⟨wo, hwo⟩ : ∃ z, z = wr := ⟨_, rfl⟩
   subst hwo
   have HXK : Hid (∀ W', Below wo.heap.size wo W' → W'.heap[p]? = some (.cells (#[.string (mk x.id), .int .i64 x.st, .int .i64 x.bi, .int .i64 x.paid, .int .i64 x.mem, (.slice (some ⟨g, 0, none⟩) x.svs.length uc)] : Array Value) 38 (0, 0)) ∧ SrCells W' g (k * 4) y.s y.m) := fun W' hW => ⟨keepB HX.out hW, hcl.of (hW.block g hgl)⟩
   have HKY : Hid (∀ W, Below wo.heap.size wo W → Calls Try.prog 52 #[y.m] W fun e w' => ∃ v', e = .returned v' ∧ OwnK W.heap.size w' v' y.s.cas ∧ Below W.heap.size W w') := fun W hW => cloneK_any y.s.cas y.m W (HCy.out W (HCB.out W hW)) w4b
   have HGP := Lib.hid hpg
   have HGL := Lib.hid hgl
   obtain ⟨ay, ny, cy, hym⟩ : ∃ ay ny cy, y.m = .slice ay ny cy := by
    obtain ⟨q1, q2, q3, -, -⟩ := (HCy.out wo HB.out).form
    exact ⟨q1, _, q2, q3⟩
   have HYMe := Lib.hid hym
   rw [hym] at HXK HKY
   have HD := Lib.hid (Below.drew (Below.refl wo.heap.size wo))
   clear hcl hfz x0 x1 x2 x3 x4 x5 hym
   refine Ri.wp_region_tailX 10 (by kernel_rfl) (by kernel_rfl) (by kernel_rfl) (by decide) (by kernel_rfl) (fun Wx => Below wo.heap.size wo Wx) (fun kz vs wz => (fun kx vx wx => match kx with | 0 => vx = .pointer (some ⟨p, 5, none⟩) | 1 => vx = (Value.slice (some ⟨g, 0, none⟩) x.svs.length uc) | 2 => vx = .int .i64 (k : Nat) | 3 => vx = .pointer (some ⟨p, 5, none⟩) | 4 => vx = (Value.slice (some ⟨g, 0, none⟩) x.svs.length uc) | 5 => vx = .int .i64 (k : Nat) | 6 => vx = .pointer (some ⟨g, k * 4, none⟩) | 7 => vx = .pointer (some ⟨g, k * 4 + 3, none⟩) | 8 => vx = .slice ay ny cy | 9 => OwnK wo.heap.size wx vx y.s.cas | _ => True : Nat → Value → World → Prop) kz (vs kz) wz) (fun lst vs => True) (fun kz => [kz]) (by kernel_rfl) (fun jz vs iz vz wz hiz hz => Ri.loc_own (F := (fun kx vx wx => match kx with | 0 => vx = .pointer (some ⟨p, 5, none⟩) | 1 => vx = (Value.slice (some ⟨g, 0, none⟩) x.svs.length uc) | 2 => vx = .int .i64 (k : Nat) | 3 => vx = .pointer (some ⟨p, 5, none⟩) | 4 => vx = (Value.slice (some ⟨g, 0, none⟩) x.svs.length uc) | 5 => vx = .int .i64 (k : Nat) | 6 => vx = .pointer (some ⟨g, k * 4, none⟩) | 7 => vx = .pointer (some ⟨g, k * 4 + 3, none⟩) | 8 => vx = .slice ay ny cy | 9 => OwnK wo.heap.size wx vx y.s.cas | _ => True : Nat → Value → World → Prop)) jz vs iz vz wz hiz hz) HD.out ?_ ⟨⟨rfl, ?_⟩, ⟨rfl, ?_⟩, ⟨rfl, ?_⟩, ⟨rfl, ?_⟩, ⟨rfl, ?_⟩, ⟨rfl, ?_⟩, ⟨rfl, ?_⟩, ⟨rfl, ?_⟩, ⟨rfl, ?_⟩, ⟨rfl, ?_⟩, trivial⟩ ?_
   ·intro vs hvs
    exact trivial
   ·intro vs Wx A lst hA hB hls hX hno hpre K hK
    have e1 := (hA 1).trans (show _ = Value.pointer (some ⟨p, 0, none⟩) by kernel_rfl)
    clear hA hpre
    go_simp
    first | exact hK _ _ hB (by trivial) (fun _ _ h => h) hX | (rw [if_neg (by omega)]; go_simp; exact hK _ _ hB rfl (fun _ _ h => h) hX)
   ·intro vs Wx A lst hA hB hls hX hno hpre K hK
    have e14 := ((hA 14).trans (show _ = vs 0 by kernel_rfl)).trans (by repeat first | exact hpre.1 rfl | replace hpre := hpre.2)
    obtain ⟨hxp, ⟨c0, c1, c2, c3⟩⟩ := HXK.out Wx hB
    obtain ⟨x0, x1, x2, x3, x4, x5⟩ := six hxp
    clear hxp
    clear hA hpre
    go_simp
    first | exact hK _ _ hB (by trivial) (fun _ _ h => h) hX | (rw [if_neg (by omega)]; go_simp; exact hK _ _ hB rfl (fun _ _ h => h) hX)
   ·intro vs Wx A lst hA hB hls hX hno hpre K hK
    have e3 := (hA 3).trans (show _ = Value.int .i64 (k : Nat) by kernel_rfl)
    clear hA hpre
    go_simp
    first | exact hK _ _ hB (by trivial) (fun _ _ h => h) hX | (rw [if_neg (by omega)]; go_simp; exact hK _ _ hB rfl (fun _ _ h => h) hX)
   ·intro vs Wx A lst hA hB hls hX hno hpre K hK
    have e1 := (hA 1).trans (show _ = Value.pointer (some ⟨p, 0, none⟩) by kernel_rfl)
    clear hA hpre
    go_simp
    first | exact hK _ _ hB (by trivial) (fun _ _ h => h) hX | (rw [if_neg (by omega)]; go_simp; exact hK _ _ hB rfl (fun _ _ h => h) hX)
   ·intro vs Wx A lst hA hB hls hX hno hpre K hK
    have e17 := ((hA 17).trans (show _ = vs 3 by kernel_rfl)).trans (by repeat first | exact hpre.1 rfl | replace hpre := hpre.2)
    obtain ⟨hxp, ⟨c0, c1, c2, c3⟩⟩ := HXK.out Wx hB
    obtain ⟨x0, x1, x2, x3, x4, x5⟩ := six hxp
    clear hxp
    clear hA hpre
    go_simp
    first | exact hK _ _ hB (by trivial) (fun _ _ h => h) hX | (rw [if_neg (by omega)]; go_simp; exact hK _ _ hB rfl (fun _ _ h => h) hX)
   ·intro vs Wx A lst hA hB hls hX hno hpre K hK
    have e3 := (hA 3).trans (show _ = Value.int .i64 (k : Nat) by kernel_rfl)
    clear hA hpre
    go_simp
    first | exact hK _ _ hB (by trivial) (fun _ _ h => h) hX | (rw [if_neg (by omega)]; go_simp; exact hK _ _ hB rfl (fun _ _ h => h) hX)
   ·intro vs Wx A lst hA hB hls hX hno hpre K hK
    have e18 := ((hA 18).trans (show _ = vs 4 by kernel_rfl)).trans (by repeat first | exact hpre.1 rfl | replace hpre := hpre.2)
    have e19 := ((hA 19).trans (show _ = vs 5 by kernel_rfl)).trans (by repeat first | exact hpre.1 rfl | replace hpre := hpre.2)
    clear hA hpre
    go_simp
    first | exact hK _ _ hB (by trivial) (fun _ _ h => h) hX | (rw [if_neg (by omega)]; go_simp; exact hK _ _ hB rfl (fun _ _ h => h) hX)
   ·intro vs Wx A lst hA hB hls hX hno hpre K hK
    have e20 := ((hA 20).trans (show _ = vs 6 by kernel_rfl)).trans (by repeat first | exact hpre.1 rfl | replace hpre := hpre.2)
    clear hA hpre
    go_simp
    first | exact hK _ _ hB (by trivial) (fun _ _ h => h) hX | (rw [if_neg (by omega)]; go_simp; exact hK _ _ hB rfl (fun _ _ h => h) hX)
   ·intro vs Wx A lst hA hB hls hX hno hpre K hK
    have e21 := ((hA 21).trans (show _ = vs 7 by kernel_rfl)).trans (by repeat first | exact hpre.1 rfl | replace hpre := hpre.2)
    obtain ⟨hxp, ⟨c0, c1, c2, c3⟩⟩ := HXK.out Wx hB
    obtain ⟨x0, x1, x2, x3, x4, x5⟩ := six hxp
    clear hxp
    clear hA hpre
    go_simp
    first | exact hK _ _ hB (by trivial) (fun _ _ h => h) hX | (rw [if_neg (by omega)]; go_simp; exact hK _ _ hB rfl (fun _ _ h => h) hX)
   ·intro vs Wx A lst hA hB hls hX hno hpre K hK
    have e22 := ((hA 22).trans (show _ = vs 8 by kernel_rfl)).trans (by repeat first | exact hpre.1 rfl | replace hpre := hpre.2)
    clear hA hpre
    go_simp
    go_at_call 52
    refine (HKY.out Wx hB).mono ?_
    rintro e w3 ⟨v', rfl, ho, hb⟩
    refine hK _ _ (below_trans hB hb) (ownK_base ho hB.size) (fun jz hj hz => ?_) hX
    match jz, hj, hz with
    | 0, _, hz => exact hz
    | 1, _, hz => exact hz
    | 2, _, hz => exact hz
    | 3, _, hz => exact hz
    | 4, _, hz => exact hz
    | 5, _, hz => exact hz
    | 6, _, hz => exact hz
    | 7, _, hz => exact hz
    | 8, _, hz => exact hz
    | 9, hj, _ => exact absurd rfl hj
    | n + 10, _, hz => exact hz
   ·intro vs Wx lst hall hX hB hF
    refine fun A10 hA K10 hK10 => ?_
    have e15 := ((hA 15).trans (show _ = vs 1 by kernel_rfl)).trans (hF 1 (by decide))
    have e16 := ((hA 16).trans (show _ = vs 2 by kernel_rfl)).trans (hF 2 (by decide))
    clear hA
    go_simp
    refine hK10 _ _ ?_
    refine fun A11 hA K11 hK11 => ?_
    have e24 := (hA 24).trans (show _ = Value.pointer (some ⟨g, k * 4, none⟩) by kernel_rfl)
    clear hA
    go_simp
    refine hK11 _ _ ?_
    refine fun A12 hA K12 hK12 => ?_
    have e25 := (hA 25).trans (show _ = Value.pointer (some ⟨g, k * 4 + 3, none⟩) by kernel_rfl)
    have e23 := (hA 23).trans (show _ = vs 9 by kernel_rfl)
    clear hA
    have h9 : OwnK wo.heap.size Wx (vs 9) y.s.cas := hF 9 (by decide)
    obtain ⟨ua, uc', e9, -, -⟩ := ownK_form h9
    rw [e9] at e23 h9
    have ho1 := ownS_grw HO.out hB
    obtain ⟨g2, c2, e2, -, -, hcl2, -, -, fz⟩ := ownS_at ho1 k _ HAT.out
    rw [HLN.out, hLl] at e2
    simp only [Value.slice.injEq, Option.some.injEq, Addr.mk.injEq, and_true, true_and] at e2
    obtain ⟨rfl, rfl⟩ := e2
    obtain ⟨d0, d1, d2, d3⟩ := hcl2
    rw [HYMe.out] at d3
    have HO2 : Hid (OwnS (p + 2) (Wx.setCell ⟨g, k * 4 + 3, none⟩ (.slice ua y.s.cas.length uc')) (.slice (some ⟨g, 0, none⟩) x.svs.length uc) ((N ++ [(⟨y.s, .slice ua y.s.cas.length uc'⟩ : Sx)]) ++ L.drop (k + 1))) := by
     have h1 := ownS_putm (by rw [HLN.out, hLl]; exact ho1) k _ HAT.out (.slice ua y.s.cas.length uc')
     rw [HLN.out, hLl, HST.out] at h1
     exact h1
    have HX7 : Hid ((Wx.setCell ⟨g, k * 4 + 3, none⟩ (.slice ua y.s.cas.length uc')).heap[p]? = some (.cells (#[.string (mk x.id), .int .i64 x.st, .int .i64 x.bi, .int .i64 x.paid, .int .i64 x.mem, (.slice (some ⟨g, 0, none⟩) x.svs.length uc)] : Array Value) 38 (0, 0))) := by have h1 := HGP.out; exact heap_far (keepB HX.out hB) (by omega)
    have HY7 : Hid ((Wx.setCell ⟨g, k * 4 + 3, none⟩ (.slice ua y.s.cas.length uc')).heap[p + 1]? = some (.cells (#[.string { data := #[] }, .int .i64 0, .int .i64 0, .int .i64 0, .int .i64 0, .slice none 0 0] : Array Value) 38 (0, 0))) := by have h1 := HGP.out; exact heap_far (keepB HY.out hB) (by omega)
    have HB7 : Hid (Below p w (Wx.setCell ⟨g, k * 4 + 3, none⟩ (.slice ua y.s.cas.length uc'))) := (HCB.out Wx hB).setCell (p := ⟨g, k * 4 + 3, none⟩) (by have h1 := HGP.out; show p ≤ g; omega) _
    have HS7 : Hid (p + 2 ≤ (Wx.setCell ⟨g, k * 4 + 3, none⟩ (.slice ua y.s.cas.length uc')).heap.size) := by show _ ≤ _; have h1 := HS.out; have h2 := hB.size; simp; omega
    have HN7 : Hid (∀ z ∈ N ++ [(⟨y.s, .slice ua y.s.cas.length uc'⟩ : Sx)], CasAt (fun b => p + 2 ≤ b ∧ (Value.slice (some ⟨g, 0, none⟩) x.svs.length uc).ownBlock ≠ some b) (Wx.setCell ⟨g, k * 4 + 3, none⟩ (.slice ua y.s.cas.length uc')) z.m z.s.cas) := fun z hz => by
     have hgl := HGL.out
     have hs := HS.out
     rcases List.mem_append.1 hz with hz | hz
     ·exact ((HNc.out z hz).move (K' := fun b => p + 2 ≤ b ∧ (Value.slice (some ⟨g, 0, none⟩) x.svs.length uc).ownBlock ≠ some b) (w' := Wx) ⟨hB.size, fun b hb hk => ⟨hk, hB.block b hb⟩⟩).move ⟨by simp, fun b hb hk => ⟨hk, Below.heap_setCell _ _ _ _ (fun e => hk.2 (by rw [e]; rfl))⟩⟩
     ·simp only [List.mem_singleton] at hz
      subst hz
      have hc8 := cas_of_own (K := fun b => wo.heap.size ≤ b) h9 fun b hb => hb
      exact hc8.move ⟨by simp, fun b hb hk => ⟨⟨by omega, fun e => by simp [Value.ownBlock] at e; omega⟩, Below.heap_setCell _ _ _ _ (show b ≠ g by omega)⟩⟩
    clear ho1 h9
    go_simp
    refine hK12 undef _ ?_
    clear d0 d1 d2 d3 fz
    clear hX hall hF hB
    simp only [Ri.Tail, Ri.puts]
    go_simp
    generalize (Wx.setCell ⟨g, k * 4 + 3, none⟩ (.slice ua y.s.cas.length uc')) = W7 at *
    go_wp2
    go_roundg (x.svs.length - (k + 1))
    case measure => omega
    case rel => exact ⟨k + 1, _, by omega, rfl, by first | rfl | go_num, by rw [List.length_append, hN]; rfl, HMN.out _, HO2.out, HN7.out, HX7.out, HY7.out, HB7.out, HS7.out⟩
  ·have hltz : ¬ (k : Int) < (x.svs.length : Int) := by omega
   have HFI : Hid (SvsAt (fun b => p ≤ b ∧ b ≠ p + 1) wr (.slice u x.svs.length uc) x.svs) := by
    have hk2 : L.length ≤ k := by omega
    have h1 := HO.out
    rw [List.drop_eq_nil_of_le hk2, List.append_nil] at h1
    have h2 := HNm.out
    rw [List.take_of_length_le (by rw [List.length_map]; omega), HLS.out] at h2
    have h3 := (FullS.at (B := p + 2) (w := wr) (v := (.slice u x.svs.length uc)) (L := N) ⟨h1, fun y hy => (HNc.out y hy).move (moves_weak wr fun b _ hb => ⟨by simpa using hb.2, hb.1⟩)⟩)
    rw [h2] at h3
    exact h3.move (moves_weak wr fun b _ hb => ⟨by omega, by omega⟩)
   obtain ⟨y0, y1, y2, y3, y4, y5⟩ := six HY.out
   obtain ⟨k0, k1, k2, k3, k4, k5⟩ := frz6 HY.out
   go_wp2
   have HYF := Lib.hid (put6_heap HY.out (.string (mk x.id)) (.int .i64 x.st) (.int .i64 x.bi) (.int .i64 x.paid) (.int .i64 x.mem) (.slice u x.svs.length uc))
   have HBF : Hid (Below p w ((((((wr.setCell ⟨(p + 1), 0, none⟩ (.string (mk x.id))).setCell ⟨(p + 1), 1, none⟩ (.int .i64 x.st)).setCell ⟨(p + 1), 2, none⟩ (.int .i64 x.bi)).setCell ⟨(p + 1), 3, none⟩ (.int .i64 x.paid)).setCell ⟨(p + 1), 4, none⟩ (.int .i64 x.mem)).setCell ⟨(p + 1), 5, none⟩ (.slice u x.svs.length uc))) := put6_below HB.out (p + 1) (by omega) (.string (mk x.id)) (.int .i64 x.st) (.int .i64 x.bi) (.int .i64 x.paid) (.int .i64 x.mem) (.slice u x.svs.length uc)
   have HSF : Hid (SvsAt (fun b => p ≤ b ∧ b ≠ p + 1) ((((((wr.setCell ⟨(p + 1), 0, none⟩ (.string (mk x.id))).setCell ⟨(p + 1), 1, none⟩ (.int .i64 x.st)).setCell ⟨(p + 1), 2, none⟩ (.int .i64 x.bi)).setCell ⟨(p + 1), 3, none⟩ (.int .i64 x.paid)).setCell ⟨(p + 1), 4, none⟩ (.int .i64 x.mem)).setCell ⟨(p + 1), 5, none⟩ (.slice u x.svs.length uc)) (.slice u x.svs.length uc) x.svs) := HFI.out.move ⟨by simp, fun b hb hk => ⟨hk, put6_keep hk.2 (.string (mk x.id)) (.int .i64 x.st) (.int .i64 x.bi) (.int .i64 x.paid) (.int .i64 x.mem) (.slice u x.svs.length uc)⟩⟩
   generalize ((((((wr.setCell ⟨(p + 1), 0, none⟩ (.string (mk x.id))).setCell ⟨(p + 1), 1, none⟩ (.int .i64 x.st)).setCell ⟨(p + 1), 2, none⟩ (.int .i64 x.bi)).setCell ⟨(p + 1), 3, none⟩ (.int .i64 x.paid)).setCell ⟨(p + 1), 4, none⟩ (.int .i64 x.mem)).setCell ⟨(p + 1), 5, none⟩ (.slice u x.svs.length uc)) = WF at *
   obtain ⟨n0, n1, n2, n3, n4, n5⟩ := six HYF.out
   refine bodyPost_ret (v := .agg (#[.string (mk x.id), .int .i64 x.st, .int .i64 x.bi, .int .i64 x.paid, .int .i64 x.mem, (.slice u x.svs.length uc)] : Array Value)) (by simp [results, Try.results37, go_sem, n0, n1, n2, n3, n4, n5]) rfl ?_
   exact ⟨⟨(.slice u x.svs.length uc), rfl, by first | exact HSF.out.move (moves_weak WF fun b _ hb => hb.1) | (rw [hp]; exact HSF.out.move (moves_weak WF fun b _ hb => hb.1))⟩, by first | exact HBF.out | (rw [hp]; exact HBF.out)⟩
end Go.Proofs.Ytpfpjbeofogbgaa.Re
end
