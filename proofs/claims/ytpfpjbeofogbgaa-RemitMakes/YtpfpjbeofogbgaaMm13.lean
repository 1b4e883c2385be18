/-
  Texts put together (merge.py): VBack.
-/
import Derived.Test.YtpfpjbeofogbgaaMm5
import Derived.Test.YtpfpjbeofogbgaaMm11
import Derived.Test.YtpfpjbeofogbgaaMm12
set_option linter.unusedSimpArgs false
set_option linter.unusedVariables false
section
set_option maxRecDepth 100000
namespace Go.Proofs.Ytpfpjbeofogbgaa.Sv
open Go.RowKit
open Bk (keepB below_alloc below_trans alloc_new heap_set heap_far)
def svcO (s : Sr) : Sr := ⟨s.proc, opp s.bi, opp s.paid, s.cas.map casO⟩
def backO (x : Cp) : Cp := ⟨x.id, 22, opp x.bi, opp x.paid, opp x.mem, x.svs.map svcO⟩
theorem opp_neg {n : Int} (h : n ≠ -9223372036854775808) : opp n = -n := if_neg h
theorem backO_eq {x : Cp} (h : x.bi ≠ -9223372036854775808 ∧ x.paid ≠ -9223372036854775808 ∧ x.mem ≠ -9223372036854775808 ∧ ∀ s ∈ x.svs, s.bi ≠ -9223372036854775808 ∧ s.paid ≠ -9223372036854775808 ∧ ∀ c ∈ s.cas, c.ct ≠ -9223372036854775808) : backO x = back x := by
 obtain ⟨h1, h2, h3, h4⟩ := h
 unfold backO back
 rw [opp_neg h1, opp_neg h2, opp_neg h3]
 congr 1
 refine List.map_congr_left fun s hs => ?_
 obtain ⟨g1, g2, g3⟩ := h4 s hs
 unfold svcO svcN
 rw [opp_neg g1, opp_neg g2]
 congr 1
 refine List.map_congr_left fun c hc => ?_
 unfold casO casN
 rw [opp_neg (g3 c hc)]
theorem scs_put1 (l : List Sx) (i : Nat) (x : Sx) (h : l[i]? = some x) (y : Int) : scs (l.set i ⟨⟨x.s.proc, y, x.s.paid, x.s.cas⟩, x.m⟩) = (scs l).set (i * 4 + 1) (.int .i64 y) := by
 induction l generalizing i with
 | nil => simp at h
 | cons a r ih =>
  cases i with
  | zero => simp at h; subst h; rfl
  | succ i =>
   have e := ih i (by simpa using h)
   rw [show (i + 1) * 4 + 1 = (i * 4 + 1) + 1 + 1 + 1 + 1 by omega]
   simp only [List.set_cons_succ, scs]
   rw [e]
theorem ownS_put1 {B : Nat} {w : World} {g c : Nat} {l : List Sx} (h : OwnS B w (.slice (some ⟨g, 0, none⟩) l.length c) l) (i : Nat) (x : Sx) (hx : l[i]? = some x) (y : Int) : OwnS B (w.setCell ⟨g, i * 4 + 1, none⟩ (.int .i64 y)) (.slice (some ⟨g, 0, none⟩) l.length c) (l.set i ⟨⟨x.s.proc, y, x.s.paid, x.s.cas⟩, x.m⟩) := by
 obtain ⟨hl, h⟩ := h
 rcases h with ⟨e, h0⟩ | ⟨g', cap, cur, e, hbg, hg, h1, h2, hs, ht⟩
 ·cases e
 ·simp only [Value.slice.injEq, Option.some.injEq, Addr.mk.injEq, and_true, true_and] at e
  obtain ⟨rfl, rfl⟩ := e
  refine ⟨by rw [scs_len, List.length_set], Or.inr ⟨g, c, cur.setIfInBounds (i * 4 + 1) (.int .i64 y), by rw [List.length_set], hbg, ?_, by rw [List.length_set]; exact h1, h2, by simpa using hs, ?_⟩⟩
  ·simp [World.setCell, Array.getElem?_modify, hg]
  ·rw [scs_put1 l i x hx y, List.length_set, ← ht, Array.toList_setIfInBounds, List.take_set]
theorem scs_put2 (l : List Sx) (i : Nat) (x : Sx) (h : l[i]? = some x) (y : Int) : scs (l.set i ⟨⟨x.s.proc, x.s.bi, y, x.s.cas⟩, x.m⟩) = (scs l).set (i * 4 + 2) (.int .i64 y) := by
 induction l generalizing i with
 | nil => simp at h
 | cons a r ih =>
  cases i with
  | zero => simp at h; subst h; rfl
  | succ i =>
   have e := ih i (by simpa using h)
   rw [show (i + 1) * 4 + 2 = (i * 4 + 2) + 1 + 1 + 1 + 1 by omega]
   simp only [List.set_cons_succ, scs]
   rw [e]
theorem ownS_put2 {B : Nat} {w : World} {g c : Nat} {l : List Sx} (h : OwnS B w (.slice (some ⟨g, 0, none⟩) l.length c) l) (i : Nat) (x : Sx) (hx : l[i]? = some x) (y : Int) : OwnS B (w.setCell ⟨g, i * 4 + 2, none⟩ (.int .i64 y)) (.slice (some ⟨g, 0, none⟩) l.length c) (l.set i ⟨⟨x.s.proc, x.s.bi, y, x.s.cas⟩, x.m⟩) := by
 obtain ⟨hl, h⟩ := h
 rcases h with ⟨e, h0⟩ | ⟨g', cap, cur, e, hbg, hg, h1, h2, hs, ht⟩
 ·cases e
 ·simp only [Value.slice.injEq, Option.some.injEq, Addr.mk.injEq, and_true, true_and] at e
  obtain ⟨rfl, rfl⟩ := e
  refine ⟨by rw [scs_len, List.length_set], Or.inr ⟨g, c, cur.setIfInBounds (i * 4 + 2) (.int .i64 y), by rw [List.length_set], hbg, ?_, by rw [List.length_set]; exact h1, h2, by simpa using hs, ?_⟩⟩
  ·simp [World.setCell, Array.getElem?_modify, hg]
  ·rw [scs_put2 l i x hx y, List.length_set, ← ht, Array.toList_setIfInBounds, List.take_set]
theorem scs_put3 (l : List Sx) (i : Nat) (x : Sx) (h : l[i]? = some x) (y : Value) : scs (l.set i ⟨⟨x.s.proc, x.s.bi, x.s.paid, x.s.cas.map casO⟩, y⟩) = (scs l).set (i * 4 + 3) (y) := by
 induction l generalizing i with
 | nil => simp at h
 | cons a r ih =>
  cases i with
  | zero => simp at h; subst h; rfl
  | succ i =>
   have e := ih i (by simpa using h)
   rw [show (i + 1) * 4 + 3 = (i * 4 + 3) + 1 + 1 + 1 + 1 by omega]
   simp only [List.set_cons_succ, scs]
   rw [e]
theorem ownS_put3 {B : Nat} {w : World} {g c : Nat} {l : List Sx} (h : OwnS B w (.slice (some ⟨g, 0, none⟩) l.length c) l) (i : Nat) (x : Sx) (hx : l[i]? = some x) (y : Value) : OwnS B (w.setCell ⟨g, i * 4 + 3, none⟩ (y)) (.slice (some ⟨g, 0, none⟩) l.length c) (l.set i ⟨⟨x.s.proc, x.s.bi, x.s.paid, x.s.cas.map casO⟩, y⟩) := by
 obtain ⟨hl, h⟩ := h
 rcases h with ⟨e, h0⟩ | ⟨g', cap, cur, e, hbg, hg, h1, h2, hs, ht⟩
 ·cases e
 ·simp only [Value.slice.injEq, Option.some.injEq, Addr.mk.injEq, and_true, true_and] at e
  obtain ⟨rfl, rfl⟩ := e
  refine ⟨by rw [scs_len, List.length_set], Or.inr ⟨g, c, cur.setIfInBounds (i * 4 + 3) (y), by rw [List.length_set], hbg, ?_, by rw [List.length_set]; exact h1, h2, by simpa using hs, ?_⟩⟩
  ·simp [World.setCell, Array.getElem?_modify, hg]
  ·rw [scs_put3 l i x hx y, List.length_set, ← ht, Array.toList_setIfInBounds, List.take_set]
theorem ownS_at {B : Nat} {w : World} {v : Value} {l : List Sx} (h : OwnS B w v l) (i : Nat) (x : Sx) (hx : l[i]? = some x) : ∃ g c, v = .slice (some ⟨g, 0, none⟩) l.length c ∧ B ≤ g ∧ g < w.heap.size ∧ SrCells w g (i * 4) x.s x.m ∧ (w.frozen? ⟨g, i * 4 + 1, none⟩ = false ∧ w.frozen? ⟨g, i * 4 + 2, none⟩ = false ∧ w.frozen? ⟨g, i * 4 + 3, none⟩ = false) := by
 have hil := (List.getElem?_eq_some_iff.1 hx).1
 obtain ⟨hl, h⟩ := h
 rcases h with ⟨rfl, h0⟩ | ⟨g, cap, cur, rfl, hbg, hg, h1, h2, hs, ht⟩
 ·omega
 ·have e : ∀ j, j < 4 → w.cell? ⟨g, i * 4 + j, none⟩ = (sc x)[j]? := fun j hj => by
   have q := scs_at l i x hx j hj
   rw [← ht, List.getElem?_take, if_pos (by omega)] at q
   rw [cell_of_row w g _ cur _ (0, 0) hg]
   simpa using q
  exact ⟨g, cap, rfl, hbg, (Array.getElem?_eq_some_iff.1 hg).1, ⟨e 0 (by omega), e 1 (by omega), e 2 (by omega), e 3 (by omega)⟩, by simp [World.frozen?, hg], by simp [World.frozen?, hg], by simp [World.frozen?, hg]⟩
theorem ownS_of {B : Nat} {w w' : World} {g c n : Nat} {l : List Sx} (h : OwnS B w (.slice (some ⟨g, 0, none⟩) n c) l) (he : w'.heap[g]? = w.heap[g]?) : OwnS B w' (.slice (some ⟨g, 0, none⟩) n c) l := by
 obtain ⟨hl, h⟩ := h
 rcases h with ⟨e, h0⟩ | ⟨g', cap, cur, e, hbg, hg, hr⟩
 ·cases e
 ·simp only [Value.slice.injEq, Option.some.injEq, Addr.mk.injEq, and_true, true_and] at e
  obtain ⟨rfl, rfl, rfl⟩ := e
  exact ⟨hl, Or.inr ⟨g, c, cur, rfl, hbg, he.trans hg, hr⟩⟩
theorem ownS_grw {B : Nat} {w w' : World} {v : Value} {l : List Sx} (h : OwnS B w v l) (hb : Below w.heap.size w w') : OwnS B w' v l := by
 refine ⟨h.1, h.2.imp id ?_⟩
 rintro ⟨g, c, cur, rfl, h0, hh, hr⟩
 exact ⟨g, c, cur, rfl, h0, keepB hh hb, hr⟩
theorem set_same {w w' : World} {g i : Nat} {v : Value} (h : w'.heap[g]? = w.heap[g]?) : (w'.setCell ⟨g, i, none⟩ v).heap[g]? = (w.setCell ⟨g, i, none⟩ v).heap[g]? := by
 simp [World.setCell, Array.getElem?_modify, h]
theorem svs_sx {w : World} {v : Value} {l : List Sr} (h : SvsAt All w v l) : ∃ L : List Sx, L.map (·.s) = l ∧ SxAt w v L ∧ (∀ x ∈ L, Sl x) ∧ ∀ x ∈ L, CasAt All w x.m x.s.cas := by
 obtain ⟨a, c, rfl, h1, h2, h3⟩ := h
 rcases h3 with rfl | ⟨b, o, rfl, -, hb, hc⟩
 ·exact ⟨[], rfl, ⟨a, c, rfl, h1, h2, Or.inl rfl⟩, by simp, by simp⟩
 ·obtain ⟨M, hM⟩ := Deep.choose_lt (α := Value) (n := l.length) (p := fun j m => ∀ x, l[j]? = some x → SrCells w b (o + j * 4) x m ∧ CasAt All w m x.cas) (fun j hj => by
   obtain ⟨m, q1, q2⟩ := hc j _ (List.getElem?_eq_getElem hj)
   exact ⟨m, fun x hx => by rw [List.getElem?_eq_getElem hj] at hx; obtain rfl := Option.some.inj hx; exact ⟨q1, q2⟩⟩)
  have hat : ∀ (j : Nat) (x : Sx), (l.mapIdx fun j s => (⟨s, M j⟩ : Sx))[j]? = some x → ∃ s, l[j]? = some s ∧ x = ⟨s, M j⟩ := fun j x hj => by
   rw [List.getElem?_mapIdx] at hj
   obtain ⟨s, h, rfl⟩ := Option.map_eq_some_iff.1 hj
   exact ⟨s, h, rfl⟩
  have hmem : ∀ x ∈ (l.mapIdx fun j s => (⟨s, M j⟩ : Sx)), CasAt All w x.m x.s.cas := fun x hx => by
   obtain ⟨j, hj⟩ := List.mem_iff_getElem?.1 hx
   obtain ⟨s, h, rfl⟩ := hat j x hj
   exact (hM j (List.getElem?_eq_some_iff.1 h).1 s h).2
  refine ⟨l.mapIdx fun j s => ⟨s, M j⟩, ?_, ⟨_, c, ?_, ?_, h2, Or.inr ⟨b, o, rfl, fun j x hj => ?_⟩⟩, fun x hx => (hmem x hx).sl, hmem⟩
  ·apply List.ext_getElem?
   intro j
   rw [List.getElem?_map, List.getElem?_mapIdx]
   cases l[j]? <;> rfl
  ·rw [List.length_mapIdx]
  ·rw [List.length_mapIdx]; exact h1
  ·obtain ⟨s, h, rfl⟩ := hat j x hj
   exact (hM j (List.getElem?_eq_some_iff.1 h).1 s h).1
theorem app_at (N L : List Sx) (k : Nat) (hN : N.length = k) (hk : k < L.length) : (N ++ L.drop k)[k]? = some L[k] := by
 rw [List.getElem?_append_right (by omega), hN, Nat.sub_self, List.drop_eq_getElem_cons hk]; rfl
theorem app_set (N L : List Sx) (k : Nat) (hN : N.length = k) (hk : k < L.length) (y : Sx) : (N ++ L.drop k).set k y = (N ++ [y]) ++ L.drop (k + 1) := by
 rw [List.set_append_right _ _ (by omega), hN, Nat.sub_self, List.drop_eq_getElem_cons hk, List.set_cons_zero, List.append_assoc]; rfl
theorem app_len (N L : List Sx) (k : Nat) (hN : N.length = k) (hk : k ≤ L.length) : (N ++ L.drop k).length = L.length := by simp; omega
set_option maxHeartbeats 16000000 in
theorem back_any (x : Cp) (m : Value) (w : World) (hm : SvsAt All w m x.svs) (hz : CpOk x) (hl : x.svs.length ≤ 1000000) (hlc : ∀ s ∈ x.svs, s.cas.length ≤ 1000000) :
  Calls Try.prog 48 #[cpv x m] w fun e w' => (∃ u, e = .returned (cpv (backO x) u) ∧ SvsAt (fun b => w.heap.size ≤ b) w' u (backO x).svs) ∧ Below w.heap.size w w' := by
 obtain ⟨z0, z1, z2, z3, z4, z5, z6⟩ := hz
 obtain ⟨am, cm, rfl, f1, f2⟩ := hm.form
 obtain ⟨L, hLs, hLx, hSl, hLc⟩ := svs_sx hm
 have hLl : L.length = x.svs.length := by rw [← hLs, List.length_map]
 have hb0 : Below w.heap.size w ((w.alloc (.cells (#[.string (mk x.id), .int .i64 x.st, .int .i64 x.bi, .int .i64 x.paid, .int .i64 x.mem, (.slice am x.svs.length cm)] : Array Value) 38)).alloc (.cells (#[.string { data := #[] }, .int .i64 0, .int .i64 0, .int .i64 0, .int .i64 0, .slice none 0 0] : Array Value) 38)) := below_trans (below_alloc w _) (below_alloc _ _)
 have HB := Lib.hid hb0
 have HX := Lib.hid (keepB (alloc_new w (#[.string (mk x.id), .int .i64 x.st, .int .i64 x.bi, .int .i64 x.paid, .int .i64 x.mem, (.slice am x.svs.length cm)] : Array Value) 38) (below_alloc _ (.cells (#[.string { data := #[] }, .int .i64 0, .int .i64 0, .int .i64 0, .int .i64 0, .slice none 0 0] : Array Value) 38)))
 have HY := Lib.hid (alloc_new (w.alloc (.cells (#[.string (mk x.id), .int .i64 x.st, .int .i64 x.bi, .int .i64 x.paid, .int .i64 x.mem, (.slice am x.svs.length cm)] : Array Value) 38)) (#[.string { data := #[] }, .int .i64 0, .int .i64 0, .int .i64 0, .int .i64 0, .slice none 0 0] : Array Value) 38)
 rw [show (w.alloc (.cells (#[.string (mk x.id), .int .i64 x.st, .int .i64 x.bi, .int .i64 x.paid, .int .i64 x.mem, (.slice am x.svs.length cm)] : Array Value) 38)).heap.size = w.heap.size + 1 by simp] at HY
 have HS0 : Hid (w.heap.size + 2 ≤ ((w.alloc (.cells (#[.string (mk x.id), .int .i64 x.st, .int .i64 x.bi, .int .i64 x.paid, .int .i64 x.mem, (.slice am x.svs.length cm)] : Array Value) 38)).alloc (.cells (#[.string { data := #[] }, .int .i64 0, .int .i64 0, .int .i64 0, .int .i64 0, .slice none 0 0] : Array Value) 38)).heap.size) := by show _ ≤ _; simp
 have HLX : Hid (∀ W, Below w.heap.size w W → SxAt W (.slice am x.svs.length cm) L) := fun W hW => by
  obtain ⟨a, c, e, h1, h2, h3⟩ := hLx
  refine ⟨a, c, e, h1, h2, h3.imp id ?_⟩
  rintro ⟨b, o, e2, hc⟩
  exact ⟨b, o, e2, fun j x hj => (hc j x hj).of (hW.block b (World.block_lt_of_cell? w _ (hc j x hj).1))⟩
 have HLC : Hid (∀ W, Below w.heap.size w W → ∀ y ∈ L, CasAt All W y.m y.s.cas) := fun W hW y hy => (hLc y hy).grw hW
 have HSl := Lib.hid hSl
 have HO1 := Lib.hid fun W => opp_any x.bi W z1
 have HO2 := Lib.hid fun W => opp_any x.paid W z2
 have HO3 := Lib.hid fun W => opp_any x.mem W z3
 have HOK : Hid (∀ y ∈ L, I64 y.s.bi ∧ I64 y.s.paid ∧ (∀ c ∈ y.s.cas, I64 c.ct) ∧ y.s.cas.length ≤ 1000000) := fun y hy => by
  have hs : y.s ∈ x.svs := by rw [← hLs]; exact List.mem_map.2 ⟨y, hy, rfl⟩
  obtain ⟨a, b, c, d⟩ := z6 _ hs
  exact ⟨a, b, c, hlc _ hs⟩
 have HLS := Lib.hid hLs
 clear hm hLx hSl hLc hLs hb0 z0 z1 z2 z3 z4 z5 z6 hlc
 go_enter Try.func48, Try.ntmps48
 go_upto_region 1 with fail
 generalize ((w.alloc (.cells (#[.string (mk x.id), .int .i64 x.st, .int .i64 x.bi, .int .i64 x.paid, .int .i64 x.mem, (.slice am x.svs.length cm)] : Array Value) 38)).alloc (.cells (#[.string { data := #[] }, .int .i64 0, .int .i64 0, .int .i64 0, .int .i64 0, .slice none 0 0] : Array Value) 38)) = W at *
 generalize hp : w.heap.size = p at *
 obtain ⟨x0, x1, x2, x3, x4, x5⟩ := six HX.out
 obtain ⟨k0, k1, k2, k3, k4, k5⟩ := frz6 HX.out
 go_upto_region 2 with fail
 have HX1 : Hid ((W.setCell ⟨p, 1, none⟩ (.int .i64 22)).heap[p]? = some (.cells (#[.string (mk x.id), .int .i64 22, .int .i64 x.bi, .int .i64 x.paid, .int .i64 x.mem, (.slice am x.svs.length cm)] : Array Value) 38 (0, 0))) := by
  have := heap_set HX.out 1 (.int .i64 22)
  show _ = _
  rw [this]; rfl
 have HY1 : Hid ((W.setCell ⟨p, 1, none⟩ (.int .i64 22)).heap[p + 1]? = some (.cells (#[.string { data := #[] }, .int .i64 0, .int .i64 0, .int .i64 0, .int .i64 0, .slice none 0 0] : Array Value) 38 (0, 0))) := heap_far HY.out (by omega)
 have HB1 : Hid (Below p w (W.setCell ⟨p, 1, none⟩ (.int .i64 22))) := HB.out.setCell (p := ⟨p, 1, none⟩) (Nat.le_refl p) _
 have HS1 : Hid (p + 2 ≤ (W.setCell ⟨p, 1, none⟩ (.int .i64 22)).heap.size) := by show _ ≤ _; have := HS0.out; simpa using this
 clear x0 x1 x2 x3 x4 x5 k0 k1 k2 k3 k4 k5 HX HY HB HS0
 generalize W.setCell ⟨p, 1, none⟩ (.int .i64 22) = W1 at *
 have HD := Lib.hid (Below.drew (Below.refl W1.heap.size W1))
 have HX2 : Hid (∀ W', Below W1.heap.size W1 W' → W'.heap[p]? = some (.cells (#[.string (mk x.id), .int .i64 22, .int .i64 x.bi, .int .i64 x.paid, .int .i64 x.mem, (.slice am x.svs.length cm)] : Array Value) 38 (0, 0))) := fun W' hW => keepB HX1.out hW
 refine Ri.wp_region_tail 10 (by kernel_rfl) (by kernel_rfl) (by kernel_rfl) (by decide) (by kernel_rfl) (fun Wx => Below W1.heap.size W1 Wx) (fun kz vs wz => (fun kx vx wx => match kx with | 0 => vx = .pointer (some ⟨p, 2, none⟩) | 1 => vx = .int .i64 x.bi | 2 => vx = .int .i64 (opp x.bi) | 3 => vx = .pointer (some ⟨p, 3, none⟩) | 4 => vx = .int .i64 x.paid | 5 => vx = .int .i64 (opp x.paid) | 6 => vx = .pointer (some ⟨p, 4, none⟩) | 7 => vx = .int .i64 x.mem | 8 => vx = .int .i64 (opp x.mem) | 9 => vx = .pointer (some ⟨p, 2, none⟩) | _ => True : Nat → Value → World → Prop) kz (vs kz) wz) (fun kz => [kz]) (by kernel_rfl) (fun jz vs iz vz wz hiz hz => Ri.loc_own (F := (fun kx vx wx => match kx with | 0 => vx = .pointer (some ⟨p, 2, none⟩) | 1 => vx = .int .i64 x.bi | 2 => vx = .int .i64 (opp x.bi) | 3 => vx = .pointer (some ⟨p, 3, none⟩) | 4 => vx = .int .i64 x.paid | 5 => vx = .int .i64 (opp x.paid) | 6 => vx = .pointer (some ⟨p, 4, none⟩) | 7 => vx = .int .i64 x.mem | 8 => vx = .int .i64 (opp x.mem) | 9 => vx = .pointer (some ⟨p, 2, none⟩) | _ => True : Nat → Value → World → Prop)) jz vs iz vz wz hiz hz) HD.out ⟨⟨rfl, ?_⟩, ⟨rfl, ?_⟩, ⟨rfl, ?_⟩, ⟨rfl, ?_⟩, ⟨rfl, ?_⟩, ⟨rfl, ?_⟩, ⟨rfl, ?_⟩, ⟨rfl, ?_⟩, ⟨rfl, ?_⟩, ⟨rfl, ?_⟩, trivial⟩ ?_
 ·intro vs Wx A hA hB hpre K hK
  have e1 := (hA 1).trans (show _ = Value.pointer (some ⟨p, 0, none⟩) by kernel_rfl)
  clear hA hpre
  go_simp
  first | exact hK _ _ hB (by trivial) (fun _ _ h => h) | (rw [if_neg (by omega)]; go_simp; exact hK _ _ hB rfl (fun _ _ h => h))
 ·intro vs Wx A hA hB hpre K hK
  have e6 := ((hA 6).trans (show _ = vs 0 by kernel_rfl)).trans (by repeat first | exact hpre.1 rfl | replace hpre := hpre.2)
  obtain ⟨x0, x1, x2, x3, x4, x5⟩ := six (HX2.out Wx hB)
  clear hA hpre
  go_simp
  first | exact hK _ _ hB (by trivial) (fun _ _ h => h) | (rw [if_neg (by omega)]; go_simp; exact hK _ _ hB rfl (fun _ _ h => h))
 ·intro vs Wx A hA hB hpre K hK
  have e7 := ((hA 7).trans (show _ = vs 1 by kernel_rfl)).trans (by repeat first | exact hpre.1 rfl | replace hpre := hpre.2)
  clear hA hpre
  go_simp
  go_at_call 56
  refine (HO1.out Wx).mono ?_
  rintro e w3 ⟨rfl, hw⟩
  rw [hw]
  exact hK _ _ hB rfl (fun _ _ h => h)
 ·intro vs Wx A hA hB hpre K hK
  have e1 := (hA 1).trans (show _ = Value.pointer (some ⟨p, 0, none⟩) by kernel_rfl)
  clear hA hpre
  go_simp
  first | exact hK _ _ hB (by trivial) (fun _ _ h => h) | (rw [if_neg (by omega)]; go_simp; exact hK _ _ hB rfl (fun _ _ h => h))
 ·intro vs Wx A hA hB hpre K hK
  have e9 := ((hA 9).trans (show _ = vs 3 by kernel_rfl)).trans (by repeat first | exact hpre.1 rfl | replace hpre := hpre.2)
  obtain ⟨x0, x1, x2, x3, x4, x5⟩ := six (HX2.out Wx hB)
  clear hA hpre
  go_simp
  first | exact hK _ _ hB (by trivial) (fun _ _ h => h) | (rw [if_neg (by omega)]; go_simp; exact hK _ _ hB rfl (fun _ _ h => h))
 ·intro vs Wx A hA hB hpre K hK
  have e10 := ((hA 10).trans (show _ = vs 4 by kernel_rfl)).trans (by repeat first | exact hpre.1 rfl | replace hpre := hpre.2)
  clear hA hpre
  go_simp
  go_at_call 56
  refine (HO2.out Wx).mono ?_
  rintro e w3 ⟨rfl, hw⟩
  rw [hw]
  exact hK _ _ hB rfl (fun _ _ h => h)
 ·intro vs Wx A hA hB hpre K hK
  have e1 := (hA 1).trans (show _ = Value.pointer (some ⟨p, 0, none⟩) by kernel_rfl)
  clear hA hpre
  go_simp
  first | exact hK _ _ hB (by trivial) (fun _ _ h => h) | (rw [if_neg (by omega)]; go_simp; exact hK _ _ hB rfl (fun _ _ h => h))
 ·intro vs Wx A hA hB hpre K hK
  have e12 := ((hA 12).trans (show _ = vs 6 by kernel_rfl)).trans (by repeat first | exact hpre.1 rfl | replace hpre := hpre.2)
  obtain ⟨x0, x1, x2, x3, x4, x5⟩ := six (HX2.out Wx hB)
  clear hA hpre
  go_simp
  first | exact hK _ _ hB (by trivial) (fun _ _ h => h) | (rw [if_neg (by omega)]; go_simp; exact hK _ _ hB rfl (fun _ _ h => h))
 ·intro vs Wx A hA hB hpre K hK
  have e13 := ((hA 13).trans (show _ = vs 7 by kernel_rfl)).trans (by repeat first | exact hpre.1 rfl | replace hpre := hpre.2)
  clear hA hpre
  go_simp
  go_at_call 56
  refine (HO3.out Wx).mono ?_
  rintro e w3 ⟨rfl, hw⟩
  rw [hw]
  exact hK _ _ hB rfl (fun _ _ h => h)
 ·intro vs Wx A hA hB hpre K hK
  have e1 := (hA 1).trans (show _ = Value.pointer (some ⟨p, 0, none⟩) by kernel_rfl)
  clear hA hpre
  go_simp
  first | exact hK _ _ hB (by trivial) (fun _ _ h => h) | (rw [if_neg (by omega)]; go_simp; exact hK _ _ hB rfl (fun _ _ h => h))
 ·intro vs Wx hB hF
  refine fun A10 hA K10 hK10 => ?_
  have e15 := ((hA 15).trans (show _ = vs 9 by kernel_rfl)).trans (hF 9 (by decide))
  have e8 := ((hA 8).trans (show _ = vs 2 by kernel_rfl)).trans (hF 2 (by decide))
  clear hA
  have hxp := HX2.out Wx hB
  obtain ⟨x0, x1, x2, x3, x4, x5⟩ := six hxp
  obtain ⟨k0, k1, k2, k3, k4, k5⟩ := frz6 hxp
  have HXF : Hid ((((Wx.setCell ⟨p, 2, none⟩ (.int .i64 (opp x.bi))).setCell ⟨p, 3, none⟩ (.int .i64 (opp x.paid))).setCell ⟨p, 4, none⟩ (.int .i64 (opp x.mem))).heap[p]? = some (.cells (#[.string (mk x.id), .int .i64 22, .int .i64 (opp x.bi), .int .i64 (opp x.paid), .int .i64 (opp x.mem), (.slice am x.svs.length cm)] : Array Value) 38 (0, 0))) := put3_heap hxp _ _ _
  have HYF : Hid ((((Wx.setCell ⟨p, 2, none⟩ (.int .i64 (opp x.bi))).setCell ⟨p, 3, none⟩ (.int .i64 (opp x.paid))).setCell ⟨p, 4, none⟩ (.int .i64 (opp x.mem))).heap[p + 1]? = some (.cells (#[.string { data := #[] }, .int .i64 0, .int .i64 0, .int .i64 0, .int .i64 0, .slice none 0 0] : Array Value) 38 (0, 0))) := (put3_keep (show p + 1 ≠ p by omega) _ _ _).trans (keepB HY1.out hB)
  have HBF : Hid (Below p w (((Wx.setCell ⟨p, 2, none⟩ (.int .i64 (opp x.bi))).setCell ⟨p, 3, none⟩ (.int .i64 (opp x.paid))).setCell ⟨p, 4, none⟩ (.int .i64 (opp x.mem)))) := put3_below (HB1.out.trans (hB.mono (by have := HS1.out; omega))) p (Nat.le_refl p) _ _ _
  have HSF : Hid (p + 2 ≤ (((Wx.setCell ⟨p, 2, none⟩ (.int .i64 (opp x.bi))).setCell ⟨p, 3, none⟩ (.int .i64 (opp x.paid))).setCell ⟨p, 4, none⟩ (.int .i64 (opp x.mem))).heap.size) := by show _ ≤ _; have h1 := HS1.out; have h2 := hB.size; simp; omega
  clear hxp
  go_simp
  refine hK10 undef _ ?_
  refine fun A11 hA K11 hK11 => ?_
  have e1 := (hA 1).trans (show _ = Value.pointer (some ⟨p, 0, none⟩) by kernel_rfl)
  clear hA
  go_simp
  refine hK11 _ _ ?_
  refine fun A12 hA K12 hK12 => ?_
  have e16 := (hA 16).trans (show _ = Value.pointer (some ⟨p, 3, none⟩) by kernel_rfl)
  have e11 := ((hA 11).trans (show _ = vs 5 by kernel_rfl)).trans (hF 5 (by decide))
  clear hA
  go_simp
  refine hK12 undef _ ?_
  refine fun A13 hA K13 hK13 => ?_
  have e1 := (hA 1).trans (show _ = Value.pointer (some ⟨p, 0, none⟩) by kernel_rfl)
  clear hA
  go_simp
  refine hK13 _ _ ?_
  refine fun A14 hA K14 hK14 => ?_
  have e17 := (hA 17).trans (show _ = Value.pointer (some ⟨p, 4, none⟩) by kernel_rfl)
  have e14 := ((hA 14).trans (show _ = vs 8 by kernel_rfl)).trans (hF 8 (by decide))
  clear hA
  go_simp
  refine hK14 undef _ ?_
  clear x0 x1 x2 x3 x4 x5 k0 k1 k2 k3 k4 k5
  clear hF hB
  simp only [Ri.Tail, Ri.puts]
  go_simp
  generalize (((Wx.setCell ⟨p, 2, none⟩ (.int .i64 (opp x.bi))).setCell ⟨p, 3, none⟩ (.int .i64 (opp x.paid))).setCell ⟨p, 4, none⟩ (.int .i64 (opp x.mem))) = W3 at *
  clear HX1 HY1 HB1 HS1 HX2 HD HO1 HO2 HO3
  obtain ⟨x0, x1, x2, x3, x4, x5⟩ := six HXF.out
  obtain ⟨k0, k1, k2, k3, k4, k5⟩ := frz6 HXF.out
  have HCL := Lib.hid (cloneS_any L (.slice am x.svs.length cm) W3 (HLX.out W3 HBF.out) (by omega) HSl.out)
  have HCF : Hid (∀ w4 v', OwnS W3.heap.size w4 v' L → Below W3.heap.size W3 w4 → ∃ u c, v' = .slice u x.svs.length c ∧ w4.heap[p]? = some (.cells (#[.string (mk x.id), .int .i64 22, .int .i64 (opp x.bi), .int .i64 (opp x.paid), .int .i64 (opp x.mem), (.slice am x.svs.length cm)] : Array Value) 38 (0, 0)) ∧ w4.heap[p + 1]? = some (.cells (#[.string { data := #[] }, .int .i64 0, .int .i64 0, .int .i64 0, .int .i64 0, .slice none 0 0] : Array Value) 38 (0, 0)) ∧ Below p w w4 ∧ OwnS (p + 2) w4 v' L ∧ p + 2 ≤ w4.heap.size) := fun w4 v' ho hb => by
   have hs := HSF.out
   obtain ⟨u, c, e⟩ : ∃ u c, v' = .slice u x.svs.length c := by
    rcases ho.2 with ⟨rfl, h0⟩ | ⟨g, cap, cur, rfl, _⟩
    ·exact ⟨none, 0, by rw [← hLl, h0]⟩
    ·exact ⟨_, cap, by rw [← hLl]⟩
   refine ⟨u, c, e, keepB HXF.out hb, keepB HYF.out hb, HBF.out.trans (hb.mono (by omega)), ⟨ho.1, ho.2.imp id ?_⟩, Nat.le_trans hs hb.size⟩
   rintro ⟨g, cap, cur, e, h0, hr⟩
   exact ⟨g, cap, cur, e, Nat.le_trans hs h0, hr⟩
  go_upto_region 4 with (first | (go_at_call 51; refine HCL.out.mono ?_; rintro e w4 ⟨v', rfl, ho, hb⟩; obtain ⟨u, uc, rfl, hx4, hy4, hb4, ho4, hs4⟩ := HCF.out w4 v' ho hb; obtain ⟨x0, x1, x2, x3, x4, x5⟩ := six hx4; obtain ⟨k0, k1, k2, k3, k4, k5⟩ := frz6 hx4; have HX5 : Hid ((w4.setCell ⟨p, 5, none⟩ (.slice u x.svs.length uc)).heap[p]? = some (.cells (#[.string (mk x.id), .int .i64 22, .int .i64 (opp x.bi), .int .i64 (opp x.paid), .int .i64 (opp x.mem), (.slice u x.svs.length uc)] : Array Value) 38 (0, 0))) := (by have := heap_set hx4 5 (.slice u x.svs.length uc); show _ = _; rw [this]; rfl); have HY5 : Hid ((w4.setCell ⟨p, 5, none⟩ (.slice u x.svs.length uc)).heap[p + 1]? = some (.cells (#[.string { data := #[] }, .int .i64 0, .int .i64 0, .int .i64 0, .int .i64 0, .slice none 0 0] : Array Value) 38 (0, 0))) := heap_far hy4 (by omega); have HB5 : Hid (Below p w (w4.setCell ⟨p, 5, none⟩ (.slice u x.svs.length uc))) := hb4.setCell (p := ⟨p, 5, none⟩) (Nat.le_refl p) _; have HS5 : Hid (p + 2 ≤ (w4.setCell ⟨p, 5, none⟩ (.slice u x.svs.length uc)).heap.size) := (by show _ ≤ _; simpa using hs4); have HO5 : Hid (OwnS (p + 2) (w4.setCell ⟨p, 5, none⟩ (.slice u x.svs.length uc)) (.slice u x.svs.length uc) L) := ⟨ho4.1, ho4.2.imp id (by rintro ⟨g, cap, cur, e, h0, hh, hr⟩; exact ⟨g, cap, cur, e, h0, heap_far hh (by omega), hr⟩)⟩; clear ho hb hx4 hy4 hb4 ho4 hs4 HXF HYF HBF HSF))
  generalize w4.setCell ⟨p, 5, none⟩ (.slice u x.svs.length uc) = W5 at *
  clear x0 x1 x2 x3 x4 x5 k0 k1 k2 k3 k4 k5 HCL HCF HLX HSl
  obtain ⟨x0, x1, x2, x3, x4, x5⟩ := six HX5.out
  go_wp2
  go_loopg [25] (x.svs.length) (fun gg t25 wr => ∃ (k : Nat) (N : List Sx), k ≤ x.svs.length ∧ gg = x.svs.length - k ∧ t25 = .int .i64 k ∧ N.length = k ∧ Hid (N.map (·.s) = ((L.map (·.s)).take k).map svcO) ∧ Hid (OwnS (p + 2) wr (.slice u x.svs.length uc) (N ++ L.drop k)) ∧ Hid (∀ y ∈ N, CasAt (fun b => p + 2 ≤ b ∧ (Value.slice u x.svs.length uc).ownBlock ≠ some b) wr y.m y.s.cas) ∧ Hid (wr.heap[p]? = some (.cells (#[.string (mk x.id), .int .i64 22, .int .i64 (opp x.bi), .int .i64 (opp x.paid), .int .i64 (opp x.mem), (.slice u x.svs.length uc)] : Array Value) 38 (0, 0))) ∧ Hid (wr.heap[p + 1]? = some (.cells (#[.string { data := #[] }, .int .i64 0, .int .i64 0, .int .i64 0, .int .i64 0, .slice none 0 0] : Array Value) 38 (0, 0))) ∧ Hid (Below p w wr) ∧ Hid (p + 2 ≤ wr.heap.size))
  case atStart => exact ⟨0, [], Nat.zero_le _, rfl, rfl, rfl, rfl, HO5.out, by simp [Hid], HX5.out, HY5.out, HB5.out, HS5.out⟩
  case round =>
   clear x0 x1 x2 x3 x4 x5 HX5 HY5 HB5 HS5 HO5
   obtain ⟨k, N, hk, hgk, rfl, hN, HNm, HO, HNc, HX, HY, HB, HS⟩ := hrel
   obtain ⟨x0, x1, x2, x3, x4, x5⟩ := six HX.out
   by_cases hlt : k < x.svs.length
   ·have hltz : (k : Int) < (x.svs.length : Int) := by omega
    have hkL : k < L.length := by omega
    obtain ⟨g, c2, e, hpg, hgl, hcl, hfz⟩ := ownS_at HO.out k _ (app_at N L k hN hkL)
    rw [app_len N L k hN (by omega), hLl] at e
    simp only [Value.slice.injEq, true_and] at e
    obtain ⟨rfl, rfl⟩ := e
    have HYm := Lib.hid (List.getElem_mem hkL)
    have HAT := Lib.hid (app_at N L k hN hkL)
    have HST := Lib.hid (app_set N L k hN hkL)
    have HLN := Lib.hid (app_len N L k hN (by omega))
    have HMN : Hid (∀ m', (N ++ [(⟨svcO L[k].s, m'⟩ : Sx)]).map (·.s) = ((L.map (·.s)).take (k + 1)).map svcO) := fun m' => by
     rw [List.map_append, HNm.out, List.take_add_one, List.map_append, List.getElem?_map, List.getElem?_eq_getElem hkL]; rfl
    obtain ⟨w1b, w2b, w3b, w4b⟩ := HOK.out _ HYm.out
    have HC3 := Lib.hid w3b
    have HOb := Lib.hid fun W => opp_any L[k].s.bi W w1b
    have HOp := Lib.hid fun W => opp_any L[k].s.paid W w2b
    have HCy : Hid (∀ W, Below p w W → CasAt All W L[k].m L[k].s.cas) := fun W hW => HLC.out W hW _ HYm.out
    generalize L[k] = y at *
    have hi1 : k < x.svs.length := hlt
    go_upto_region 8 with fail
    obtain ⟨wo, hwo⟩ : ∃ z, z = wr := ⟨_, rfl⟩
    subst hwo
    have HCK : Hid (∀ W', W'.heap[g]? = wo.heap[g]? → SrCells W' g (k * 4) y.s y.m ∧ W'.frozen? ⟨g, k * 4 + 1, none⟩ = false) := fun W' hW => by
     refine ⟨hcl.of hW, ?_⟩
     have := hfz.1
     simp only [World.frozen?, hW] at this ⊢
     exact this
    have HGP := Lib.hid hpg
    clear hcl hfz w1b w2b w3b x0 x1 x2 x3 x4 x5
    refine Ri.wp_region_tailW 15 (by kernel_rfl) (by kernel_rfl) (by kernel_rfl) (by decide) (by kernel_rfl) (fun Wx => Below p w Wx ∧ (∀ b, b ≠ g → Wx.heap[b]? = wo.heap[b]?) ∧ Wx.heap.size = wo.heap.size) (fun kz vs wz => (fun kx vx wx => match kx with | 0 => vx = .pointer (some ⟨g, k * 4, none⟩) | 1 => vx = .pointer (some ⟨g, k * 4, none⟩) | 2 => vx = .pointer (some ⟨g, k * 4, none⟩) | 3 => vx = .pointer (some ⟨g, k * 4, none⟩) | 4 => vx = .pointer (some ⟨g, k * 4 + 1, none⟩) | 5 => vx = .int .i64 y.s.bi | 6 => vx = .int .i64 (opp y.s.bi) | 7 => vx = .pointer (some ⟨g, k * 4, none⟩) | 8 => vx = .pointer (some ⟨g, k * 4, none⟩) | 9 => vx = .pointer (some ⟨g, k * 4 + 2, none⟩) | 10 => vx = .int .i64 y.s.paid | 11 => vx = .int .i64 (opp y.s.paid) | 12 => vx = .pointer (some ⟨g, k * 4, none⟩) | 13 => vx = .pointer (some ⟨g, k * 4 + 1, none⟩) | 14 => True | _ => True : Nat → Value → World → Prop) kz (vs kz) wz) (fun lst vs Wx => (lst 14 = false → Wx.heap[g]? = wo.heap[g]?) ∧ (lst 14 = true → Wx.heap[g]? = (wo.setCell ⟨g, k * 4 + 1, none⟩ (.int .i64 (opp y.s.bi))).heap[g]?)) (fun kz => [kz]) (by kernel_rfl) (fun jz vs iz vz wz hiz hz => Ri.loc_own (F := (fun kx vx wx => match kx with | 0 => vx = .pointer (some ⟨g, k * 4, none⟩) | 1 => vx = .pointer (some ⟨g, k * 4, none⟩) | 2 => vx = .pointer (some ⟨g, k * 4, none⟩) | 3 => vx = .pointer (some ⟨g, k * 4, none⟩) | 4 => vx = .pointer (some ⟨g, k * 4 + 1, none⟩) | 5 => vx = .int .i64 y.s.bi | 6 => vx = .int .i64 (opp y.s.bi) | 7 => vx = .pointer (some ⟨g, k * 4, none⟩) | 8 => vx = .pointer (some ⟨g, k * 4, none⟩) | 9 => vx = .pointer (some ⟨g, k * 4 + 2, none⟩) | 10 => vx = .int .i64 y.s.paid | 11 => vx = .int .i64 (opp y.s.paid) | 12 => vx = .pointer (some ⟨g, k * 4, none⟩) | 13 => vx = .pointer (some ⟨g, k * 4 + 1, none⟩) | 14 => True | _ => True : Nat → Value → World → Prop)) jz vs iz vz wz hiz hz) ⟨HB.out.trans ⟨rfl, rfl, rfl, Nat.le_refl _, fun _ _ => rfl⟩, fun _ _ => rfl, rfl⟩ ?_ ⟨⟨rfl, ?_⟩, ⟨rfl, ?_⟩, ⟨rfl, ?_⟩, ⟨rfl, ?_⟩, ⟨rfl, ?_⟩, ⟨rfl, ?_⟩, ⟨rfl, ?_⟩, ⟨rfl, ?_⟩, ⟨rfl, ?_⟩, ⟨rfl, ?_⟩, ⟨rfl, ?_⟩, ⟨rfl, ?_⟩, ⟨rfl, ?_⟩, ⟨rfl, ?_⟩, ⟨rfl, ?_⟩, trivial⟩ ?_
    ·intro vs hvs
     exact ⟨fun _ => rfl, fun h => by cases h⟩
    iterate 3
     ·intro vs Wx A lst hA hB hls hX hno hpre K hK
      have e4 := (hA 4).trans (show _ = Value.pointer (some ⟨g, k * 4, none⟩) by kernel_rfl)
      clear hA hpre
      go_simp
      first | exact hK _ _ hB (by trivial) (fun _ _ h => h) hX | (rw [if_neg (by omega)]; go_simp; exact hK _ _ hB rfl (fun _ _ h => h) hX)
    ·intro vs Wx A lst hA hB hls hX hno hpre K hK
     have e34 := ((hA 34).trans (show _ = vs 2 by kernel_rfl)).trans (by repeat first | exact hpre.1 rfl | replace hpre := hpre.2)
     clear hA hpre
     go_simp
     first | exact hK _ _ hB (by trivial) (fun _ _ h => h) hX | (rw [if_neg (by omega)]; go_simp; exact hK _ _ hB rfl (fun _ _ h => h) hX)
    ·intro vs Wx A lst hA hB hls hX hno hpre K hK
     have e35 := ((hA 35).trans (show _ = vs 3 by kernel_rfl)).trans (by repeat first | exact hpre.1 rfl | replace hpre := hpre.2)
     clear hA hpre
     go_simp
     first | exact hK _ _ hB (by trivial) (fun _ _ h => h) hX | (rw [if_neg (by omega)]; go_simp; exact hK _ _ hB rfl (fun _ _ h => h) hX)
    ·intro vs Wx A lst hA hB hls hX hno hpre K hK
     have e36 := ((hA 36).trans (show _ = vs 4 by kernel_rfl)).trans (by repeat first | exact hpre.1 rfl | replace hpre := hpre.2)
     have hg0 := hX.1 (hno 14 (Or.inr (by kernel_rfl)))
     obtain ⟨⟨c0, c1, c2, c3⟩, -⟩ := HCK.out Wx hg0
     clear hA hpre
     go_simp
     first | exact hK _ _ hB (by trivial) (fun _ _ h => h) hX | (rw [if_neg (by omega)]; go_simp; exact hK _ _ hB rfl (fun _ _ h => h) hX)
    ·intro vs Wx A lst hA hB hls hX hno hpre K hK
     have e37 := ((hA 37).trans (show _ = vs 5 by kernel_rfl)).trans (by repeat first | exact hpre.1 rfl | replace hpre := hpre.2)
     clear hA hpre
     go_simp
     go_at_call 56
     refine (HOb.out Wx).mono ?_
     rintro e w3 ⟨rfl, hw⟩
     rw [hw]
     exact hK _ _ hB rfl (fun _ _ h => h) hX
    ·intro vs Wx A lst hA hB hls hX hno hpre K hK
     have e4 := (hA 4).trans (show _ = Value.pointer (some ⟨g, k * 4, none⟩) by kernel_rfl)
     clear hA hpre
     go_simp
     first | exact hK _ _ hB (by trivial) (fun _ _ h => h) hX | (rw [if_neg (by omega)]; go_simp; exact hK _ _ hB rfl (fun _ _ h => h) hX)
    ·intro vs Wx A lst hA hB hls hX hno hpre K hK
     have e39 := ((hA 39).trans (show _ = vs 7 by kernel_rfl)).trans (by repeat first | exact hpre.1 rfl | replace hpre := hpre.2)
     clear hA hpre
     go_simp
     first | exact hK _ _ hB (by trivial) (fun _ _ h => h) hX | (rw [if_neg (by omega)]; go_simp; exact hK _ _ hB rfl (fun _ _ h => h) hX)
    ·intro vs Wx A lst hA hB hls hX hno hpre K hK
     have e40 := ((hA 40).trans (show _ = vs 8 by kernel_rfl)).trans (by repeat first | exact hpre.1 rfl | replace hpre := hpre.2)
     clear hA hpre
     go_simp
     first | exact hK _ _ hB (by trivial) (fun _ _ h => h) hX | (rw [if_neg (by omega)]; go_simp; exact hK _ _ hB rfl (fun _ _ h => h) hX)
    ·intro vs Wx A lst hA hB hls hX hno hpre K hK
     have e41 := ((hA 41).trans (show _ = vs 9 by kernel_rfl)).trans (by repeat first | exact hpre.1 rfl | replace hpre := hpre.2)
     have hg0 := hX.1 (hno 14 (Or.inr (by kernel_rfl)))
     obtain ⟨⟨c0, c1, c2, c3⟩, -⟩ := HCK.out Wx hg0
     clear hA hpre
     go_simp
     first | exact hK _ _ hB (by trivial) (fun _ _ h => h) hX | (rw [if_neg (by omega)]; go_simp; exact hK _ _ hB rfl (fun _ _ h => h) hX)
    ·intro vs Wx A lst hA hB hls hX hno hpre K hK
     have e42 := ((hA 42).trans (show _ = vs 10 by kernel_rfl)).trans (by repeat first | exact hpre.1 rfl | replace hpre := hpre.2)
     clear hA hpre
     go_simp
     go_at_call 56
     refine (HOp.out Wx).mono ?_
     rintro e w3 ⟨rfl, hw⟩
     rw [hw]
     exact hK _ _ hB rfl (fun _ _ h => h) hX
    ·intro vs Wx A lst hA hB hls hX hno hpre K hK
     have e32 := ((hA 32).trans (show _ = vs 0 by kernel_rfl)).trans (by repeat first | exact hpre.1 rfl | replace hpre := hpre.2)
     clear hA hpre
     go_simp
     first | exact hK _ _ hB (by trivial) (fun _ _ h => h) hX | (rw [if_neg (by omega)]; go_simp; exact hK _ _ hB rfl (fun _ _ h => h) hX)
    ·intro vs Wx A lst hA hB hls hX hno hpre K hK
     have e44 := ((hA 44).trans (show _ = vs 12 by kernel_rfl)).trans (by repeat first | exact hpre.1 rfl | replace hpre := hpre.2)
     clear hA hpre
     go_simp
     first | exact hK _ _ hB (by trivial) (fun _ _ h => h) hX | (rw [if_neg (by omega)]; go_simp; exact hK _ _ hB rfl (fun _ _ h => h) hX)
    ·intro vs Wx A lst hA hB hls hX hno hpre K hK
     have e45 := ((hA 45).trans (show _ = vs 13 by kernel_rfl)).trans (by repeat first | exact hpre.1 rfl | replace hpre := hpre.2)
     have e38 := ((hA 38).trans (show _ = vs 6 by kernel_rfl)).trans (by repeat first | exact hpre.1 rfl | replace hpre := hpre.2)
     have hg0 := hX.1 (hno 14 (Or.inl rfl))
     obtain ⟨⟨c0, c1, c2, c3⟩, fz⟩ := HCK.out Wx hg0
     clear hA hpre
     go_simp
     refine hK undef _ ⟨hB.1.setCell (p := ⟨g, k * 4 + 1, none⟩) (Nat.le_trans (Nat.le_add_right p 2) HGP.out) _, fun b hb => (Below.heap_setCell _ _ _ _ hb).trans (hB.2.1 b hb), by simpa using hB.2.2⟩ trivial (fun _ _ h => h) ⟨fun h => by simp at h, fun _ => set_same hg0⟩
    ·intro vs Wx lst hall hX hB hF
     refine fun A15 hA K15 hK15 => ?_
     have e33 := ((hA 33).trans (show _ = vs 1 by kernel_rfl)).trans (hF 1 (by decide))
     clear hA
     go_simp
     refine hK15 _ _ ?_
     refine fun A16 hA K16 hK16 => ?_
     have e46 := (hA 46).trans (show _ = Value.pointer (some ⟨g, k * 4, none⟩) by kernel_rfl)
     clear hA
     go_simp
     refine hK16 _ _ ?_
     refine fun A17 hA K17 hK17 => ?_
     have e47 := (hA 47).trans (show _ = Value.pointer (some ⟨g, k * 4 + 2, none⟩) by kernel_rfl)
     have e43 := ((hA 43).trans (show _ = vs 11 by kernel_rfl)).trans (hF 11 (by decide))
     clear hA
     have hg1 := hX.2 (hall 14 (by decide))
     have hb2 := hB.2.1
     have hb1 := hB.1
     have hb3 := hB.2.2
     have ho1 : OwnS (p + 2) Wx (.slice (some ⟨g, 0, none⟩) x.svs.length uc) ((N ++ L.drop k).set k ⟨⟨y.s.proc, opp y.s.bi, y.s.paid, y.s.cas⟩, y.m⟩) := by
      have h0 := HO.out
      have h1 := ownS_put1 (l := N ++ L.drop k) (by rw [HLN.out, hLl]; exact h0) k y HAT.out (opp y.s.bi)
      rw [HLN.out, hLl] at h1
      exact ownS_of h1 hg1
     have hat1 : ((N ++ L.drop k).set k (⟨⟨y.s.proc, opp y.s.bi, y.s.paid, y.s.cas⟩, y.m⟩ : Sx))[k]? = some ⟨⟨y.s.proc, opp y.s.bi, y.s.paid, y.s.cas⟩, y.m⟩ := by rw [List.getElem?_set_self (by rw [HLN.out]; omega)]
     obtain ⟨g2, c2, e2, -, -, ⟨d0, d1, d2, d3⟩, -, fz2, -⟩ := ownS_at ho1 k _ hat1
     simp only [Value.slice.injEq, Option.some.injEq, Addr.mk.injEq, and_true] at e2
     obtain ⟨rfl, -, rfl⟩ := e2
     have HO2 : Hid (OwnS (p + 2) (Wx.setCell ⟨g, k * 4 + 2, none⟩ (.int .i64 (opp y.s.paid))) (.slice (some ⟨g, 0, none⟩) x.svs.length uc) ((N ++ L.drop k).set k ⟨⟨y.s.proc, opp y.s.bi, opp y.s.paid, y.s.cas⟩, y.m⟩)) := by
      have hl2 : ((N ++ L.drop k).set k (⟨⟨y.s.proc, opp y.s.bi, y.s.paid, y.s.cas⟩, y.m⟩ : Sx)).length = x.svs.length := by rw [List.length_set, HLN.out, hLl]
      have h1 := ownS_put2 (by rw [hl2]; exact ho1) k _ hat1 (opp y.s.paid)
      rw [hl2, List.set_set] at h1
      exact h1
     have HX7 : Hid ((Wx.setCell ⟨g, k * 4 + 2, none⟩ (.int .i64 (opp y.s.paid))).heap[p]? = some (.cells (#[.string (mk x.id), .int .i64 22, .int .i64 (opp x.bi), .int .i64 (opp x.paid), .int .i64 (opp x.mem), (.slice (some ⟨g, 0, none⟩) x.svs.length uc)] : Array Value) 38 (0, 0))) := by have h1 := HGP.out; exact (heap_far ((hb2 p (by omega)).trans HX.out) (by omega))
     have HY7 : Hid ((Wx.setCell ⟨g, k * 4 + 2, none⟩ (.int .i64 (opp y.s.paid))).heap[p + 1]? = some (.cells (#[.string { data := #[] }, .int .i64 0, .int .i64 0, .int .i64 0, .int .i64 0, .slice none 0 0] : Array Value) 38 (0, 0))) := by have h1 := HGP.out; exact (heap_far ((hb2 (p + 1) (by omega)).trans HY.out) (by omega))
     have HB7 : Hid (Below p w (Wx.setCell ⟨g, k * 4 + 2, none⟩ (.int .i64 (opp y.s.paid)))) := hb1.setCell (p := ⟨g, k * 4 + 2, none⟩) (by have h1 := HGP.out; show p ≤ g; omega) _
     have HS7 : Hid (p + 2 ≤ (Wx.setCell ⟨g, k * 4 + 2, none⟩ (.int .i64 (opp y.s.paid))).heap.size) := by show _ ≤ _; have h1 := HS.out; simp; omega
     have HN7 : Hid (∀ z ∈ N, CasAt (fun b => p + 2 ≤ b ∧ (Value.slice (some ⟨g, 0, none⟩) x.svs.length uc).ownBlock ≠ some b) (Wx.setCell ⟨g, k * 4 + 2, none⟩ (.int .i64 (opp y.s.paid))) z.m z.s.cas) := fun z hz => (HNc.out z hz).move ⟨by simp; omega, fun b hb hk => ⟨hk, (Below.heap_setCell _ _ _ _ (show b ≠ g from fun e => hk.2 (by rw [e]; rfl))).trans (hb2 b (fun e => hk.2 (by rw [e]; rfl)))⟩⟩
     clear ho1 hat1 hg1 hb2 hb1 hb3
     go_simp
     refine hK17 undef _ ?_
     clear d0 d1 d2 d3 fz2
     clear hX hall hF hB
     simp only [Ri.Tail, Ri.puts]
     go_simp
     generalize (Wx.setCell ⟨g, k * 4 + 2, none⟩ (.int .i64 (opp y.s.paid))) = W7 at *
     have hat2 : ((N ++ L.drop k).set k (⟨⟨y.s.proc, opp y.s.bi, opp y.s.paid, y.s.cas⟩, y.m⟩ : Sx))[k]? = some ⟨⟨y.s.proc, opp y.s.bi, opp y.s.paid, y.s.cas⟩, y.m⟩ := by rw [List.getElem?_set_self (by rw [HLN.out]; omega)]
     obtain ⟨g2, c2, e2, -, hgl7, ⟨d0, d1, d2, d3⟩, -, -, fz3⟩ := ownS_at HO2.out k _ hat2
     simp only [Value.slice.injEq, Option.some.injEq, Addr.mk.injEq, and_true] at e2
     obtain ⟨rfl, -, rfl⟩ := e2
     have hcy := HCy.out W7 HB7.out
     have HCO := Lib.hid (oppCas_any y.s.cas y.m W7 hcy w4b HC3.out)
     obtain ⟨ay, cy, hy, -, -⟩ := hcy.form
     rw [hy] at d3 HCO
     have HGL7 := Lib.hid hgl7
     have HAT2 := Lib.hid hat2
     clear hcy hat2
     have HFN : Hid (∀ w8 ua uc', OwnK W7.heap.size w8 (.slice ua y.s.cas.length uc') (y.s.cas.map casO) → Below W7.heap.size W7 w8 → w8.cell? ⟨g, k * 4 + 3, none⟩ = some (.slice ay y.s.cas.length cy) ∧ w8.frozen? ⟨g, k * 4 + 3, none⟩ = false ∧ OwnS (p + 2) (w8.setCell ⟨g, k * 4 + 3, none⟩ (.slice ua y.s.cas.length uc')) (.slice (some ⟨g, 0, none⟩) x.svs.length uc) ((N ++ [(⟨svcO y.s, .slice ua y.s.cas.length uc'⟩ : Sx)]) ++ L.drop (k + 1)) ∧ (∀ z ∈ N ++ [(⟨svcO y.s, .slice ua y.s.cas.length uc'⟩ : Sx)], CasAt (fun b => p + 2 ≤ b ∧ (Value.slice (some ⟨g, 0, none⟩) x.svs.length uc).ownBlock ≠ some b) (w8.setCell ⟨g, k * 4 + 3, none⟩ (.slice ua y.s.cas.length uc')) z.m z.s.cas) ∧ (w8.setCell ⟨g, k * 4 + 3, none⟩ (.slice ua y.s.cas.length uc')).heap[p]? = some (.cells (#[.string (mk x.id), .int .i64 22, .int .i64 (opp x.bi), .int .i64 (opp x.paid), .int .i64 (opp x.mem), (.slice (some ⟨g, 0, none⟩) x.svs.length uc)] : Array Value) 38 (0, 0)) ∧ (w8.setCell ⟨g, k * 4 + 3, none⟩ (.slice ua y.s.cas.length uc')).heap[p + 1]? = some (.cells (#[.string { data := #[] }, .int .i64 0, .int .i64 0, .int .i64 0, .int .i64 0, .slice none 0 0] : Array Value) 38 (0, 0)) ∧ Below p w (w8.setCell ⟨g, k * 4 + 3, none⟩ (.slice ua y.s.cas.length uc')) ∧ p + 2 ≤ (w8.setCell ⟨g, k * 4 + 3, none⟩ (.slice ua y.s.cas.length uc')).heap.size) := fun w8 ua uc' hk8 hb8 => by
      have hpg := HGP.out
      have hgl := HGL7.out
      have hs7 := HS7.out
      have h8 := ownS_grw HO2.out hb8
      obtain ⟨g3, c3, e3, -, -, ⟨d0, d1, d2, d3⟩, -, -, fz3⟩ := ownS_at h8 k _ HAT2.out
      simp only [Value.slice.injEq, Option.some.injEq, Addr.mk.injEq, and_true] at e3
      obtain ⟨rfl, -, rfl⟩ := e3
      have hl2 : ((N ++ L.drop k).set k (⟨⟨y.s.proc, opp y.s.bi, opp y.s.paid, y.s.cas⟩, y.m⟩ : Sx)).length = x.svs.length := by rw [List.length_set, HLN.out, hLl]
      have h9 := ownS_put3 (by rw [hl2]; exact h8) k _ HAT2.out (.slice ua y.s.cas.length uc')
      rw [hl2, List.set_set, HST.out] at h9
      refine ⟨by rw [d3, hy], fz3, h9, fun z hz => ?_, heap_far (keepB HX7.out hb8) (by omega), heap_far (keepB HY7.out hb8) (by omega), (HB7.out.trans (hb8.mono (by omega))).setCell (p := ⟨g, k * 4 + 3, none⟩) (show p ≤ g by omega) _, ?_⟩
      ·rcases List.mem_append.1 hz with hz | hz
       ·exact ((HN7.out z hz).move (K' := fun b => p + 2 ≤ b ∧ (Value.slice (some ⟨g, 0, none⟩) x.svs.length uc).ownBlock ≠ some b) (w' := w8) ⟨hb8.size, fun b hb hk => ⟨hk, hb8.block b hb⟩⟩).move ⟨by simp, fun b hb hk => ⟨hk, Below.heap_setCell _ _ _ _ (fun e => hk.2 (by rw [e]; rfl))⟩⟩
       ·simp only [List.mem_singleton] at hz
        subst hz
        have hc8 := cas_of_own (K := fun b => W7.heap.size ≤ b) hk8 fun b hb => hb
        exact hc8.move ⟨by simp, fun b hb hk => ⟨⟨by omega, fun e => by simp [Value.ownBlock] at e; omega⟩, Below.heap_setCell _ _ _ _ (show b ≠ g by omega)⟩⟩
      ·have := hb8.size; simp; omega
     go_wp2_with (first | (go_at_call 60; refine HCO.out.mono ?_; rintro e w8 ⟨v', rfl, ho8, hb8⟩; obtain ⟨ua, uc', e8, -, -⟩ := ownK_form ho8; rw [List.length_map] at e8; subst e8; obtain ⟨d3, fz3, h81, h82, h83, h84, h85, h86⟩ := HFN.out w8 ua uc' ho8 hb8; have H81 := Lib.hid h81; have H82 := Lib.hid h82; have H83 := Lib.hid h83; have H84 := Lib.hid h84; have H85 := Lib.hid h85; have H86 := Lib.hid h86; clear ho8 hb8 h81 h82 h83 h84 h85 h86))
     go_roundg (x.svs.length - (k + 1))
     case measure => omega
     case rel => exact ⟨k + 1, _, by omega, rfl, by first | rfl | go_num, by rw [List.length_append, hN]; rfl, HMN.out _, H81.out, H82.out, H83.out, H84.out, H85.out, H86.out⟩
   ·have hltz : ¬ (k : Int) < (x.svs.length : Int) := by omega
    have HFI : Hid (SvsAt (fun b => p ≤ b ∧ b ≠ p + 1) wr (.slice u x.svs.length uc) (backO x).svs) := by
     have hk2 : L.length ≤ k := by omega
     have h1 := HO.out
     rw [List.drop_eq_nil_of_le hk2, List.append_nil] at h1
     have h2 := HNm.out
     rw [List.take_of_length_le (by rw [List.length_map]; omega), HLS.out] at h2
     have h3 := (FullS.at (B := p + 2) (w := wr) (v := (.slice u x.svs.length uc)) (L := N) ⟨h1, fun y hy => (HNc.out y hy).move (moves_weak wr fun b _ hb => ⟨by simpa using hb.2, hb.1⟩)⟩)
     rw [h2] at h3
     exact h3.move (moves_weak wr fun b _ hb => ⟨by omega, by omega⟩)
    obtain ⟨y0, y1, y2, y3, y4, y5⟩ := six HY.out
    obtain ⟨k0, k1, k2, k3, k4, k5⟩ := frz6 HY.out
    go_wp2
    have HYF := Lib.hid (put6_heap HY.out (.string (mk x.id)) (.int .i64 22) (.int .i64 (opp x.bi)) (.int .i64 (opp x.paid)) (.int .i64 (opp x.mem)) (.slice u x.svs.length uc))
    have HBF : Hid (Below p w ((((((wr.setCell ⟨(p + 1), 0, none⟩ (.string (mk x.id))).setCell ⟨(p + 1), 1, none⟩ (.int .i64 22)).setCell ⟨(p + 1), 2, none⟩ (.int .i64 (opp x.bi))).setCell ⟨(p + 1), 3, none⟩ (.int .i64 (opp x.paid))).setCell ⟨(p + 1), 4, none⟩ (.int .i64 (opp x.mem))).setCell ⟨(p + 1), 5, none⟩ (.slice u x.svs.length uc))) := put6_below HB.out (p + 1) (by omega) (.string (mk x.id)) (.int .i64 22) (.int .i64 (opp x.bi)) (.int .i64 (opp x.paid)) (.int .i64 (opp x.mem)) (.slice u x.svs.length uc)
    have HSF : Hid (SvsAt (fun b => p ≤ b ∧ b ≠ p + 1) ((((((wr.setCell ⟨(p + 1), 0, none⟩ (.string (mk x.id))).setCell ⟨(p + 1), 1, none⟩ (.int .i64 22)).setCell ⟨(p + 1), 2, none⟩ (.int .i64 (opp x.bi))).setCell ⟨(p + 1), 3, none⟩ (.int .i64 (opp x.paid))).setCell ⟨(p + 1), 4, none⟩ (.int .i64 (opp x.mem))).setCell ⟨(p + 1), 5, none⟩ (.slice u x.svs.length uc)) (.slice u x.svs.length uc) (backO x).svs) := HFI.out.move ⟨by simp, fun b hb hk => ⟨hk, put6_keep hk.2 (.string (mk x.id)) (.int .i64 22) (.int .i64 (opp x.bi)) (.int .i64 (opp x.paid)) (.int .i64 (opp x.mem)) (.slice u x.svs.length uc)⟩⟩
    generalize ((((((wr.setCell ⟨(p + 1), 0, none⟩ (.string (mk x.id))).setCell ⟨(p + 1), 1, none⟩ (.int .i64 22)).setCell ⟨(p + 1), 2, none⟩ (.int .i64 (opp x.bi))).setCell ⟨(p + 1), 3, none⟩ (.int .i64 (opp x.paid))).setCell ⟨(p + 1), 4, none⟩ (.int .i64 (opp x.mem))).setCell ⟨(p + 1), 5, none⟩ (.slice u x.svs.length uc)) = WF at *
    obtain ⟨n0, n1, n2, n3, n4, n5⟩ := six HYF.out
    refine bodyPost_ret (v := .agg (#[.string (mk x.id), .int .i64 22, .int .i64 (opp x.bi), .int .i64 (opp x.paid), .int .i64 (opp x.mem), (.slice u x.svs.length uc)] : Array Value)) (by simp [results, Try.results48, go_sem, n0, n1, n2, n3, n4, n5]) rfl ?_
    exact ⟨⟨(.slice u x.svs.length uc), rfl, by first | exact HSF.out.move (moves_weak WF fun b _ hb => hb.1) | (rw [hp]; exact HSF.out.move (moves_weak WF fun b _ hb => hb.1))⟩, by first | exact HBF.out | (rw [hp]; exact HBF.out)⟩
end Go.Proofs.Ytpfpjbeofogbgaa.Sv
end
