/-
  Texts put together (merge.py): UTake.
-/
import Derived.Test.YtfoooldkmokjpaaGreatDoorMj30
import Derived.Test.YtfoooldkmokjpaaGreatDoorMj9
set_option linter.unusedSimpArgs false
set_option linter.unusedVariables false
section
set_option maxRecDepth 100000
namespace Go.Proofs.YtfoooldkmokjpaaGreatDoor.Ul
open Go.RowKit
open Pl (Cd St Ru Pn KsAt StsAt RusAt RuIn Ok1 cdv stv ruv pnv below_alloc below_trans bfive bsix beight below_tr)
open Wo (box_cell box_two keepB heap_far)
open Cm (Ln)
def stS (R k : Int) (b : Int × Int) (s : St) : Int × Int := if s.what = k ∧ b.1 < R then (R, s.n) else b
def setsV (R k : Int) (l : List St) (b : Int × Int) : Int × Int := l.foldl (stS R k) b
theorem setsV_snoc (R k : Int) (l : List St) (b : Int × Int) (j : Nat) (s : St) (h : l[j]? = some s) : setsV R k (l.take (j + 1)) b = stS R k (setsV R k (l.take j) b) s := by
 unfold setsV
 rw [List.take_add_one, h, List.foldl_append]
 rfl
theorem setsV_done (R k : Int) : ∀ (l : List St) (n : Int), setsV R k l (R, n) = (R, n)
 | [], n => rfl
 | s :: r, n => by
  show setsV R k r (stS R k (R, n) s) = _
  rw [show stS R k (R, n) s = (R, n) by unfold stS; rw [if_neg (by simp)]]
  exact setsV_done R k r n
theorem setsV_eq (R k : Int) : ∀ (l : List St) (b : Int × Int), setsV R k l b = if R ≤ b.1 then b else (match setOf k l with | some n => (R, n) | none => b)
 | [], b => by unfold setsV setOf; simp
 | s :: r, b => by
  show setsV R k r (stS R k b s) = _
  by_cases hw : s.what = k
  ·by_cases hb : b.1 < R
   ·rw [show stS R k b s = (R, s.n) by unfold stS; rw [if_pos ⟨hw, hb⟩], setsV_done, if_neg (by omega)]
    simp [setOf, List.find?, hw]
   ·rw [show stS R k b s = b by unfold stS; rw [if_neg (fun h => hb h.2)], setsV_eq R k r b, if_pos (by omega), if_pos (by omega)]
  ·rw [show stS R k b s = b by unfold stS; rw [if_neg (fun h => hw h.1)], setsV_eq R k r b]
   have : setOf k (s :: r) = setOf k r := by simp [setOf, List.find?, hw]
   rw [this]
theorem step_sets (x : Ln) (net k : Int) (b : Int × Int) (r : Ru) : stepV x net k b r = if appB x net r = true then setsV r.rank k r.sets b else b := by
 rw [setsV_eq]
 unfold stepV
 by_cases h1 : r.rank ≤ b.1
 ·rw [if_pos h1, if_pos h1]; simp
 ·rw [if_neg h1, if_neg h1]
  cases setOf k r.sets <;> rfl
abbrev chC (a1 a2 a3 a4 v1 v2 v3 v4 : Int) : Array Value := #[.int .i64 (-1), .int .i64 a1, .int .i64 a2, .int .i64 a3, .int .i64 a4, .int .i64 0, .int .i64 v1, .int .i64 v2, .int .i64 v3, .int .i64 v4]
def ChAt (w : World) (q : Nat) (a1 a2 a3 a4 v1 v2 v3 v4 : Int) : Prop := w.heap[q]? = some (.cells (chC a1 a2 a3 a4 v1 v2 v3 v4) 138 (0, 0))
theorem ChAt.cells {w : World} {q : Nat} {a1 a2 a3 a4 v1 v2 v3 v4 : Int} (h : ChAt w q a1 a2 a3 a4 v1 v2 v3 v4) :
  w.cell? ⟨q, 1, none⟩ = some (.int .i64 a1) ∧ w.cell? ⟨q, 2, none⟩ = some (.int .i64 a2) ∧ w.cell? ⟨q, 3, none⟩ = some (.int .i64 a3) ∧ w.cell? ⟨q, 4, none⟩ = some (.int .i64 a4) ∧ w.cell? ⟨q, 6, none⟩ = some (.int .i64 v1) ∧ w.cell? ⟨q, 7, none⟩ = some (.int .i64 v2) ∧ w.cell? ⟨q, 8, none⟩ = some (.int .i64 v3) ∧ w.cell? ⟨q, 9, none⟩ = some (.int .i64 v4) := by
 refine ⟨?_, ?_, ?_, ?_, ?_, ?_, ?_, ?_⟩ <;> rw [cell_of_row w q _ _ _ (0, 0) h] <;> rfl
theorem ChAt.soft {w : World} {q : Nat} {a1 a2 a3 a4 v1 v2 v3 v4 : Int} (h : ChAt w q a1 a2 a3 a4 v1 v2 v3 v4) (i : Nat) : w.frozen? ⟨q, i, none⟩ = false := Lib.frozen_of_heap h i
theorem ChAt.far {w w' : World} {q : Nat} {a1 a2 a3 a4 v1 v2 v3 v4 : Int} (h : ChAt w q a1 a2 a3 a4 v1 v2 v3 v4) (hb : Below w.heap.size w w') : ChAt w' q a1 a2 a3 a4 v1 v2 v3 v4 := keepB h hb
theorem below_set {q : Nat} {w w' : World} (h : Below q w w') (i : Nat) (v : Value) : Below q w (w'.setCell ⟨q, i, none⟩ v) := h.setCell (p := ⟨q, i, none⟩) (Nat.le_refl _) _
theorem below_lo {q : Nat} {a b c : World} (h : Below q a b) (hq : q ≤ b.heap.size) (k : Below b.heap.size b c) : Below q a c := h.trans (k.mono hq)
theorem ch_rank1 {w : World} {q : Nat} {A A2 A3 A4 V V2 V3 V4 : Int} (h : ChAt w q A A2 A3 A4 V V2 V3 V4) (R : Int) : ChAt (w.setCell ⟨q, 1, none⟩ (.int .i64 R)) q R A2 A3 A4 V V2 V3 V4 := heap_setCell_same w q 1 _ _ _ h
theorem ch_val1 {w : World} {q : Nat} {A A2 A3 A4 V V2 V3 V4 : Int} (h : ChAt w q A A2 A3 A4 V V2 V3 V4) (R : Int) : ChAt (w.setCell ⟨q, 6, none⟩ (.int .i64 R)) q A A2 A3 A4 R V2 V3 V4 := heap_setCell_same w q 6 _ _ _ h
theorem ch_rank2 {w : World} {q : Nat} {A1 A A3 A4 V1 V V3 V4 : Int} (h : ChAt w q A1 A A3 A4 V1 V V3 V4) (R : Int) : ChAt (w.setCell ⟨q, 2, none⟩ (.int .i64 R)) q A1 R A3 A4 V1 V V3 V4 := heap_setCell_same w q 2 _ _ _ h
theorem ch_val2 {w : World} {q : Nat} {A1 A A3 A4 V1 V V3 V4 : Int} (h : ChAt w q A1 A A3 A4 V1 V V3 V4) (R : Int) : ChAt (w.setCell ⟨q, 7, none⟩ (.int .i64 R)) q A1 A A3 A4 V1 R V3 V4 := heap_setCell_same w q 7 _ _ _ h
theorem ch_rank3 {w : World} {q : Nat} {A1 A2 A A4 V1 V2 V V4 : Int} (h : ChAt w q A1 A2 A A4 V1 V2 V V4) (R : Int) : ChAt (w.setCell ⟨q, 3, none⟩ (.int .i64 R)) q A1 A2 R A4 V1 V2 V V4 := heap_setCell_same w q 3 _ _ _ h
theorem ch_val3 {w : World} {q : Nat} {A1 A2 A A4 V1 V2 V V4 : Int} (h : ChAt w q A1 A2 A A4 V1 V2 V V4) (R : Int) : ChAt (w.setCell ⟨q, 8, none⟩ (.int .i64 R)) q A1 A2 A A4 V1 V2 R V4 := heap_setCell_same w q 8 _ _ _ h
theorem ch_rank4 {w : World} {q : Nat} {A1 A2 A3 A V1 V2 V3 V : Int} (h : ChAt w q A1 A2 A3 A V1 V2 V3 V) (R : Int) : ChAt (w.setCell ⟨q, 4, none⟩ (.int .i64 R)) q A1 A2 A3 R V1 V2 V3 V := heap_setCell_same w q 4 _ _ _ h
theorem ch_val4 {w : World} {q : Nat} {A1 A2 A3 A V1 V2 V3 V : Int} (h : ChAt w q A1 A2 A3 A V1 V2 V3 V) (R : Int) : ChAt (w.setCell ⟨q, 9, none⟩ (.int .i64 R)) q A1 A2 A3 A V1 V2 V3 R := heap_setCell_same w q 9 _ _ _ h
set_option maxHeartbeats 16000000 in
theorem take_any (r : Ru) (k u s : Value) (q : Nat) (a1 a2 a3 a4 v1 v2 v3 v4 : Int) (w : World) (hs : StsAt (fun b => b < q) w s r.sets) (hch : ChAt w q a1 a2 a3 a4 v1 v2 v3 v4) :
  Calls Tryz.prog 87 #[.pointer (some ⟨q, 0, none⟩), ruv r k u s] w fun e w' => e = .returned (.tuple #[]) ∧ Below q w w' ∧
   ChAt w' q (setsV r.rank 1 r.sets (a1, v1)).1 (setsV r.rank 2 r.sets (a2, v2)).1 (setsV r.rank 3 r.sets (a3, v3)).1 (setsV r.rank 4 r.sets (a4, v4)).1 (setsV r.rank 1 r.sets (a1, v1)).2 (setsV r.rank 2 r.sets (a2, v2)).2 (setsV r.rank 3 r.sets (a3, v3)).2 (setsV r.rank 4 r.sets (a4, v4)).2 := by
 have hql : q < w.heap.size := (Array.getElem?_eq_some_iff.1 hch).1
 have hb := below_alloc w (.cells #[.int .i64 r.rank, .int .i64 r.cif.kind, .string (mk r.cif.lo), .string (mk r.cif.hi), .int .i64 r.cif.n, k, u, s] 85)
 have HX := Lib.hid (heap_alloc_new w (.cells #[.int .i64 r.rank, .int .i64 r.cif.kind, .string (mk r.cif.lo), .string (mk r.cif.hi), .int .i64 r.cif.n, k, u, s] 85))
 have HQ := Lib.hid (hch.far hb)
 have HB := Lib.hid (hb.mono (Nat.le_of_lt hql))
 have HSt := Lib.hid (hs.move (Below.moves_lo HB.out))
 have HHS : Hid (q < (w.alloc (.cells #[.int .i64 r.rank, .int .i64 r.cif.kind, .string (mk r.cif.lo), .string (mk r.cif.hi), .int .i64 r.cif.n, k, u, s] 85)).heap.size) := Nat.lt_of_lt_of_le hql hb.size
 have HPQ : Hid (w.heap.size ≠ q) := Nat.ne_of_gt hql
 obtain ⟨sa, sc, rfl, hs1, hs2, hs3⟩ := hs.form
 have hs3 : r.sets.length ≤ 281474976710656 := hs3
 have HFIN : Hid (∀ W A1 A2 A3 A4 V1 V2 V3 V4, ChAt W q A1 A2 A3 A4 V1 V2 V3 V4 → (A1, V1) = setsV r.rank 1 r.sets (a1, v1) → (A2, V2) = setsV r.rank 2 r.sets (a2, v2) → (A3, V3) = setsV r.rank 3 r.sets (a3, v3) → (A4, V4) = setsV r.rank 4 r.sets (a4, v4) →
   ChAt W q (setsV r.rank 1 r.sets (a1, v1)).1 (setsV r.rank 2 r.sets (a2, v2)).1 (setsV r.rank 3 r.sets (a3, v3)).1 (setsV r.rank 4 r.sets (a4, v4)).1 (setsV r.rank 1 r.sets (a1, v1)).2 (setsV r.rank 2 r.sets (a2, v2)).2 (setsV r.rank 3 r.sets (a3, v3)).2 (setsV r.rank 4 r.sets (a4, v4)).2) := by
  intro W A1 A2 A3 A4 V1 V2 V3 V4 h e1 e2 e3 e4
  rw [← e1, ← e2, ← e3, ← e4]
  exact h
 clear hs hb hch hql
 go_enter Tryz.func87, Tryz.ntmps87
 go_upto_region 1 with fail
 generalize w.alloc (.cells #[.int .i64 r.rank, .int .i64 r.cif.kind, .string (mk r.cif.lo), .string (mk r.cif.hi), .int .i64 r.cif.n, k, u, .slice sa r.sets.length sc] 85) = W at *
 generalize w.heap.size = p3 at *
 obtain ⟨x0, x1, x2, x3, x4, x5, x6, x7⟩ := beight HX.out
 have HBW := Lib.hid (Below.refl q W)
 go_wp2
 go_loopg [9] (r.sets.length) (fun g i wr => ∃ (j : Nat) (A1 A2 A3 A4 V1 V2 V3 V4 : Int), j ≤ r.sets.length ∧ g = r.sets.length - j ∧ i = .int .i64 j ∧ Hid (Below q W wr) ∧ Hid (wr.heap[p3]? = some (.cells #[.int .i64 r.rank, .int .i64 r.cif.kind, .string (mk r.cif.lo), .string (mk r.cif.hi), .int .i64 r.cif.n, k, u, .slice sa r.sets.length sc] 85 (0, 0))) ∧ Hid (ChAt wr q A1 A2 A3 A4 V1 V2 V3 V4) ∧ Hid ((A1, V1) = setsV r.rank 1 (r.sets.take j) (a1, v1)) ∧ Hid ((A2, V2) = setsV r.rank 2 (r.sets.take j) (a2, v2)) ∧ Hid ((A3, V3) = setsV r.rank 3 (r.sets.take j) (a3, v3)) ∧ Hid ((A4, V4) = setsV r.rank 4 (r.sets.take j) (a4, v4)))
 case atStart => exact ⟨0, a1, a2, a3, a4, v1, v2, v3, v4, Nat.zero_le _, rfl, rfl, HBW.out, HX.out, HQ.out, rfl, rfl, rfl, rfl⟩
 case round =>
  clear x0 x1 x2 x3 x4 x5 x6 x7 HBW HX HQ
  obtain ⟨j, A1, A2, A3, A4, V1, V2, V3, V4, hj, hgk, rfl, HBr, HX, HQ, E1, E2, E3, E4⟩ := hrel
  by_cases hlt : j < r.sets.length
  case neg =>
   have HR := Lib.hid (HFIN.out wr A1 A2 A3 A4 V1 V2 V3 V4 HQ.out (by have := E1.out; rwa [List.take_of_length_le (by omega)] at this) (by have := E2.out; rwa [List.take_of_length_le (by omega)] at this) (by have := E3.out; rwa [List.take_of_length_le (by omega)] at this) (by have := E4.out; rwa [List.take_of_length_le (by omega)] at this))
   clear E1 E2 E3 E4
   go_wp2
   go_end0
   exact ⟨rfl, HB.out.trans HBr.out, HR.out⟩
  obtain ⟨b, o, rfl, hbs, hxx, hc0, hc1, i0, i1⟩ := StsAt.get (HSt.out.move (Below.moves_lo HBr.out)) j hlt
  have N1 := Lib.hid (setsV_snoc r.rank 1 r.sets (a1, v1) j _ hxx)
  have N2 := Lib.hid (setsV_snoc r.rank 2 r.sets (a2, v2) j _ hxx)
  have N3 := Lib.hid (setsV_snoc r.rank 3 r.sets (a3, v3) j _ hxx)
  have N4 := Lib.hid (setsV_snoc r.rank 4 r.sets (a4, v4) j _ hxx)
  rw [← E1.out] at N1
  rw [← E2.out] at N2
  rw [← E3.out] at N3
  rw [← E4.out] at N4
  clear hxx E1 E2 E3 E4 i0 i1
  generalize r.sets[j] = st at *
  obtain ⟨wh, sn⟩ := st
  change wr.cell? ⟨b, o + j * 2, none⟩ = some (.int .i64 wh) at hc0
  change wr.cell? ⟨b, o + j * 2 + 1, none⟩ = some (.int .i64 sn) at hc1
  have hbz := below_alloc wr (.cells #[.int .i64 wh, .int .i64 sn] 88)
  have HZ := Lib.hid (heap_alloc_new wr (.cells #[.int .i64 wh, .int .i64 sn] 88))
  have hqw : q < wr.heap.size := Nat.lt_of_lt_of_le HHS.out HBr.out.size
  have HB3 := Lib.hid (below_lo HBr.out (Nat.le_of_lt hqw) hbz)
  have HX3 := Lib.hid (keepB HX.out hbz)
  have HQ3 := Lib.hid (HQ.out.far hbz)
  have HSQ : Hid (wr.heap.size ≠ q) := Nat.ne_of_gt hqw
  have HQL : Hid (q ≤ (wr.alloc (.cells #[.int .i64 wh, .int .i64 sn] 88)).heap.size) := Nat.le_of_lt (Nat.lt_of_lt_of_le hqw hbz.size)
  clear hbz hqw hbs
  go_upto_region 4 with fail
  clear hc0 hc1
  generalize wr.alloc (.cells #[.int .i64 wh, .int .i64 sn] 88) = W3 at *
  generalize wr.heap.size = s5 at *
  clear HX HQ HBr
  have HD := Lib.hid (Below.drew (Below.refl W3.heap.size W3))
  have HXK := Lib.hid fun W' (hW : Below W3.heap.size W3 W') => And.intro (beight (keepB HX3.out hW)) (And.intro (box_two (keepB HZ.out hW)) (HQ3.out.far hW).cells)
  by_cases h1 : 1 ≤ wh
  case neg =>
   go_cut [32] (fun s wx => s = .bool false ∧ Hid (Below W3.heap.size W3 wx))
   case first =>
    refine Ri.wp_region_lasting_g (by kernel_rfl) (by kernel_rfl) (by kernel_rfl) (fun Wx => Below W3.heap.size W3 Wx) (fun kz vs wz => (fun kx vx wx => match kx with | 0 => vx = .pointer (some ⟨s5, 0, none⟩) | 1 => vx = .int .i64 wh | 2 => vx = .bool false | 3 => vx = .bool false | 4 => True | 5 => True | 6 => True | 7 => vx = .bool false | 8 => vx = .bool false | 9 => True | 10 => True | 11 => True | 12 => True | 13 => True | 14 => True | 15 => True | 16 => True | 17 => True | 18 => True | 19 => vx = .bool false | _ => True : Nat → Value → World → Prop) kz (vs kz) wz) (fun kz => [kz]) (by kernel_rfl) (fun jz vs iz vz wz hiz hz => Ri.loc_own (F := (fun kx vx wx => match kx with | 0 => vx = .pointer (some ⟨s5, 0, none⟩) | 1 => vx = .int .i64 wh | 2 => vx = .bool false | 3 => vx = .bool false | 4 => True | 5 => True | 6 => True | 7 => vx = .bool false | 8 => vx = .bool false | 9 => True | 10 => True | 11 => True | 12 => True | 13 => True | 14 => True | 15 => True | 16 => True | 17 => True | 18 => True | 19 => vx = .bool false | _ => True : Nat → Value → World → Prop)) jz vs iz vz wz hiz hz) HD.out ⟨Or.inl ⟨rfl, ?_⟩, Or.inl ⟨rfl, ?_⟩, Or.inl ⟨rfl, ?_⟩, Or.inl ⟨rfl, ?_⟩, Or.inr ⟨3, true, 16, rfl, rfl, ?_⟩, Or.inr ⟨3, true, 16, rfl, rfl, ?_⟩, Or.inr ⟨3, true, 16, rfl, rfl, ?_⟩, Or.inl ⟨rfl, ?_⟩, Or.inl ⟨rfl, ?_⟩, Or.inr ⟨8, true, 21, rfl, rfl, ?_⟩, Or.inr ⟨8, true, 21, rfl, rfl, ?_⟩, Or.inr ⟨8, true, 21, rfl, rfl, ?_⟩, Or.inr ⟨8, true, 21, rfl, rfl, ?_⟩, Or.inr ⟨8, true, 21, rfl, rfl, ?_⟩, Or.inr ⟨8, true, 21, rfl, rfl, ?_⟩, Or.inr ⟨8, true, 21, rfl, rfl, ?_⟩, Or.inr ⟨8, true, 21, rfl, rfl, ?_⟩, Or.inr ⟨8, true, 21, rfl, rfl, ?_⟩, Or.inr ⟨8, true, 21, rfl, rfl, ?_⟩, Or.inl ⟨rfl, ?_⟩, trivial⟩ ?_
    ·intro vs Wx A hA hB hpre K hK
     have e5 := (hA 5).trans (show _ = Value.pointer (some ⟨s5, 0, none⟩) by kernel_rfl)
     clear hA hpre
     go_simp
     exact hK _ _ hB rfl (fun _ _ h => h)
    ·intro vs Wx A hA hB hpre K hK
     have e13 := ((hA 13).trans (show _ = vs 0 by kernel_rfl)).trans (hpre.1 rfl)
     obtain ⟨⟨x0, x1, x2, x3, x4, x5, x6, x7⟩, ⟨y0, y1, -, -⟩, ⟨c1, c2, c3, c4, d1, d2, d3, d4⟩⟩ := HXK.out Wx hB
     clear hA hpre
     go_simp
     exact hK _ _ hB rfl (fun _ _ h => h)
    ·intro vs Wx A hA hB hpre K hK
     have e14 := ((hA 14).trans (show _ = vs 1 by kernel_rfl)).trans (hpre.1 rfl)
     clear hA hpre
     go_simp
     exact hK _ _ hB rfl (fun _ _ h => h)
    ·intro vs Wx A hA hB hpre K hK
     have e15 := ((hA 15).trans (show _ = vs 2 by kernel_rfl)).trans (hpre.1 rfl)
     clear hA hpre
     go_simp
     exact hK _ _ hB rfl (fun _ _ h => h)
    ·intro vs Wx A hA hB hpre
     have eg := ((hA 16).trans (show _ = vs 3 by kernel_rfl)).trans (hpre.1 rfl)
     exact ⟨false, eg, fun h => (by cases h), fun _ => trivial⟩
    iterate 2
     ·intro vs Wx A hA hB hpre
      have eg := ((hA 16).trans (show _ = vs 3 by kernel_rfl)).trans (hpre.2.1 rfl)
      exact ⟨false, eg, fun h => (by cases h), fun _ => trivial⟩
    ·intro vs Wx A hA hB hpre K hK
     have e16 := ((hA 16).trans (show _ = vs 3 by kernel_rfl)).trans (hpre.1 rfl)
     clear hA hpre
     go_simp
     exact hK _ _ hB rfl (fun _ _ h => h)
    ·intro vs Wx A hA hB hpre K hK
     have e20 := ((hA 20).trans (show _ = vs 7 by kernel_rfl)).trans (hpre.1 rfl)
     clear hA hpre
     go_simp
     exact hK _ _ hB rfl (fun _ _ h => h)
    ·intro vs Wx A hA hB hpre
     have eg := ((hA 21).trans (show _ = vs 8 by kernel_rfl)).trans (hpre.1 rfl)
     exact ⟨false, eg, fun h => (by cases h), fun _ => trivial⟩
    ·intro vs Wx A hA hB hpre
     have eg := ((hA 21).trans (show _ = vs 8 by kernel_rfl)).trans (hpre.2.1 rfl)
     exact ⟨false, eg, fun h => (by cases h), fun _ => trivial⟩
    iterate 2
     ·intro vs Wx A hA hB hpre
      have eg := ((hA 21).trans (show _ = vs 8 by kernel_rfl)).trans (hpre.1 rfl)
      exact ⟨false, eg, fun h => (by cases h), fun _ => trivial⟩
    iterate 3
     ·intro vs Wx A hA hB hpre
      have eg := ((hA 21).trans (show _ = vs 8 by kernel_rfl)).trans (hpre.2.1 rfl)
      exact ⟨false, eg, fun h => (by cases h), fun _ => trivial⟩
    ·intro vs Wx A hA hB hpre
     have eg := ((hA 21).trans (show _ = vs 8 by kernel_rfl)).trans (hpre.2.2.1 rfl)
     exact ⟨false, eg, fun h => (by cases h), fun _ => trivial⟩
    ·intro vs Wx A hA hB hpre
     have eg := ((hA 21).trans (show _ = vs 8 by kernel_rfl)).trans (hpre.2.1 rfl)
     exact ⟨false, eg, fun h => (by cases h), fun _ => trivial⟩
    ·intro vs Wx A hA hB hpre
     have eg := ((hA 21).trans (show _ = vs 8 by kernel_rfl)).trans (hpre.2.2.1 rfl)
     exact ⟨false, eg, fun h => (by cases h), fun _ => trivial⟩
    ·intro vs Wx A hA hB hpre K hK
     have e21 := ((hA 21).trans (show _ = vs 8 by kernel_rfl)).trans (hpre.1 rfl)
     clear hA hpre
     go_simp
     exact hK _ _ hB rfl (fun _ _ h => h)
    ·intro vs Wx hB hF
     have h32 : vs 19 = .bool false := hF 19 (by decide)
     have HBW := Lib.hid hB
     clear hF hB
     simp only [Ri.puts]
     go_simp
     go_wp2_with fail
     go_meet
     exact ⟨by first | rfl | exact h32, HBW.out⟩
   case rest =>
    obtain ⟨rfl, HBx⟩ := hcut
    have HXx := Lib.hid (keepB HX3.out HBx.out)
    have HQx := Lib.hid (HQ3.out.far HBx.out)
    have HBn := Lib.hid (below_lo HB3.out HQL.out HBx.out)
    clear HXK HD
    go_wp2
    go_roundg (r.sets.length - (j + 1))
    case rel => exact ⟨j + 1, A1, A2, A3, A4, V1, V2, V3, V4, by omega, rfl, by go_num, HBn.out, HXx.out, HQx.out, by show _ = _; rw [N1.out]; unfold stS; rw [if_neg (by first | (simp; done) | (simp; omega))], by show _ = _; rw [N2.out]; unfold stS; rw [if_neg (by first | (simp; done) | (simp; omega))], by show _ = _; rw [N3.out]; unfold stS; rw [if_neg (by first | (simp; done) | (simp; omega))], by show _ = _; rw [N4.out]; unfold stS; rw [if_neg (by first | (simp; done) | (simp; omega))]⟩
    case measure => omega
  by_cases h4 : wh ≤ 4
  case neg =>
   go_cut [32] (fun s wx => s = .bool false ∧ Hid (Below W3.heap.size W3 wx))
   case first =>
    refine Ri.wp_region_lasting_g (by kernel_rfl) (by kernel_rfl) (by kernel_rfl) (fun Wx => Below W3.heap.size W3 Wx) (fun kz vs wz => (fun kx vx wx => match kx with | 0 => vx = .pointer (some ⟨s5, 0, none⟩) | 1 => vx = .int .i64 wh | 2 => vx = .bool true | 3 => vx = .bool true | 4 => vx = .pointer (some ⟨s5, 0, none⟩) | 5 => vx = .int .i64 wh | 6 => vx = .bool false | 7 => vx = .bool false | 8 => vx = .bool false | 9 => True | 10 => True | 11 => True | 12 => True | 13 => True | 14 => True | 15 => True | 16 => True | 17 => True | 18 => True | 19 => vx = .bool false | _ => True : Nat → Value → World → Prop) kz (vs kz) wz) (fun kz => [kz]) (by kernel_rfl) (fun jz vs iz vz wz hiz hz => Ri.loc_own (F := (fun kx vx wx => match kx with | 0 => vx = .pointer (some ⟨s5, 0, none⟩) | 1 => vx = .int .i64 wh | 2 => vx = .bool true | 3 => vx = .bool true | 4 => vx = .pointer (some ⟨s5, 0, none⟩) | 5 => vx = .int .i64 wh | 6 => vx = .bool false | 7 => vx = .bool false | 8 => vx = .bool false | 9 => True | 10 => True | 11 => True | 12 => True | 13 => True | 14 => True | 15 => True | 16 => True | 17 => True | 18 => True | 19 => vx = .bool false | _ => True : Nat → Value → World → Prop)) jz vs iz vz wz hiz hz) HD.out ⟨Or.inl ⟨rfl, ?_⟩, Or.inl ⟨rfl, ?_⟩, Or.inl ⟨rfl, ?_⟩, Or.inl ⟨rfl, ?_⟩, Or.inr ⟨3, true, 16, rfl, rfl, ?_⟩, Or.inr ⟨3, true, 16, rfl, rfl, ?_⟩, Or.inr ⟨3, true, 16, rfl, rfl, ?_⟩, Or.inl ⟨rfl, ?_⟩, Or.inl ⟨rfl, ?_⟩, Or.inr ⟨8, true, 21, rfl, rfl, ?_⟩, Or.inr ⟨8, true, 21, rfl, rfl, ?_⟩, Or.inr ⟨8, true, 21, rfl, rfl, ?_⟩, Or.inr ⟨8, true, 21, rfl, rfl, ?_⟩, Or.inr ⟨8, true, 21, rfl, rfl, ?_⟩, Or.inr ⟨8, true, 21, rfl, rfl, ?_⟩, Or.inr ⟨8, true, 21, rfl, rfl, ?_⟩, Or.inr ⟨8, true, 21, rfl, rfl, ?_⟩, Or.inr ⟨8, true, 21, rfl, rfl, ?_⟩, Or.inr ⟨8, true, 21, rfl, rfl, ?_⟩, Or.inl ⟨rfl, ?_⟩, trivial⟩ ?_
    ·intro vs Wx A hA hB hpre K hK
     have e5 := (hA 5).trans (show _ = Value.pointer (some ⟨s5, 0, none⟩) by kernel_rfl)
     clear hA hpre
     go_simp
     exact hK _ _ hB rfl (fun _ _ h => h)
    ·intro vs Wx A hA hB hpre K hK
     have e13 := ((hA 13).trans (show _ = vs 0 by kernel_rfl)).trans (hpre.1 rfl)
     obtain ⟨⟨x0, x1, x2, x3, x4, x5, x6, x7⟩, ⟨y0, y1, -, -⟩, ⟨c1, c2, c3, c4, d1, d2, d3, d4⟩⟩ := HXK.out Wx hB
     clear hA hpre
     go_simp
     exact hK _ _ hB rfl (fun _ _ h => h)
    ·intro vs Wx A hA hB hpre K hK
     have e14 := ((hA 14).trans (show _ = vs 1 by kernel_rfl)).trans (hpre.1 rfl)
     clear hA hpre
     go_simp
     exact hK _ _ hB rfl (fun _ _ h => h)
    ·intro vs Wx A hA hB hpre K hK
     have e15 := ((hA 15).trans (show _ = vs 2 by kernel_rfl)).trans (hpre.1 rfl)
     clear hA hpre
     go_simp
     exact hK _ _ hB rfl (fun _ _ h => h)
    ·intro vs Wx A hA hB hpre
     have eg := ((hA 16).trans (show _ = vs 3 by kernel_rfl)).trans (hpre.1 rfl)
     refine ⟨true, eg, fun _ K hK => ?_, fun h => absurd rfl h⟩
     have e5 := (hA 5).trans (show _ = Value.pointer (some ⟨s5, 0, none⟩) by kernel_rfl)
     clear hA hpre
     go_simp
     exact hK _ _ hB rfl (fun _ _ h => h)
    ·intro vs Wx A hA hB hpre
     have eg := ((hA 16).trans (show _ = vs 3 by kernel_rfl)).trans (hpre.2.1 rfl)
     refine ⟨true, eg, fun _ K hK => ?_, fun h => absurd rfl h⟩
     have e17 := ((hA 17).trans (show _ = vs 4 by kernel_rfl)).trans (hpre.1 rfl)
     obtain ⟨⟨x0, x1, x2, x3, x4, x5, x6, x7⟩, ⟨y0, y1, -, -⟩, ⟨c1, c2, c3, c4, d1, d2, d3, d4⟩⟩ := HXK.out Wx hB
     clear hA hpre
     go_simp
     exact hK _ _ hB rfl (fun _ _ h => h)
    ·intro vs Wx A hA hB hpre
     have eg := ((hA 16).trans (show _ = vs 3 by kernel_rfl)).trans (hpre.2.1 rfl)
     refine ⟨true, eg, fun _ K hK => ?_, fun h => absurd rfl h⟩
     have e18 := ((hA 18).trans (show _ = vs 5 by kernel_rfl)).trans (hpre.1 rfl)
     clear hA hpre
     go_simp
     exact hK _ _ hB rfl (fun _ _ h => h)
    ·intro vs Wx A hA hB hpre K hK
     have e16 := ((hA 16).trans (show _ = vs 3 by kernel_rfl)).trans (hpre.1 rfl)
     have e19 := ((hA 19).trans (show _ = vs 6 by kernel_rfl)).trans (hpre.2.1 rfl)
     clear hA hpre
     go_simp
     exact hK _ _ hB rfl (fun _ _ h => h)
    ·intro vs Wx A hA hB hpre K hK
     have e20 := ((hA 20).trans (show _ = vs 7 by kernel_rfl)).trans (hpre.1 rfl)
     clear hA hpre
     go_simp
     exact hK _ _ hB rfl (fun _ _ h => h)
    ·intro vs Wx A hA hB hpre
     have eg := ((hA 21).trans (show _ = vs 8 by kernel_rfl)).trans (hpre.1 rfl)
     exact ⟨false, eg, fun h => (by cases h), fun _ => trivial⟩
    ·intro vs Wx A hA hB hpre
     have eg := ((hA 21).trans (show _ = vs 8 by kernel_rfl)).trans (hpre.2.1 rfl)
     exact ⟨false, eg, fun h => (by cases h), fun _ => trivial⟩
    iterate 2
     ·intro vs Wx A hA hB hpre
      have eg := ((hA 21).trans (show _ = vs 8 by kernel_rfl)).trans (hpre.1 rfl)
      exact ⟨false, eg, fun h => (by cases h), fun _ => trivial⟩
    iterate 3
     ·intro vs Wx A hA hB hpre
      have eg := ((hA 21).trans (show _ = vs 8 by kernel_rfl)).trans (hpre.2.1 rfl)
      exact ⟨false, eg, fun h => (by cases h), fun _ => trivial⟩
    ·intro vs Wx A hA hB hpre
     have eg := ((hA 21).trans (show _ = vs 8 by kernel_rfl)).trans (hpre.2.2.1 rfl)
     exact ⟨false, eg, fun h => (by cases h), fun _ => trivial⟩
    ·intro vs Wx A hA hB hpre
     have eg := ((hA 21).trans (show _ = vs 8 by kernel_rfl)).trans (hpre.2.1 rfl)
     exact ⟨false, eg, fun h => (by cases h), fun _ => trivial⟩
    ·intro vs Wx A hA hB hpre
     have eg := ((hA 21).trans (show _ = vs 8 by kernel_rfl)).trans (hpre.2.2.1 rfl)
     exact ⟨false, eg, fun h => (by cases h), fun _ => trivial⟩
    ·intro vs Wx A hA hB hpre K hK
     have e21 := ((hA 21).trans (show _ = vs 8 by kernel_rfl)).trans (hpre.1 rfl)
     clear hA hpre
     go_simp
     exact hK _ _ hB rfl (fun _ _ h => h)
    ·intro vs Wx hB hF
     have h32 : vs 19 = .bool false := hF 19 (by decide)
     have HBW := Lib.hid hB
     clear hF hB
     simp only [Ri.puts]
     go_simp
     go_wp2_with fail
     go_meet
     exact ⟨by first | rfl | exact h32, HBW.out⟩
   case rest =>
    obtain ⟨rfl, HBx⟩ := hcut
    have HXx := Lib.hid (keepB HX3.out HBx.out)
    have HQx := Lib.hid (HQ3.out.far HBx.out)
    have HBn := Lib.hid (below_lo HB3.out HQL.out HBx.out)
    clear HXK HD
    go_wp2
    go_roundg (r.sets.length - (j + 1))
    case rel => exact ⟨j + 1, A1, A2, A3, A4, V1, V2, V3, V4, by omega, rfl, by go_num, HBn.out, HXx.out, HQx.out, by show _ = _; rw [N1.out]; unfold stS; rw [if_neg (by first | (simp; done) | (simp; omega))], by show _ = _; rw [N2.out]; unfold stS; rw [if_neg (by first | (simp; done) | (simp; omega))], by show _ = _; rw [N3.out]; unfold stS; rw [if_neg (by first | (simp; done) | (simp; omega))], by show _ = _; rw [N4.out]; unfold stS; rw [if_neg (by first | (simp; done) | (simp; omega))]⟩
    case measure => omega
  by_cases hk : wh = 1
  case pos =>
   subst hk
   clear h1 h4
   by_cases hgt : A1 < r.rank
   case neg =>
    go_cut [32] (fun s wx => s = .bool false ∧ Hid (Below W3.heap.size W3 wx))
    case first =>
     refine Ri.wp_region_lasting_g (by kernel_rfl) (by kernel_rfl) (by kernel_rfl) (fun Wx => Below W3.heap.size W3 Wx) (fun kz vs wz => (fun kx vx wx => match kx with | 0 => vx = .pointer (some ⟨s5, 0, none⟩) | 1 => vx = .int .i64 1 | 2 => vx = .bool true | 3 => vx = .bool true | 4 => vx = .pointer (some ⟨s5, 0, none⟩) | 5 => vx = .int .i64 1 | 6 => vx = .bool true | 7 => vx = .bool true | 8 => vx = .bool true | 9 => vx = .pointer (some ⟨p3, 0, none⟩) | 10 => vx = .int .i64 r.rank | 11 => vx = .pointer (some ⟨q, 0, none⟩) | 12 => vx = .pointer (some ⟨s5, 0, none⟩) | 13 => vx = .int .i64 1 | 14 => vx = .pointer (some ⟨q, 0, none⟩) | 15 => vx = .pointer (some ⟨q, 0, none⟩) | 16 => vx = .pointer (some ⟨q, 1, none⟩) | 17 => vx = .int .i64 A1 | 18 => vx = .bool false | 19 => vx = .bool false | _ => True : Nat → Value → World → Prop) kz (vs kz) wz) (fun kz => [kz]) (by kernel_rfl) (fun jz vs iz vz wz hiz hz => Ri.loc_own (F := (fun kx vx wx => match kx with | 0 => vx = .pointer (some ⟨s5, 0, none⟩) | 1 => vx = .int .i64 1 | 2 => vx = .bool true | 3 => vx = .bool true | 4 => vx = .pointer (some ⟨s5, 0, none⟩) | 5 => vx = .int .i64 1 | 6 => vx = .bool true | 7 => vx = .bool true | 8 => vx = .bool true | 9 => vx = .pointer (some ⟨p3, 0, none⟩) | 10 => vx = .int .i64 r.rank | 11 => vx = .pointer (some ⟨q, 0, none⟩) | 12 => vx = .pointer (some ⟨s5, 0, none⟩) | 13 => vx = .int .i64 1 | 14 => vx = .pointer (some ⟨q, 0, none⟩) | 15 => vx = .pointer (some ⟨q, 0, none⟩) | 16 => vx = .pointer (some ⟨q, 1, none⟩) | 17 => vx = .int .i64 A1 | 18 => vx = .bool false | 19 => vx = .bool false | _ => True : Nat → Value → World → Prop)) jz vs iz vz wz hiz hz) HD.out ⟨Or.inl ⟨rfl, ?_⟩, Or.inl ⟨rfl, ?_⟩, Or.inl ⟨rfl, ?_⟩, Or.inl ⟨rfl, ?_⟩, Or.inr ⟨3, true, 16, rfl, rfl, ?_⟩, Or.inr ⟨3, true, 16, rfl, rfl, ?_⟩, Or.inr ⟨3, true, 16, rfl, rfl, ?_⟩, Or.inl ⟨rfl, ?_⟩, Or.inl ⟨rfl, ?_⟩, Or.inr ⟨8, true, 21, rfl, rfl, ?_⟩, Or.inr ⟨8, true, 21, rfl, rfl, ?_⟩, Or.inr ⟨8, true, 21, rfl, rfl, ?_⟩, Or.inr ⟨8, true, 21, rfl, rfl, ?_⟩, Or.inr ⟨8, true, 21, rfl, rfl, ?_⟩, Or.inr ⟨8, true, 21, rfl, rfl, ?_⟩, Or.inr ⟨8, true, 21, rfl, rfl, ?_⟩, Or.inr ⟨8, true, 21, rfl, rfl, ?_⟩, Or.inr ⟨8, true, 21, rfl, rfl, ?_⟩, Or.inr ⟨8, true, 21, rfl, rfl, ?_⟩, Or.inl ⟨rfl, ?_⟩, trivial⟩ ?_
     ·intro vs Wx A hA hB hpre K hK
      have e5 := (hA 5).trans (show _ = Value.pointer (some ⟨s5, 0, none⟩) by kernel_rfl)
      clear hA hpre
      go_simp
      exact hK _ _ hB rfl (fun _ _ h => h)
     ·intro vs Wx A hA hB hpre K hK
      have e13 := ((hA 13).trans (show _ = vs 0 by kernel_rfl)).trans (hpre.1 rfl)
      obtain ⟨⟨x0, x1, x2, x3, x4, x5, x6, x7⟩, ⟨y0, y1, -, -⟩, ⟨c1, c2, c3, c4, d1, d2, d3, d4⟩⟩ := HXK.out Wx hB
      clear hA hpre
      go_simp
      exact hK _ _ hB rfl (fun _ _ h => h)
     ·intro vs Wx A hA hB hpre K hK
      have e14 := ((hA 14).trans (show _ = vs 1 by kernel_rfl)).trans (hpre.1 rfl)
      clear hA hpre
      go_simp
      exact hK _ _ hB rfl (fun _ _ h => h)
     ·intro vs Wx A hA hB hpre K hK
      have e15 := ((hA 15).trans (show _ = vs 2 by kernel_rfl)).trans (hpre.1 rfl)
      clear hA hpre
      go_simp
      exact hK _ _ hB rfl (fun _ _ h => h)
     ·intro vs Wx A hA hB hpre
      have eg := ((hA 16).trans (show _ = vs 3 by kernel_rfl)).trans (hpre.1 rfl)
      refine ⟨true, eg, fun _ K hK => ?_, fun h => absurd rfl h⟩
      have e5 := (hA 5).trans (show _ = Value.pointer (some ⟨s5, 0, none⟩) by kernel_rfl)
      clear hA hpre
      go_simp
      exact hK _ _ hB rfl (fun _ _ h => h)
     ·intro vs Wx A hA hB hpre
      have eg := ((hA 16).trans (show _ = vs 3 by kernel_rfl)).trans (hpre.2.1 rfl)
      refine ⟨true, eg, fun _ K hK => ?_, fun h => absurd rfl h⟩
      have e17 := ((hA 17).trans (show _ = vs 4 by kernel_rfl)).trans (hpre.1 rfl)
      obtain ⟨⟨x0, x1, x2, x3, x4, x5, x6, x7⟩, ⟨y0, y1, -, -⟩, ⟨c1, c2, c3, c4, d1, d2, d3, d4⟩⟩ := HXK.out Wx hB
      clear hA hpre
      go_simp
      exact hK _ _ hB rfl (fun _ _ h => h)
     ·intro vs Wx A hA hB hpre
      have eg := ((hA 16).trans (show _ = vs 3 by kernel_rfl)).trans (hpre.2.1 rfl)
      refine ⟨true, eg, fun _ K hK => ?_, fun h => absurd rfl h⟩
      have e18 := ((hA 18).trans (show _ = vs 5 by kernel_rfl)).trans (hpre.1 rfl)
      clear hA hpre
      go_simp
      exact hK _ _ hB rfl (fun _ _ h => h)
     ·intro vs Wx A hA hB hpre K hK
      have e16 := ((hA 16).trans (show _ = vs 3 by kernel_rfl)).trans (hpre.1 rfl)
      have e19 := ((hA 19).trans (show _ = vs 6 by kernel_rfl)).trans (hpre.2.1 rfl)
      clear hA hpre
      go_simp
      exact hK _ _ hB rfl (fun _ _ h => h)
     ·intro vs Wx A hA hB hpre K hK
      have e20 := ((hA 20).trans (show _ = vs 7 by kernel_rfl)).trans (hpre.1 rfl)
      clear hA hpre
      go_simp
      exact hK _ _ hB rfl (fun _ _ h => h)
     ·intro vs Wx A hA hB hpre
      have eg := ((hA 21).trans (show _ = vs 8 by kernel_rfl)).trans (hpre.1 rfl)
      refine ⟨true, eg, fun _ K hK => ?_, fun h => absurd rfl h⟩
      have e3 := (hA 3).trans (show _ = Value.pointer (some ⟨p3, 0, none⟩) by kernel_rfl)
      clear hA hpre
      go_simp
      exact hK _ _ hB rfl (fun _ _ h => h)
     ·intro vs Wx A hA hB hpre
      have eg := ((hA 21).trans (show _ = vs 8 by kernel_rfl)).trans (hpre.2.1 rfl)
      refine ⟨true, eg, fun _ K hK => ?_, fun h => absurd rfl h⟩
      have e22 := ((hA 22).trans (show _ = vs 9 by kernel_rfl)).trans (hpre.1 rfl)
      obtain ⟨⟨x0, x1, x2, x3, x4, x5, x6, x7⟩, ⟨y0, y1, -, -⟩, ⟨c1, c2, c3, c4, d1, d2, d3, d4⟩⟩ := HXK.out Wx hB
      clear hA hpre
      go_simp
      exact hK _ _ hB rfl (fun _ _ h => h)
     ·intro vs Wx A hA hB hpre
      have eg := ((hA 21).trans (show _ = vs 8 by kernel_rfl)).trans (hpre.1 rfl)
      refine ⟨true, eg, fun _ K hK => ?_, fun h => absurd rfl h⟩
      have e0 := (hA 0).trans (show _ = Value.pointer (some ⟨q, 0, none⟩) by kernel_rfl)
      clear hA hpre
      go_simp
      exact hK _ _ hB rfl (fun _ _ h => h)
     ·intro vs Wx A hA hB hpre
      have eg := ((hA 21).trans (show _ = vs 8 by kernel_rfl)).trans (hpre.1 rfl)
      refine ⟨true, eg, fun _ K hK => ?_, fun h => absurd rfl h⟩
      have e5 := (hA 5).trans (show _ = Value.pointer (some ⟨s5, 0, none⟩) by kernel_rfl)
      clear hA hpre
      go_simp
      exact hK _ _ hB rfl (fun _ _ h => h)
     ·intro vs Wx A hA hB hpre
      have eg := ((hA 21).trans (show _ = vs 8 by kernel_rfl)).trans (hpre.2.1 rfl)
      refine ⟨true, eg, fun _ K hK => ?_, fun h => absurd rfl h⟩
      have e25 := ((hA 25).trans (show _ = vs 12 by kernel_rfl)).trans (hpre.1 rfl)
      obtain ⟨⟨x0, x1, x2, x3, x4, x5, x6, x7⟩, ⟨y0, y1, -, -⟩, ⟨c1, c2, c3, c4, d1, d2, d3, d4⟩⟩ := HXK.out Wx hB
      clear hA hpre
      go_simp
      exact hK _ _ hB rfl (fun _ _ h => h)
     ·intro vs Wx A hA hB hpre
      have eg := ((hA 21).trans (show _ = vs 8 by kernel_rfl)).trans (hpre.2.1 rfl)
      refine ⟨true, eg, fun _ K hK => ?_, fun h => absurd rfl h⟩
      have e24 := ((hA 24).trans (show _ = vs 11 by kernel_rfl)).trans (hpre.1 rfl)
      clear hA hpre
      go_simp
      exact hK _ _ hB rfl (fun _ _ h => h)
     ·intro vs Wx A hA hB hpre
      have eg := ((hA 21).trans (show _ = vs 8 by kernel_rfl)).trans (hpre.2.1 rfl)
      refine ⟨true, eg, fun _ K hK => ?_, fun h => absurd rfl h⟩
      have e27 := ((hA 27).trans (show _ = vs 14 by kernel_rfl)).trans (hpre.1 rfl)
      clear hA hpre
      go_simp
      exact hK _ _ hB rfl (fun _ _ h => h)
     ·intro vs Wx A hA hB hpre
      have eg := ((hA 21).trans (show _ = vs 8 by kernel_rfl)).trans (hpre.2.2.1 rfl)
      refine ⟨true, eg, fun _ K hK => ?_, fun h => absurd rfl h⟩
      have e28 := ((hA 28).trans (show _ = vs 15 by kernel_rfl)).trans (hpre.1 rfl)
      have e26 := ((hA 26).trans (show _ = vs 13 by kernel_rfl)).trans (hpre.2.1 rfl)
      clear hA hpre
      go_simp
      exact hK _ _ hB rfl (fun _ _ h => h)
     ·intro vs Wx A hA hB hpre
      have eg := ((hA 21).trans (show _ = vs 8 by kernel_rfl)).trans (hpre.2.1 rfl)
      refine ⟨true, eg, fun _ K hK => ?_, fun h => absurd rfl h⟩
      have e29 := ((hA 29).trans (show _ = vs 16 by kernel_rfl)).trans (hpre.1 rfl)
      obtain ⟨⟨x0, x1, x2, x3, x4, x5, x6, x7⟩, ⟨y0, y1, -, -⟩, ⟨c1, c2, c3, c4, d1, d2, d3, d4⟩⟩ := HXK.out Wx hB
      clear hA hpre
      go_simp
      exact hK _ _ hB rfl (fun _ _ h => h)
     ·intro vs Wx A hA hB hpre
      have eg := ((hA 21).trans (show _ = vs 8 by kernel_rfl)).trans (hpre.2.2.1 rfl)
      refine ⟨true, eg, fun _ K hK => ?_, fun h => absurd rfl h⟩
      have e23 := ((hA 23).trans (show _ = vs 10 by kernel_rfl)).trans (hpre.1 rfl)
      have e30 := ((hA 30).trans (show _ = vs 17 by kernel_rfl)).trans (hpre.2.1 rfl)
      clear hA hpre
      go_simp
      exact hK _ _ hB rfl (fun _ _ h => h)
     ·intro vs Wx A hA hB hpre K hK
      have e21 := ((hA 21).trans (show _ = vs 8 by kernel_rfl)).trans (hpre.1 rfl)
      have e31 := ((hA 31).trans (show _ = vs 18 by kernel_rfl)).trans (hpre.2.1 rfl)
      clear hA hpre
      go_simp
      exact hK _ _ hB rfl (fun _ _ h => h)
     ·intro vs Wx hB hF
      have h32 : vs 19 = .bool false := hF 19 (by decide)
      have HBW := Lib.hid hB
      clear hF hB
      simp only [Ri.puts]
      go_simp
      go_wp2_with fail
      go_meet
      exact ⟨by first | rfl | exact h32, HBW.out⟩
    case rest =>
     obtain ⟨rfl, HBx⟩ := hcut
     have HXx := Lib.hid (keepB HX3.out HBx.out)
     have HQx := Lib.hid (HQ3.out.far HBx.out)
     have HBn := Lib.hid (below_lo HB3.out HQL.out HBx.out)
     clear HXK HD
     go_wp2
     go_roundg (r.sets.length - (j + 1))
     case rel => exact ⟨j + 1, A1, A2, A3, A4, V1, V2, V3, V4, by omega, rfl, by go_num, HBn.out, HXx.out, HQx.out, by show _ = _; rw [N1.out]; unfold stS; rw [if_neg (by first | (simp; done) | (simp; omega))], by show _ = _; rw [N2.out]; unfold stS; rw [if_neg (by first | (simp; done) | (simp; omega))], by show _ = _; rw [N3.out]; unfold stS; rw [if_neg (by first | (simp; done) | (simp; omega))], by show _ = _; rw [N4.out]; unfold stS; rw [if_neg (by first | (simp; done) | (simp; omega))]⟩
     case measure => omega
   go_cut [32] (fun s wx => s = .bool true ∧ Hid (Below W3.heap.size W3 wx))
   case first =>
    refine Ri.wp_region_lasting_g (by kernel_rfl) (by kernel_rfl) (by kernel_rfl) (fun Wx => Below W3.heap.size W3 Wx) (fun kz vs wz => (fun kx vx wx => match kx with | 0 => vx = .pointer (some ⟨s5, 0, none⟩) | 1 => vx = .int .i64 1 | 2 => vx = .bool true | 3 => vx = .bool true | 4 => vx = .pointer (some ⟨s5, 0, none⟩) | 5 => vx = .int .i64 1 | 6 => vx = .bool true | 7 => vx = .bool true | 8 => vx = .bool true | 9 => vx = .pointer (some ⟨p3, 0, none⟩) | 10 => vx = .int .i64 r.rank | 11 => vx = .pointer (some ⟨q, 0, none⟩) | 12 => vx = .pointer (some ⟨s5, 0, none⟩) | 13 => vx = .int .i64 1 | 14 => vx = .pointer (some ⟨q, 0, none⟩) | 15 => vx = .pointer (some ⟨q, 0, none⟩) | 16 => vx = .pointer (some ⟨q, 1, none⟩) | 17 => vx = .int .i64 A1 | 18 => vx = .bool true | 19 => vx = .bool true | _ => True : Nat → Value → World → Prop) kz (vs kz) wz) (fun kz => [kz]) (by kernel_rfl) (fun jz vs iz vz wz hiz hz => Ri.loc_own (F := (fun kx vx wx => match kx with | 0 => vx = .pointer (some ⟨s5, 0, none⟩) | 1 => vx = .int .i64 1 | 2 => vx = .bool true | 3 => vx = .bool true | 4 => vx = .pointer (some ⟨s5, 0, none⟩) | 5 => vx = .int .i64 1 | 6 => vx = .bool true | 7 => vx = .bool true | 8 => vx = .bool true | 9 => vx = .pointer (some ⟨p3, 0, none⟩) | 10 => vx = .int .i64 r.rank | 11 => vx = .pointer (some ⟨q, 0, none⟩) | 12 => vx = .pointer (some ⟨s5, 0, none⟩) | 13 => vx = .int .i64 1 | 14 => vx = .pointer (some ⟨q, 0, none⟩) | 15 => vx = .pointer (some ⟨q, 0, none⟩) | 16 => vx = .pointer (some ⟨q, 1, none⟩) | 17 => vx = .int .i64 A1 | 18 => vx = .bool true | 19 => vx = .bool true | _ => True : Nat → Value → World → Prop)) jz vs iz vz wz hiz hz) HD.out ⟨Or.inl ⟨rfl, ?_⟩, Or.inl ⟨rfl, ?_⟩, Or.inl ⟨rfl, ?_⟩, Or.inl ⟨rfl, ?_⟩, Or.inr ⟨3, true, 16, rfl, rfl, ?_⟩, Or.inr ⟨3, true, 16, rfl, rfl, ?_⟩, Or.inr ⟨3, true, 16, rfl, rfl, ?_⟩, Or.inl ⟨rfl, ?_⟩, Or.inl ⟨rfl, ?_⟩, Or.inr ⟨8, true, 21, rfl, rfl, ?_⟩, Or.inr ⟨8, true, 21, rfl, rfl, ?_⟩, Or.inr ⟨8, true, 21, rfl, rfl, ?_⟩, Or.inr ⟨8, true, 21, rfl, rfl, ?_⟩, Or.inr ⟨8, true, 21, rfl, rfl, ?_⟩, Or.inr ⟨8, true, 21, rfl, rfl, ?_⟩, Or.inr ⟨8, true, 21, rfl, rfl, ?_⟩, Or.inr ⟨8, true, 21, rfl, rfl, ?_⟩, Or.inr ⟨8, true, 21, rfl, rfl, ?_⟩, Or.inr ⟨8, true, 21, rfl, rfl, ?_⟩, Or.inl ⟨rfl, ?_⟩, trivial⟩ ?_
    ·intro vs Wx A hA hB hpre K hK
     have e5 := (hA 5).trans (show _ = Value.pointer (some ⟨s5, 0, none⟩) by kernel_rfl)
     clear hA hpre
     go_simp
     exact hK _ _ hB rfl (fun _ _ h => h)
    ·intro vs Wx A hA hB hpre K hK
     have e13 := ((hA 13).trans (show _ = vs 0 by kernel_rfl)).trans (hpre.1 rfl)
     obtain ⟨⟨x0, x1, x2, x3, x4, x5, x6, x7⟩, ⟨y0, y1, -, -⟩, ⟨c1, c2, c3, c4, d1, d2, d3, d4⟩⟩ := HXK.out Wx hB
     clear hA hpre
     go_simp
     exact hK _ _ hB rfl (fun _ _ h => h)
    ·intro vs Wx A hA hB hpre K hK
     have e14 := ((hA 14).trans (show _ = vs 1 by kernel_rfl)).trans (hpre.1 rfl)
     clear hA hpre
     go_simp
     exact hK _ _ hB rfl (fun _ _ h => h)
    ·intro vs Wx A hA hB hpre K hK
     have e15 := ((hA 15).trans (show _ = vs 2 by kernel_rfl)).trans (hpre.1 rfl)
     clear hA hpre
     go_simp
     exact hK _ _ hB rfl (fun _ _ h => h)
    ·intro vs Wx A hA hB hpre
     have eg := ((hA 16).trans (show _ = vs 3 by kernel_rfl)).trans (hpre.1 rfl)
     refine ⟨true, eg, fun _ K hK => ?_, fun h => absurd rfl h⟩
     have e5 := (hA 5).trans (show _ = Value.pointer (some ⟨s5, 0, none⟩) by kernel_rfl)
     clear hA hpre
     go_simp
     exact hK _ _ hB rfl (fun _ _ h => h)
    ·intro vs Wx A hA hB hpre
     have eg := ((hA 16).trans (show _ = vs 3 by kernel_rfl)).trans (hpre.2.1 rfl)
     refine ⟨true, eg, fun _ K hK => ?_, fun h => absurd rfl h⟩
     have e17 := ((hA 17).trans (show _ = vs 4 by kernel_rfl)).trans (hpre.1 rfl)
     obtain ⟨⟨x0, x1, x2, x3, x4, x5, x6, x7⟩, ⟨y0, y1, -, -⟩, ⟨c1, c2, c3, c4, d1, d2, d3, d4⟩⟩ := HXK.out Wx hB
     clear hA hpre
     go_simp
     exact hK _ _ hB rfl (fun _ _ h => h)
    ·intro vs Wx A hA hB hpre
     have eg := ((hA 16).trans (show _ = vs 3 by kernel_rfl)).trans (hpre.2.1 rfl)
     refine ⟨true, eg, fun _ K hK => ?_, fun h => absurd rfl h⟩
     have e18 := ((hA 18).trans (show _ = vs 5 by kernel_rfl)).trans (hpre.1 rfl)
     clear hA hpre
     go_simp
     exact hK _ _ hB rfl (fun _ _ h => h)
    ·intro vs Wx A hA hB hpre K hK
     have e16 := ((hA 16).trans (show _ = vs 3 by kernel_rfl)).trans (hpre.1 rfl)
     have e19 := ((hA 19).trans (show _ = vs 6 by kernel_rfl)).trans (hpre.2.1 rfl)
     clear hA hpre
     go_simp
     exact hK _ _ hB rfl (fun _ _ h => h)
    ·intro vs Wx A hA hB hpre K hK
     have e20 := ((hA 20).trans (show _ = vs 7 by kernel_rfl)).trans (hpre.1 rfl)
     clear hA hpre
     go_simp
     exact hK _ _ hB rfl (fun _ _ h => h)
    ·intro vs Wx A hA hB hpre
     have eg := ((hA 21).trans (show _ = vs 8 by kernel_rfl)).trans (hpre.1 rfl)
     refine ⟨true, eg, fun _ K hK => ?_, fun h => absurd rfl h⟩
     have e3 := (hA 3).trans (show _ = Value.pointer (some ⟨p3, 0, none⟩) by kernel_rfl)
     clear hA hpre
     go_simp
     exact hK _ _ hB rfl (fun _ _ h => h)
    ·intro vs Wx A hA hB hpre
     have eg := ((hA 21).trans (show _ = vs 8 by kernel_rfl)).trans (hpre.2.1 rfl)
     refine ⟨true, eg, fun _ K hK => ?_, fun h => absurd rfl h⟩
     have e22 := ((hA 22).trans (show _ = vs 9 by kernel_rfl)).trans (hpre.1 rfl)
     obtain ⟨⟨x0, x1, x2, x3, x4, x5, x6, x7⟩, ⟨y0, y1, -, -⟩, ⟨c1, c2, c3, c4, d1, d2, d3, d4⟩⟩ := HXK.out Wx hB
     clear hA hpre
     go_simp
     exact hK _ _ hB rfl (fun _ _ h => h)
    ·intro vs Wx A hA hB hpre
     have eg := ((hA 21).trans (show _ = vs 8 by kernel_rfl)).trans (hpre.1 rfl)
     refine ⟨true, eg, fun _ K hK => ?_, fun h => absurd rfl h⟩
     have e0 := (hA 0).trans (show _ = Value.pointer (some ⟨q, 0, none⟩) by kernel_rfl)
     clear hA hpre
     go_simp
     exact hK _ _ hB rfl (fun _ _ h => h)
    ·intro vs Wx A hA hB hpre
     have eg := ((hA 21).trans (show _ = vs 8 by kernel_rfl)).trans (hpre.1 rfl)
     refine ⟨true, eg, fun _ K hK => ?_, fun h => absurd rfl h⟩
     have e5 := (hA 5).trans (show _ = Value.pointer (some ⟨s5, 0, none⟩) by kernel_rfl)
     clear hA hpre
     go_simp
     exact hK _ _ hB rfl (fun _ _ h => h)
    ·intro vs Wx A hA hB hpre
     have eg := ((hA 21).trans (show _ = vs 8 by kernel_rfl)).trans (hpre.2.1 rfl)
     refine ⟨true, eg, fun _ K hK => ?_, fun h => absurd rfl h⟩
     have e25 := ((hA 25).trans (show _ = vs 12 by kernel_rfl)).trans (hpre.1 rfl)
     obtain ⟨⟨x0, x1, x2, x3, x4, x5, x6, x7⟩, ⟨y0, y1, -, -⟩, ⟨c1, c2, c3, c4, d1, d2, d3, d4⟩⟩ := HXK.out Wx hB
     clear hA hpre
     go_simp
     exact hK _ _ hB rfl (fun _ _ h => h)
    ·intro vs Wx A hA hB hpre
     have eg := ((hA 21).trans (show _ = vs 8 by kernel_rfl)).trans (hpre.2.1 rfl)
     refine ⟨true, eg, fun _ K hK => ?_, fun h => absurd rfl h⟩
     have e24 := ((hA 24).trans (show _ = vs 11 by kernel_rfl)).trans (hpre.1 rfl)
     clear hA hpre
     go_simp
     exact hK _ _ hB rfl (fun _ _ h => h)
    ·intro vs Wx A hA hB hpre
     have eg := ((hA 21).trans (show _ = vs 8 by kernel_rfl)).trans (hpre.2.1 rfl)
     refine ⟨true, eg, fun _ K hK => ?_, fun h => absurd rfl h⟩
     have e27 := ((hA 27).trans (show _ = vs 14 by kernel_rfl)).trans (hpre.1 rfl)
     clear hA hpre
     go_simp
     exact hK _ _ hB rfl (fun _ _ h => h)
    ·intro vs Wx A hA hB hpre
     have eg := ((hA 21).trans (show _ = vs 8 by kernel_rfl)).trans (hpre.2.2.1 rfl)
     refine ⟨true, eg, fun _ K hK => ?_, fun h => absurd rfl h⟩
     have e28 := ((hA 28).trans (show _ = vs 15 by kernel_rfl)).trans (hpre.1 rfl)
     have e26 := ((hA 26).trans (show _ = vs 13 by kernel_rfl)).trans (hpre.2.1 rfl)
     clear hA hpre
     go_simp
     exact hK _ _ hB rfl (fun _ _ h => h)
    ·intro vs Wx A hA hB hpre
     have eg := ((hA 21).trans (show _ = vs 8 by kernel_rfl)).trans (hpre.2.1 rfl)
     refine ⟨true, eg, fun _ K hK => ?_, fun h => absurd rfl h⟩
     have e29 := ((hA 29).trans (show _ = vs 16 by kernel_rfl)).trans (hpre.1 rfl)
     obtain ⟨⟨x0, x1, x2, x3, x4, x5, x6, x7⟩, ⟨y0, y1, -, -⟩, ⟨c1, c2, c3, c4, d1, d2, d3, d4⟩⟩ := HXK.out Wx hB
     clear hA hpre
     go_simp
     exact hK _ _ hB rfl (fun _ _ h => h)
    ·intro vs Wx A hA hB hpre
     have eg := ((hA 21).trans (show _ = vs 8 by kernel_rfl)).trans (hpre.2.2.1 rfl)
     refine ⟨true, eg, fun _ K hK => ?_, fun h => absurd rfl h⟩
     have e23 := ((hA 23).trans (show _ = vs 10 by kernel_rfl)).trans (hpre.1 rfl)
     have e30 := ((hA 30).trans (show _ = vs 17 by kernel_rfl)).trans (hpre.2.1 rfl)
     clear hA hpre
     go_simp
     exact hK _ _ hB rfl (fun _ _ h => h)
    ·intro vs Wx A hA hB hpre K hK
     have e21 := ((hA 21).trans (show _ = vs 8 by kernel_rfl)).trans (hpre.1 rfl)
     have e31 := ((hA 31).trans (show _ = vs 18 by kernel_rfl)).trans (hpre.2.1 rfl)
     clear hA hpre
     go_simp
     exact hK _ _ hB rfl (fun _ _ h => h)
    ·intro vs Wx hB hF
     have h32 : vs 19 = .bool true := hF 19 (by decide)
     have HBW := Lib.hid hB
     clear hF hB
     simp only [Ri.puts]
     go_simp
     go_wp2_with fail
     go_meet
     exact ⟨by first | rfl | exact h32, HBW.out⟩
   case rest =>
    obtain ⟨rfl, HBx⟩ := hcut
    have HXx := Lib.hid (keepB HX3.out HBx.out)
    have HZx := Lib.hid (keepB HZ.out HBx.out)
    have HQx := Lib.hid (HQ3.out.far HBx.out)
    have HBn := Lib.hid (below_lo HB3.out HQL.out HBx.out)
    clear HXK HD HX3 HZ HQ3 HBx HB3
    go_upto_region 5 with fail
    have HD : Hid ((fun Wx => Below q wc Wx ∧ Wx.heap[p3]? = some (.cells #[.int .i64 r.rank, .int .i64 r.cif.kind, .string (mk r.cif.lo), .string (mk r.cif.hi), .int .i64 r.cif.n, k, u, .slice (some ⟨b, o, none⟩) r.sets.length sc] 85 (0, 0)) ∧ Wx.heap[s5]? = some (.cells #[.int .i64 1, .int .i64 sn] 88 (0, 0)) ∧ ∃ A V, ChAt Wx q A A2 A3 A4 V V2 V3 V4) wc.drew) := ⟨Below.drew (Below.refl q wc), HXx.out, HZx.out, _, _, HQx.out⟩
    refine Ri.wp_region_lastingB (by kernel_rfl) (by kernel_rfl) (by kernel_rfl) (fun Wx => Below q wc Wx ∧ Wx.heap[p3]? = some (.cells #[.int .i64 r.rank, .int .i64 r.cif.kind, .string (mk r.cif.lo), .string (mk r.cif.hi), .int .i64 r.cif.n, k, u, .slice (some ⟨b, o, none⟩) r.sets.length sc] 85 (0, 0)) ∧ Wx.heap[s5]? = some (.cells #[.int .i64 1, .int .i64 sn] 88 (0, 0)) ∧ ∃ A V, ChAt Wx q A A2 A3 A4 V V2 V3 V4) (fun kz vs wz => (fun kx vx wx => match kx with | 0 => vx = .pointer (some ⟨q, 0, none⟩) | 1 => vx = .pointer (some ⟨s5, 0, none⟩) | 2 => vx = .int .i64 1 | 3 => vx = .pointer (some ⟨q, 0, none⟩) | 4 => vx = .pointer (some ⟨s5, 0, none⟩) | 5 => vx = .int .i64 1 | 6 => vx = .pointer (some ⟨p3, 0, none⟩) | 7 => vx = .int .i64 r.rank | 8 => vx = .pointer (some ⟨s5, 1, none⟩) | 9 => vx = .int .i64 sn | 10 => vx = .pointer (some ⟨q, 0, none⟩) | 11 => vx = .pointer (some ⟨q, 0, none⟩) | 12 => vx = .pointer (some ⟨q, 1, none⟩) | 13 => wx.cell? ⟨q, 1, none⟩ = some (.int .i64 r.rank) | 14 => vx = .pointer (some ⟨q, 0, none⟩) | 15 => vx = .pointer (some ⟨q, 5, none⟩) | 16 => vx = .pointer (some ⟨q, 6, none⟩) | 17 => wx.cell? ⟨q, 6, none⟩ = some (.int .i64 sn) | _ => True : Nat → Value → World → Prop) kz (vs kz) wz) (fun kz => [kz]) (by kernel_rfl) (fun jz vs iz vz wz hiz hz => Ri.loc_own (F := (fun kx vx wx => match kx with | 0 => vx = .pointer (some ⟨q, 0, none⟩) | 1 => vx = .pointer (some ⟨s5, 0, none⟩) | 2 => vx = .int .i64 1 | 3 => vx = .pointer (some ⟨q, 0, none⟩) | 4 => vx = .pointer (some ⟨s5, 0, none⟩) | 5 => vx = .int .i64 1 | 6 => vx = .pointer (some ⟨p3, 0, none⟩) | 7 => vx = .int .i64 r.rank | 8 => vx = .pointer (some ⟨s5, 1, none⟩) | 9 => vx = .int .i64 sn | 10 => vx = .pointer (some ⟨q, 0, none⟩) | 11 => vx = .pointer (some ⟨q, 0, none⟩) | 12 => vx = .pointer (some ⟨q, 1, none⟩) | 13 => wx.cell? ⟨q, 1, none⟩ = some (.int .i64 r.rank) | 14 => vx = .pointer (some ⟨q, 0, none⟩) | 15 => vx = .pointer (some ⟨q, 5, none⟩) | 16 => vx = .pointer (some ⟨q, 6, none⟩) | 17 => wx.cell? ⟨q, 6, none⟩ = some (.int .i64 sn) | _ => True : Nat → Value → World → Prop)) jz vs iz vz wz hiz hz) HD.out ⟨⟨rfl, ?_⟩, ⟨rfl, ?_⟩, ⟨rfl, ?_⟩, ⟨rfl, ?_⟩, ⟨rfl, ?_⟩, ⟨rfl, ?_⟩, ⟨rfl, ?_⟩, ⟨rfl, ?_⟩, ⟨rfl, ?_⟩, ⟨rfl, ?_⟩, ⟨rfl, ?_⟩, ⟨rfl, ?_⟩, ⟨rfl, ?_⟩, ⟨rfl, ?_⟩, ⟨rfl, ?_⟩, ⟨rfl, ?_⟩, ⟨rfl, ?_⟩, ⟨rfl, ?_⟩, trivial⟩ ?_
    ·intro vs Wx A hA hB hpre K hK
     have e0 := (hA 0).trans (show _ = Value.pointer (some ⟨q, 0, none⟩) by kernel_rfl)
     clear hA hpre
     go_simp
     exact hK _ _ hB rfl (fun _ _ h => h)
    ·intro vs Wx A hA hB hpre K hK
     have e5 := (hA 5).trans (show _ = Value.pointer (some ⟨s5, 0, none⟩) by kernel_rfl)
     clear hA hpre
     go_simp
     exact hK _ _ hB rfl (fun _ _ h => h)
    ·intro vs Wx A hA hB hpre K hK
     have e34 := ((hA 34).trans (show _ = vs 1 by kernel_rfl)).trans (hpre.1 rfl)
     obtain ⟨hB1, hB2, hB3, A, V, hB4⟩ := id hB
     obtain ⟨x0, x1, x2, x3, x4, x5, x6, x7⟩ := beight hB2
     obtain ⟨y0, y1, -, -⟩ := box_two hB3
     clear hA hpre
     go_simp
     exact hK _ _ hB rfl (fun _ _ h => h)
    ·intro vs Wx A hA hB hpre K hK
     have e0 := (hA 0).trans (show _ = Value.pointer (some ⟨q, 0, none⟩) by kernel_rfl)
     clear hA hpre
     go_simp
     exact hK _ _ hB rfl (fun _ _ h => h)
    ·intro vs Wx A hA hB hpre K hK
     have e5 := (hA 5).trans (show _ = Value.pointer (some ⟨s5, 0, none⟩) by kernel_rfl)
     clear hA hpre
     go_simp
     exact hK _ _ hB rfl (fun _ _ h => h)
    ·intro vs Wx A hA hB hpre K hK
     have e37 := ((hA 37).trans (show _ = vs 4 by kernel_rfl)).trans (hpre.1 rfl)
     obtain ⟨hB1, hB2, hB3, A, V, hB4⟩ := id hB
     obtain ⟨x0, x1, x2, x3, x4, x5, x6, x7⟩ := beight hB2
     obtain ⟨y0, y1, -, -⟩ := box_two hB3
     clear hA hpre
     go_simp
     exact hK _ _ hB rfl (fun _ _ h => h)
    ·intro vs Wx A hA hB hpre K hK
     have e3 := (hA 3).trans (show _ = Value.pointer (some ⟨p3, 0, none⟩) by kernel_rfl)
     clear hA hpre
     go_simp
     exact hK _ _ hB rfl (fun _ _ h => h)
    ·intro vs Wx A hA hB hpre K hK
     have e39 := ((hA 39).trans (show _ = vs 6 by kernel_rfl)).trans (hpre.1 rfl)
     obtain ⟨hB1, hB2, hB3, A, V, hB4⟩ := id hB
     obtain ⟨x0, x1, x2, x3, x4, x5, x6, x7⟩ := beight hB2
     obtain ⟨y0, y1, -, -⟩ := box_two hB3
     clear hA hpre
     go_simp
     exact hK _ _ hB rfl (fun _ _ h => h)
    ·intro vs Wx A hA hB hpre K hK
     have e5 := (hA 5).trans (show _ = Value.pointer (some ⟨s5, 0, none⟩) by kernel_rfl)
     clear hA hpre
     go_simp
     exact hK _ _ hB rfl (fun _ _ h => h)
    ·intro vs Wx A hA hB hpre K hK
     have e41 := ((hA 41).trans (show _ = vs 8 by kernel_rfl)).trans (hpre.1 rfl)
     obtain ⟨hB1, hB2, hB3, A, V, hB4⟩ := id hB
     obtain ⟨x0, x1, x2, x3, x4, x5, x6, x7⟩ := beight hB2
     obtain ⟨y0, y1, -, -⟩ := box_two hB3
     clear hA hpre
     go_simp
     exact hK _ _ hB rfl (fun _ _ h => h)
    ·intro vs Wx A hA hB hpre K hK
     have e33 := ((hA 33).trans (show _ = vs 0 by kernel_rfl)).trans (hpre.1 rfl)
     clear hA hpre
     go_simp
     exact hK _ _ hB rfl (fun _ _ h => h)
    ·intro vs Wx A hA hB hpre K hK
     have e43 := ((hA 43).trans (show _ = vs 10 by kernel_rfl)).trans (hpre.1 rfl)
     clear hA hpre
     go_simp
     exact hK _ _ hB rfl (fun _ _ h => h)
    ·intro vs Wx A hA hB hpre K hK
     have e44 := ((hA 44).trans (show _ = vs 11 by kernel_rfl)).trans (hpre.1 rfl)
     have e35 := ((hA 35).trans (show _ = vs 2 by kernel_rfl)).trans (hpre.2.1 rfl)
     clear hA hpre
     go_simp
     exact hK _ _ hB rfl (fun _ _ h => h)
    ·intro vs Wx A hA hB hpre K hK
     have e45 := ((hA 45).trans (show _ = vs 12 by kernel_rfl)).trans (hpre.1 rfl)
     have e40 := ((hA 40).trans (show _ = vs 7 by kernel_rfl)).trans (hpre.2.1 rfl)
     obtain ⟨hB1, hB2, hB3, A, V, hB4⟩ := id hB
     obtain ⟨c1, c2, c3, c4, d1, d2, d3, d4⟩ := hB4.cells
     have fz := hB4.soft 1
     have HN := Lib.hid (ch_rank1 hB4 r.rank)
     have HC := Lib.hid (And.intro hB1 (And.intro hB2 (And.intro hB3 (And.intro d1 True.intro))))
     clear hB1 hB2 hB3 hB4
     clear hA hpre
     go_simp
     refine hK undef _ ⟨below_set HC.out.1 _ _, heap_far HC.out.2.1 HPQ.out, heap_far HC.out.2.2.1 HSQ.out, _, _, HN.out⟩ (HN.out.cells.1) (fun jz _ hz => ?_)
     match jz, hz with
     | 0, hz => exact hz
     | 1, hz => exact hz
     | 2, hz => exact hz
     | 3, hz => exact hz
     | 4, hz => exact hz
     | 5, hz => exact hz
     | 6, hz => exact hz
     | 7, hz => exact hz
     | 8, hz => exact hz
     | 9, hz => exact hz
     | 10, hz => exact hz
     | 11, hz => exact hz
     | 12, hz => exact hz
     | 14, hz => exact hz
     | 15, hz => exact hz
     | 16, hz => exact hz
     | 13, hz => exact HN.out.cells.1
     | 17, hz => exact (HN.out.cells.2.2.2.2.1).trans (HC.out.2.2.2.1.symm.trans hz)
     | n + 18, hz => exact hz
    ·intro vs Wx A hA hB hpre K hK
     have e36 := ((hA 36).trans (show _ = vs 3 by kernel_rfl)).trans (hpre.1 rfl)
     clear hA hpre
     go_simp
     exact hK _ _ hB rfl (fun _ _ h => h)
    ·intro vs Wx A hA hB hpre K hK
     have e46 := ((hA 46).trans (show _ = vs 14 by kernel_rfl)).trans (hpre.1 rfl)
     clear hA hpre
     go_simp
     exact hK _ _ hB rfl (fun _ _ h => h)
    ·intro vs Wx A hA hB hpre K hK
     have e47 := ((hA 47).trans (show _ = vs 15 by kernel_rfl)).trans (hpre.1 rfl)
     have e38 := ((hA 38).trans (show _ = vs 5 by kernel_rfl)).trans (hpre.2.1 rfl)
     clear hA hpre
     go_simp
     exact hK _ _ hB rfl (fun _ _ h => h)
    ·intro vs Wx A hA hB hpre K hK
     have e48 := ((hA 48).trans (show _ = vs 16 by kernel_rfl)).trans (hpre.1 rfl)
     have e42 := ((hA 42).trans (show _ = vs 9 by kernel_rfl)).trans (hpre.2.1 rfl)
     obtain ⟨hB1, hB2, hB3, A, V, hB4⟩ := id hB
     obtain ⟨c1, c2, c3, c4, d1, d2, d3, d4⟩ := hB4.cells
     have fz := hB4.soft 6
     have HN := Lib.hid (ch_val1 hB4 sn)
     have HC := Lib.hid (And.intro hB1 (And.intro hB2 (And.intro hB3 (And.intro c1 True.intro))))
     clear hB1 hB2 hB3 hB4
     clear hA hpre
     go_simp
     refine hK undef _ ⟨below_set HC.out.1 _ _, heap_far HC.out.2.1 HPQ.out, heap_far HC.out.2.2.1 HSQ.out, _, _, HN.out⟩ (HN.out.cells.2.2.2.2.1) (fun jz _ hz => ?_)
     match jz, hz with
     | 0, hz => exact hz
     | 1, hz => exact hz
     | 2, hz => exact hz
     | 3, hz => exact hz
     | 4, hz => exact hz
     | 5, hz => exact hz
     | 6, hz => exact hz
     | 7, hz => exact hz
     | 8, hz => exact hz
     | 9, hz => exact hz
     | 10, hz => exact hz
     | 11, hz => exact hz
     | 12, hz => exact hz
     | 14, hz => exact hz
     | 15, hz => exact hz
     | 16, hz => exact hz
     | 17, hz => exact HN.out.cells.2.2.2.2.1
     | 13, hz => exact (HN.out.cells.1).trans (HC.out.2.2.2.1.symm.trans hz)
     | n + 18, hz => exact hz
    ·intro vs Wx hB hF
     have h13 : Wx.cell? ⟨q, 1, none⟩ = some (.int .i64 r.rank) := hF 13 (by decide)
     have h17 : Wx.cell? ⟨q, 6, none⟩ = some (.int .i64 sn) := hF 17 (by decide)
     obtain ⟨hB1, hB2, hB3, A, V, hB4⟩ := hB
     obtain ⟨c1, c2, c3, c4, d1, d2, d3, d4⟩ := hB4.cells
     obtain rfl : A = r.rank := by rw [h13] at c1; simpa using c1.symm
     have eV : sn = V := by rw [h17] at d1; simpa using d1
     subst eV
     have HBm := Lib.hid (HBn.out.trans hB1)
     have HXy := Lib.hid hB2
     have HQy := Lib.hid hB4
     clear hF hB1 hB2 hB3 hB4 c1 c2 c3 c4 d1 d2 d3 d4 h13 h17 HXx HZx HQx HBn HD
     simp only [Ri.puts]
     go_simp
     go_wp2
     go_roundg (r.sets.length - (j + 1))
     case rel => exact ⟨j + 1, r.rank, A2, A3, A4, sn, V2, V3, V4, by omega, rfl, by go_num, HBm.out, HXy.out, HQy.out, by show _ = _; rw [N1.out]; unfold stS; rw [if_pos ⟨rfl, hgt⟩], by show _ = _; rw [N2.out]; unfold stS; rw [if_neg (by first | (simp; done) | (simp; omega))], by show _ = _; rw [N3.out]; unfold stS; rw [if_neg (by first | (simp; done) | (simp; omega))], by show _ = _; rw [N4.out]; unfold stS; rw [if_neg (by first | (simp; done) | (simp; omega))]⟩
     case measure => omega
  by_cases hk : wh = 2
  case pos =>
   subst hk
   clear h1 h4
   by_cases hgt : A2 < r.rank
   case neg =>
    go_cut [32] (fun s wx => s = .bool false ∧ Hid (Below W3.heap.size W3 wx))
    case first =>
     refine Ri.wp_region_lasting_g (by kernel_rfl) (by kernel_rfl) (by kernel_rfl) (fun Wx => Below W3.heap.size W3 Wx) (fun kz vs wz => (fun kx vx wx => match kx with | 0 => vx = .pointer (some ⟨s5, 0, none⟩) | 1 => vx = .int .i64 2 | 2 => vx = .bool true | 3 => vx = .bool true | 4 => vx = .pointer (some ⟨s5, 0, none⟩) | 5 => vx = .int .i64 2 | 6 => vx = .bool true | 7 => vx = .bool true | 8 => vx = .bool true | 9 => vx = .pointer (some ⟨p3, 0, none⟩) | 10 => vx = .int .i64 r.rank | 11 => vx = .pointer (some ⟨q, 0, none⟩) | 12 => vx = .pointer (some ⟨s5, 0, none⟩) | 13 => vx = .int .i64 2 | 14 => vx = .pointer (some ⟨q, 0, none⟩) | 15 => vx = .pointer (some ⟨q, 0, none⟩) | 16 => vx = .pointer (some ⟨q, 2, none⟩) | 17 => vx = .int .i64 A2 | 18 => vx = .bool false | 19 => vx = .bool false | _ => True : Nat → Value → World → Prop) kz (vs kz) wz) (fun kz => [kz]) (by kernel_rfl) (fun jz vs iz vz wz hiz hz => Ri.loc_own (F := (fun kx vx wx => match kx with | 0 => vx = .pointer (some ⟨s5, 0, none⟩) | 1 => vx = .int .i64 2 | 2 => vx = .bool true | 3 => vx = .bool true | 4 => vx = .pointer (some ⟨s5, 0, none⟩) | 5 => vx = .int .i64 2 | 6 => vx = .bool true | 7 => vx = .bool true | 8 => vx = .bool true | 9 => vx = .pointer (some ⟨p3, 0, none⟩) | 10 => vx = .int .i64 r.rank | 11 => vx = .pointer (some ⟨q, 0, none⟩) | 12 => vx = .pointer (some ⟨s5, 0, none⟩) | 13 => vx = .int .i64 2 | 14 => vx = .pointer (some ⟨q, 0, none⟩) | 15 => vx = .pointer (some ⟨q, 0, none⟩) | 16 => vx = .pointer (some ⟨q, 2, none⟩) | 17 => vx = .int .i64 A2 | 18 => vx = .bool false | 19 => vx = .bool false | _ => True : Nat → Value → World → Prop)) jz vs iz vz wz hiz hz) HD.out ⟨Or.inl ⟨rfl, ?_⟩, Or.inl ⟨rfl, ?_⟩, Or.inl ⟨rfl, ?_⟩, Or.inl ⟨rfl, ?_⟩, Or.inr ⟨3, true, 16, rfl, rfl, ?_⟩, Or.inr ⟨3, true, 16, rfl, rfl, ?_⟩, Or.inr ⟨3, true, 16, rfl, rfl, ?_⟩, Or.inl ⟨rfl, ?_⟩, Or.inl ⟨rfl, ?_⟩, Or.inr ⟨8, true, 21, rfl, rfl, ?_⟩, Or.inr ⟨8, true, 21, rfl, rfl, ?_⟩, Or.inr ⟨8, true, 21, rfl, rfl, ?_⟩, Or.inr ⟨8, true, 21, rfl, rfl, ?_⟩, Or.inr ⟨8, true, 21, rfl, rfl, ?_⟩, Or.inr ⟨8, true, 21, rfl, rfl, ?_⟩, Or.inr ⟨8, true, 21, rfl, rfl, ?_⟩, Or.inr ⟨8, true, 21, rfl, rfl, ?_⟩, Or.inr ⟨8, true, 21, rfl, rfl, ?_⟩, Or.inr ⟨8, true, 21, rfl, rfl, ?_⟩, Or.inl ⟨rfl, ?_⟩, trivial⟩ ?_
     ·intro vs Wx A hA hB hpre K hK
      have e5 := (hA 5).trans (show _ = Value.pointer (some ⟨s5, 0, none⟩) by kernel_rfl)
      clear hA hpre
      go_simp
      exact hK _ _ hB rfl (fun _ _ h => h)
     ·intro vs Wx A hA hB hpre K hK
      have e13 := ((hA 13).trans (show _ = vs 0 by kernel_rfl)).trans (hpre.1 rfl)
      obtain ⟨⟨x0, x1, x2, x3, x4, x5, x6, x7⟩, ⟨y0, y1, -, -⟩, ⟨c1, c2, c3, c4, d1, d2, d3, d4⟩⟩ := HXK.out Wx hB
      clear hA hpre
      go_simp
      exact hK _ _ hB rfl (fun _ _ h => h)
     ·intro vs Wx A hA hB hpre K hK
      have e14 := ((hA 14).trans (show _ = vs 1 by kernel_rfl)).trans (hpre.1 rfl)
      clear hA hpre
      go_simp
      exact hK _ _ hB rfl (fun _ _ h => h)
     ·intro vs Wx A hA hB hpre K hK
      have e15 := ((hA 15).trans (show _ = vs 2 by kernel_rfl)).trans (hpre.1 rfl)
      clear hA hpre
      go_simp
      exact hK _ _ hB rfl (fun _ _ h => h)
     ·intro vs Wx A hA hB hpre
      have eg := ((hA 16).trans (show _ = vs 3 by kernel_rfl)).trans (hpre.1 rfl)
      refine ⟨true, eg, fun _ K hK => ?_, fun h => absurd rfl h⟩
      have e5 := (hA 5).trans (show _ = Value.pointer (some ⟨s5, 0, none⟩) by kernel_rfl)
      clear hA hpre
      go_simp
      exact hK _ _ hB rfl (fun _ _ h => h)
     ·intro vs Wx A hA hB hpre
      have eg := ((hA 16).trans (show _ = vs 3 by kernel_rfl)).trans (hpre.2.1 rfl)
      refine ⟨true, eg, fun _ K hK => ?_, fun h => absurd rfl h⟩
      have e17 := ((hA 17).trans (show _ = vs 4 by kernel_rfl)).trans (hpre.1 rfl)
      obtain ⟨⟨x0, x1, x2, x3, x4, x5, x6, x7⟩, ⟨y0, y1, -, -⟩, ⟨c1, c2, c3, c4, d1, d2, d3, d4⟩⟩ := HXK.out Wx hB
      clear hA hpre
      go_simp
      exact hK _ _ hB rfl (fun _ _ h => h)
     ·intro vs Wx A hA hB hpre
      have eg := ((hA 16).trans (show _ = vs 3 by kernel_rfl)).trans (hpre.2.1 rfl)
      refine ⟨true, eg, fun _ K hK => ?_, fun h => absurd rfl h⟩
      have e18 := ((hA 18).trans (show _ = vs 5 by kernel_rfl)).trans (hpre.1 rfl)
      clear hA hpre
      go_simp
      exact hK _ _ hB rfl (fun _ _ h => h)
     ·intro vs Wx A hA hB hpre K hK
      have e16 := ((hA 16).trans (show _ = vs 3 by kernel_rfl)).trans (hpre.1 rfl)
      have e19 := ((hA 19).trans (show _ = vs 6 by kernel_rfl)).trans (hpre.2.1 rfl)
      clear hA hpre
      go_simp
      exact hK _ _ hB rfl (fun _ _ h => h)
     ·intro vs Wx A hA hB hpre K hK
      have e20 := ((hA 20).trans (show _ = vs 7 by kernel_rfl)).trans (hpre.1 rfl)
      clear hA hpre
      go_simp
      exact hK _ _ hB rfl (fun _ _ h => h)
     ·intro vs Wx A hA hB hpre
      have eg := ((hA 21).trans (show _ = vs 8 by kernel_rfl)).trans (hpre.1 rfl)
      refine ⟨true, eg, fun _ K hK => ?_, fun h => absurd rfl h⟩
      have e3 := (hA 3).trans (show _ = Value.pointer (some ⟨p3, 0, none⟩) by kernel_rfl)
      clear hA hpre
      go_simp
      exact hK _ _ hB rfl (fun _ _ h => h)
     ·intro vs Wx A hA hB hpre
      have eg := ((hA 21).trans (show _ = vs 8 by kernel_rfl)).trans (hpre.2.1 rfl)
      refine ⟨true, eg, fun _ K hK => ?_, fun h => absurd rfl h⟩
      have e22 := ((hA 22).trans (show _ = vs 9 by kernel_rfl)).trans (hpre.1 rfl)
      obtain ⟨⟨x0, x1, x2, x3, x4, x5, x6, x7⟩, ⟨y0, y1, -, -⟩, ⟨c1, c2, c3, c4, d1, d2, d3, d4⟩⟩ := HXK.out Wx hB
      clear hA hpre
      go_simp
      exact hK _ _ hB rfl (fun _ _ h => h)
     ·intro vs Wx A hA hB hpre
      have eg := ((hA 21).trans (show _ = vs 8 by kernel_rfl)).trans (hpre.1 rfl)
      refine ⟨true, eg, fun _ K hK => ?_, fun h => absurd rfl h⟩
      have e0 := (hA 0).trans (show _ = Value.pointer (some ⟨q, 0, none⟩) by kernel_rfl)
      clear hA hpre
      go_simp
      exact hK _ _ hB rfl (fun _ _ h => h)
     ·intro vs Wx A hA hB hpre
      have eg := ((hA 21).trans (show _ = vs 8 by kernel_rfl)).trans (hpre.1 rfl)
      refine ⟨true, eg, fun _ K hK => ?_, fun h => absurd rfl h⟩
      have e5 := (hA 5).trans (show _ = Value.pointer (some ⟨s5, 0, none⟩) by kernel_rfl)
      clear hA hpre
      go_simp
      exact hK _ _ hB rfl (fun _ _ h => h)
     ·intro vs Wx A hA hB hpre
      have eg := ((hA 21).trans (show _ = vs 8 by kernel_rfl)).trans (hpre.2.1 rfl)
      refine ⟨true, eg, fun _ K hK => ?_, fun h => absurd rfl h⟩
      have e25 := ((hA 25).trans (show _ = vs 12 by kernel_rfl)).trans (hpre.1 rfl)
      obtain ⟨⟨x0, x1, x2, x3, x4, x5, x6, x7⟩, ⟨y0, y1, -, -⟩, ⟨c1, c2, c3, c4, d1, d2, d3, d4⟩⟩ := HXK.out Wx hB
      clear hA hpre
      go_simp
      exact hK _ _ hB rfl (fun _ _ h => h)
     ·intro vs Wx A hA hB hpre
      have eg := ((hA 21).trans (show _ = vs 8 by kernel_rfl)).trans (hpre.2.1 rfl)
      refine ⟨true, eg, fun _ K hK => ?_, fun h => absurd rfl h⟩
      have e24 := ((hA 24).trans (show _ = vs 11 by kernel_rfl)).trans (hpre.1 rfl)
      clear hA hpre
      go_simp
      exact hK _ _ hB rfl (fun _ _ h => h)
     ·intro vs Wx A hA hB hpre
      have eg := ((hA 21).trans (show _ = vs 8 by kernel_rfl)).trans (hpre.2.1 rfl)
      refine ⟨true, eg, fun _ K hK => ?_, fun h => absurd rfl h⟩
      have e27 := ((hA 27).trans (show _ = vs 14 by kernel_rfl)).trans (hpre.1 rfl)
      clear hA hpre
      go_simp
      exact hK _ _ hB rfl (fun _ _ h => h)
     ·intro vs Wx A hA hB hpre
      have eg := ((hA 21).trans (show _ = vs 8 by kernel_rfl)).trans (hpre.2.2.1 rfl)
      refine ⟨true, eg, fun _ K hK => ?_, fun h => absurd rfl h⟩
      have e28 := ((hA 28).trans (show _ = vs 15 by kernel_rfl)).trans (hpre.1 rfl)
      have e26 := ((hA 26).trans (show _ = vs 13 by kernel_rfl)).trans (hpre.2.1 rfl)
      clear hA hpre
      go_simp
      exact hK _ _ hB rfl (fun _ _ h => h)
     ·intro vs Wx A hA hB hpre
      have eg := ((hA 21).trans (show _ = vs 8 by kernel_rfl)).trans (hpre.2.1 rfl)
      refine ⟨true, eg, fun _ K hK => ?_, fun h => absurd rfl h⟩
      have e29 := ((hA 29).trans (show _ = vs 16 by kernel_rfl)).trans (hpre.1 rfl)
      obtain ⟨⟨x0, x1, x2, x3, x4, x5, x6, x7⟩, ⟨y0, y1, -, -⟩, ⟨c1, c2, c3, c4, d1, d2, d3, d4⟩⟩ := HXK.out Wx hB
      clear hA hpre
      go_simp
      exact hK _ _ hB rfl (fun _ _ h => h)
     ·intro vs Wx A hA hB hpre
      have eg := ((hA 21).trans (show _ = vs 8 by kernel_rfl)).trans (hpre.2.2.1 rfl)
      refine ⟨true, eg, fun _ K hK => ?_, fun h => absurd rfl h⟩
      have e23 := ((hA 23).trans (show _ = vs 10 by kernel_rfl)).trans (hpre.1 rfl)
      have e30 := ((hA 30).trans (show _ = vs 17 by kernel_rfl)).trans (hpre.2.1 rfl)
      clear hA hpre
      go_simp
      exact hK _ _ hB rfl (fun _ _ h => h)
     ·intro vs Wx A hA hB hpre K hK
      have e21 := ((hA 21).trans (show _ = vs 8 by kernel_rfl)).trans (hpre.1 rfl)
      have e31 := ((hA 31).trans (show _ = vs 18 by kernel_rfl)).trans (hpre.2.1 rfl)
      clear hA hpre
      go_simp
      exact hK _ _ hB rfl (fun _ _ h => h)
     ·intro vs Wx hB hF
      have h32 : vs 19 = .bool false := hF 19 (by decide)
      have HBW := Lib.hid hB
      clear hF hB
      simp only [Ri.puts]
      go_simp
      go_wp2_with fail
      go_meet
      exact ⟨by first | rfl | exact h32, HBW.out⟩
    case rest =>
     obtain ⟨rfl, HBx⟩ := hcut
     have HXx := Lib.hid (keepB HX3.out HBx.out)
     have HQx := Lib.hid (HQ3.out.far HBx.out)
     have HBn := Lib.hid (below_lo HB3.out HQL.out HBx.out)
     clear HXK HD
     go_wp2
     go_roundg (r.sets.length - (j + 1))
     case rel => exact ⟨j + 1, A1, A2, A3, A4, V1, V2, V3, V4, by omega, rfl, by go_num, HBn.out, HXx.out, HQx.out, by show _ = _; rw [N1.out]; unfold stS; rw [if_neg (by first | (simp; done) | (simp; omega))], by show _ = _; rw [N2.out]; unfold stS; rw [if_neg (by first | (simp; done) | (simp; omega))], by show _ = _; rw [N3.out]; unfold stS; rw [if_neg (by first | (simp; done) | (simp; omega))], by show _ = _; rw [N4.out]; unfold stS; rw [if_neg (by first | (simp; done) | (simp; omega))]⟩
     case measure => omega
   go_cut [32] (fun s wx => s = .bool true ∧ Hid (Below W3.heap.size W3 wx))
   case first =>
    refine Ri.wp_region_lasting_g (by kernel_rfl) (by kernel_rfl) (by kernel_rfl) (fun Wx => Below W3.heap.size W3 Wx) (fun kz vs wz => (fun kx vx wx => match kx with | 0 => vx = .pointer (some ⟨s5, 0, none⟩) | 1 => vx = .int .i64 2 | 2 => vx = .bool true | 3 => vx = .bool true | 4 => vx = .pointer (some ⟨s5, 0, none⟩) | 5 => vx = .int .i64 2 | 6 => vx = .bool true | 7 => vx = .bool true | 8 => vx = .bool true | 9 => vx = .pointer (some ⟨p3, 0, none⟩) | 10 => vx = .int .i64 r.rank | 11 => vx = .pointer (some ⟨q, 0, none⟩) | 12 => vx = .pointer (some ⟨s5, 0, none⟩) | 13 => vx = .int .i64 2 | 14 => vx = .pointer (some ⟨q, 0, none⟩) | 15 => vx = .pointer (some ⟨q, 0, none⟩) | 16 => vx = .pointer (some ⟨q, 2, none⟩) | 17 => vx = .int .i64 A2 | 18 => vx = .bool true | 19 => vx = .bool true | _ => True : Nat → Value → World → Prop) kz (vs kz) wz) (fun kz => [kz]) (by kernel_rfl) (fun jz vs iz vz wz hiz hz => Ri.loc_own (F := (fun kx vx wx => match kx with | 0 => vx = .pointer (some ⟨s5, 0, none⟩) | 1 => vx = .int .i64 2 | 2 => vx = .bool true | 3 => vx = .bool true | 4 => vx = .pointer (some ⟨s5, 0, none⟩) | 5 => vx = .int .i64 2 | 6 => vx = .bool true | 7 => vx = .bool true | 8 => vx = .bool true | 9 => vx = .pointer (some ⟨p3, 0, none⟩) | 10 => vx = .int .i64 r.rank | 11 => vx = .pointer (some ⟨q, 0, none⟩) | 12 => vx = .pointer (some ⟨s5, 0, none⟩) | 13 => vx = .int .i64 2 | 14 => vx = .pointer (some ⟨q, 0, none⟩) | 15 => vx = .pointer (some ⟨q, 0, none⟩) | 16 => vx = .pointer (some ⟨q, 2, none⟩) | 17 => vx = .int .i64 A2 | 18 => vx = .bool true | 19 => vx = .bool true | _ => True : Nat → Value → World → Prop)) jz vs iz vz wz hiz hz) HD.out ⟨Or.inl ⟨rfl, ?_⟩, Or.inl ⟨rfl, ?_⟩, Or.inl ⟨rfl, ?_⟩, Or.inl ⟨rfl, ?_⟩, Or.inr ⟨3, true, 16, rfl, rfl, ?_⟩, Or.inr ⟨3, true, 16, rfl, rfl, ?_⟩, Or.inr ⟨3, true, 16, rfl, rfl, ?_⟩, Or.inl ⟨rfl, ?_⟩, Or.inl ⟨rfl, ?_⟩, Or.inr ⟨8, true, 21, rfl, rfl, ?_⟩, Or.inr ⟨8, true, 21, rfl, rfl, ?_⟩, Or.inr ⟨8, true, 21, rfl, rfl, ?_⟩, Or.inr ⟨8, true, 21, rfl, rfl, ?_⟩, Or.inr ⟨8, true, 21, rfl, rfl, ?_⟩, Or.inr ⟨8, true, 21, rfl, rfl, ?_⟩, Or.inr ⟨8, true, 21, rfl, rfl, ?_⟩, Or.inr ⟨8, true, 21, rfl, rfl, ?_⟩, Or.inr ⟨8, true, 21, rfl, rfl, ?_⟩, Or.inr ⟨8, true, 21, rfl, rfl, ?_⟩, Or.inl ⟨rfl, ?_⟩, trivial⟩ ?_
    ·intro vs Wx A hA hB hpre K hK
     have e5 := (hA 5).trans (show _ = Value.pointer (some ⟨s5, 0, none⟩) by kernel_rfl)
     clear hA hpre
     go_simp
     exact hK _ _ hB rfl (fun _ _ h => h)
    ·intro vs Wx A hA hB hpre K hK
     have e13 := ((hA 13).trans (show _ = vs 0 by kernel_rfl)).trans (hpre.1 rfl)
     obtain ⟨⟨x0, x1, x2, x3, x4, x5, x6, x7⟩, ⟨y0, y1, -, -⟩, ⟨c1, c2, c3, c4, d1, d2, d3, d4⟩⟩ := HXK.out Wx hB
     clear hA hpre
     go_simp
     exact hK _ _ hB rfl (fun _ _ h => h)
    ·intro vs Wx A hA hB hpre K hK
     have e14 := ((hA 14).trans (show _ = vs 1 by kernel_rfl)).trans (hpre.1 rfl)
     clear hA hpre
     go_simp
     exact hK _ _ hB rfl (fun _ _ h => h)
    ·intro vs Wx A hA hB hpre K hK
     have e15 := ((hA 15).trans (show _ = vs 2 by kernel_rfl)).trans (hpre.1 rfl)
     clear hA hpre
     go_simp
     exact hK _ _ hB rfl (fun _ _ h => h)
    ·intro vs Wx A hA hB hpre
     have eg := ((hA 16).trans (show _ = vs 3 by kernel_rfl)).trans (hpre.1 rfl)
     refine ⟨true, eg, fun _ K hK => ?_, fun h => absurd rfl h⟩
     have e5 := (hA 5).trans (show _ = Value.pointer (some ⟨s5, 0, none⟩) by kernel_rfl)
     clear hA hpre
     go_simp
     exact hK _ _ hB rfl (fun _ _ h => h)
    ·intro vs Wx A hA hB hpre
     have eg := ((hA 16).trans (show _ = vs 3 by kernel_rfl)).trans (hpre.2.1 rfl)
     refine ⟨true, eg, fun _ K hK => ?_, fun h => absurd rfl h⟩
     have e17 := ((hA 17).trans (show _ = vs 4 by kernel_rfl)).trans (hpre.1 rfl)
     obtain ⟨⟨x0, x1, x2, x3, x4, x5, x6, x7⟩, ⟨y0, y1, -, -⟩, ⟨c1, c2, c3, c4, d1, d2, d3, d4⟩⟩ := HXK.out Wx hB
     clear hA hpre
     go_simp
     exact hK _ _ hB rfl (fun _ _ h => h)
    ·intro vs Wx A hA hB hpre
     have eg := ((hA 16).trans (show _ = vs 3 by kernel_rfl)).trans (hpre.2.1 rfl)
     refine ⟨true, eg, fun _ K hK => ?_, fun h => absurd rfl h⟩
     have e18 := ((hA 18).trans (show _ = vs 5 by kernel_rfl)).trans (hpre.1 rfl)
     clear hA hpre
     go_simp
     exact hK _ _ hB rfl (fun _ _ h => h)
    ·intro vs Wx A hA hB hpre K hK
     have e16 := ((hA 16).trans (show _ = vs 3 by kernel_rfl)).trans (hpre.1 rfl)
     have e19 := ((hA 19).trans (show _ = vs 6 by kernel_rfl)).trans (hpre.2.1 rfl)
     clear hA hpre
     go_simp
     exact hK _ _ hB rfl (fun _ _ h => h)
    ·intro vs Wx A hA hB hpre K hK
     have e20 := ((hA 20).trans (show _ = vs 7 by kernel_rfl)).trans (hpre.1 rfl)
     clear hA hpre
     go_simp
     exact hK _ _ hB rfl (fun _ _ h => h)
    ·intro vs Wx A hA hB hpre
     have eg := ((hA 21).trans (show _ = vs 8 by kernel_rfl)).trans (hpre.1 rfl)
     refine ⟨true, eg, fun _ K hK => ?_, fun h => absurd rfl h⟩
     have e3 := (hA 3).trans (show _ = Value.pointer (some ⟨p3, 0, none⟩) by kernel_rfl)
     clear hA hpre
     go_simp
     exact hK _ _ hB rfl (fun _ _ h => h)
    ·intro vs Wx A hA hB hpre
     have eg := ((hA 21).trans (show _ = vs 8 by kernel_rfl)).trans (hpre.2.1 rfl)
     refine ⟨true, eg, fun _ K hK => ?_, fun h => absurd rfl h⟩
     have e22 := ((hA 22).trans (show _ = vs 9 by kernel_rfl)).trans (hpre.1 rfl)
     obtain ⟨⟨x0, x1, x2, x3, x4, x5, x6, x7⟩, ⟨y0, y1, -, -⟩, ⟨c1, c2, c3, c4, d1, d2, d3, d4⟩⟩ := HXK.out Wx hB
     clear hA hpre
     go_simp
     exact hK _ _ hB rfl (fun _ _ h => h)
    ·intro vs Wx A hA hB hpre
     have eg := ((hA 21).trans (show _ = vs 8 by kernel_rfl)).trans (hpre.1 rfl)
     refine ⟨true, eg, fun _ K hK => ?_, fun h => absurd rfl h⟩
     have e0 := (hA 0).trans (show _ = Value.pointer (some ⟨q, 0, none⟩) by kernel_rfl)
     clear hA hpre
     go_simp
     exact hK _ _ hB rfl (fun _ _ h => h)
    ·intro vs Wx A hA hB hpre
     have eg := ((hA 21).trans (show _ = vs 8 by kernel_rfl)).trans (hpre.1 rfl)
     refine ⟨true, eg, fun _ K hK => ?_, fun h => absurd rfl h⟩
     have e5 := (hA 5).trans (show _ = Value.pointer (some ⟨s5, 0, none⟩) by kernel_rfl)
     clear hA hpre
     go_simp
     exact hK _ _ hB rfl (fun _ _ h => h)
    ·intro vs Wx A hA hB hpre
     have eg := ((hA 21).trans (show _ = vs 8 by kernel_rfl)).trans (hpre.2.1 rfl)
     refine ⟨true, eg, fun _ K hK => ?_, fun h => absurd rfl h⟩
     have e25 := ((hA 25).trans (show _ = vs 12 by kernel_rfl)).trans (hpre.1 rfl)
     obtain ⟨⟨x0, x1, x2, x3, x4, x5, x6, x7⟩, ⟨y0, y1, -, -⟩, ⟨c1, c2, c3, c4, d1, d2, d3, d4⟩⟩ := HXK.out Wx hB
     clear hA hpre
     go_simp
     exact hK _ _ hB rfl (fun _ _ h => h)
    ·intro vs Wx A hA hB hpre
     have eg := ((hA 21).trans (show _ = vs 8 by kernel_rfl)).trans (hpre.2.1 rfl)
     refine ⟨true, eg, fun _ K hK => ?_, fun h => absurd rfl h⟩
     have e24 := ((hA 24).trans (show _ = vs 11 by kernel_rfl)).trans (hpre.1 rfl)
     clear hA hpre
     go_simp
     exact hK _ _ hB rfl (fun _ _ h => h)
    ·intro vs Wx A hA hB hpre
     have eg := ((hA 21).trans (show _ = vs 8 by kernel_rfl)).trans (hpre.2.1 rfl)
     refine ⟨true, eg, fun _ K hK => ?_, fun h => absurd rfl h⟩
     have e27 := ((hA 27).trans (show _ = vs 14 by kernel_rfl)).trans (hpre.1 rfl)
     clear hA hpre
     go_simp
     exact hK _ _ hB rfl (fun _ _ h => h)
    ·intro vs Wx A hA hB hpre
     have eg := ((hA 21).trans (show _ = vs 8 by kernel_rfl)).trans (hpre.2.2.1 rfl)
     refine ⟨true, eg, fun _ K hK => ?_, fun h => absurd rfl h⟩
     have e28 := ((hA 28).trans (show _ = vs 15 by kernel_rfl)).trans (hpre.1 rfl)
     have e26 := ((hA 26).trans (show _ = vs 13 by kernel_rfl)).trans (hpre.2.1 rfl)
     clear hA hpre
     go_simp
     exact hK _ _ hB rfl (fun _ _ h => h)
    ·intro vs Wx A hA hB hpre
     have eg := ((hA 21).trans (show _ = vs 8 by kernel_rfl)).trans (hpre.2.1 rfl)
     refine ⟨true, eg, fun _ K hK => ?_, fun h => absurd rfl h⟩
     have e29 := ((hA 29).trans (show _ = vs 16 by kernel_rfl)).trans (hpre.1 rfl)
     obtain ⟨⟨x0, x1, x2, x3, x4, x5, x6, x7⟩, ⟨y0, y1, -, -⟩, ⟨c1, c2, c3, c4, d1, d2, d3, d4⟩⟩ := HXK.out Wx hB
     clear hA hpre
     go_simp
     exact hK _ _ hB rfl (fun _ _ h => h)
    ·intro vs Wx A hA hB hpre
     have eg := ((hA 21).trans (show _ = vs 8 by kernel_rfl)).trans (hpre.2.2.1 rfl)
     refine ⟨true, eg, fun _ K hK => ?_, fun h => absurd rfl h⟩
     have e23 := ((hA 23).trans (show _ = vs 10 by kernel_rfl)).trans (hpre.1 rfl)
     have e30 := ((hA 30).trans (show _ = vs 17 by kernel_rfl)).trans (hpre.2.1 rfl)
     clear hA hpre
     go_simp
     exact hK _ _ hB rfl (fun _ _ h => h)
    ·intro vs Wx A hA hB hpre K hK
     have e21 := ((hA 21).trans (show _ = vs 8 by kernel_rfl)).trans (hpre.1 rfl)
     have e31 := ((hA 31).trans (show _ = vs 18 by kernel_rfl)).trans (hpre.2.1 rfl)
     clear hA hpre
     go_simp
     exact hK _ _ hB rfl (fun _ _ h => h)
    ·intro vs Wx hB hF
     have h32 : vs 19 = .bool true := hF 19 (by decide)
     have HBW := Lib.hid hB
     clear hF hB
     simp only [Ri.puts]
     go_simp
     go_wp2_with fail
     go_meet
     exact ⟨by first | rfl | exact h32, HBW.out⟩
   case rest =>
    obtain ⟨rfl, HBx⟩ := hcut
    have HXx := Lib.hid (keepB HX3.out HBx.out)
    have HZx := Lib.hid (keepB HZ.out HBx.out)
    have HQx := Lib.hid (HQ3.out.far HBx.out)
    have HBn := Lib.hid (below_lo HB3.out HQL.out HBx.out)
    clear HXK HD HX3 HZ HQ3 HBx HB3
    go_upto_region 5 with fail
    have HD : Hid ((fun Wx => Below q wc Wx ∧ Wx.heap[p3]? = some (.cells #[.int .i64 r.rank, .int .i64 r.cif.kind, .string (mk r.cif.lo), .string (mk r.cif.hi), .int .i64 r.cif.n, k, u, .slice (some ⟨b, o, none⟩) r.sets.length sc] 85 (0, 0)) ∧ Wx.heap[s5]? = some (.cells #[.int .i64 2, .int .i64 sn] 88 (0, 0)) ∧ ∃ A V, ChAt Wx q A1 A A3 A4 V1 V V3 V4) wc.drew) := ⟨Below.drew (Below.refl q wc), HXx.out, HZx.out, _, _, HQx.out⟩
    refine Ri.wp_region_lastingB (by kernel_rfl) (by kernel_rfl) (by kernel_rfl) (fun Wx => Below q wc Wx ∧ Wx.heap[p3]? = some (.cells #[.int .i64 r.rank, .int .i64 r.cif.kind, .string (mk r.cif.lo), .string (mk r.cif.hi), .int .i64 r.cif.n, k, u, .slice (some ⟨b, o, none⟩) r.sets.length sc] 85 (0, 0)) ∧ Wx.heap[s5]? = some (.cells #[.int .i64 2, .int .i64 sn] 88 (0, 0)) ∧ ∃ A V, ChAt Wx q A1 A A3 A4 V1 V V3 V4) (fun kz vs wz => (fun kx vx wx => match kx with | 0 => vx = .pointer (some ⟨q, 0, none⟩) | 1 => vx = .pointer (some ⟨s5, 0, none⟩) | 2 => vx = .int .i64 2 | 3 => vx = .pointer (some ⟨q, 0, none⟩) | 4 => vx = .pointer (some ⟨s5, 0, none⟩) | 5 => vx = .int .i64 2 | 6 => vx = .pointer (some ⟨p3, 0, none⟩) | 7 => vx = .int .i64 r.rank | 8 => vx = .pointer (some ⟨s5, 1, none⟩) | 9 => vx = .int .i64 sn | 10 => vx = .pointer (some ⟨q, 0, none⟩) | 11 => vx = .pointer (some ⟨q, 0, none⟩) | 12 => vx = .pointer (some ⟨q, 2, none⟩) | 13 => wx.cell? ⟨q, 2, none⟩ = some (.int .i64 r.rank) | 14 => vx = .pointer (some ⟨q, 0, none⟩) | 15 => vx = .pointer (some ⟨q, 5, none⟩) | 16 => vx = .pointer (some ⟨q, 7, none⟩) | 17 => wx.cell? ⟨q, 7, none⟩ = some (.int .i64 sn) | _ => True : Nat → Value → World → Prop) kz (vs kz) wz) (fun kz => [kz]) (by kernel_rfl) (fun jz vs iz vz wz hiz hz => Ri.loc_own (F := (fun kx vx wx => match kx with | 0 => vx = .pointer (some ⟨q, 0, none⟩) | 1 => vx = .pointer (some ⟨s5, 0, none⟩) | 2 => vx = .int .i64 2 | 3 => vx = .pointer (some ⟨q, 0, none⟩) | 4 => vx = .pointer (some ⟨s5, 0, none⟩) | 5 => vx = .int .i64 2 | 6 => vx = .pointer (some ⟨p3, 0, none⟩) | 7 => vx = .int .i64 r.rank | 8 => vx = .pointer (some ⟨s5, 1, none⟩) | 9 => vx = .int .i64 sn | 10 => vx = .pointer (some ⟨q, 0, none⟩) | 11 => vx = .pointer (some ⟨q, 0, none⟩) | 12 => vx = .pointer (some ⟨q, 2, none⟩) | 13 => wx.cell? ⟨q, 2, none⟩ = some (.int .i64 r.rank) | 14 => vx = .pointer (some ⟨q, 0, none⟩) | 15 => vx = .pointer (some ⟨q, 5, none⟩) | 16 => vx = .pointer (some ⟨q, 7, none⟩) | 17 => wx.cell? ⟨q, 7, none⟩ = some (.int .i64 sn) | _ => True : Nat → Value → World → Prop)) jz vs iz vz wz hiz hz) HD.out ⟨⟨rfl, ?_⟩, ⟨rfl, ?_⟩, ⟨rfl, ?_⟩, ⟨rfl, ?_⟩, ⟨rfl, ?_⟩, ⟨rfl, ?_⟩, ⟨rfl, ?_⟩, ⟨rfl, ?_⟩, ⟨rfl, ?_⟩, ⟨rfl, ?_⟩, ⟨rfl, ?_⟩, ⟨rfl, ?_⟩, ⟨rfl, ?_⟩, ⟨rfl, ?_⟩, ⟨rfl, ?_⟩, ⟨rfl, ?_⟩, ⟨rfl, ?_⟩, ⟨rfl, ?_⟩, trivial⟩ ?_
    ·intro vs Wx A hA hB hpre K hK
     have e0 := (hA 0).trans (show _ = Value.pointer (some ⟨q, 0, none⟩) by kernel_rfl)
     clear hA hpre
     go_simp
     exact hK _ _ hB rfl (fun _ _ h => h)
    ·intro vs Wx A hA hB hpre K hK
     have e5 := (hA 5).trans (show _ = Value.pointer (some ⟨s5, 0, none⟩) by kernel_rfl)
     clear hA hpre
     go_simp
     exact hK _ _ hB rfl (fun _ _ h => h)
    ·intro vs Wx A hA hB hpre K hK
     have e34 := ((hA 34).trans (show _ = vs 1 by kernel_rfl)).trans (hpre.1 rfl)
     obtain ⟨hB1, hB2, hB3, A, V, hB4⟩ := id hB
     obtain ⟨x0, x1, x2, x3, x4, x5, x6, x7⟩ := beight hB2
     obtain ⟨y0, y1, -, -⟩ := box_two hB3
     clear hA hpre
     go_simp
     exact hK _ _ hB rfl (fun _ _ h => h)
    ·intro vs Wx A hA hB hpre K hK
     have e0 := (hA 0).trans (show _ = Value.pointer (some ⟨q, 0, none⟩) by kernel_rfl)
     clear hA hpre
     go_simp
     exact hK _ _ hB rfl (fun _ _ h => h)
    ·intro vs Wx A hA hB hpre K hK
     have e5 := (hA 5).trans (show _ = Value.pointer (some ⟨s5, 0, none⟩) by kernel_rfl)
     clear hA hpre
     go_simp
     exact hK _ _ hB rfl (fun _ _ h => h)
    ·intro vs Wx A hA hB hpre K hK
     have e37 := ((hA 37).trans (show _ = vs 4 by kernel_rfl)).trans (hpre.1 rfl)
     obtain ⟨hB1, hB2, hB3, A, V, hB4⟩ := id hB
     obtain ⟨x0, x1, x2, x3, x4, x5, x6, x7⟩ := beight hB2
     obtain ⟨y0, y1, -, -⟩ := box_two hB3
     clear hA hpre
     go_simp
     exact hK _ _ hB rfl (fun _ _ h => h)
    ·intro vs Wx A hA hB hpre K hK
     have e3 := (hA 3).trans (show _ = Value.pointer (some ⟨p3, 0, none⟩) by kernel_rfl)
     clear hA hpre
     go_simp
     exact hK _ _ hB rfl (fun _ _ h => h)
    ·intro vs Wx A hA hB hpre K hK
     have e39 := ((hA 39).trans (show _ = vs 6 by kernel_rfl)).trans (hpre.1 rfl)
     obtain ⟨hB1, hB2, hB3, A, V, hB4⟩ := id hB
     obtain ⟨x0, x1, x2, x3, x4, x5, x6, x7⟩ := beight hB2
     obtain ⟨y0, y1, -, -⟩ := box_two hB3
     clear hA hpre
     go_simp
     exact hK _ _ hB rfl (fun _ _ h => h)
    ·intro vs Wx A hA hB hpre K hK
     have e5 := (hA 5).trans (show _ = Value.pointer (some ⟨s5, 0, none⟩) by kernel_rfl)
     clear hA hpre
     go_simp
     exact hK _ _ hB rfl (fun _ _ h => h)
    ·intro vs Wx A hA hB hpre K hK
     have e41 := ((hA 41).trans (show _ = vs 8 by kernel_rfl)).trans (hpre.1 rfl)
     obtain ⟨hB1, hB2, hB3, A, V, hB4⟩ := id hB
     obtain ⟨x0, x1, x2, x3, x4, x5, x6, x7⟩ := beight hB2
     obtain ⟨y0, y1, -, -⟩ := box_two hB3
     clear hA hpre
     go_simp
     exact hK _ _ hB rfl (fun _ _ h => h)
    ·intro vs Wx A hA hB hpre K hK
     have e33 := ((hA 33).trans (show _ = vs 0 by kernel_rfl)).trans (hpre.1 rfl)
     clear hA hpre
     go_simp
     exact hK _ _ hB rfl (fun _ _ h => h)
    ·intro vs Wx A hA hB hpre K hK
     have e43 := ((hA 43).trans (show _ = vs 10 by kernel_rfl)).trans (hpre.1 rfl)
     clear hA hpre
     go_simp
     exact hK _ _ hB rfl (fun _ _ h => h)
    ·intro vs Wx A hA hB hpre K hK
     have e44 := ((hA 44).trans (show _ = vs 11 by kernel_rfl)).trans (hpre.1 rfl)
     have e35 := ((hA 35).trans (show _ = vs 2 by kernel_rfl)).trans (hpre.2.1 rfl)
     clear hA hpre
     go_simp
     exact hK _ _ hB rfl (fun _ _ h => h)
    ·intro vs Wx A hA hB hpre K hK
     have e45 := ((hA 45).trans (show _ = vs 12 by kernel_rfl)).trans (hpre.1 rfl)
     have e40 := ((hA 40).trans (show _ = vs 7 by kernel_rfl)).trans (hpre.2.1 rfl)
     obtain ⟨hB1, hB2, hB3, A, V, hB4⟩ := id hB
     obtain ⟨c1, c2, c3, c4, d1, d2, d3, d4⟩ := hB4.cells
     have fz := hB4.soft 2
     have HN := Lib.hid (ch_rank2 hB4 r.rank)
     have HC := Lib.hid (And.intro hB1 (And.intro hB2 (And.intro hB3 (And.intro d2 True.intro))))
     clear hB1 hB2 hB3 hB4
     clear hA hpre
     go_simp
     refine hK undef _ ⟨below_set HC.out.1 _ _, heap_far HC.out.2.1 HPQ.out, heap_far HC.out.2.2.1 HSQ.out, _, _, HN.out⟩ (HN.out.cells.2.1) (fun jz _ hz => ?_)
     match jz, hz with
     | 0, hz => exact hz
     | 1, hz => exact hz
     | 2, hz => exact hz
     | 3, hz => exact hz
     | 4, hz => exact hz
     | 5, hz => exact hz
     | 6, hz => exact hz
     | 7, hz => exact hz
     | 8, hz => exact hz
     | 9, hz => exact hz
     | 10, hz => exact hz
     | 11, hz => exact hz
     | 12, hz => exact hz
     | 14, hz => exact hz
     | 15, hz => exact hz
     | 16, hz => exact hz
     | 13, hz => exact HN.out.cells.2.1
     | 17, hz => exact (HN.out.cells.2.2.2.2.2.1).trans (HC.out.2.2.2.1.symm.trans hz)
     | n + 18, hz => exact hz
    ·intro vs Wx A hA hB hpre K hK
     have e36 := ((hA 36).trans (show _ = vs 3 by kernel_rfl)).trans (hpre.1 rfl)
     clear hA hpre
     go_simp
     exact hK _ _ hB rfl (fun _ _ h => h)
    ·intro vs Wx A hA hB hpre K hK
     have e46 := ((hA 46).trans (show _ = vs 14 by kernel_rfl)).trans (hpre.1 rfl)
     clear hA hpre
     go_simp
     exact hK _ _ hB rfl (fun _ _ h => h)
    ·intro vs Wx A hA hB hpre K hK
     have e47 := ((hA 47).trans (show _ = vs 15 by kernel_rfl)).trans (hpre.1 rfl)
     have e38 := ((hA 38).trans (show _ = vs 5 by kernel_rfl)).trans (hpre.2.1 rfl)
     clear hA hpre
     go_simp
     exact hK _ _ hB rfl (fun _ _ h => h)
    ·intro vs Wx A hA hB hpre K hK
     have e48 := ((hA 48).trans (show _ = vs 16 by kernel_rfl)).trans (hpre.1 rfl)
     have e42 := ((hA 42).trans (show _ = vs 9 by kernel_rfl)).trans (hpre.2.1 rfl)
     obtain ⟨hB1, hB2, hB3, A, V, hB4⟩ := id hB
     obtain ⟨c1, c2, c3, c4, d1, d2, d3, d4⟩ := hB4.cells
     have fz := hB4.soft 7
     have HN := Lib.hid (ch_val2 hB4 sn)
     have HC := Lib.hid (And.intro hB1 (And.intro hB2 (And.intro hB3 (And.intro c2 True.intro))))
     clear hB1 hB2 hB3 hB4
     clear hA hpre
     go_simp
     refine hK undef _ ⟨below_set HC.out.1 _ _, heap_far HC.out.2.1 HPQ.out, heap_far HC.out.2.2.1 HSQ.out, _, _, HN.out⟩ (HN.out.cells.2.2.2.2.2.1) (fun jz _ hz => ?_)
     match jz, hz with
     | 0, hz => exact hz
     | 1, hz => exact hz
     | 2, hz => exact hz
     | 3, hz => exact hz
     | 4, hz => exact hz
     | 5, hz => exact hz
     | 6, hz => exact hz
     | 7, hz => exact hz
     | 8, hz => exact hz
     | 9, hz => exact hz
     | 10, hz => exact hz
     | 11, hz => exact hz
     | 12, hz => exact hz
     | 14, hz => exact hz
     | 15, hz => exact hz
     | 16, hz => exact hz
     | 17, hz => exact HN.out.cells.2.2.2.2.2.1
     | 13, hz => exact (HN.out.cells.2.1).trans (HC.out.2.2.2.1.symm.trans hz)
     | n + 18, hz => exact hz
    ·intro vs Wx hB hF
     have h13 : Wx.cell? ⟨q, 2, none⟩ = some (.int .i64 r.rank) := hF 13 (by decide)
     have h17 : Wx.cell? ⟨q, 7, none⟩ = some (.int .i64 sn) := hF 17 (by decide)
     obtain ⟨hB1, hB2, hB3, A, V, hB4⟩ := hB
     obtain ⟨c1, c2, c3, c4, d1, d2, d3, d4⟩ := hB4.cells
     obtain rfl : A = r.rank := by rw [h13] at c2; simpa using c2.symm
     have eV : sn = V := by rw [h17] at d2; simpa using d2
     subst eV
     have HBm := Lib.hid (HBn.out.trans hB1)
     have HXy := Lib.hid hB2
     have HQy := Lib.hid hB4
     clear hF hB1 hB2 hB3 hB4 c1 c2 c3 c4 d1 d2 d3 d4 h13 h17 HXx HZx HQx HBn HD
     simp only [Ri.puts]
     go_simp
     go_wp2
     go_roundg (r.sets.length - (j + 1))
     case rel => exact ⟨j + 1, A1, r.rank, A3, A4, V1, sn, V3, V4, by omega, rfl, by go_num, HBm.out, HXy.out, HQy.out, by show _ = _; rw [N1.out]; unfold stS; rw [if_neg (by first | (simp; done) | (simp; omega))], by show _ = _; rw [N2.out]; unfold stS; rw [if_pos ⟨rfl, hgt⟩], by show _ = _; rw [N3.out]; unfold stS; rw [if_neg (by first | (simp; done) | (simp; omega))], by show _ = _; rw [N4.out]; unfold stS; rw [if_neg (by first | (simp; done) | (simp; omega))]⟩
     case measure => omega
  by_cases hk : wh = 3
  case pos =>
   subst hk
   clear h1 h4
   by_cases hgt : A3 < r.rank
   case neg =>
    go_cut [32] (fun s wx => s = .bool false ∧ Hid (Below W3.heap.size W3 wx))
    case first =>
     refine Ri.wp_region_lasting_g (by kernel_rfl) (by kernel_rfl) (by kernel_rfl) (fun Wx => Below W3.heap.size W3 Wx) (fun kz vs wz => (fun kx vx wx => match kx with | 0 => vx = .pointer (some ⟨s5, 0, none⟩) | 1 => vx = .int .i64 3 | 2 => vx = .bool true | 3 => vx = .bool true | 4 => vx = .pointer (some ⟨s5, 0, none⟩) | 5 => vx = .int .i64 3 | 6 => vx = .bool true | 7 => vx = .bool true | 8 => vx = .bool true | 9 => vx = .pointer (some ⟨p3, 0, none⟩) | 10 => vx = .int .i64 r.rank | 11 => vx = .pointer (some ⟨q, 0, none⟩) | 12 => vx = .pointer (some ⟨s5, 0, none⟩) | 13 => vx = .int .i64 3 | 14 => vx = .pointer (some ⟨q, 0, none⟩) | 15 => vx = .pointer (some ⟨q, 0, none⟩) | 16 => vx = .pointer (some ⟨q, 3, none⟩) | 17 => vx = .int .i64 A3 | 18 => vx = .bool false | 19 => vx = .bool false | _ => True : Nat → Value → World → Prop) kz (vs kz) wz) (fun kz => [kz]) (by kernel_rfl) (fun jz vs iz vz wz hiz hz => Ri.loc_own (F := (fun kx vx wx => match kx with | 0 => vx = .pointer (some ⟨s5, 0, none⟩) | 1 => vx = .int .i64 3 | 2 => vx = .bool true | 3 => vx = .bool true | 4 => vx = .pointer (some ⟨s5, 0, none⟩) | 5 => vx = .int .i64 3 | 6 => vx = .bool true | 7 => vx = .bool true | 8 => vx = .bool true | 9 => vx = .pointer (some ⟨p3, 0, none⟩) | 10 => vx = .int .i64 r.rank | 11 => vx = .pointer (some ⟨q, 0, none⟩) | 12 => vx = .pointer (some ⟨s5, 0, none⟩) | 13 => vx = .int .i64 3 | 14 => vx = .pointer (some ⟨q, 0, none⟩) | 15 => vx = .pointer (some ⟨q, 0, none⟩) | 16 => vx = .pointer (some ⟨q, 3, none⟩) | 17 => vx = .int .i64 A3 | 18 => vx = .bool false | 19 => vx = .bool false | _ => True : Nat → Value → World → Prop)) jz vs iz vz wz hiz hz) HD.out ⟨Or.inl ⟨rfl, ?_⟩, Or.inl ⟨rfl, ?_⟩, Or.inl ⟨rfl, ?_⟩, Or.inl ⟨rfl, ?_⟩, Or.inr ⟨3, true, 16, rfl, rfl, ?_⟩, Or.inr ⟨3, true, 16, rfl, rfl, ?_⟩, Or.inr ⟨3, true, 16, rfl, rfl, ?_⟩, Or.inl ⟨rfl, ?_⟩, Or.inl ⟨rfl, ?_⟩, Or.inr ⟨8, true, 21, rfl, rfl, ?_⟩, Or.inr ⟨8, true, 21, rfl, rfl, ?_⟩, Or.inr ⟨8, true, 21, rfl, rfl, ?_⟩, Or.inr ⟨8, true, 21, rfl, rfl, ?_⟩, Or.inr ⟨8, true, 21, rfl, rfl, ?_⟩, Or.inr ⟨8, true, 21, rfl, rfl, ?_⟩, Or.inr ⟨8, true, 21, rfl, rfl, ?_⟩, Or.inr ⟨8, true, 21, rfl, rfl, ?_⟩, Or.inr ⟨8, true, 21, rfl, rfl, ?_⟩, Or.inr ⟨8, true, 21, rfl, rfl, ?_⟩, Or.inl ⟨rfl, ?_⟩, trivial⟩ ?_
     ·intro vs Wx A hA hB hpre K hK
      have e5 := (hA 5).trans (show _ = Value.pointer (some ⟨s5, 0, none⟩) by kernel_rfl)
      clear hA hpre
      go_simp
      exact hK _ _ hB rfl (fun _ _ h => h)
     ·intro vs Wx A hA hB hpre K hK
      have e13 := ((hA 13).trans (show _ = vs 0 by kernel_rfl)).trans (hpre.1 rfl)
      obtain ⟨⟨x0, x1, x2, x3, x4, x5, x6, x7⟩, ⟨y0, y1, -, -⟩, ⟨c1, c2, c3, c4, d1, d2, d3, d4⟩⟩ := HXK.out Wx hB
      clear hA hpre
      go_simp
      exact hK _ _ hB rfl (fun _ _ h => h)
     ·intro vs Wx A hA hB hpre K hK
      have e14 := ((hA 14).trans (show _ = vs 1 by kernel_rfl)).trans (hpre.1 rfl)
      clear hA hpre
      go_simp
      exact hK _ _ hB rfl (fun _ _ h => h)
     ·intro vs Wx A hA hB hpre K hK
      have e15 := ((hA 15).trans (show _ = vs 2 by kernel_rfl)).trans (hpre.1 rfl)
      clear hA hpre
      go_simp
      exact hK _ _ hB rfl (fun _ _ h => h)
     ·intro vs Wx A hA hB hpre
      have eg := ((hA 16).trans (show _ = vs 3 by kernel_rfl)).trans (hpre.1 rfl)
      refine ⟨true, eg, fun _ K hK => ?_, fun h => absurd rfl h⟩
      have e5 := (hA 5).trans (show _ = Value.pointer (some ⟨s5, 0, none⟩) by kernel_rfl)
      clear hA hpre
      go_simp
      exact hK _ _ hB rfl (fun _ _ h => h)
     ·intro vs Wx A hA hB hpre
      have eg := ((hA 16).trans (show _ = vs 3 by kernel_rfl)).trans (hpre.2.1 rfl)
      refine ⟨true, eg, fun _ K hK => ?_, fun h => absurd rfl h⟩
      have e17 := ((hA 17).trans (show _ = vs 4 by kernel_rfl)).trans (hpre.1 rfl)
      obtain ⟨⟨x0, x1, x2, x3, x4, x5, x6, x7⟩, ⟨y0, y1, -, -⟩, ⟨c1, c2, c3, c4, d1, d2, d3, d4⟩⟩ := HXK.out Wx hB
      clear hA hpre
      go_simp
      exact hK _ _ hB rfl (fun _ _ h => h)
     ·intro vs Wx A hA hB hpre
      have eg := ((hA 16).trans (show _ = vs 3 by kernel_rfl)).trans (hpre.2.1 rfl)
      refine ⟨true, eg, fun _ K hK => ?_, fun h => absurd rfl h⟩
      have e18 := ((hA 18).trans (show _ = vs 5 by kernel_rfl)).trans (hpre.1 rfl)
      clear hA hpre
      go_simp
      exact hK _ _ hB rfl (fun _ _ h => h)
     ·intro vs Wx A hA hB hpre K hK
      have e16 := ((hA 16).trans (show _ = vs 3 by kernel_rfl)).trans (hpre.1 rfl)
      have e19 := ((hA 19).trans (show _ = vs 6 by kernel_rfl)).trans (hpre.2.1 rfl)
      clear hA hpre
      go_simp
      exact hK _ _ hB rfl (fun _ _ h => h)
     ·intro vs Wx A hA hB hpre K hK
      have e20 := ((hA 20).trans (show _ = vs 7 by kernel_rfl)).trans (hpre.1 rfl)
      clear hA hpre
      go_simp
      exact hK _ _ hB rfl (fun _ _ h => h)
     ·intro vs Wx A hA hB hpre
      have eg := ((hA 21).trans (show _ = vs 8 by kernel_rfl)).trans (hpre.1 rfl)
      refine ⟨true, eg, fun _ K hK => ?_, fun h => absurd rfl h⟩
      have e3 := (hA 3).trans (show _ = Value.pointer (some ⟨p3, 0, none⟩) by kernel_rfl)
      clear hA hpre
      go_simp
      exact hK _ _ hB rfl (fun _ _ h => h)
     ·intro vs Wx A hA hB hpre
      have eg := ((hA 21).trans (show _ = vs 8 by kernel_rfl)).trans (hpre.2.1 rfl)
      refine ⟨true, eg, fun _ K hK => ?_, fun h => absurd rfl h⟩
      have e22 := ((hA 22).trans (show _ = vs 9 by kernel_rfl)).trans (hpre.1 rfl)
      obtain ⟨⟨x0, x1, x2, x3, x4, x5, x6, x7⟩, ⟨y0, y1, -, -⟩, ⟨c1, c2, c3, c4, d1, d2, d3, d4⟩⟩ := HXK.out Wx hB
      clear hA hpre
      go_simp
      exact hK _ _ hB rfl (fun _ _ h => h)
     ·intro vs Wx A hA hB hpre
      have eg := ((hA 21).trans (show _ = vs 8 by kernel_rfl)).trans (hpre.1 rfl)
      refine ⟨true, eg, fun _ K hK => ?_, fun h => absurd rfl h⟩
      have e0 := (hA 0).trans (show _ = Value.pointer (some ⟨q, 0, none⟩) by kernel_rfl)
      clear hA hpre
      go_simp
      exact hK _ _ hB rfl (fun _ _ h => h)
     ·intro vs Wx A hA hB hpre
      have eg := ((hA 21).trans (show _ = vs 8 by kernel_rfl)).trans (hpre.1 rfl)
      refine ⟨true, eg, fun _ K hK => ?_, fun h => absurd rfl h⟩
      have e5 := (hA 5).trans (show _ = Value.pointer (some ⟨s5, 0, none⟩) by kernel_rfl)
      clear hA hpre
      go_simp
      exact hK _ _ hB rfl (fun _ _ h => h)
     ·intro vs Wx A hA hB hpre
      have eg := ((hA 21).trans (show _ = vs 8 by kernel_rfl)).trans (hpre.2.1 rfl)
      refine ⟨true, eg, fun _ K hK => ?_, fun h => absurd rfl h⟩
      have e25 := ((hA 25).trans (show _ = vs 12 by kernel_rfl)).trans (hpre.1 rfl)
      obtain ⟨⟨x0, x1, x2, x3, x4, x5, x6, x7⟩, ⟨y0, y1, -, -⟩, ⟨c1, c2, c3, c4, d1, d2, d3, d4⟩⟩ := HXK.out Wx hB
      clear hA hpre
      go_simp
      exact hK _ _ hB rfl (fun _ _ h => h)
     ·intro vs Wx A hA hB hpre
      have eg := ((hA 21).trans (show _ = vs 8 by kernel_rfl)).trans (hpre.2.1 rfl)
      refine ⟨true, eg, fun _ K hK => ?_, fun h => absurd rfl h⟩
      have e24 := ((hA 24).trans (show _ = vs 11 by kernel_rfl)).trans (hpre.1 rfl)
      clear hA hpre
      go_simp
      exact hK _ _ hB rfl (fun _ _ h => h)
     ·intro vs Wx A hA hB hpre
      have eg := ((hA 21).trans (show _ = vs 8 by kernel_rfl)).trans (hpre.2.1 rfl)
      refine ⟨true, eg, fun _ K hK => ?_, fun h => absurd rfl h⟩
      have e27 := ((hA 27).trans (show _ = vs 14 by kernel_rfl)).trans (hpre.1 rfl)
      clear hA hpre
      go_simp
      exact hK _ _ hB rfl (fun _ _ h => h)
     ·intro vs Wx A hA hB hpre
      have eg := ((hA 21).trans (show _ = vs 8 by kernel_rfl)).trans (hpre.2.2.1 rfl)
      refine ⟨true, eg, fun _ K hK => ?_, fun h => absurd rfl h⟩
      have e28 := ((hA 28).trans (show _ = vs 15 by kernel_rfl)).trans (hpre.1 rfl)
      have e26 := ((hA 26).trans (show _ = vs 13 by kernel_rfl)).trans (hpre.2.1 rfl)
      clear hA hpre
      go_simp
      exact hK _ _ hB rfl (fun _ _ h => h)
     ·intro vs Wx A hA hB hpre
      have eg := ((hA 21).trans (show _ = vs 8 by kernel_rfl)).trans (hpre.2.1 rfl)
      refine ⟨true, eg, fun _ K hK => ?_, fun h => absurd rfl h⟩
      have e29 := ((hA 29).trans (show _ = vs 16 by kernel_rfl)).trans (hpre.1 rfl)
      obtain ⟨⟨x0, x1, x2, x3, x4, x5, x6, x7⟩, ⟨y0, y1, -, -⟩, ⟨c1, c2, c3, c4, d1, d2, d3, d4⟩⟩ := HXK.out Wx hB
      clear hA hpre
      go_simp
      exact hK _ _ hB rfl (fun _ _ h => h)
     ·intro vs Wx A hA hB hpre
      have eg := ((hA 21).trans (show _ = vs 8 by kernel_rfl)).trans (hpre.2.2.1 rfl)
      refine ⟨true, eg, fun _ K hK => ?_, fun h => absurd rfl h⟩
      have e23 := ((hA 23).trans (show _ = vs 10 by kernel_rfl)).trans (hpre.1 rfl)
      have e30 := ((hA 30).trans (show _ = vs 17 by kernel_rfl)).trans (hpre.2.1 rfl)
      clear hA hpre
      go_simp
      exact hK _ _ hB rfl (fun _ _ h => h)
     ·intro vs Wx A hA hB hpre K hK
      have e21 := ((hA 21).trans (show _ = vs 8 by kernel_rfl)).trans (hpre.1 rfl)
      have e31 := ((hA 31).trans (show _ = vs 18 by kernel_rfl)).trans (hpre.2.1 rfl)
      clear hA hpre
      go_simp
      exact hK _ _ hB rfl (fun _ _ h => h)
     ·intro vs Wx hB hF
      have h32 : vs 19 = .bool false := hF 19 (by decide)
      have HBW := Lib.hid hB
      clear hF hB
      simp only [Ri.puts]
      go_simp
      go_wp2_with fail
      go_meet
      exact ⟨by first | rfl | exact h32, HBW.out⟩
    case rest =>
     obtain ⟨rfl, HBx⟩ := hcut
     have HXx := Lib.hid (keepB HX3.out HBx.out)
     have HQx := Lib.hid (HQ3.out.far HBx.out)
     have HBn := Lib.hid (below_lo HB3.out HQL.out HBx.out)
     clear HXK HD
     go_wp2
     go_roundg (r.sets.length - (j + 1))
     case rel => exact ⟨j + 1, A1, A2, A3, A4, V1, V2, V3, V4, by omega, rfl, by go_num, HBn.out, HXx.out, HQx.out, by show _ = _; rw [N1.out]; unfold stS; rw [if_neg (by first | (simp; done) | (simp; omega))], by show _ = _; rw [N2.out]; unfold stS; rw [if_neg (by first | (simp; done) | (simp; omega))], by show _ = _; rw [N3.out]; unfold stS; rw [if_neg (by first | (simp; done) | (simp; omega))], by show _ = _; rw [N4.out]; unfold stS; rw [if_neg (by first | (simp; done) | (simp; omega))]⟩
     case measure => omega
   go_cut [32] (fun s wx => s = .bool true ∧ Hid (Below W3.heap.size W3 wx))
   case first =>
    refine Ri.wp_region_lasting_g (by kernel_rfl) (by kernel_rfl) (by kernel_rfl) (fun Wx => Below W3.heap.size W3 Wx) (fun kz vs wz => (fun kx vx wx => match kx with | 0 => vx = .pointer (some ⟨s5, 0, none⟩) | 1 => vx = .int .i64 3 | 2 => vx = .bool true | 3 => vx = .bool true | 4 => vx = .pointer (some ⟨s5, 0, none⟩) | 5 => vx = .int .i64 3 | 6 => vx = .bool true | 7 => vx = .bool true | 8 => vx = .bool true | 9 => vx = .pointer (some ⟨p3, 0, none⟩) | 10 => vx = .int .i64 r.rank | 11 => vx = .pointer (some ⟨q, 0, none⟩) | 12 => vx = .pointer (some ⟨s5, 0, none⟩) | 13 => vx = .int .i64 3 | 14 => vx = .pointer (some ⟨q, 0, none⟩) | 15 => vx = .pointer (some ⟨q, 0, none⟩) | 16 => vx = .pointer (some ⟨q, 3, none⟩) | 17 => vx = .int .i64 A3 | 18 => vx = .bool true | 19 => vx = .bool true | _ => True : Nat → Value → World → Prop) kz (vs kz) wz) (fun kz => [kz]) (by kernel_rfl) (fun jz vs iz vz wz hiz hz => Ri.loc_own (F := (fun kx vx wx => match kx with | 0 => vx = .pointer (some ⟨s5, 0, none⟩) | 1 => vx = .int .i64 3 | 2 => vx = .bool true | 3 => vx = .bool true | 4 => vx = .pointer (some ⟨s5, 0, none⟩) | 5 => vx = .int .i64 3 | 6 => vx = .bool true | 7 => vx = .bool true | 8 => vx = .bool true | 9 => vx = .pointer (some ⟨p3, 0, none⟩) | 10 => vx = .int .i64 r.rank | 11 => vx = .pointer (some ⟨q, 0, none⟩) | 12 => vx = .pointer (some ⟨s5, 0, none⟩) | 13 => vx = .int .i64 3 | 14 => vx = .pointer (some ⟨q, 0, none⟩) | 15 => vx = .pointer (some ⟨q, 0, none⟩) | 16 => vx = .pointer (some ⟨q, 3, none⟩) | 17 => vx = .int .i64 A3 | 18 => vx = .bool true | 19 => vx = .bool true | _ => True : Nat → Value → World → Prop)) jz vs iz vz wz hiz hz) HD.out ⟨Or.inl ⟨rfl, ?_⟩, Or.inl ⟨rfl, ?_⟩, Or.inl ⟨rfl, ?_⟩, Or.inl ⟨rfl, ?_⟩, Or.inr ⟨3, true, 16, rfl, rfl, ?_⟩, Or.inr ⟨3, true, 16, rfl, rfl, ?_⟩, Or.inr ⟨3, true, 16, rfl, rfl, ?_⟩, Or.inl ⟨rfl, ?_⟩, Or.inl ⟨rfl, ?_⟩, Or.inr ⟨8, true, 21, rfl, rfl, ?_⟩, Or.inr ⟨8, true, 21, rfl, rfl, ?_⟩, Or.inr ⟨8, true, 21, rfl, rfl, ?_⟩, Or.inr ⟨8, true, 21, rfl, rfl, ?_⟩, Or.inr ⟨8, true, 21, rfl, rfl, ?_⟩, Or.inr ⟨8, true, 21, rfl, rfl, ?_⟩, Or.inr ⟨8, true, 21, rfl, rfl, ?_⟩, Or.inr ⟨8, true, 21, rfl, rfl, ?_⟩, Or.inr ⟨8, true, 21, rfl, rfl, ?_⟩, Or.inr ⟨8, true, 21, rfl, rfl, ?_⟩, Or.inl ⟨rfl, ?_⟩, trivial⟩ ?_
    ·intro vs Wx A hA hB hpre K hK
     have e5 := (hA 5).trans (show _ = Value.pointer (some ⟨s5, 0, none⟩) by kernel_rfl)
     clear hA hpre
     go_simp
     exact hK _ _ hB rfl (fun _ _ h => h)
    ·intro vs Wx A hA hB hpre K hK
     have e13 := ((hA 13).trans (show _ = vs 0 by kernel_rfl)).trans (hpre.1 rfl)
     obtain ⟨⟨x0, x1, x2, x3, x4, x5, x6, x7⟩, ⟨y0, y1, -, -⟩, ⟨c1, c2, c3, c4, d1, d2, d3, d4⟩⟩ := HXK.out Wx hB
     clear hA hpre
     go_simp
     exact hK _ _ hB rfl (fun _ _ h => h)
    ·intro vs Wx A hA hB hpre K hK
     have e14 := ((hA 14).trans (show _ = vs 1 by kernel_rfl)).trans (hpre.1 rfl)
     clear hA hpre
     go_simp
     exact hK _ _ hB rfl (fun _ _ h => h)
    ·intro vs Wx A hA hB hpre K hK
     have e15 := ((hA 15).trans (show _ = vs 2 by kernel_rfl)).trans (hpre.1 rfl)
     clear hA hpre
     go_simp
     exact hK _ _ hB rfl (fun _ _ h => h)
    ·intro vs Wx A hA hB hpre
     have eg := ((hA 16).trans (show _ = vs 3 by kernel_rfl)).trans (hpre.1 rfl)
     refine ⟨true, eg, fun _ K hK => ?_, fun h => absurd rfl h⟩
     have e5 := (hA 5).trans (show _ = Value.pointer (some ⟨s5, 0, none⟩) by kernel_rfl)
     clear hA hpre
     go_simp
     exact hK _ _ hB rfl (fun _ _ h => h)
    ·intro vs Wx A hA hB hpre
     have eg := ((hA 16).trans (show _ = vs 3 by kernel_rfl)).trans (hpre.2.1 rfl)
     refine ⟨true, eg, fun _ K hK => ?_, fun h => absurd rfl h⟩
     have e17 := ((hA 17).trans (show _ = vs 4 by kernel_rfl)).trans (hpre.1 rfl)
     obtain ⟨⟨x0, x1, x2, x3, x4, x5, x6, x7⟩, ⟨y0, y1, -, -⟩, ⟨c1, c2, c3, c4, d1, d2, d3, d4⟩⟩ := HXK.out Wx hB
     clear hA hpre
     go_simp
     exact hK _ _ hB rfl (fun _ _ h => h)
    ·intro vs Wx A hA hB hpre
     have eg := ((hA 16).trans (show _ = vs 3 by kernel_rfl)).trans (hpre.2.1 rfl)
     refine ⟨true, eg, fun _ K hK => ?_, fun h => absurd rfl h⟩
     have e18 := ((hA 18).trans (show _ = vs 5 by kernel_rfl)).trans (hpre.1 rfl)
     clear hA hpre
     go_simp
     exact hK _ _ hB rfl (fun _ _ h => h)
    ·intro vs Wx A hA hB hpre K hK
     have e16 := ((hA 16).trans (show _ = vs 3 by kernel_rfl)).trans (hpre.1 rfl)
     have e19 := ((hA 19).trans (show _ = vs 6 by kernel_rfl)).trans (hpre.2.1 rfl)
     clear hA hpre
     go_simp
     exact hK _ _ hB rfl (fun _ _ h => h)
    ·intro vs Wx A hA hB hpre K hK
     have e20 := ((hA 20).trans (show _ = vs 7 by kernel_rfl)).trans (hpre.1 rfl)
     clear hA hpre
     go_simp
     exact hK _ _ hB rfl (fun _ _ h => h)
    ·intro vs Wx A hA hB hpre
     have eg := ((hA 21).trans (show _ = vs 8 by kernel_rfl)).trans (hpre.1 rfl)
     refine ⟨true, eg, fun _ K hK => ?_, fun h => absurd rfl h⟩
     have e3 := (hA 3).trans (show _ = Value.pointer (some ⟨p3, 0, none⟩) by kernel_rfl)
     clear hA hpre
     go_simp
     exact hK _ _ hB rfl (fun _ _ h => h)
    ·intro vs Wx A hA hB hpre
     have eg := ((hA 21).trans (show _ = vs 8 by kernel_rfl)).trans (hpre.2.1 rfl)
     refine ⟨true, eg, fun _ K hK => ?_, fun h => absurd rfl h⟩
     have e22 := ((hA 22).trans (show _ = vs 9 by kernel_rfl)).trans (hpre.1 rfl)
     obtain ⟨⟨x0, x1, x2, x3, x4, x5, x6, x7⟩, ⟨y0, y1, -, -⟩, ⟨c1, c2, c3, c4, d1, d2, d3, d4⟩⟩ := HXK.out Wx hB
     clear hA hpre
     go_simp
     exact hK _ _ hB rfl (fun _ _ h => h)
    ·intro vs Wx A hA hB hpre
     have eg := ((hA 21).trans (show _ = vs 8 by kernel_rfl)).trans (hpre.1 rfl)
     refine ⟨true, eg, fun _ K hK => ?_, fun h => absurd rfl h⟩
     have e0 := (hA 0).trans (show _ = Value.pointer (some ⟨q, 0, none⟩) by kernel_rfl)
     clear hA hpre
     go_simp
     exact hK _ _ hB rfl (fun _ _ h => h)
    ·intro vs Wx A hA hB hpre
     have eg := ((hA 21).trans (show _ = vs 8 by kernel_rfl)).trans (hpre.1 rfl)
     refine ⟨true, eg, fun _ K hK => ?_, fun h => absurd rfl h⟩
     have e5 := (hA 5).trans (show _ = Value.pointer (some ⟨s5, 0, none⟩) by kernel_rfl)
     clear hA hpre
     go_simp
     exact hK _ _ hB rfl (fun _ _ h => h)
    ·intro vs Wx A hA hB hpre
     have eg := ((hA 21).trans (show _ = vs 8 by kernel_rfl)).trans (hpre.2.1 rfl)
     refine ⟨true, eg, fun _ K hK => ?_, fun h => absurd rfl h⟩
     have e25 := ((hA 25).trans (show _ = vs 12 by kernel_rfl)).trans (hpre.1 rfl)
     obtain ⟨⟨x0, x1, x2, x3, x4, x5, x6, x7⟩, ⟨y0, y1, -, -⟩, ⟨c1, c2, c3, c4, d1, d2, d3, d4⟩⟩ := HXK.out Wx hB
     clear hA hpre
     go_simp
     exact hK _ _ hB rfl (fun _ _ h => h)
    ·intro vs Wx A hA hB hpre
     have eg := ((hA 21).trans (show _ = vs 8 by kernel_rfl)).trans (hpre.2.1 rfl)
     refine ⟨true, eg, fun _ K hK => ?_, fun h => absurd rfl h⟩
     have e24 := ((hA 24).trans (show _ = vs 11 by kernel_rfl)).trans (hpre.1 rfl)
     clear hA hpre
     go_simp
     exact hK _ _ hB rfl (fun _ _ h => h)
    ·intro vs Wx A hA hB hpre
     have eg := ((hA 21).trans (show _ = vs 8 by kernel_rfl)).trans (hpre.2.1 rfl)
     refine ⟨true, eg, fun _ K hK => ?_, fun h => absurd rfl h⟩
     have e27 := ((hA 27).trans (show _ = vs 14 by kernel_rfl)).trans (hpre.1 rfl)
     clear hA hpre
     go_simp
     exact hK _ _ hB rfl (fun _ _ h => h)
    ·intro vs Wx A hA hB hpre
     have eg := ((hA 21).trans (show _ = vs 8 by kernel_rfl)).trans (hpre.2.2.1 rfl)
     refine ⟨true, eg, fun _ K hK => ?_, fun h => absurd rfl h⟩
     have e28 := ((hA 28).trans (show _ = vs 15 by kernel_rfl)).trans (hpre.1 rfl)
     have e26 := ((hA 26).trans (show _ = vs 13 by kernel_rfl)).trans (hpre.2.1 rfl)
     clear hA hpre
     go_simp
     exact hK _ _ hB rfl (fun _ _ h => h)
    ·intro vs Wx A hA hB hpre
     have eg := ((hA 21).trans (show _ = vs 8 by kernel_rfl)).trans (hpre.2.1 rfl)
     refine ⟨true, eg, fun _ K hK => ?_, fun h => absurd rfl h⟩
     have e29 := ((hA 29).trans (show _ = vs 16 by kernel_rfl)).trans (hpre.1 rfl)
     obtain ⟨⟨x0, x1, x2, x3, x4, x5, x6, x7⟩, ⟨y0, y1, -, -⟩, ⟨c1, c2, c3, c4, d1, d2, d3, d4⟩⟩ := HXK.out Wx hB
     clear hA hpre
     go_simp
     exact hK _ _ hB rfl (fun _ _ h => h)
    ·intro vs Wx A hA hB hpre
     have eg := ((hA 21).trans (show _ = vs 8 by kernel_rfl)).trans (hpre.2.2.1 rfl)
     refine ⟨true, eg, fun _ K hK => ?_, fun h => absurd rfl h⟩
     have e23 := ((hA 23).trans (show _ = vs 10 by kernel_rfl)).trans (hpre.1 rfl)
     have e30 := ((hA 30).trans (show _ = vs 17 by kernel_rfl)).trans (hpre.2.1 rfl)
     clear hA hpre
     go_simp
     exact hK _ _ hB rfl (fun _ _ h => h)
    ·intro vs Wx A hA hB hpre K hK
     have e21 := ((hA 21).trans (show _ = vs 8 by kernel_rfl)).trans (hpre.1 rfl)
     have e31 := ((hA 31).trans (show _ = vs 18 by kernel_rfl)).trans (hpre.2.1 rfl)
     clear hA hpre
     go_simp
     exact hK _ _ hB rfl (fun _ _ h => h)
    ·intro vs Wx hB hF
     have h32 : vs 19 = .bool true := hF 19 (by decide)
     have HBW := Lib.hid hB
     clear hF hB
     simp only [Ri.puts]
     go_simp
     go_wp2_with fail
     go_meet
     exact ⟨by first | rfl | exact h32, HBW.out⟩
   case rest =>
    obtain ⟨rfl, HBx⟩ := hcut
    have HXx := Lib.hid (keepB HX3.out HBx.out)
    have HZx := Lib.hid (keepB HZ.out HBx.out)
    have HQx := Lib.hid (HQ3.out.far HBx.out)
    have HBn := Lib.hid (below_lo HB3.out HQL.out HBx.out)
    clear HXK HD HX3 HZ HQ3 HBx HB3
    go_upto_region 5 with fail
    have HD : Hid ((fun Wx => Below q wc Wx ∧ Wx.heap[p3]? = some (.cells #[.int .i64 r.rank, .int .i64 r.cif.kind, .string (mk r.cif.lo), .string (mk r.cif.hi), .int .i64 r.cif.n, k, u, .slice (some ⟨b, o, none⟩) r.sets.length sc] 85 (0, 0)) ∧ Wx.heap[s5]? = some (.cells #[.int .i64 3, .int .i64 sn] 88 (0, 0)) ∧ ∃ A V, ChAt Wx q A1 A2 A A4 V1 V2 V V4) wc.drew) := ⟨Below.drew (Below.refl q wc), HXx.out, HZx.out, _, _, HQx.out⟩
    refine Ri.wp_region_lastingB (by kernel_rfl) (by kernel_rfl) (by kernel_rfl) (fun Wx => Below q wc Wx ∧ Wx.heap[p3]? = some (.cells #[.int .i64 r.rank, .int .i64 r.cif.kind, .string (mk r.cif.lo), .string (mk r.cif.hi), .int .i64 r.cif.n, k, u, .slice (some ⟨b, o, none⟩) r.sets.length sc] 85 (0, 0)) ∧ Wx.heap[s5]? = some (.cells #[.int .i64 3, .int .i64 sn] 88 (0, 0)) ∧ ∃ A V, ChAt Wx q A1 A2 A A4 V1 V2 V V4) (fun kz vs wz => (fun kx vx wx => match kx with | 0 => vx = .pointer (some ⟨q, 0, none⟩) | 1 => vx = .pointer (some ⟨s5, 0, none⟩) | 2 => vx = .int .i64 3 | 3 => vx = .pointer (some ⟨q, 0, none⟩) | 4 => vx = .pointer (some ⟨s5, 0, none⟩) | 5 => vx = .int .i64 3 | 6 => vx = .pointer (some ⟨p3, 0, none⟩) | 7 => vx = .int .i64 r.rank | 8 => vx = .pointer (some ⟨s5, 1, none⟩) | 9 => vx = .int .i64 sn | 10 => vx = .pointer (some ⟨q, 0, none⟩) | 11 => vx = .pointer (some ⟨q, 0, none⟩) | 12 => vx = .pointer (some ⟨q, 3, none⟩) | 13 => wx.cell? ⟨q, 3, none⟩ = some (.int .i64 r.rank) | 14 => vx = .pointer (some ⟨q, 0, none⟩) | 15 => vx = .pointer (some ⟨q, 5, none⟩) | 16 => vx = .pointer (some ⟨q, 8, none⟩) | 17 => wx.cell? ⟨q, 8, none⟩ = some (.int .i64 sn) | _ => True : Nat → Value → World → Prop) kz (vs kz) wz) (fun kz => [kz]) (by kernel_rfl) (fun jz vs iz vz wz hiz hz => Ri.loc_own (F := (fun kx vx wx => match kx with | 0 => vx = .pointer (some ⟨q, 0, none⟩) | 1 => vx = .pointer (some ⟨s5, 0, none⟩) | 2 => vx = .int .i64 3 | 3 => vx = .pointer (some ⟨q, 0, none⟩) | 4 => vx = .pointer (some ⟨s5, 0, none⟩) | 5 => vx = .int .i64 3 | 6 => vx = .pointer (some ⟨p3, 0, none⟩) | 7 => vx = .int .i64 r.rank | 8 => vx = .pointer (some ⟨s5, 1, none⟩) | 9 => vx = .int .i64 sn | 10 => vx = .pointer (some ⟨q, 0, none⟩) | 11 => vx = .pointer (some ⟨q, 0, none⟩) | 12 => vx = .pointer (some ⟨q, 3, none⟩) | 13 => wx.cell? ⟨q, 3, none⟩ = some (.int .i64 r.rank) | 14 => vx = .pointer (some ⟨q, 0, none⟩) | 15 => vx = .pointer (some ⟨q, 5, none⟩) | 16 => vx = .pointer (some ⟨q, 8, none⟩) | 17 => wx.cell? ⟨q, 8, none⟩ = some (.int .i64 sn) | _ => True : Nat → Value → World → Prop)) jz vs iz vz wz hiz hz) HD.out ⟨⟨rfl, ?_⟩, ⟨rfl, ?_⟩, ⟨rfl, ?_⟩, ⟨rfl, ?_⟩, ⟨rfl, ?_⟩, ⟨rfl, ?_⟩, ⟨rfl, ?_⟩, ⟨rfl, ?_⟩, ⟨rfl, ?_⟩, ⟨rfl, ?_⟩, ⟨rfl, ?_⟩, ⟨rfl, ?_⟩, ⟨rfl, ?_⟩, ⟨rfl, ?_⟩, ⟨rfl, ?_⟩, ⟨rfl, ?_⟩, ⟨rfl, ?_⟩, ⟨rfl, ?_⟩, trivial⟩ ?_
    ·intro vs Wx A hA hB hpre K hK
     have e0 := (hA 0).trans (show _ = Value.pointer (some ⟨q, 0, none⟩) by kernel_rfl)
     clear hA hpre
     go_simp
     exact hK _ _ hB rfl (fun _ _ h => h)
    ·intro vs Wx A hA hB hpre K hK
     have e5 := (hA 5).trans (show _ = Value.pointer (some ⟨s5, 0, none⟩) by kernel_rfl)
     clear hA hpre
     go_simp
     exact hK _ _ hB rfl (fun _ _ h => h)
    ·intro vs Wx A hA hB hpre K hK
     have e34 := ((hA 34).trans (show _ = vs 1 by kernel_rfl)).trans (hpre.1 rfl)
     obtain ⟨hB1, hB2, hB3, A, V, hB4⟩ := id hB
     obtain ⟨x0, x1, x2, x3, x4, x5, x6, x7⟩ := beight hB2
     obtain ⟨y0, y1, -, -⟩ := box_two hB3
     clear hA hpre
     go_simp
     exact hK _ _ hB rfl (fun _ _ h => h)
    ·intro vs Wx A hA hB hpre K hK
     have e0 := (hA 0).trans (show _ = Value.pointer (some ⟨q, 0, none⟩) by kernel_rfl)
     clear hA hpre
     go_simp
     exact hK _ _ hB rfl (fun _ _ h => h)
    ·intro vs Wx A hA hB hpre K hK
     have e5 := (hA 5).trans (show _ = Value.pointer (some ⟨s5, 0, none⟩) by kernel_rfl)
     clear hA hpre
     go_simp
     exact hK _ _ hB rfl (fun _ _ h => h)
    ·intro vs Wx A hA hB hpre K hK
     have e37 := ((hA 37).trans (show _ = vs 4 by kernel_rfl)).trans (hpre.1 rfl)
     obtain ⟨hB1, hB2, hB3, A, V, hB4⟩ := id hB
     obtain ⟨x0, x1, x2, x3, x4, x5, x6, x7⟩ := beight hB2
     obtain ⟨y0, y1, -, -⟩ := box_two hB3
     clear hA hpre
     go_simp
     exact hK _ _ hB rfl (fun _ _ h => h)
    ·intro vs Wx A hA hB hpre K hK
     have e3 := (hA 3).trans (show _ = Value.pointer (some ⟨p3, 0, none⟩) by kernel_rfl)
     clear hA hpre
     go_simp
     exact hK _ _ hB rfl (fun _ _ h => h)
    ·intro vs Wx A hA hB hpre K hK
     have e39 := ((hA 39).trans (show _ = vs 6 by kernel_rfl)).trans (hpre.1 rfl)
     obtain ⟨hB1, hB2, hB3, A, V, hB4⟩ := id hB
     obtain ⟨x0, x1, x2, x3, x4, x5, x6, x7⟩ := beight hB2
     obtain ⟨y0, y1, -, -⟩ := box_two hB3
     clear hA hpre
     go_simp
     exact hK _ _ hB rfl (fun _ _ h => h)
    ·intro vs Wx A hA hB hpre K hK
     have e5 := (hA 5).trans (show _ = Value.pointer (some ⟨s5, 0, none⟩) by kernel_rfl)
     clear hA hpre
     go_simp
     exact hK _ _ hB rfl (fun _ _ h => h)
    ·intro vs Wx A hA hB hpre K hK
     have e41 := ((hA 41).trans (show _ = vs 8 by kernel_rfl)).trans (hpre.1 rfl)
     obtain ⟨hB1, hB2, hB3, A, V, hB4⟩ := id hB
     obtain ⟨x0, x1, x2, x3, x4, x5, x6, x7⟩ := beight hB2
     obtain ⟨y0, y1, -, -⟩ := box_two hB3
     clear hA hpre
     go_simp
     exact hK _ _ hB rfl (fun _ _ h => h)
    ·intro vs Wx A hA hB hpre K hK
     have e33 := ((hA 33).trans (show _ = vs 0 by kernel_rfl)).trans (hpre.1 rfl)
     clear hA hpre
     go_simp
     exact hK _ _ hB rfl (fun _ _ h => h)
    ·intro vs Wx A hA hB hpre K hK
     have e43 := ((hA 43).trans (show _ = vs 10 by kernel_rfl)).trans (hpre.1 rfl)
     clear hA hpre
     go_simp
     exact hK _ _ hB rfl (fun _ _ h => h)
    ·intro vs Wx A hA hB hpre K hK
     have e44 := ((hA 44).trans (show _ = vs 11 by kernel_rfl)).trans (hpre.1 rfl)
     have e35 := ((hA 35).trans (show _ = vs 2 by kernel_rfl)).trans (hpre.2.1 rfl)
     clear hA hpre
     go_simp
     exact hK _ _ hB rfl (fun _ _ h => h)
    ·intro vs Wx A hA hB hpre K hK
     have e45 := ((hA 45).trans (show _ = vs 12 by kernel_rfl)).trans (hpre.1 rfl)
     have e40 := ((hA 40).trans (show _ = vs 7 by kernel_rfl)).trans (hpre.2.1 rfl)
     obtain ⟨hB1, hB2, hB3, A, V, hB4⟩ := id hB
     obtain ⟨c1, c2, c3, c4, d1, d2, d3, d4⟩ := hB4.cells
     have fz := hB4.soft 3
     have HN := Lib.hid (ch_rank3 hB4 r.rank)
     have HC := Lib.hid (And.intro hB1 (And.intro hB2 (And.intro hB3 (And.intro d3 True.intro))))
     clear hB1 hB2 hB3 hB4
     clear hA hpre
     go_simp
     refine hK undef _ ⟨below_set HC.out.1 _ _, heap_far HC.out.2.1 HPQ.out, heap_far HC.out.2.2.1 HSQ.out, _, _, HN.out⟩ (HN.out.cells.2.2.1) (fun jz _ hz => ?_)
     match jz, hz with
     | 0, hz => exact hz
     | 1, hz => exact hz
     | 2, hz => exact hz
     | 3, hz => exact hz
     | 4, hz => exact hz
     | 5, hz => exact hz
     | 6, hz => exact hz
     | 7, hz => exact hz
     | 8, hz => exact hz
     | 9, hz => exact hz
     | 10, hz => exact hz
     | 11, hz => exact hz
     | 12, hz => exact hz
     | 14, hz => exact hz
     | 15, hz => exact hz
     | 16, hz => exact hz
     | 13, hz => exact HN.out.cells.2.2.1
     | 17, hz => exact (HN.out.cells.2.2.2.2.2.2.1).trans (HC.out.2.2.2.1.symm.trans hz)
     | n + 18, hz => exact hz
    ·intro vs Wx A hA hB hpre K hK
     have e36 := ((hA 36).trans (show _ = vs 3 by kernel_rfl)).trans (hpre.1 rfl)
     clear hA hpre
     go_simp
     exact hK _ _ hB rfl (fun _ _ h => h)
    ·intro vs Wx A hA hB hpre K hK
     have e46 := ((hA 46).trans (show _ = vs 14 by kernel_rfl)).trans (hpre.1 rfl)
     clear hA hpre
     go_simp
     exact hK _ _ hB rfl (fun _ _ h => h)
    ·intro vs Wx A hA hB hpre K hK
     have e47 := ((hA 47).trans (show _ = vs 15 by kernel_rfl)).trans (hpre.1 rfl)
     have e38 := ((hA 38).trans (show _ = vs 5 by kernel_rfl)).trans (hpre.2.1 rfl)
     clear hA hpre
     go_simp
     exact hK _ _ hB rfl (fun _ _ h => h)
    ·intro vs Wx A hA hB hpre K hK
     have e48 := ((hA 48).trans (show _ = vs 16 by kernel_rfl)).trans (hpre.1 rfl)
     have e42 := ((hA 42).trans (show _ = vs 9 by kernel_rfl)).trans (hpre.2.1 rfl)
     obtain ⟨hB1, hB2, hB3, A, V, hB4⟩ := id hB
     obtain ⟨c1, c2, c3, c4, d1, d2, d3, d4⟩ := hB4.cells
     have fz := hB4.soft 8
     have HN := Lib.hid (ch_val3 hB4 sn)
     have HC := Lib.hid (And.intro hB1 (And.intro hB2 (And.intro hB3 (And.intro c3 True.intro))))
     clear hB1 hB2 hB3 hB4
     clear hA hpre
     go_simp
     refine hK undef _ ⟨below_set HC.out.1 _ _, heap_far HC.out.2.1 HPQ.out, heap_far HC.out.2.2.1 HSQ.out, _, _, HN.out⟩ (HN.out.cells.2.2.2.2.2.2.1) (fun jz _ hz => ?_)
     match jz, hz with
     | 0, hz => exact hz
     | 1, hz => exact hz
     | 2, hz => exact hz
     | 3, hz => exact hz
     | 4, hz => exact hz
     | 5, hz => exact hz
     | 6, hz => exact hz
     | 7, hz => exact hz
     | 8, hz => exact hz
     | 9, hz => exact hz
     | 10, hz => exact hz
     | 11, hz => exact hz
     | 12, hz => exact hz
     | 14, hz => exact hz
     | 15, hz => exact hz
     | 16, hz => exact hz
     | 17, hz => exact HN.out.cells.2.2.2.2.2.2.1
     | 13, hz => exact (HN.out.cells.2.2.1).trans (HC.out.2.2.2.1.symm.trans hz)
     | n + 18, hz => exact hz
    ·intro vs Wx hB hF
     have h13 : Wx.cell? ⟨q, 3, none⟩ = some (.int .i64 r.rank) := hF 13 (by decide)
     have h17 : Wx.cell? ⟨q, 8, none⟩ = some (.int .i64 sn) := hF 17 (by decide)
     obtain ⟨hB1, hB2, hB3, A, V, hB4⟩ := hB
     obtain ⟨c1, c2, c3, c4, d1, d2, d3, d4⟩ := hB4.cells
     obtain rfl : A = r.rank := by rw [h13] at c3; simpa using c3.symm
     have eV : sn = V := by rw [h17] at d3; simpa using d3
     subst eV
     have HBm := Lib.hid (HBn.out.trans hB1)
     have HXy := Lib.hid hB2
     have HQy := Lib.hid hB4
     clear hF hB1 hB2 hB3 hB4 c1 c2 c3 c4 d1 d2 d3 d4 h13 h17 HXx HZx HQx HBn HD
     simp only [Ri.puts]
     go_simp
     go_wp2
     go_roundg (r.sets.length - (j + 1))
     case rel => exact ⟨j + 1, A1, A2, r.rank, A4, V1, V2, sn, V4, by omega, rfl, by go_num, HBm.out, HXy.out, HQy.out, by show _ = _; rw [N1.out]; unfold stS; rw [if_neg (by first | (simp; done) | (simp; omega))], by show _ = _; rw [N2.out]; unfold stS; rw [if_neg (by first | (simp; done) | (simp; omega))], by show _ = _; rw [N3.out]; unfold stS; rw [if_pos ⟨rfl, hgt⟩], by show _ = _; rw [N4.out]; unfold stS; rw [if_neg (by first | (simp; done) | (simp; omega))]⟩
     case measure => omega
  by_cases hk : wh = 4
  case pos =>
   subst hk
   clear h1 h4
   by_cases hgt : A4 < r.rank
   case neg =>
    go_cut [32] (fun s wx => s = .bool false ∧ Hid (Below W3.heap.size W3 wx))
    case first =>
     refine Ri.wp_region_lasting_g (by kernel_rfl) (by kernel_rfl) (by kernel_rfl) (fun Wx => Below W3.heap.size W3 Wx) (fun kz vs wz => (fun kx vx wx => match kx with | 0 => vx = .pointer (some ⟨s5, 0, none⟩) | 1 => vx = .int .i64 4 | 2 => vx = .bool true | 3 => vx = .bool true | 4 => vx = .pointer (some ⟨s5, 0, none⟩) | 5 => vx = .int .i64 4 | 6 => vx = .bool true | 7 => vx = .bool true | 8 => vx = .bool true | 9 => vx = .pointer (some ⟨p3, 0, none⟩) | 10 => vx = .int .i64 r.rank | 11 => vx = .pointer (some ⟨q, 0, none⟩) | 12 => vx = .pointer (some ⟨s5, 0, none⟩) | 13 => vx = .int .i64 4 | 14 => vx = .pointer (some ⟨q, 0, none⟩) | 15 => vx = .pointer (some ⟨q, 0, none⟩) | 16 => vx = .pointer (some ⟨q, 4, none⟩) | 17 => vx = .int .i64 A4 | 18 => vx = .bool false | 19 => vx = .bool false | _ => True : Nat → Value → World → Prop) kz (vs kz) wz) (fun kz => [kz]) (by kernel_rfl) (fun jz vs iz vz wz hiz hz => Ri.loc_own (F := (fun kx vx wx => match kx with | 0 => vx = .pointer (some ⟨s5, 0, none⟩) | 1 => vx = .int .i64 4 | 2 => vx = .bool true | 3 => vx = .bool true | 4 => vx = .pointer (some ⟨s5, 0, none⟩) | 5 => vx = .int .i64 4 | 6 => vx = .bool true | 7 => vx = .bool true | 8 => vx = .bool true | 9 => vx = .pointer (some ⟨p3, 0, none⟩) | 10 => vx = .int .i64 r.rank | 11 => vx = .pointer (some ⟨q, 0, none⟩) | 12 => vx = .pointer (some ⟨s5, 0, none⟩) | 13 => vx = .int .i64 4 | 14 => vx = .pointer (some ⟨q, 0, none⟩) | 15 => vx = .pointer (some ⟨q, 0, none⟩) | 16 => vx = .pointer (some ⟨q, 4, none⟩) | 17 => vx = .int .i64 A4 | 18 => vx = .bool false | 19 => vx = .bool false | _ => True : Nat → Value → World → Prop)) jz vs iz vz wz hiz hz) HD.out ⟨Or.inl ⟨rfl, ?_⟩, Or.inl ⟨rfl, ?_⟩, Or.inl ⟨rfl, ?_⟩, Or.inl ⟨rfl, ?_⟩, Or.inr ⟨3, true, 16, rfl, rfl, ?_⟩, Or.inr ⟨3, true, 16, rfl, rfl, ?_⟩, Or.inr ⟨3, true, 16, rfl, rfl, ?_⟩, Or.inl ⟨rfl, ?_⟩, Or.inl ⟨rfl, ?_⟩, Or.inr ⟨8, true, 21, rfl, rfl, ?_⟩, Or.inr ⟨8, true, 21, rfl, rfl, ?_⟩, Or.inr ⟨8, true, 21, rfl, rfl, ?_⟩, Or.inr ⟨8, true, 21, rfl, rfl, ?_⟩, Or.inr ⟨8, true, 21, rfl, rfl, ?_⟩, Or.inr ⟨8, true, 21, rfl, rfl, ?_⟩, Or.inr ⟨8, true, 21, rfl, rfl, ?_⟩, Or.inr ⟨8, true, 21, rfl, rfl, ?_⟩, Or.inr ⟨8, true, 21, rfl, rfl, ?_⟩, Or.inr ⟨8, true, 21, rfl, rfl, ?_⟩, Or.inl ⟨rfl, ?_⟩, trivial⟩ ?_
     ·intro vs Wx A hA hB hpre K hK
      have e5 := (hA 5).trans (show _ = Value.pointer (some ⟨s5, 0, none⟩) by kernel_rfl)
      clear hA hpre
      go_simp
      exact hK _ _ hB rfl (fun _ _ h => h)
     ·intro vs Wx A hA hB hpre K hK
      have e13 := ((hA 13).trans (show _ = vs 0 by kernel_rfl)).trans (hpre.1 rfl)
      obtain ⟨⟨x0, x1, x2, x3, x4, x5, x6, x7⟩, ⟨y0, y1, -, -⟩, ⟨c1, c2, c3, c4, d1, d2, d3, d4⟩⟩ := HXK.out Wx hB
      clear hA hpre
      go_simp
      exact hK _ _ hB rfl (fun _ _ h => h)
     ·intro vs Wx A hA hB hpre K hK
      have e14 := ((hA 14).trans (show _ = vs 1 by kernel_rfl)).trans (hpre.1 rfl)
      clear hA hpre
      go_simp
      exact hK _ _ hB rfl (fun _ _ h => h)
     ·intro vs Wx A hA hB hpre K hK
      have e15 := ((hA 15).trans (show _ = vs 2 by kernel_rfl)).trans (hpre.1 rfl)
      clear hA hpre
      go_simp
      exact hK _ _ hB rfl (fun _ _ h => h)
     ·intro vs Wx A hA hB hpre
      have eg := ((hA 16).trans (show _ = vs 3 by kernel_rfl)).trans (hpre.1 rfl)
      refine ⟨true, eg, fun _ K hK => ?_, fun h => absurd rfl h⟩
      have e5 := (hA 5).trans (show _ = Value.pointer (some ⟨s5, 0, none⟩) by kernel_rfl)
      clear hA hpre
      go_simp
      exact hK _ _ hB rfl (fun _ _ h => h)
     ·intro vs Wx A hA hB hpre
      have eg := ((hA 16).trans (show _ = vs 3 by kernel_rfl)).trans (hpre.2.1 rfl)
      refine ⟨true, eg, fun _ K hK => ?_, fun h => absurd rfl h⟩
      have e17 := ((hA 17).trans (show _ = vs 4 by kernel_rfl)).trans (hpre.1 rfl)
      obtain ⟨⟨x0, x1, x2, x3, x4, x5, x6, x7⟩, ⟨y0, y1, -, -⟩, ⟨c1, c2, c3, c4, d1, d2, d3, d4⟩⟩ := HXK.out Wx hB
      clear hA hpre
      go_simp
      exact hK _ _ hB rfl (fun _ _ h => h)
     ·intro vs Wx A hA hB hpre
      have eg := ((hA 16).trans (show _ = vs 3 by kernel_rfl)).trans (hpre.2.1 rfl)
      refine ⟨true, eg, fun _ K hK => ?_, fun h => absurd rfl h⟩
      have e18 := ((hA 18).trans (show _ = vs 5 by kernel_rfl)).trans (hpre.1 rfl)
      clear hA hpre
      go_simp
      exact hK _ _ hB rfl (fun _ _ h => h)
     ·intro vs Wx A hA hB hpre K hK
      have e16 := ((hA 16).trans (show _ = vs 3 by kernel_rfl)).trans (hpre.1 rfl)
      have e19 := ((hA 19).trans (show _ = vs 6 by kernel_rfl)).trans (hpre.2.1 rfl)
      clear hA hpre
      go_simp
      exact hK _ _ hB rfl (fun _ _ h => h)
     ·intro vs Wx A hA hB hpre K hK
      have e20 := ((hA 20).trans (show _ = vs 7 by kernel_rfl)).trans (hpre.1 rfl)
      clear hA hpre
      go_simp
      exact hK _ _ hB rfl (fun _ _ h => h)
     ·intro vs Wx A hA hB hpre
      have eg := ((hA 21).trans (show _ = vs 8 by kernel_rfl)).trans (hpre.1 rfl)
      refine ⟨true, eg, fun _ K hK => ?_, fun h => absurd rfl h⟩
      have e3 := (hA 3).trans (show _ = Value.pointer (some ⟨p3, 0, none⟩) by kernel_rfl)
      clear hA hpre
      go_simp
      exact hK _ _ hB rfl (fun _ _ h => h)
     ·intro vs Wx A hA hB hpre
      have eg := ((hA 21).trans (show _ = vs 8 by kernel_rfl)).trans (hpre.2.1 rfl)
      refine ⟨true, eg, fun _ K hK => ?_, fun h => absurd rfl h⟩
      have e22 := ((hA 22).trans (show _ = vs 9 by kernel_rfl)).trans (hpre.1 rfl)
      obtain ⟨⟨x0, x1, x2, x3, x4, x5, x6, x7⟩, ⟨y0, y1, -, -⟩, ⟨c1, c2, c3, c4, d1, d2, d3, d4⟩⟩ := HXK.out Wx hB
      clear hA hpre
      go_simp
      exact hK _ _ hB rfl (fun _ _ h => h)
     ·intro vs Wx A hA hB hpre
      have eg := ((hA 21).trans (show _ = vs 8 by kernel_rfl)).trans (hpre.1 rfl)
      refine ⟨true, eg, fun _ K hK => ?_, fun h => absurd rfl h⟩
      have e0 := (hA 0).trans (show _ = Value.pointer (some ⟨q, 0, none⟩) by kernel_rfl)
      clear hA hpre
      go_simp
      exact hK _ _ hB rfl (fun _ _ h => h)
     ·intro vs Wx A hA hB hpre
      have eg := ((hA 21).trans (show _ = vs 8 by kernel_rfl)).trans (hpre.1 rfl)
      refine ⟨true, eg, fun _ K hK => ?_, fun h => absurd rfl h⟩
      have e5 := (hA 5).trans (show _ = Value.pointer (some ⟨s5, 0, none⟩) by kernel_rfl)
      clear hA hpre
      go_simp
      exact hK _ _ hB rfl (fun _ _ h => h)
     ·intro vs Wx A hA hB hpre
      have eg := ((hA 21).trans (show _ = vs 8 by kernel_rfl)).trans (hpre.2.1 rfl)
      refine ⟨true, eg, fun _ K hK => ?_, fun h => absurd rfl h⟩
      have e25 := ((hA 25).trans (show _ = vs 12 by kernel_rfl)).trans (hpre.1 rfl)
      obtain ⟨⟨x0, x1, x2, x3, x4, x5, x6, x7⟩, ⟨y0, y1, -, -⟩, ⟨c1, c2, c3, c4, d1, d2, d3, d4⟩⟩ := HXK.out Wx hB
      clear hA hpre
      go_simp
      exact hK _ _ hB rfl (fun _ _ h => h)
     ·intro vs Wx A hA hB hpre
      have eg := ((hA 21).trans (show _ = vs 8 by kernel_rfl)).trans (hpre.2.1 rfl)
      refine ⟨true, eg, fun _ K hK => ?_, fun h => absurd rfl h⟩
      have e24 := ((hA 24).trans (show _ = vs 11 by kernel_rfl)).trans (hpre.1 rfl)
      clear hA hpre
      go_simp
      exact hK _ _ hB rfl (fun _ _ h => h)
     ·intro vs Wx A hA hB hpre
      have eg := ((hA 21).trans (show _ = vs 8 by kernel_rfl)).trans (hpre.2.1 rfl)
      refine ⟨true, eg, fun _ K hK => ?_, fun h => absurd rfl h⟩
      have e27 := ((hA 27).trans (show _ = vs 14 by kernel_rfl)).trans (hpre.1 rfl)
      clear hA hpre
      go_simp
      exact hK _ _ hB rfl (fun _ _ h => h)
     ·intro vs Wx A hA hB hpre
      have eg := ((hA 21).trans (show _ = vs 8 by kernel_rfl)).trans (hpre.2.2.1 rfl)
      refine ⟨true, eg, fun _ K hK => ?_, fun h => absurd rfl h⟩
      have e28 := ((hA 28).trans (show _ = vs 15 by kernel_rfl)).trans (hpre.1 rfl)
      have e26 := ((hA 26).trans (show _ = vs 13 by kernel_rfl)).trans (hpre.2.1 rfl)
      clear hA hpre
      go_simp
      exact hK _ _ hB rfl (fun _ _ h => h)
     ·intro vs Wx A hA hB hpre
      have eg := ((hA 21).trans (show _ = vs 8 by kernel_rfl)).trans (hpre.2.1 rfl)
      refine ⟨true, eg, fun _ K hK => ?_, fun h => absurd rfl h⟩
      have e29 := ((hA 29).trans (show _ = vs 16 by kernel_rfl)).trans (hpre.1 rfl)
      obtain ⟨⟨x0, x1, x2, x3, x4, x5, x6, x7⟩, ⟨y0, y1, -, -⟩, ⟨c1, c2, c3, c4, d1, d2, d3, d4⟩⟩ := HXK.out Wx hB
      clear hA hpre
      go_simp
      exact hK _ _ hB rfl (fun _ _ h => h)
     ·intro vs Wx A hA hB hpre
      have eg := ((hA 21).trans (show _ = vs 8 by kernel_rfl)).trans (hpre.2.2.1 rfl)
      refine ⟨true, eg, fun _ K hK => ?_, fun h => absurd rfl h⟩
      have e23 := ((hA 23).trans (show _ = vs 10 by kernel_rfl)).trans (hpre.1 rfl)
      have e30 := ((hA 30).trans (show _ = vs 17 by kernel_rfl)).trans (hpre.2.1 rfl)
      clear hA hpre
      go_simp
      exact hK _ _ hB rfl (fun _ _ h => h)
     ·intro vs Wx A hA hB hpre K hK
      have e21 := ((hA 21).trans (show _ = vs 8 by kernel_rfl)).trans (hpre.1 rfl)
      have e31 := ((hA 31).trans (show _ = vs 18 by kernel_rfl)).trans (hpre.2.1 rfl)
      clear hA hpre
      go_simp
      exact hK _ _ hB rfl (fun _ _ h => h)
     ·intro vs Wx hB hF
      have h32 : vs 19 = .bool false := hF 19 (by decide)
      have HBW := Lib.hid hB
      clear hF hB
      simp only [Ri.puts]
      go_simp
      go_wp2_with fail
      go_meet
      exact ⟨by first | rfl | exact h32, HBW.out⟩
    case rest =>
     obtain ⟨rfl, HBx⟩ := hcut
     have HXx := Lib.hid (keepB HX3.out HBx.out)
     have HQx := Lib.hid (HQ3.out.far HBx.out)
     have HBn := Lib.hid (below_lo HB3.out HQL.out HBx.out)
     clear HXK HD
     go_wp2
     go_roundg (r.sets.length - (j + 1))
     case rel => exact ⟨j + 1, A1, A2, A3, A4, V1, V2, V3, V4, by omega, rfl, by go_num, HBn.out, HXx.out, HQx.out, by show _ = _; rw [N1.out]; unfold stS; rw [if_neg (by first | (simp; done) | (simp; omega))], by show _ = _; rw [N2.out]; unfold stS; rw [if_neg (by first | (simp; done) | (simp; omega))], by show _ = _; rw [N3.out]; unfold stS; rw [if_neg (by first | (simp; done) | (simp; omega))], by show _ = _; rw [N4.out]; unfold stS; rw [if_neg (by first | (simp; done) | (simp; omega))]⟩
     case measure => omega
   go_cut [32] (fun s wx => s = .bool true ∧ Hid (Below W3.heap.size W3 wx))
   case first =>
    refine Ri.wp_region_lasting_g (by kernel_rfl) (by kernel_rfl) (by kernel_rfl) (fun Wx => Below W3.heap.size W3 Wx) (fun kz vs wz => (fun kx vx wx => match kx with | 0 => vx = .pointer (some ⟨s5, 0, none⟩) | 1 => vx = .int .i64 4 | 2 => vx = .bool true | 3 => vx = .bool true | 4 => vx = .pointer (some ⟨s5, 0, none⟩) | 5 => vx = .int .i64 4 | 6 => vx = .bool true | 7 => vx = .bool true | 8 => vx = .bool true | 9 => vx = .pointer (some ⟨p3, 0, none⟩) | 10 => vx = .int .i64 r.rank | 11 => vx = .pointer (some ⟨q, 0, none⟩) | 12 => vx = .pointer (some ⟨s5, 0, none⟩) | 13 => vx = .int .i64 4 | 14 => vx = .pointer (some ⟨q, 0, none⟩) | 15 => vx = .pointer (some ⟨q, 0, none⟩) | 16 => vx = .pointer (some ⟨q, 4, none⟩) | 17 => vx = .int .i64 A4 | 18 => vx = .bool true | 19 => vx = .bool true | _ => True : Nat → Value → World → Prop) kz (vs kz) wz) (fun kz => [kz]) (by kernel_rfl) (fun jz vs iz vz wz hiz hz => Ri.loc_own (F := (fun kx vx wx => match kx with | 0 => vx = .pointer (some ⟨s5, 0, none⟩) | 1 => vx = .int .i64 4 | 2 => vx = .bool true | 3 => vx = .bool true | 4 => vx = .pointer (some ⟨s5, 0, none⟩) | 5 => vx = .int .i64 4 | 6 => vx = .bool true | 7 => vx = .bool true | 8 => vx = .bool true | 9 => vx = .pointer (some ⟨p3, 0, none⟩) | 10 => vx = .int .i64 r.rank | 11 => vx = .pointer (some ⟨q, 0, none⟩) | 12 => vx = .pointer (some ⟨s5, 0, none⟩) | 13 => vx = .int .i64 4 | 14 => vx = .pointer (some ⟨q, 0, none⟩) | 15 => vx = .pointer (some ⟨q, 0, none⟩) | 16 => vx = .pointer (some ⟨q, 4, none⟩) | 17 => vx = .int .i64 A4 | 18 => vx = .bool true | 19 => vx = .bool true | _ => True : Nat → Value → World → Prop)) jz vs iz vz wz hiz hz) HD.out ⟨Or.inl ⟨rfl, ?_⟩, Or.inl ⟨rfl, ?_⟩, Or.inl ⟨rfl, ?_⟩, Or.inl ⟨rfl, ?_⟩, Or.inr ⟨3, true, 16, rfl, rfl, ?_⟩, Or.inr ⟨3, true, 16, rfl, rfl, ?_⟩, Or.inr ⟨3, true, 16, rfl, rfl, ?_⟩, Or.inl ⟨rfl, ?_⟩, Or.inl ⟨rfl, ?_⟩, Or.inr ⟨8, true, 21, rfl, rfl, ?_⟩, Or.inr ⟨8, true, 21, rfl, rfl, ?_⟩, Or.inr ⟨8, true, 21, rfl, rfl, ?_⟩, Or.inr ⟨8, true, 21, rfl, rfl, ?_⟩, Or.inr ⟨8, true, 21, rfl, rfl, ?_⟩, Or.inr ⟨8, true, 21, rfl, rfl, ?_⟩, Or.inr ⟨8, true, 21, rfl, rfl, ?_⟩, Or.inr ⟨8, true, 21, rfl, rfl, ?_⟩, Or.inr ⟨8, true, 21, rfl, rfl, ?_⟩, Or.inr ⟨8, true, 21, rfl, rfl, ?_⟩, Or.inl ⟨rfl, ?_⟩, trivial⟩ ?_
    ·intro vs Wx A hA hB hpre K hK
     have e5 := (hA 5).trans (show _ = Value.pointer (some ⟨s5, 0, none⟩) by kernel_rfl)
     clear hA hpre
     go_simp
     exact hK _ _ hB rfl (fun _ _ h => h)
    ·intro vs Wx A hA hB hpre K hK
     have e13 := ((hA 13).trans (show _ = vs 0 by kernel_rfl)).trans (hpre.1 rfl)
     obtain ⟨⟨x0, x1, x2, x3, x4, x5, x6, x7⟩, ⟨y0, y1, -, -⟩, ⟨c1, c2, c3, c4, d1, d2, d3, d4⟩⟩ := HXK.out Wx hB
     clear hA hpre
     go_simp
     exact hK _ _ hB rfl (fun _ _ h => h)
    ·intro vs Wx A hA hB hpre K hK
     have e14 := ((hA 14).trans (show _ = vs 1 by kernel_rfl)).trans (hpre.1 rfl)
     clear hA hpre
     go_simp
     exact hK _ _ hB rfl (fun _ _ h => h)
    ·intro vs Wx A hA hB hpre K hK
     have e15 := ((hA 15).trans (show _ = vs 2 by kernel_rfl)).trans (hpre.1 rfl)
     clear hA hpre
     go_simp
     exact hK _ _ hB rfl (fun _ _ h => h)
    ·intro vs Wx A hA hB hpre
     have eg := ((hA 16).trans (show _ = vs 3 by kernel_rfl)).trans (hpre.1 rfl)
     refine ⟨true, eg, fun _ K hK => ?_, fun h => absurd rfl h⟩
     have e5 := (hA 5).trans (show _ = Value.pointer (some ⟨s5, 0, none⟩) by kernel_rfl)
     clear hA hpre
     go_simp
     exact hK _ _ hB rfl (fun _ _ h => h)
    ·intro vs Wx A hA hB hpre
     have eg := ((hA 16).trans (show _ = vs 3 by kernel_rfl)).trans (hpre.2.1 rfl)
     refine ⟨true, eg, fun _ K hK => ?_, fun h => absurd rfl h⟩
     have e17 := ((hA 17).trans (show _ = vs 4 by kernel_rfl)).trans (hpre.1 rfl)
     obtain ⟨⟨x0, x1, x2, x3, x4, x5, x6, x7⟩, ⟨y0, y1, -, -⟩, ⟨c1, c2, c3, c4, d1, d2, d3, d4⟩⟩ := HXK.out Wx hB
     clear hA hpre
     go_simp
     exact hK _ _ hB rfl (fun _ _ h => h)
    ·intro vs Wx A hA hB hpre
     have eg := ((hA 16).trans (show _ = vs 3 by kernel_rfl)).trans (hpre.2.1 rfl)
     refine ⟨true, eg, fun _ K hK => ?_, fun h => absurd rfl h⟩
     have e18 := ((hA 18).trans (show _ = vs 5 by kernel_rfl)).trans (hpre.1 rfl)
     clear hA hpre
     go_simp
     exact hK _ _ hB rfl (fun _ _ h => h)
    ·intro vs Wx A hA hB hpre K hK
     have e16 := ((hA 16).trans (show _ = vs 3 by kernel_rfl)).trans (hpre.1 rfl)
     have e19 := ((hA 19).trans (show _ = vs 6 by kernel_rfl)).trans (hpre.2.1 rfl)
     clear hA hpre
     go_simp
     exact hK _ _ hB rfl (fun _ _ h => h)
    ·intro vs Wx A hA hB hpre K hK
     have e20 := ((hA 20).trans (show _ = vs 7 by kernel_rfl)).trans (hpre.1 rfl)
     clear hA hpre
     go_simp
     exact hK _ _ hB rfl (fun _ _ h => h)
    ·intro vs Wx A hA hB hpre
     have eg := ((hA 21).trans (show _ = vs 8 by kernel_rfl)).trans (hpre.1 rfl)
     refine ⟨true, eg, fun _ K hK => ?_, fun h => absurd rfl h⟩
     have e3 := (hA 3).trans (show _ = Value.pointer (some ⟨p3, 0, none⟩) by kernel_rfl)
     clear hA hpre
     go_simp
     exact hK _ _ hB rfl (fun _ _ h => h)
    ·intro vs Wx A hA hB hpre
     have eg := ((hA 21).trans (show _ = vs 8 by kernel_rfl)).trans (hpre.2.1 rfl)
     refine ⟨true, eg, fun _ K hK => ?_, fun h => absurd rfl h⟩
     have e22 := ((hA 22).trans (show _ = vs 9 by kernel_rfl)).trans (hpre.1 rfl)
     obtain ⟨⟨x0, x1, x2, x3, x4, x5, x6, x7⟩, ⟨y0, y1, -, -⟩, ⟨c1, c2, c3, c4, d1, d2, d3, d4⟩⟩ := HXK.out Wx hB
     clear hA hpre
     go_simp
     exact hK _ _ hB rfl (fun _ _ h => h)
    ·intro vs Wx A hA hB hpre
     have eg := ((hA 21).trans (show _ = vs 8 by kernel_rfl)).trans (hpre.1 rfl)
     refine ⟨true, eg, fun _ K hK => ?_, fun h => absurd rfl h⟩
     have e0 := (hA 0).trans (show _ = Value.pointer (some ⟨q, 0, none⟩) by kernel_rfl)
     clear hA hpre
     go_simp
     exact hK _ _ hB rfl (fun _ _ h => h)
    ·intro vs Wx A hA hB hpre
     have eg := ((hA 21).trans (show _ = vs 8 by kernel_rfl)).trans (hpre.1 rfl)
     refine ⟨true, eg, fun _ K hK => ?_, fun h => absurd rfl h⟩
     have e5 := (hA 5).trans (show _ = Value.pointer (some ⟨s5, 0, none⟩) by kernel_rfl)
     clear hA hpre
     go_simp
     exact hK _ _ hB rfl (fun _ _ h => h)
    ·intro vs Wx A hA hB hpre
     have eg := ((hA 21).trans (show _ = vs 8 by kernel_rfl)).trans (hpre.2.1 rfl)
     refine ⟨true, eg, fun _ K hK => ?_, fun h => absurd rfl h⟩
     have e25 := ((hA 25).trans (show _ = vs 12 by kernel_rfl)).trans (hpre.1 rfl)
     obtain ⟨⟨x0, x1, x2, x3, x4, x5, x6, x7⟩, ⟨y0, y1, -, -⟩, ⟨c1, c2, c3, c4, d1, d2, d3, d4⟩⟩ := HXK.out Wx hB
     clear hA hpre
     go_simp
     exact hK _ _ hB rfl (fun _ _ h => h)
    ·intro vs Wx A hA hB hpre
     have eg := ((hA 21).trans (show _ = vs 8 by kernel_rfl)).trans (hpre.2.1 rfl)
     refine ⟨true, eg, fun _ K hK => ?_, fun h => absurd rfl h⟩
     have e24 := ((hA 24).trans (show _ = vs 11 by kernel_rfl)).trans (hpre.1 rfl)
     clear hA hpre
     go_simp
     exact hK _ _ hB rfl (fun _ _ h => h)
    ·intro vs Wx A hA hB hpre
     have eg := ((hA 21).trans (show _ = vs 8 by kernel_rfl)).trans (hpre.2.1 rfl)
     refine ⟨true, eg, fun _ K hK => ?_, fun h => absurd rfl h⟩
     have e27 := ((hA 27).trans (show _ = vs 14 by kernel_rfl)).trans (hpre.1 rfl)
     clear hA hpre
     go_simp
     exact hK _ _ hB rfl (fun _ _ h => h)
    ·intro vs Wx A hA hB hpre
     have eg := ((hA 21).trans (show _ = vs 8 by kernel_rfl)).trans (hpre.2.2.1 rfl)
     refine ⟨true, eg, fun _ K hK => ?_, fun h => absurd rfl h⟩
     have e28 := ((hA 28).trans (show _ = vs 15 by kernel_rfl)).trans (hpre.1 rfl)
     have e26 := ((hA 26).trans (show _ = vs 13 by kernel_rfl)).trans (hpre.2.1 rfl)
     clear hA hpre
     go_simp
     exact hK _ _ hB rfl (fun _ _ h => h)
    ·intro vs Wx A hA hB hpre
     have eg := ((hA 21).trans (show _ = vs 8 by kernel_rfl)).trans (hpre.2.1 rfl)
     refine ⟨true, eg, fun _ K hK => ?_, fun h => absurd rfl h⟩
     have e29 := ((hA 29).trans (show _ = vs 16 by kernel_rfl)).trans (hpre.1 rfl)
     obtain ⟨⟨x0, x1, x2, x3, x4, x5, x6, x7⟩, ⟨y0, y1, -, -⟩, ⟨c1, c2, c3, c4, d1, d2, d3, d4⟩⟩ := HXK.out Wx hB
     clear hA hpre
     go_simp
     exact hK _ _ hB rfl (fun _ _ h => h)
    ·intro vs Wx A hA hB hpre
     have eg := ((hA 21).trans (show _ = vs 8 by kernel_rfl)).trans (hpre.2.2.1 rfl)
     refine ⟨true, eg, fun _ K hK => ?_, fun h => absurd rfl h⟩
     have e23 := ((hA 23).trans (show _ = vs 10 by kernel_rfl)).trans (hpre.1 rfl)
     have e30 := ((hA 30).trans (show _ = vs 17 by kernel_rfl)).trans (hpre.2.1 rfl)
     clear hA hpre
     go_simp
     exact hK _ _ hB rfl (fun _ _ h => h)
    ·intro vs Wx A hA hB hpre K hK
     have e21 := ((hA 21).trans (show _ = vs 8 by kernel_rfl)).trans (hpre.1 rfl)
     have e31 := ((hA 31).trans (show _ = vs 18 by kernel_rfl)).trans (hpre.2.1 rfl)
     clear hA hpre
     go_simp
     exact hK _ _ hB rfl (fun _ _ h => h)
    ·intro vs Wx hB hF
     have h32 : vs 19 = .bool true := hF 19 (by decide)
     have HBW := Lib.hid hB
     clear hF hB
     simp only [Ri.puts]
     go_simp
     go_wp2_with fail
     go_meet
     exact ⟨by first | rfl | exact h32, HBW.out⟩
   case rest =>
    obtain ⟨rfl, HBx⟩ := hcut
    have HXx := Lib.hid (keepB HX3.out HBx.out)
    have HZx := Lib.hid (keepB HZ.out HBx.out)
    have HQx := Lib.hid (HQ3.out.far HBx.out)
    have HBn := Lib.hid (below_lo HB3.out HQL.out HBx.out)
    clear HXK HD HX3 HZ HQ3 HBx HB3
    go_upto_region 5 with fail
    have HD : Hid ((fun Wx => Below q wc Wx ∧ Wx.heap[p3]? = some (.cells #[.int .i64 r.rank, .int .i64 r.cif.kind, .string (mk r.cif.lo), .string (mk r.cif.hi), .int .i64 r.cif.n, k, u, .slice (some ⟨b, o, none⟩) r.sets.length sc] 85 (0, 0)) ∧ Wx.heap[s5]? = some (.cells #[.int .i64 4, .int .i64 sn] 88 (0, 0)) ∧ ∃ A V, ChAt Wx q A1 A2 A3 A V1 V2 V3 V) wc.drew) := ⟨Below.drew (Below.refl q wc), HXx.out, HZx.out, _, _, HQx.out⟩
    refine Ri.wp_region_lastingB (by kernel_rfl) (by kernel_rfl) (by kernel_rfl) (fun Wx => Below q wc Wx ∧ Wx.heap[p3]? = some (.cells #[.int .i64 r.rank, .int .i64 r.cif.kind, .string (mk r.cif.lo), .string (mk r.cif.hi), .int .i64 r.cif.n, k, u, .slice (some ⟨b, o, none⟩) r.sets.length sc] 85 (0, 0)) ∧ Wx.heap[s5]? = some (.cells #[.int .i64 4, .int .i64 sn] 88 (0, 0)) ∧ ∃ A V, ChAt Wx q A1 A2 A3 A V1 V2 V3 V) (fun kz vs wz => (fun kx vx wx => match kx with | 0 => vx = .pointer (some ⟨q, 0, none⟩) | 1 => vx = .pointer (some ⟨s5, 0, none⟩) | 2 => vx = .int .i64 4 | 3 => vx = .pointer (some ⟨q, 0, none⟩) | 4 => vx = .pointer (some ⟨s5, 0, none⟩) | 5 => vx = .int .i64 4 | 6 => vx = .pointer (some ⟨p3, 0, none⟩) | 7 => vx = .int .i64 r.rank | 8 => vx = .pointer (some ⟨s5, 1, none⟩) | 9 => vx = .int .i64 sn | 10 => vx = .pointer (some ⟨q, 0, none⟩) | 11 => vx = .pointer (some ⟨q, 0, none⟩) | 12 => vx = .pointer (some ⟨q, 4, none⟩) | 13 => wx.cell? ⟨q, 4, none⟩ = some (.int .i64 r.rank) | 14 => vx = .pointer (some ⟨q, 0, none⟩) | 15 => vx = .pointer (some ⟨q, 5, none⟩) | 16 => vx = .pointer (some ⟨q, 9, none⟩) | 17 => wx.cell? ⟨q, 9, none⟩ = some (.int .i64 sn) | _ => True : Nat → Value → World → Prop) kz (vs kz) wz) (fun kz => [kz]) (by kernel_rfl) (fun jz vs iz vz wz hiz hz => Ri.loc_own (F := (fun kx vx wx => match kx with | 0 => vx = .pointer (some ⟨q, 0, none⟩) | 1 => vx = .pointer (some ⟨s5, 0, none⟩) | 2 => vx = .int .i64 4 | 3 => vx = .pointer (some ⟨q, 0, none⟩) | 4 => vx = .pointer (some ⟨s5, 0, none⟩) | 5 => vx = .int .i64 4 | 6 => vx = .pointer (some ⟨p3, 0, none⟩) | 7 => vx = .int .i64 r.rank | 8 => vx = .pointer (some ⟨s5, 1, none⟩) | 9 => vx = .int .i64 sn | 10 => vx = .pointer (some ⟨q, 0, none⟩) | 11 => vx = .pointer (some ⟨q, 0, none⟩) | 12 => vx = .pointer (some ⟨q, 4, none⟩) | 13 => wx.cell? ⟨q, 4, none⟩ = some (.int .i64 r.rank) | 14 => vx = .pointer (some ⟨q, 0, none⟩) | 15 => vx = .pointer (some ⟨q, 5, none⟩) | 16 => vx = .pointer (some ⟨q, 9, none⟩) | 17 => wx.cell? ⟨q, 9, none⟩ = some (.int .i64 sn) | _ => True : Nat → Value → World → Prop)) jz vs iz vz wz hiz hz) HD.out ⟨⟨rfl, ?_⟩, ⟨rfl, ?_⟩, ⟨rfl, ?_⟩, ⟨rfl, ?_⟩, ⟨rfl, ?_⟩, ⟨rfl, ?_⟩, ⟨rfl, ?_⟩, ⟨rfl, ?_⟩, ⟨rfl, ?_⟩, ⟨rfl, ?_⟩, ⟨rfl, ?_⟩, ⟨rfl, ?_⟩, ⟨rfl, ?_⟩, ⟨rfl, ?_⟩, ⟨rfl, ?_⟩, ⟨rfl, ?_⟩, ⟨rfl, ?_⟩, ⟨rfl, ?_⟩, trivial⟩ ?_
    ·intro vs Wx A hA hB hpre K hK
     have e0 := (hA 0).trans (show _ = Value.pointer (some ⟨q, 0, none⟩) by kernel_rfl)
     clear hA hpre
     go_simp
     exact hK _ _ hB rfl (fun _ _ h => h)
    ·intro vs Wx A hA hB hpre K hK
     have e5 := (hA 5).trans (show _ = Value.pointer (some ⟨s5, 0, none⟩) by kernel_rfl)
     clear hA hpre
     go_simp
     exact hK _ _ hB rfl (fun _ _ h => h)
    ·intro vs Wx A hA hB hpre K hK
     have e34 := ((hA 34).trans (show _ = vs 1 by kernel_rfl)).trans (hpre.1 rfl)
     obtain ⟨hB1, hB2, hB3, A, V, hB4⟩ := id hB
     obtain ⟨x0, x1, x2, x3, x4, x5, x6, x7⟩ := beight hB2
     obtain ⟨y0, y1, -, -⟩ := box_two hB3
     clear hA hpre
     go_simp
     exact hK _ _ hB rfl (fun _ _ h => h)
    ·intro vs Wx A hA hB hpre K hK
     have e0 := (hA 0).trans (show _ = Value.pointer (some ⟨q, 0, none⟩) by kernel_rfl)
     clear hA hpre
     go_simp
     exact hK _ _ hB rfl (fun _ _ h => h)
    ·intro vs Wx A hA hB hpre K hK
     have e5 := (hA 5).trans (show _ = Value.pointer (some ⟨s5, 0, none⟩) by kernel_rfl)
     clear hA hpre
     go_simp
     exact hK _ _ hB rfl (fun _ _ h => h)
    ·intro vs Wx A hA hB hpre K hK
     have e37 := ((hA 37).trans (show _ = vs 4 by kernel_rfl)).trans (hpre.1 rfl)
     obtain ⟨hB1, hB2, hB3, A, V, hB4⟩ := id hB
     obtain ⟨x0, x1, x2, x3, x4, x5, x6, x7⟩ := beight hB2
     obtain ⟨y0, y1, -, -⟩ := box_two hB3
     clear hA hpre
     go_simp
     exact hK _ _ hB rfl (fun _ _ h => h)
    ·intro vs Wx A hA hB hpre K hK
     have e3 := (hA 3).trans (show _ = Value.pointer (some ⟨p3, 0, none⟩) by kernel_rfl)
     clear hA hpre
     go_simp
     exact hK _ _ hB rfl (fun _ _ h => h)
    ·intro vs Wx A hA hB hpre K hK
     have e39 := ((hA 39).trans (show _ = vs 6 by kernel_rfl)).trans (hpre.1 rfl)
     obtain ⟨hB1, hB2, hB3, A, V, hB4⟩ := id hB
     obtain ⟨x0, x1, x2, x3, x4, x5, x6, x7⟩ := beight hB2
     obtain ⟨y0, y1, -, -⟩ := box_two hB3
     clear hA hpre
     go_simp
     exact hK _ _ hB rfl (fun _ _ h => h)
    ·intro vs Wx A hA hB hpre K hK
     have e5 := (hA 5).trans (show _ = Value.pointer (some ⟨s5, 0, none⟩) by kernel_rfl)
     clear hA hpre
     go_simp
     exact hK _ _ hB rfl (fun _ _ h => h)
    ·intro vs Wx A hA hB hpre K hK
     have e41 := ((hA 41).trans (show _ = vs 8 by kernel_rfl)).trans (hpre.1 rfl)
     obtain ⟨hB1, hB2, hB3, A, V, hB4⟩ := id hB
     obtain ⟨x0, x1, x2, x3, x4, x5, x6, x7⟩ := beight hB2
     obtain ⟨y0, y1, -, -⟩ := box_two hB3
     clear hA hpre
     go_simp
     exact hK _ _ hB rfl (fun _ _ h => h)
    ·intro vs Wx A hA hB hpre K hK
     have e33 := ((hA 33).trans (show _ = vs 0 by kernel_rfl)).trans (hpre.1 rfl)
     clear hA hpre
     go_simp
     exact hK _ _ hB rfl (fun _ _ h => h)
    ·intro vs Wx A hA hB hpre K hK
     have e43 := ((hA 43).trans (show _ = vs 10 by kernel_rfl)).trans (hpre.1 rfl)
     clear hA hpre
     go_simp
     exact hK _ _ hB rfl (fun _ _ h => h)
    ·intro vs Wx A hA hB hpre K hK
     have e44 := ((hA 44).trans (show _ = vs 11 by kernel_rfl)).trans (hpre.1 rfl)
     have e35 := ((hA 35).trans (show _ = vs 2 by kernel_rfl)).trans (hpre.2.1 rfl)
     clear hA hpre
     go_simp
     exact hK _ _ hB rfl (fun _ _ h => h)
    ·intro vs Wx A hA hB hpre K hK
     have e45 := ((hA 45).trans (show _ = vs 12 by kernel_rfl)).trans (hpre.1 rfl)
     have e40 := ((hA 40).trans (show _ = vs 7 by kernel_rfl)).trans (hpre.2.1 rfl)
     obtain ⟨hB1, hB2, hB3, A, V, hB4⟩ := id hB
     obtain ⟨c1, c2, c3, c4, d1, d2, d3, d4⟩ := hB4.cells
     have fz := hB4.soft 4
     have HN := Lib.hid (ch_rank4 hB4 r.rank)
     have HC := Lib.hid (And.intro hB1 (And.intro hB2 (And.intro hB3 (And.intro d4 True.intro))))
     clear hB1 hB2 hB3 hB4
     clear hA hpre
     go_simp
     refine hK undef _ ⟨below_set HC.out.1 _ _, heap_far HC.out.2.1 HPQ.out, heap_far HC.out.2.2.1 HSQ.out, _, _, HN.out⟩ (HN.out.cells.2.2.2.1) (fun jz _ hz => ?_)
     match jz, hz with
     | 0, hz => exact hz
     | 1, hz => exact hz
     | 2, hz => exact hz
     | 3, hz => exact hz
     | 4, hz => exact hz
     | 5, hz => exact hz
     | 6, hz => exact hz
     | 7, hz => exact hz
     | 8, hz => exact hz
     | 9, hz => exact hz
     | 10, hz => exact hz
     | 11, hz => exact hz
     | 12, hz => exact hz
     | 14, hz => exact hz
     | 15, hz => exact hz
     | 16, hz => exact hz
     | 13, hz => exact HN.out.cells.2.2.2.1
     | 17, hz => exact (HN.out.cells.2.2.2.2.2.2.2).trans (HC.out.2.2.2.1.symm.trans hz)
     | n + 18, hz => exact hz
    ·intro vs Wx A hA hB hpre K hK
     have e36 := ((hA 36).trans (show _ = vs 3 by kernel_rfl)).trans (hpre.1 rfl)
     clear hA hpre
     go_simp
     exact hK _ _ hB rfl (fun _ _ h => h)
    ·intro vs Wx A hA hB hpre K hK
     have e46 := ((hA 46).trans (show _ = vs 14 by kernel_rfl)).trans (hpre.1 rfl)
     clear hA hpre
     go_simp
     exact hK _ _ hB rfl (fun _ _ h => h)
    ·intro vs Wx A hA hB hpre K hK
     have e47 := ((hA 47).trans (show _ = vs 15 by kernel_rfl)).trans (hpre.1 rfl)
     have e38 := ((hA 38).trans (show _ = vs 5 by kernel_rfl)).trans (hpre.2.1 rfl)
     clear hA hpre
     go_simp
     exact hK _ _ hB rfl (fun _ _ h => h)
    ·intro vs Wx A hA hB hpre K hK
     have e48 := ((hA 48).trans (show _ = vs 16 by kernel_rfl)).trans (hpre.1 rfl)
     have e42 := ((hA 42).trans (show _ = vs 9 by kernel_rfl)).trans (hpre.2.1 rfl)
     obtain ⟨hB1, hB2, hB3, A, V, hB4⟩ := id hB
     obtain ⟨c1, c2, c3, c4, d1, d2, d3, d4⟩ := hB4.cells
     have fz := hB4.soft 9
     have HN := Lib.hid (ch_val4 hB4 sn)
     have HC := Lib.hid (And.intro hB1 (And.intro hB2 (And.intro hB3 (And.intro c4 True.intro))))
     clear hB1 hB2 hB3 hB4
     clear hA hpre
     go_simp
     refine hK undef _ ⟨below_set HC.out.1 _ _, heap_far HC.out.2.1 HPQ.out, heap_far HC.out.2.2.1 HSQ.out, _, _, HN.out⟩ (HN.out.cells.2.2.2.2.2.2.2) (fun jz _ hz => ?_)
     match jz, hz with
     | 0, hz => exact hz
     | 1, hz => exact hz
     | 2, hz => exact hz
     | 3, hz => exact hz
     | 4, hz => exact hz
     | 5, hz => exact hz
     | 6, hz => exact hz
     | 7, hz => exact hz
     | 8, hz => exact hz
     | 9, hz => exact hz
     | 10, hz => exact hz
     | 11, hz => exact hz
     | 12, hz => exact hz
     | 14, hz => exact hz
     | 15, hz => exact hz
     | 16, hz => exact hz
     | 17, hz => exact HN.out.cells.2.2.2.2.2.2.2
     | 13, hz => exact (HN.out.cells.2.2.2.1).trans (HC.out.2.2.2.1.symm.trans hz)
     | n + 18, hz => exact hz
    ·intro vs Wx hB hF
     have h13 : Wx.cell? ⟨q, 4, none⟩ = some (.int .i64 r.rank) := hF 13 (by decide)
     have h17 : Wx.cell? ⟨q, 9, none⟩ = some (.int .i64 sn) := hF 17 (by decide)
     obtain ⟨hB1, hB2, hB3, A, V, hB4⟩ := hB
     obtain ⟨c1, c2, c3, c4, d1, d2, d3, d4⟩ := hB4.cells
     obtain rfl : A = r.rank := by rw [h13] at c4; simpa using c4.symm
     have eV : sn = V := by rw [h17] at d4; simpa using d4
     subst eV
     have HBm := Lib.hid (HBn.out.trans hB1)
     have HXy := Lib.hid hB2
     have HQy := Lib.hid hB4
     clear hF hB1 hB2 hB3 hB4 c1 c2 c3 c4 d1 d2 d3 d4 h13 h17 HXx HZx HQx HBn HD
     simp only [Ri.puts]
     go_simp
     go_wp2
     go_roundg (r.sets.length - (j + 1))
     case rel => exact ⟨j + 1, A1, A2, A3, r.rank, V1, V2, V3, sn, by omega, rfl, by go_num, HBm.out, HXy.out, HQy.out, by show _ = _; rw [N1.out]; unfold stS; rw [if_neg (by first | (simp; done) | (simp; omega))], by show _ = _; rw [N2.out]; unfold stS; rw [if_neg (by first | (simp; done) | (simp; omega))], by show _ = _; rw [N3.out]; unfold stS; rw [if_neg (by first | (simp; done) | (simp; omega))], by show _ = _; rw [N4.out]; unfold stS; rw [if_pos ⟨rfl, hgt⟩]⟩
     case measure => omega
  omega
end Go.Proofs.YtfoooldkmokjpaaGreatDoor.Ul
end
