/-
  Texts put together (merge.py): YRoom, YRRoom.
-/
import Derived.Test.YtfoooldkmokjpaaGreatDoorMj13
set_option linter.unusedSimpArgs false
set_option linter.unusedVariables false
section
set_option maxRecDepth 100000
namespace Go.Proofs.YtfoooldkmokjpaaGreatDoor.Ac
open Go.RowKit
theorem six {w : World} {q : Nat} {a0 a1 a2 a3 a4 a5 : Value} {T : TypeId} (h : w.heap[q]? = some (.cells #[a0, a1, a2, a3, a4, a5] T (0, 0))) : w.cell? ⟨q, 0, none⟩ = some a0 ∧ w.cell? ⟨q, 1, none⟩ = some a1 ∧ w.cell? ⟨q, 2, none⟩ = some a2 ∧ w.cell? ⟨q, 3, none⟩ = some a3 ∧ w.cell? ⟨q, 4, none⟩ = some a4 ∧ w.cell? ⟨q, 5, none⟩ = some a5 := by
 refine ⟨?_, ?_, ?_, ?_, ?_, ?_⟩ <;> rw [cell_of_row w q _ _ T (0, 0) h] <;> rfl
def In (a : Int) : Prop := 0 ≤ a ∧ a ≤ 10000000000000
theorem sub_left (m h : Int) (h1 : In m) (h2 : In h) : Ce.subV m h = left m h := by
 obtain ⟨a, b⟩ := h1
 obtain ⟨c, d⟩ := h2
 have g1 : Ce.good m = true := (Ce.good_iff m).2 ⟨a, b⟩
 have g2 : Ce.good h = true := (Ce.good_iff h).2 ⟨c, d⟩
 unfold Ce.subV left
 by_cases hc : m ≤ h
 ·rw [if_pos hc]
  by_cases he : h ≤ m
  ·simp [g1, g2, he]; omega
  ·simp [g1, g2, he]
 ·rw [if_neg hc]
  have he : h ≤ m := by omega
  simp [g1, g2, he]
theorem left_fn (m h : Int) (w : World) (h1 : In m) (h2 : In h) : Calls Tryz.prog 133 #[.int .i64 m, .int .i64 h] w fun e w' => e = .returned (.int .i64 (left m h)) ∧ w' = w := by
 rw [← sub_left m h h1 h2]
 go_enter Tryz.func133, Tryz.ntmps133
 go_wp2_with (go_at_call 125; refine (Ce.sub_any _ _ _).mono ?_; rintro e w' ⟨rfl, rfl⟩)
 go_ret
 exact ⟨rfl, rfl⟩
theorem min_least (a b : Int) : min a b = Sh.least a b := by
 unfold Sh.least
 split <;> omega
theorem get_in_amt {l : List Row} (h : Ok l) (wh : Tx) (f : Bool) (y : Int) : In (getV l wh f y).de ∧ In (getV l wh f y).oo := by
 have := get_sound h wh f y
 unfold In
 omega
set_option maxHeartbeats 8000000 in
theorem room_any (md id fd io fo : Int) (ra : Option Addr) (rn rcp : Nat) (l : List Row) (m f : Tx) (y : Int) (v : Value) (w : World) (h : RwsAt All w v l) (hl : l.length ≤ 10000) (hO : Ok l) (i1 : In id) (i2 : In fd) (i3 : In io) (i4 : In fo) :
  Calls Tryz.prog 92 #[.agg #[.int .i64 md, .int .i64 id, .int .i64 fd, .int .i64 io, .int .i64 fo, .slice ra rn rcp], v, .string (mk m), .string (mk f), .int .i64 y] w fun e w' => e = .returned (.tuple #[.int .i64 (roomV md id fd (getV l m false y).de (getV l f true y).de), .int .i64 (roomV md io fo (getV l m false y).oo (getV l f true y).oo)]) ∧ Below w.heap.size w w' := by
 obtain ⟨fgd, fgo, hG⟩ := get_form l f true y
 obtain ⟨mgd, mgo, hM⟩ := get_form l m false y
 have a1 := get_in_amt hO f true y
 have a2 := get_in_amt hO m false y
 rw [hG] at a1
 rw [hM] at a2
 simp only at a1 a2
 have hb0 := below_alloc w (.cells #[.int .i64 md, .int .i64 id, .int .i64 fd, .int .i64 io, .int .i64 fo, .slice ra rn rcp] 24)
 have HX := Lib.hid (heap_alloc_new w (.cells #[.int .i64 md, .int .i64 id, .int .i64 fd, .int .i64 io, .int .i64 fo, .slice ra rn rcp] 24))
 have HB := Lib.hid hb0
 have HGet : Hid (∀ W, Below w.heap.size w W → Calls Tryz.prog 134 #[v, .string (mk f), .bool true, .int .i64 y] W fun e w' => e = .returned (.agg #[.string (mk f), .bool true, .int .i64 y, .int .i64 fgd, .int .i64 fgo]) ∧ Below W.heap.size W w') := fun W hW => by
  have hq := get_any l f true y v W ((rws_lo h).move (Below.moves_lo hW)).all (by omega) hO.up
  rw [hG] at hq
  exact hq
 have HGem : Hid (∀ W, Below w.heap.size w W → Calls Tryz.prog 134 #[v, .string (mk m), .bool false, .int .i64 y] W fun e w' => e = .returned (.agg #[.string (mk m), .bool false, .int .i64 y, .int .i64 mgd, .int .i64 mgo]) ∧ Below W.heap.size W w') := fun W hW => by
  have hq := get_any l m false y v W ((rws_lo h).move (Below.moves_lo hW)).all (by omega) hO.up
  rw [hM] at hq
  exact hq
 have HL1 := Lib.hid fun W => left_fn fd fgd W i2 a1.1
 have HL2 := Lib.hid fun W => left_fn fo fgo W i4 a1.2
 have HL3 := Lib.hid fun W => left_fn id mgd W i1 a2.1
 have HL4 := Lib.hid fun W => left_fn io mgo W i3 a2.2
 rw [hG, hM]
 simp only
 obtain ⟨fa, fk, rfl, hm1, hm2⟩ := h.form
 have HV1 : Hid (roomV md id fd mgd fgd = if md = 0 then Sh.least (left fd fgd) (left id mgd) else left fd fgd) := (rfl : roomV md id fd mgd fgd = _)
 have HV2 : Hid (roomV md io fo mgo fgo = if md = 0 then Sh.least (left fo fgo) (left io mgo) else left fo fgo) := (rfl : roomV md io fo mgo fgo = _)
 generalize roomV md id fd mgd fgd = V1 at *
 generalize roomV md io fo mgo fgo = V2 at *
 generalize left fd fgd = L1 at *
 generalize left fo fgo = L2 at *
 generalize left id mgd = L3 at *
 generalize left io mgo = L4 at *
 clear h hO hG hM hb0 a1 a2 i1 i2 i3 i4
 go_enter Tryz.func92, Tryz.ntmps92
 go_upto_region 1 with fail
 generalize w.alloc (.cells #[.int .i64 md, .int .i64 id, .int .i64 fd, .int .i64 io, .int .i64 fo, .slice ra rn rcp] 24) = W at *
 generalize hp : w.heap.size = p at *
 go_wp2_with fail
 go_at_call 134
 refine (HGet.out W HB.out).mono ?_
 rintro e w1 ⟨rfl, hb1⟩
 have HX1 := Lib.hid (keepB HX.out (below_trans hb1 (below_alloc w1 (.cells #[.string (mk f), .bool true, .int .i64 y, .int .i64 fgd, .int .i64 fgo] TA))))
 have HZ1 := Lib.hid (heap_alloc_new w1 (.cells #[.string (mk f), .bool true, .int .i64 y, .int .i64 fgd, .int .i64 fgo] TA))
 have HB1 := Lib.hid (below_tr hp HB.out (below_trans hb1 (below_alloc w1 (.cells #[.string (mk f), .bool true, .int .i64 y, .int .i64 fgd, .int .i64 fgo] TA))))
 clear hb1 HGet HX HB
 go_upto_region 3 with fail
 generalize w1.alloc (.cells #[.string (mk f), .bool true, .int .i64 y, .int .i64 fgd, .int .i64 fgo] TA) = W1 at *
 generalize w1.heap.size = q at *
 have HXK := Lib.hid fun W' (hW : Below W1.heap.size W1 W') => And.intro (six (keepB HX1.out hW)) (cells5 (keepB HZ1.out hW))
 have HD := Lib.hid (Below.drew (Below.refl W1.heap.size W1))
 refine Ri.wp_region_lastingB (by kernel_rfl) (by kernel_rfl) (by kernel_rfl) (fun Wx => Below W1.heap.size W1 Wx) (fun kz vs wz => (fun kx vx wx => match kx with | 0 => vx = .func (.func 133) #[] #[] | 1 => vx = .pointer (some ⟨p, 2, none⟩) | 2 => vx = .int .i64 fd | 3 => vx = .pointer (some ⟨q, 3, none⟩) | 4 => vx = .int .i64 fgd | 5 => vx = .int .i64 L1 | 6 => vx = .func (.func 133) #[] #[] | 7 => vx = .pointer (some ⟨p, 4, none⟩) | 8 => vx = .int .i64 fo | 9 => vx = .pointer (some ⟨q, 4, none⟩) | 10 => vx = .int .i64 fgo | 11 => vx = .int .i64 L2 | 12 => vx = .int .i64 L1 | 13 => vx = .int .i64 L2 | _ => True : Nat → Value → World → Prop) kz (vs kz) wz) (fun kz => [kz]) (by kernel_rfl) (fun jz vs iz vz wz hiz hz => Ri.loc_own (F := (fun kx vx wx => match kx with | 0 => vx = .func (.func 133) #[] #[] | 1 => vx = .pointer (some ⟨p, 2, none⟩) | 2 => vx = .int .i64 fd | 3 => vx = .pointer (some ⟨q, 3, none⟩) | 4 => vx = .int .i64 fgd | 5 => vx = .int .i64 L1 | 6 => vx = .func (.func 133) #[] #[] | 7 => vx = .pointer (some ⟨p, 4, none⟩) | 8 => vx = .int .i64 fo | 9 => vx = .pointer (some ⟨q, 4, none⟩) | 10 => vx = .int .i64 fgo | 11 => vx = .int .i64 L2 | 12 => vx = .int .i64 L1 | 13 => vx = .int .i64 L2 | _ => True : Nat → Value → World → Prop)) jz vs iz vz wz hiz hz) HD.out ⟨⟨rfl, ?_⟩, ⟨rfl, ?_⟩, ⟨rfl, ?_⟩, ⟨rfl, ?_⟩, ⟨rfl, ?_⟩, ⟨rfl, ?_⟩, ⟨rfl, ?_⟩, ⟨rfl, ?_⟩, ⟨rfl, ?_⟩, ⟨rfl, ?_⟩, ⟨rfl, ?_⟩, ⟨rfl, ?_⟩, ⟨rfl, ?_⟩, ⟨rfl, ?_⟩, trivial⟩ ?_
 ·intro vs Wx A hA hB hpre K hK
  have e12 := (hA 12).trans (show _ = Value.func (.func 133) #[] #[] by kernel_rfl)
  clear hA hpre
  go_simp
  exact hK _ _ hB rfl (fun _ _ h => h)
 ·intro vs Wx A hA hB hpre K hK
  have e5 := (hA 5).trans (show _ = Value.pointer (some ⟨p, 0, none⟩) by kernel_rfl)
  clear hA hpre
  go_simp
  exact hK _ _ hB rfl (fun _ _ h => h)
 ·intro vs Wx A hA hB hpre K hK
  have e22 := ((hA 22).trans (show _ = vs 1 by kernel_rfl)).trans (hpre.1 rfl)
  obtain ⟨⟨x0, x1, x2, x3, x4, x5⟩, ⟨y0, y1, y2, y3, y4⟩⟩ := HXK.out Wx hB
  clear hA hpre
  go_simp
  exact hK _ _ hB rfl (fun _ _ h => h)
 ·intro vs Wx A hA hB hpre K hK
  have e13 := (hA 13).trans (show _ = Value.pointer (some ⟨q, 0, none⟩) by kernel_rfl)
  clear hA hpre
  go_simp
  exact hK _ _ hB rfl (fun _ _ h => h)
 ·intro vs Wx A hA hB hpre K hK
  have e24 := ((hA 24).trans (show _ = vs 3 by kernel_rfl)).trans (hpre.1 rfl)
  obtain ⟨⟨x0, x1, x2, x3, x4, x5⟩, ⟨y0, y1, y2, y3, y4⟩⟩ := HXK.out Wx hB
  clear hA hpre
  go_simp
  exact hK _ _ hB rfl (fun _ _ h => h)
 ·intro vs Wx A hA hB hpre K hK
  have e21 := ((hA 21).trans (show _ = vs 0 by kernel_rfl)).trans (hpre.1 rfl)
  have e23 := ((hA 23).trans (show _ = vs 2 by kernel_rfl)).trans (hpre.2.1 rfl)
  have e25 := ((hA 25).trans (show _ = vs 4 by kernel_rfl)).trans (hpre.2.2.1 rfl)
  clear hA hpre
  go_simp
  go_at_call 133
  refine (HL1.out _).mono ?_
  rintro e w3 ⟨rfl, hw⟩
  rw [hw]
  exact hK _ _ hB rfl (fun _ _ h => h)
 ·intro vs Wx A hA hB hpre K hK
  have e12 := (hA 12).trans (show _ = Value.func (.func 133) #[] #[] by kernel_rfl)
  clear hA hpre
  go_simp
  exact hK _ _ hB rfl (fun _ _ h => h)
 ·intro vs Wx A hA hB hpre K hK
  have e5 := (hA 5).trans (show _ = Value.pointer (some ⟨p, 0, none⟩) by kernel_rfl)
  clear hA hpre
  go_simp
  exact hK _ _ hB rfl (fun _ _ h => h)
 ·intro vs Wx A hA hB hpre K hK
  have e28 := ((hA 28).trans (show _ = vs 7 by kernel_rfl)).trans (hpre.1 rfl)
  obtain ⟨⟨x0, x1, x2, x3, x4, x5⟩, ⟨y0, y1, y2, y3, y4⟩⟩ := HXK.out Wx hB
  clear hA hpre
  go_simp
  exact hK _ _ hB rfl (fun _ _ h => h)
 ·intro vs Wx A hA hB hpre K hK
  have e13 := (hA 13).trans (show _ = Value.pointer (some ⟨q, 0, none⟩) by kernel_rfl)
  clear hA hpre
  go_simp
  exact hK _ _ hB rfl (fun _ _ h => h)
 ·intro vs Wx A hA hB hpre K hK
  have e30 := ((hA 30).trans (show _ = vs 9 by kernel_rfl)).trans (hpre.1 rfl)
  obtain ⟨⟨x0, x1, x2, x3, x4, x5⟩, ⟨y0, y1, y2, y3, y4⟩⟩ := HXK.out Wx hB
  clear hA hpre
  go_simp
  exact hK _ _ hB rfl (fun _ _ h => h)
 ·intro vs Wx A hA hB hpre K hK
  have e27 := ((hA 27).trans (show _ = vs 6 by kernel_rfl)).trans (hpre.1 rfl)
  have e29 := ((hA 29).trans (show _ = vs 8 by kernel_rfl)).trans (hpre.2.1 rfl)
  have e31 := ((hA 31).trans (show _ = vs 10 by kernel_rfl)).trans (hpre.2.2.1 rfl)
  clear hA hpre
  go_simp
  go_at_call 133
  refine (HL2.out _).mono ?_
  rintro e w3 ⟨rfl, hw⟩
  rw [hw]
  exact hK _ _ hB rfl (fun _ _ h => h)
 ·intro vs Wx A hA hB hpre K hK
  have e26 := ((hA 26).trans (show _ = vs 5 by kernel_rfl)).trans (hpre.1 rfl)
  clear hA hpre
  go_simp
  exact hK _ _ hB rfl (fun _ _ h => h)
 ·intro vs Wx A hA hB hpre K hK
  have e32 := ((hA 32).trans (show _ = vs 11 by kernel_rfl)).trans (hpre.1 rfl)
  clear hA hpre
  go_simp
  exact hK _ _ hB rfl (fun _ _ h => h)
 ·intro vs Wx hB hF
  have hL1 : vs 12 = .int .i64 L1 := hF 12 (by decide)
  have hL2 : vs 13 = .int .i64 L2 := hF 13 (by decide)
  have HB2 := Lib.hid (below_tr hp HB1.out hB)
  have HX2 := Lib.hid (keepB HX1.out hB)
  clear hF hB HXK HD HX1 HZ1 HB1 HL1 HL2
  simp only [Ri.puts]
  rw [hL1, hL2]
  clear hL1 hL2
  obtain ⟨x0, x1, x2, x3, x4, x5⟩ := six HX2.out
  go_simp
  by_cases h0 : md = 0
  ·have n0 : (md != 0) = false := by simp [h0]
   have HV3 : Hid (V1 = Sh.least L1 L3) := HV1.out.trans (if_pos h0)
   have HV4 : Hid (V2 = Sh.least L2 L4) := HV2.out.trans (if_pos h0)
   clear HV1 HV2 h0
   go_wp2_with fail
   go_at_call 134
   refine (HGem.out Wx HB2.out).mono ?_
   rintro e w3 ⟨rfl, hb3⟩
   have HX3 := Lib.hid (keepB HX2.out (below_trans hb3 (below_alloc w3 (.cells #[.string (mk m), .bool false, .int .i64 y, .int .i64 mgd, .int .i64 mgo] TA))))
   have HZ3 := Lib.hid (heap_alloc_new w3 (.cells #[.string (mk m), .bool false, .int .i64 y, .int .i64 mgd, .int .i64 mgo] TA))
   have HB3 := Lib.hid (below_tr hp HB2.out (below_trans hb3 (below_alloc w3 (.cells #[.string (mk m), .bool false, .int .i64 y, .int .i64 mgd, .int .i64 mgo] TA))))
   clear hb3 HGem HX2 HB2 x0 x1 x2 x3 x4 x5
   go_upto_region 7 with fail
   generalize w3.alloc (.cells #[.string (mk m), .bool false, .int .i64 y, .int .i64 mgd, .int .i64 mgo] TA) = W3 at *
   generalize w3.heap.size = r at *
   have HXK := Lib.hid fun W' (hW : Below W3.heap.size W3 W') => And.intro (six (keepB HX3.out hW)) (cells5 (keepB HZ3.out hW))
   have HD := Lib.hid (Below.drew (Below.refl W3.heap.size W3))
   have hmn1 : min L1 L3 = Sh.least L1 L3 := min_least L1 L3
   have hmn2 : min L2 L4 = Sh.least L2 L4 := min_least L2 L4
   generalize Sh.least L1 L3 = M1 at *
   generalize Sh.least L2 L4 = M2 at *
   refine Ri.wp_region_lastingB (by kernel_rfl) (by kernel_rfl) (by kernel_rfl) (fun Wx => Below W3.heap.size W3 Wx) (fun kz vs wz => (fun kx vx wx => match kx with | 0 => vx = .int .i64 L1 | 1 => vx = .func (.func 133) #[] #[] | 2 => vx = .pointer (some ⟨p, 1, none⟩) | 3 => vx = .int .i64 id | 4 => vx = .pointer (some ⟨r, 3, none⟩) | 5 => vx = .int .i64 mgd | 6 => vx = .int .i64 L3 | 7 => vx = .int .i64 M1 | 8 => vx = .int .i64 L2 | 9 => vx = .func (.func 133) #[] #[] | 10 => vx = .pointer (some ⟨p, 3, none⟩) | 11 => vx = .int .i64 io | 12 => vx = .pointer (some ⟨r, 4, none⟩) | 13 => vx = .int .i64 mgo | 14 => vx = .int .i64 L4 | 15 => vx = .int .i64 M2 | 16 => vx = .int .i64 M1 | 17 => vx = .int .i64 M2 | _ => True : Nat → Value → World → Prop) kz (vs kz) wz) (fun kz => [kz]) (by kernel_rfl) (fun jz vs iz vz wz hiz hz => Ri.loc_own (F := (fun kx vx wx => match kx with | 0 => vx = .int .i64 L1 | 1 => vx = .func (.func 133) #[] #[] | 2 => vx = .pointer (some ⟨p, 1, none⟩) | 3 => vx = .int .i64 id | 4 => vx = .pointer (some ⟨r, 3, none⟩) | 5 => vx = .int .i64 mgd | 6 => vx = .int .i64 L3 | 7 => vx = .int .i64 M1 | 8 => vx = .int .i64 L2 | 9 => vx = .func (.func 133) #[] #[] | 10 => vx = .pointer (some ⟨p, 3, none⟩) | 11 => vx = .int .i64 io | 12 => vx = .pointer (some ⟨r, 4, none⟩) | 13 => vx = .int .i64 mgo | 14 => vx = .int .i64 L4 | 15 => vx = .int .i64 M2 | 16 => vx = .int .i64 M1 | 17 => vx = .int .i64 M2 | _ => True : Nat → Value → World → Prop)) jz vs iz vz wz hiz hz) HD.out ⟨⟨rfl, ?_⟩, ⟨rfl, ?_⟩, ⟨rfl, ?_⟩, ⟨rfl, ?_⟩, ⟨rfl, ?_⟩, ⟨rfl, ?_⟩, ⟨rfl, ?_⟩, ⟨rfl, ?_⟩, ⟨rfl, ?_⟩, ⟨rfl, ?_⟩, ⟨rfl, ?_⟩, ⟨rfl, ?_⟩, ⟨rfl, ?_⟩, ⟨rfl, ?_⟩, ⟨rfl, ?_⟩, ⟨rfl, ?_⟩, ⟨rfl, ?_⟩, ⟨rfl, ?_⟩, trivial⟩ ?_
   ·intro vs Wx A hA hB hpre K hK
    have e14 := (hA 14).trans (show _ = Value.int .i64 L1 by kernel_rfl)
    clear hA hpre
    go_simp
    exact hK _ _ hB rfl (fun _ _ h => h)
   ·intro vs Wx A hA hB hpre K hK
    have e12 := (hA 12).trans (show _ = Value.func (.func 133) #[] #[] by kernel_rfl)
    clear hA hpre
    go_simp
    exact hK _ _ hB rfl (fun _ _ h => h)
   ·intro vs Wx A hA hB hpre K hK
    have e5 := (hA 5).trans (show _ = Value.pointer (some ⟨p, 0, none⟩) by kernel_rfl)
    clear hA hpre
    go_simp
    exact hK _ _ hB rfl (fun _ _ h => h)
   ·intro vs Wx A hA hB hpre K hK
    have e44 := ((hA 44).trans (show _ = vs 2 by kernel_rfl)).trans (hpre.1 rfl)
    obtain ⟨⟨x0, x1, x2, x3, x4, x5⟩, ⟨y0, y1, y2, y3, y4⟩⟩ := HXK.out Wx hB
    clear hA hpre
    go_simp
    exact hK _ _ hB rfl (fun _ _ h => h)
   ·intro vs Wx A hA hB hpre K hK
    have e16 := (hA 16).trans (show _ = Value.pointer (some ⟨r, 0, none⟩) by kernel_rfl)
    clear hA hpre
    go_simp
    exact hK _ _ hB rfl (fun _ _ h => h)
   ·intro vs Wx A hA hB hpre K hK
    have e46 := ((hA 46).trans (show _ = vs 4 by kernel_rfl)).trans (hpre.1 rfl)
    obtain ⟨⟨x0, x1, x2, x3, x4, x5⟩, ⟨y0, y1, y2, y3, y4⟩⟩ := HXK.out Wx hB
    clear hA hpre
    go_simp
    exact hK _ _ hB rfl (fun _ _ h => h)
   ·intro vs Wx A hA hB hpre K hK
    have e43 := ((hA 43).trans (show _ = vs 1 by kernel_rfl)).trans (hpre.1 rfl)
    have e45 := ((hA 45).trans (show _ = vs 3 by kernel_rfl)).trans (hpre.2.1 rfl)
    have e47 := ((hA 47).trans (show _ = vs 5 by kernel_rfl)).trans (hpre.2.2.1 rfl)
    clear hA hpre
    go_simp
    go_at_call 133
    refine (HL3.out _).mono ?_
    rintro e w3 ⟨rfl, hw⟩
    rw [hw]
    exact hK _ _ hB rfl (fun _ _ h => h)
   ·intro vs Wx A hA hB hpre K hK
    have e42 := ((hA 42).trans (show _ = vs 0 by kernel_rfl)).trans (hpre.1 rfl)
    have e48 := ((hA 48).trans (show _ = vs 6 by kernel_rfl)).trans (hpre.2.1 rfl)
    clear hA hpre
    go_simp
    exact hK _ _ hB rfl (fun _ _ h => h)
   ·intro vs Wx A hA hB hpre K hK
    have e15 := (hA 15).trans (show _ = Value.int .i64 L2 by kernel_rfl)
    clear hA hpre
    go_simp
    exact hK _ _ hB rfl (fun _ _ h => h)
   ·intro vs Wx A hA hB hpre K hK
    have e12 := (hA 12).trans (show _ = Value.func (.func 133) #[] #[] by kernel_rfl)
    clear hA hpre
    go_simp
    exact hK _ _ hB rfl (fun _ _ h => h)
   ·intro vs Wx A hA hB hpre K hK
    have e5 := (hA 5).trans (show _ = Value.pointer (some ⟨p, 0, none⟩) by kernel_rfl)
    clear hA hpre
    go_simp
    exact hK _ _ hB rfl (fun _ _ h => h)
   ·intro vs Wx A hA hB hpre K hK
    have e52 := ((hA 52).trans (show _ = vs 10 by kernel_rfl)).trans (hpre.1 rfl)
    obtain ⟨⟨x0, x1, x2, x3, x4, x5⟩, ⟨y0, y1, y2, y3, y4⟩⟩ := HXK.out Wx hB
    clear hA hpre
    go_simp
    exact hK _ _ hB rfl (fun _ _ h => h)
   ·intro vs Wx A hA hB hpre K hK
    have e16 := (hA 16).trans (show _ = Value.pointer (some ⟨r, 0, none⟩) by kernel_rfl)
    clear hA hpre
    go_simp
    exact hK _ _ hB rfl (fun _ _ h => h)
   ·intro vs Wx A hA hB hpre K hK
    have e54 := ((hA 54).trans (show _ = vs 12 by kernel_rfl)).trans (hpre.1 rfl)
    obtain ⟨⟨x0, x1, x2, x3, x4, x5⟩, ⟨y0, y1, y2, y3, y4⟩⟩ := HXK.out Wx hB
    clear hA hpre
    go_simp
    exact hK _ _ hB rfl (fun _ _ h => h)
   ·intro vs Wx A hA hB hpre K hK
    have e51 := ((hA 51).trans (show _ = vs 9 by kernel_rfl)).trans (hpre.1 rfl)
    have e53 := ((hA 53).trans (show _ = vs 11 by kernel_rfl)).trans (hpre.2.1 rfl)
    have e55 := ((hA 55).trans (show _ = vs 13 by kernel_rfl)).trans (hpre.2.2.1 rfl)
    clear hA hpre
    go_simp
    go_at_call 133
    refine (HL4.out _).mono ?_
    rintro e w3 ⟨rfl, hw⟩
    rw [hw]
    exact hK _ _ hB rfl (fun _ _ h => h)
   ·intro vs Wx A hA hB hpre K hK
    have e50 := ((hA 50).trans (show _ = vs 8 by kernel_rfl)).trans (hpre.1 rfl)
    have e56 := ((hA 56).trans (show _ = vs 14 by kernel_rfl)).trans (hpre.2.1 rfl)
    clear hA hpre
    go_simp
    exact hK _ _ hB rfl (fun _ _ h => h)
   ·intro vs Wx A hA hB hpre K hK
    have e49 := ((hA 49).trans (show _ = vs 7 by kernel_rfl)).trans (hpre.1 rfl)
    clear hA hpre
    go_simp
    exact hK _ _ hB rfl (fun _ _ h => h)
   ·intro vs Wx A hA hB hpre K hK
    have e57 := ((hA 57).trans (show _ = vs 15 by kernel_rfl)).trans (hpre.1 rfl)
    clear hA hpre
    go_simp
    exact hK _ _ hB rfl (fun _ _ h => h)
   ·intro vs Wy hB hF
    have hL1 : vs 16 = .int .i64 M1 := hF 16 (by decide)
    have hL2 : vs 17 = .int .i64 M2 := hF 17 (by decide)
    have HB4 := Lib.hid (below_tr hp HB3.out hB)
    clear hF hB
    simp only [Ri.puts]
    rw [hL1, hL2]
    clear hL1 hL2
    go_simp
    go_wp2_with fail
    go_ret2
    exact ⟨by first | (rw [HV3.out, HV4.out]; done) | (rw [HV3.out, HV4.out]; rfl), by first | exact HB4.out | (rw [hp]; exact HB4.out)⟩
  ·have n0 : (md != 0) = true := by simp [h0]
   have HV3 : Hid (V1 = L1) := HV1.out.trans (if_neg h0)
   have HV4 : Hid (V2 = L2) := HV2.out.trans (if_neg h0)
   clear HV1 HV2 h0
   go_wp2
   go_ret2
   exact ⟨by first | (rw [HV3.out, HV4.out]; done) | (rw [HV3.out, HV4.out]; rfl), by first | exact HB2.out | (rw [hp]; exact HB2.out)⟩
end Go.Proofs.YtfoooldkmokjpaaGreatDoor.Ac
end
section
set_option maxRecDepth 100000
namespace Go.Proofs.YtfoooldkmokjpaaGreatDoor.Ac
open Go.RowKit
open Sh (Ot member)
end Go.Proofs.YtfoooldkmokjpaaGreatDoor.Ac
end
