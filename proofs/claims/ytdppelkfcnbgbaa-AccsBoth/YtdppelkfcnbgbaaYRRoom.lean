/-
  What the reference's Both and Room answer, as contracts.
-/
import Derived.Test.YtdppelkfcnbgbaaYRAdd
import Derived.Test.YtdppelkfcnbgbaaYRoom
set_option linter.unusedSimpArgs false
set_option linter.unusedVariables false
set_option maxRecDepth 100000
namespace Go.Proofs.Ytdppelkfcnbgbaa.Ac
open Go.RowKit
open Sh (Ot member)

set_option maxHeartbeats 4000000 in
theorem rboth_any (l : List Row) (m f : Tx) (y : Int) (o : Ot) (v : Value) (w : World) (h : RwsAt All w v l) (hl : l.length ≤ 9000) (hs : Small o) :
    Calls Try.prog 21 #[v, .string (mk m), .string (mk f), .int .i64 y, .agg #[.int .i64 o.al, .int .i64 o.de, .int .i64 o.cp, .int .i64 o.cn, .int .i64 o.plan, .int .i64 o.wr, .int .i64 o.pr, .int .i64 o.deny]] w fun e w' => ∃ v', e = .returned (.tuple #[v', .int .i64 (bothE l m f y o)]) ∧ Own w.heap.size w' v' (bothV l m f y o) ∧ Below w.heap.size w w' := by
  obtain ⟨⟨h1, h2⟩, ⟨h3, h4⟩, ⟨h5, h6⟩⟩ := hs
  have HB := Lib.hid (below_alloc w (.cells #[.int .i64 o.al, .int .i64 o.de, .int .i64 o.cp, .int .i64 o.cn, .int .i64 o.plan, .int .i64 o.wr, .int .i64 o.pr, .int .i64 o.deny] 35))
  have HX := Lib.hid (alloc_new w #[.int .i64 o.al, .int .i64 o.de, .int .i64 o.cp, .int .i64 o.cn, .int .i64 o.plan, .int .i64 o.wr, .int .i64 o.pr, .int .i64 o.deny] 35)
  have HRlo : Hid (∀ W, Below w.heap.size w W → RwsAt All W v l) := fun W hW => ((rws_lo h).move (Below.moves_lo hW)).all
  have HA1 : Hid (∀ W, RwsAt All W v l → Calls Try.prog 15 #[v, .string (mk m), .bool false, .int .i64 y, .int .i64 o.de, .int .i64 (o.de + o.cp + o.cn)] W fun e w' => ∃ v', e = .returned (.tuple #[v', .int .i64 (addE l m false y o.de (member o))]) ∧ Own W.heap.size w' v' (addV l m false y o.de (member o)) ∧ Below W.heap.size W w') := fun W hW => radd_any l m false y o.de (member o) v W hW (by omega)
  have HA2 : Hid (∀ W v2, RwsAt All W v2 (addV l m false y o.de (member o)) → Calls Try.prog 15 #[v2, .string (mk f), .bool true, .int .i64 y, .int .i64 o.de, .int .i64 (o.de + o.cp + o.cn)] W fun e w' => ∃ v', e = .returned (.tuple #[v', .int .i64 (addE (addV l m false y o.de (member o)) f true y o.de (member o))]) ∧ Own W.heap.size w' v' (addV (addV l m false y o.de (member o)) f true y o.de (member o)) ∧ Below W.heap.size W w') := fun W v2 hW =>
    radd_any _ f true y o.de (member o) v2 W hW (by have := add_len l m false y o.de (member o); omega)
  obtain ⟨fa, fk, rfl, hm1, hm2⟩ := h.form
  have HE : Hid (bothE l m f y o = if addE l m false y o.de (member o) = 0 then addE (addV l m false y o.de (member o)) f true y o.de (member o) else addE l m false y o.de (member o)) := (rfl : bothE l m f y o = _)
  have HV : Hid (bothV l m f y o = if addE l m false y o.de (member o) = 0 then addV (addV l m false y o.de (member o)) f true y o.de (member o) else []) := (rfl : bothV l m f y o = _)
  generalize bothE l m f y o = E at *
  generalize bothV l m f y o = V at *
  generalize addV (addV l m false y o.de (member o)) f true y o.de (member o) = V2 at *
  generalize addE (addV l m false y o.de (member o)) f true y o.de (member o) = E2 at *
  generalize addV l m false y o.de (member o) = V1 at *
  generalize addE l m false y o.de (member o) = E1 at *
  clear h
  go_enter Try.func21, Try.ntmps21
  go_upto_region 1 with fail
  generalize w.alloc (.cells #[.int .i64 o.al, .int .i64 o.de, .int .i64 o.cp, .int .i64 o.cn, .int .i64 o.plan, .int .i64 o.wr, .int .i64 o.pr, .int .i64 o.deny] 35) = W at *
  generalize hp : w.heap.size = p at *
  obtain ⟨b0, b1, b2, b3, b4, b5, b6, b7⟩ := eight HX.out
  go_wp2_with fail
  go_at_call 15
  refine (HA1.out W (HRlo.out W HB.out)).mono ?_
  rintro e w2 ⟨v2, rfl, ho2, hb2⟩
  have HB2 := Lib.hid (below_tr hp HB.out hb2)
  have HX2 := Lib.hid (keepB HX.out hb2)
  have HR2 := Lib.hid (rws_of_own (K := All) ho2 fun _ _ => trivial)
  obtain ⟨a2, c2, rfl, hm3, hm4⟩ := own_form ho2
  clear ho2 hb2 b0 b1 b2 b3 b4 b5 b6 b7 HX HB HA1 HRlo
  obtain ⟨b0, b1, b2, b3, b4, b5, b6, b7⟩ := eight HX2.out
  by_cases h1 : E1 = 0
  · have n1 : (E1 != 0) = false := by simp [h1]
    have HE0 : Hid (E = E2) := HE.out.trans (if_pos h1)
    have HV0 : Hid (V = V2) := HV.out.trans (if_pos h1)
    have HA := Lib.hid (HA2.out w2 _ HR2.out)
    clear h1 HA2 HE HV
    go_wp2_with fail
    go_at_call 15
    refine HA.out.mono ?_
    rintro e w3 ⟨v3, rfl, ho3, hb3⟩
    have HO3 := Lib.hid (own_base HB2.out.size ho3)
    have HB3 := Lib.hid (below_tr hp HB2.out hb3)
    obtain ⟨a3, c3, rfl, -, -⟩ := own_form ho3
    clear ho3 hb3 HA b0 b1 b2 b3 b4 b5 b6 b7
    go_wp2
    go_ret2
    exact ⟨_, (by first | (rw [HE0.out]; done) | (rw [HE0.out]; rfl)), by rw [HV0.out]; first | exact HO3.out | (rw [hp]; exact HO3.out), by first | exact HB3.out | (rw [hp]; exact HB3.out)⟩
  · have n1 : (E1 != 0) = true := by simp [h1]
    have HE0 : Hid (E = E1) := HE.out.trans (if_neg h1)
    have HV0 : Hid (V = []) := HV.out.trans (if_neg h1)
    clear h1 HA2 HE HV
    go_wp2
    go_ret2
    exact ⟨.slice none 0 0, (by first | (rw [HE0.out]; done) | (rw [HE0.out]; rfl)), by rw [HV0.out]; exact own_nil _ _, by first | exact HB2.out | (rw [hp]; exact HB2.out)⟩

set_option maxHeartbeats 8000000 in
theorem rroom_any (md id fd io fo : Int) (ra : Option Addr) (rn rcp : Nat) (l : List Row) (m f : Tx) (y : Int) (v : Value) (w : World) (h : RwsAt All w v l) (hl : l.length ≤ 10000) (hO : Ok l) (i1 : In id) (i2 : In fd) (i3 : In io) (i4 : In fo) :
    Calls Try.prog 25 #[.agg #[.int .i64 md, .int .i64 id, .int .i64 fd, .int .i64 io, .int .i64 fo, .slice ra rn rcp], v, .string (mk m), .string (mk f), .int .i64 y] w fun e w' => e = .returned (.tuple #[.int .i64 (roomV md id fd (getV l m false y).de (getV l f true y).de), .int .i64 (roomV md io fo (getV l m false y).oo (getV l f true y).oo)]) ∧ Below w.heap.size w w' := by
  obtain ⟨fgd, fgo, hG⟩ := get_form l f true y
  obtain ⟨mgd, mgo, hM⟩ := get_form l m false y
  have a1 := get_in_amt hO f true y
  have a2 := get_in_amt hO m false y
  rw [hG] at a1
  rw [hM] at a2
  simp only at a1 a2
  have hb0 := below_alloc w (.cells #[.int .i64 md, .int .i64 id, .int .i64 fd, .int .i64 io, .int .i64 fo, .slice ra rn rcp] 41)
  have HX := Lib.hid (heap_alloc_new w (.cells #[.int .i64 md, .int .i64 id, .int .i64 fd, .int .i64 io, .int .i64 fo, .slice ra rn rcp] 41))
  have HB := Lib.hid hb0
  have HGet : Hid (∀ W, Below w.heap.size w W → Calls Try.prog 18 #[v, .string (mk f), .bool true, .int .i64 y] W fun e w' => e = .returned (.agg #[.string (mk f), .bool true, .int .i64 y, .int .i64 fgd, .int .i64 fgo]) ∧ Below W.heap.size W w') := fun W hW => by
    have hq := rget_any l f true y v W ((rws_lo h).move (Below.moves_lo hW)).all (by omega)
    rw [hG] at hq
    exact hq
  have HGem : Hid (∀ W, Below w.heap.size w W → Calls Try.prog 18 #[v, .string (mk m), .bool false, .int .i64 y] W fun e w' => e = .returned (.agg #[.string (mk m), .bool false, .int .i64 y, .int .i64 mgd, .int .i64 mgo]) ∧ Below W.heap.size W w') := fun W hW => by
    have hq := rget_any l m false y v W ((rws_lo h).move (Below.moves_lo hW)).all (by omega)
    rw [hM] at hq
    exact hq
  have HL1 := Lib.hid fun W => left_any fd fgd W i2.1 i2.2 a1.1.1 a1.1.2
  have HL2 := Lib.hid fun W => left_any fo fgo W i4.1 i4.2 a1.2.1 a1.2.2
  have HL3 := Lib.hid fun W => left_any id mgd W i1.1 i1.2 a2.1.1 a2.1.2
  have HL4 := Lib.hid fun W => left_any io mgo W i3.1 i3.2 a2.2.1 a2.2.2
  rw [hG, hM]
  simp only
  obtain ⟨fa, fk, rfl, hm1, hm2⟩ := h.form
  have HV1 : Hid (roomV md id fd mgd fgd = if md = 0 then (if left id mgd < left fd fgd then left id mgd else left fd fgd) else left fd fgd) := (rfl : roomV md id fd mgd fgd = _)
  have HV2 : Hid (roomV md io fo mgo fgo = if md = 0 then (if left io mgo < left fo fgo then left io mgo else left fo fgo) else left fo fgo) := (rfl : roomV md io fo mgo fgo = _)
  generalize roomV md id fd mgd fgd = V1 at *
  generalize roomV md io fo mgo fgo = V2 at *
  generalize left fd fgd = L1 at *
  generalize left fo fgo = L2 at *
  generalize left id mgd = L3 at *
  generalize left io mgo = L4 at *
  clear h hO hG hM hb0 a1 a2 i1 i2 i3 i4
  go_enter Try.func25, Try.ntmps25
  go_upto_region 1 with fail
  generalize w.alloc (.cells #[.int .i64 md, .int .i64 id, .int .i64 fd, .int .i64 io, .int .i64 fo, .slice ra rn rcp] 41) = W at *
  generalize hp : w.heap.size = p at *
  go_wp2_with fail
  go_at_call 18
  refine (HGet.out W HB.out).mono ?_
  rintro e w1 ⟨rfl, hb1⟩
  have HX1 := Lib.hid (keepB HX.out (below_trans hb1 (below_alloc w1 (.cells #[.string (mk f), .bool true, .int .i64 y, .int .i64 fgd, .int .i64 fgo] TA))))
  have HZ1 := Lib.hid (heap_alloc_new w1 (.cells #[.string (mk f), .bool true, .int .i64 y, .int .i64 fgd, .int .i64 fgo] TA))
  have HB1 := Lib.hid (below_tr hp HB.out (below_trans hb1 (below_alloc w1 (.cells #[.string (mk f), .bool true, .int .i64 y, .int .i64 fgd, .int .i64 fgo] TA))))
  clear hb1 HGet HX HB
  go_upto_region 2 with fail
  generalize w1.alloc (.cells #[.string (mk f), .bool true, .int .i64 y, .int .i64 fgd, .int .i64 fgo] TA) = W1 at *
  generalize w1.heap.size = q at *
  go_wp2_with fail
  go_at_call 18
  refine (HGem.out W1 HB1.out).mono ?_
  rintro e w3 ⟨rfl, hb3⟩
  have HX3 := Lib.hid (keepB HX1.out (below_trans hb3 (below_alloc w3 (.cells #[.string (mk m), .bool false, .int .i64 y, .int .i64 mgd, .int .i64 mgo] TA))))
  have HQ3 := Lib.hid (keepB HZ1.out (below_trans hb3 (below_alloc w3 (.cells #[.string (mk m), .bool false, .int .i64 y, .int .i64 mgd, .int .i64 mgo] TA))))
  have HZ3 := Lib.hid (heap_alloc_new w3 (.cells #[.string (mk m), .bool false, .int .i64 y, .int .i64 mgd, .int .i64 mgo] TA))
  have HB3 := Lib.hid (below_tr hp HB1.out (below_trans hb3 (below_alloc w3 (.cells #[.string (mk m), .bool false, .int .i64 y, .int .i64 mgd, .int .i64 mgo] TA))))
  clear hb3 HGem HX1 HB1 HZ1
  go_upto_region 3 with fail
  generalize w3.alloc (.cells #[.string (mk m), .bool false, .int .i64 y, .int .i64 mgd, .int .i64 mgo] TA) = W3 at *
  generalize w3.heap.size = r at *
  obtain ⟨x0, x1, x2, x3, x4, x5⟩ := six HX3.out
  obtain ⟨y0, y1, y2, y3, y4⟩ := cells5 HQ3.out
  obtain ⟨z0, z1, z2, z3, z4⟩ := cells5 HZ3.out
  clear HX3 HQ3 HZ3
  go_upto_region 4 with (go_at_call 39; refine (HL1.out _).mono ?_; rintro e w' ⟨rfl, hw⟩; rw [hw]; clear hw w')
  go_upto_region 5 with (go_at_call 39; refine (HL2.out _).mono ?_; rintro e w' ⟨rfl, hw⟩; rw [hw]; clear hw w')
  by_cases h0 : md = 0
  · have n0 : (md != 0) = false := by simp [h0]
    have HV3 : Hid (V1 = if L3 < L1 then L3 else L1) := HV1.out.trans (if_pos h0)
    have HV4 : Hid (V2 = if L4 < L2 then L4 else L2) := HV2.out.trans (if_pos h0)
    clear HV1 HV2 h0
    go_upto_region 8 with (go_at_call 39; refine (HL3.out _).mono ?_; rintro e w' ⟨rfl, hw⟩; rw [hw]; clear hw w')
    by_cases c1 : L3 < L1
    · have HV5 : Hid (V1 = L3) := HV3.out.trans (if_pos c1)
      go_upto_region 11 with (go_at_call 39; refine (HL4.out _).mono ?_; rintro e w' ⟨rfl, hw⟩; rw [hw]; clear hw w')
      by_cases c2 : L4 < L2
      · have HV6 : Hid (V2 = L4) := HV4.out.trans (if_pos c2)
        go_wp2
        go_ret2
        exact ⟨by first | (rw [HV5.out, HV6.out]; done) | (rw [HV5.out, HV6.out]; rfl), by first | exact HB3.out | (rw [hp]; exact HB3.out)⟩
      · have HV6 : Hid (V2 = L2) := HV4.out.trans (if_neg c2)
        go_wp2
        go_ret2
        exact ⟨by first | (rw [HV5.out, HV6.out]; done) | (rw [HV5.out, HV6.out]; rfl), by first | exact HB3.out | (rw [hp]; exact HB3.out)⟩
    · have HV5 : Hid (V1 = L1) := HV3.out.trans (if_neg c1)
      go_upto_region 11 with (go_at_call 39; refine (HL4.out _).mono ?_; rintro e w' ⟨rfl, hw⟩; rw [hw]; clear hw w')
      by_cases c2 : L4 < L2
      · have HV6 : Hid (V2 = L4) := HV4.out.trans (if_pos c2)
        go_wp2
        go_ret2
        exact ⟨by first | (rw [HV5.out, HV6.out]; done) | (rw [HV5.out, HV6.out]; rfl), by first | exact HB3.out | (rw [hp]; exact HB3.out)⟩
      · have HV6 : Hid (V2 = L2) := HV4.out.trans (if_neg c2)
        go_wp2
        go_ret2
        exact ⟨by first | (rw [HV5.out, HV6.out]; done) | (rw [HV5.out, HV6.out]; rfl), by first | exact HB3.out | (rw [hp]; exact HB3.out)⟩
  · have n0 : (md != 0) = true := by simp [h0]
    have HV3 : Hid (V1 = L1) := HV1.out.trans (if_neg h0)
    have HV4 : Hid (V2 = L2) := HV2.out.trans (if_neg h0)
    clear HV1 HV2 h0
    go_wp2
    go_ret2
    exact ⟨by first | (rw [HV3.out, HV4.out]; done) | (rw [HV3.out, HV4.out]; rfl), by first | exact HB3.out | (rw [hp]; exact HB3.out)⟩
end Go.Proofs.Ytdppelkfcnbgbaa.Ac
