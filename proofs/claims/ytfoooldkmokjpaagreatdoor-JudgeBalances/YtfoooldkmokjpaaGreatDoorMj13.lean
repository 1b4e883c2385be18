/-
  Texts put together (merge.py): CAdds, CRefs, CSubs, YAdd, YRGet, YRAdd.
-/
import Derived.WalkKit
import Derived.Test.YtfoooldkmokjpaaGreatDoorProg
import Derived.Test.YtfoooldkmokjpaaGreatDoorMj1
import Derived.Test.YtfoooldkmokjpaaGreatDoorMj12
import Derived.Test.YtfoooldkmokjpaaGreatDoorMj9
import Derived.Test.YtfoooldkmokjpaaGreatDoorMj10
set_option linter.unusedSimpArgs false
set_option linter.unusedVariables false
section
namespace Go.Proofs.YtfoooldkmokjpaaGreatDoor.Ce
open Go.RowKit
theorem good_any (a : Int) (w : World) :
  Calls Tryz.prog 79 #[.int .i64 a] w fun e w' => e = .returned (.bool (good a)) ∧ w' = w := by
 by_cases h0 : 0 ≤ a
 ·by_cases h1 : a ≤ 10000000000000
  ·have g : good a = true := (good_iff a).2 ⟨h0, h1⟩
   rw [g]
   go_enter Tryz.func79, Tryz.ntmps79
   go_wp2
   go_ret
   exact ⟨rfl, rfl⟩
  ·have g : good a = false := (good_not a).2 (by omega)
   rw [g]
   go_enter Tryz.func79, Tryz.ntmps79
   go_wp2
   go_ret
   exact ⟨rfl, rfl⟩
 ·have g : good a = false := (good_not a).2 (by omega)
  rw [g]
  go_enter Tryz.func79, Tryz.ntmps79
  go_wp2
  go_ret
  exact ⟨rfl, rfl⟩
theorem add_any (a b : Int) (w : World) :
  Calls Tryz.prog 123 #[.int .i64 a, .int .i64 b] w fun e w' => e = .returned (.tuple #[.int .i64 (addV a b), .int .i64 (addE a b)]) ∧ w' = w := by
 cases ga : good a
 ·have e1 : addV a b = 0 := by simp [addV, ga]
  have e2 : addE a b = 1 := by simp [addE, ga]
  rw [e1, e2]
  go_enter Tryz.func123, Tryz.ntmps123
  go_wp2_with (go_at_call 79; refine (good_any _ _).mono ?_; rintro e w' ⟨rfl, rfl⟩)
  go_ret2
  exact ⟨rfl, rfl⟩
 ·cases gb : good b
  ·have e1 : addV a b = 0 := by simp [addV, gb]
   have e2 : addE a b = 1 := by simp [addE, gb]
   rw [e1, e2]
   go_enter Tryz.func123, Tryz.ntmps123
   go_wp2_with (go_at_call 79; refine (good_any _ _).mono ?_; rintro e w' ⟨rfl, rfl⟩)
   go_ret2
   exact ⟨rfl, rfl⟩
  ·have ba := (good_iff a).1 ga
   have bb := (good_iff b).1 gb
   obtain ⟨a0, a1⟩ := ba
   obtain ⟨b0, b1⟩ := bb
   cases gc : good (a + b)
   ·have e1 : addV a b = 0 := by simp [addV, gc]
    have e2 : addE a b = 2 := by simp [addE, ga, gb, gc]
    rw [e1, e2]
    go_enter Tryz.func123, Tryz.ntmps123
    go_wp2_with (go_at_call 79; refine (good_any _ _).mono ?_; rintro e w' ⟨rfl, rfl⟩)
    go_ret2
    exact ⟨rfl, rfl⟩
   ·have e1 : addV a b = a + b := by simp [addV, ga, gb, gc]
    have e2 : addE a b = 0 := by simp [addE, ga, gb, gc]
    rw [e1, e2]
    go_enter Tryz.func123, Tryz.ntmps123
    go_wp2_with (go_at_call 79; refine (good_any _ _).mono ?_; rintro e w' ⟨rfl, rfl⟩)
    go_ret2
    exact ⟨rfl, rfl⟩
end Go.Proofs.YtfoooldkmokjpaaGreatDoor.Ce
end
section
namespace Go.Proofs.YtfoooldkmokjpaaGreatDoor.Ce
open Go.RowKit
end Go.Proofs.YtfoooldkmokjpaaGreatDoor.Ce
end
section
namespace Go.Proofs.YtfoooldkmokjpaaGreatDoor.Ce
open Go.RowKit
theorem sub_any (a b : Int) (w : World) :
  Calls Tryz.prog 125 #[.int .i64 a, .int .i64 b] w fun e w' => e = .returned (.tuple #[.int .i64 (subV a b), .int .i64 (subE a b)]) ∧ w' = w := by
 cases ga : good a
 ·have e1 : subV a b = 0 := by simp [subV, ga]
  have e2 : subE a b = 1 := by simp [subE, ga]
  rw [e1, e2]
  go_enter Tryz.func125, Tryz.ntmps125
  go_wp2_with (go_at_call 79; refine (good_any _ _).mono ?_; rintro e w' ⟨rfl, rfl⟩)
  go_ret2
  exact ⟨rfl, rfl⟩
 ·cases gb : good b
  ·have e1 : subV a b = 0 := by simp [subV, gb]
   have e2 : subE a b = 1 := by simp [subE, gb]
   rw [e1, e2]
   go_enter Tryz.func125, Tryz.ntmps125
   go_wp2_with (go_at_call 79; refine (good_any _ _).mono ?_; rintro e w' ⟨rfl, rfl⟩)
   go_ret2
   exact ⟨rfl, rfl⟩
  ·have ba := (good_iff a).1 ga
   have bb := (good_iff b).1 gb
   obtain ⟨a0, a1⟩ := ba
   obtain ⟨b0, b1⟩ := bb
   by_cases gc : a < b
   ·have nb : ¬ b ≤ a := by omega
    have e1 : subV a b = 0 := by simp [subV, nb]
    have e2 : subE a b = 3 := by simp [subE, ga, gb, nb]
    rw [e1, e2]
    go_enter Tryz.func125, Tryz.ntmps125
    go_wp2_with (go_at_call 79; refine (good_any _ _).mono ?_; rintro e w' ⟨rfl, rfl⟩)
    go_ret2
    exact ⟨rfl, rfl⟩
   ·have nb : b ≤ a := by omega
    have e1 : subV a b = a - b := by simp [subV, ga, gb, nb]
    have e2 : subE a b = 0 := by simp [subE, ga, gb, nb]
    rw [e1, e2]
    go_enter Tryz.func125, Tryz.ntmps125
    go_wp2_with (go_at_call 79; refine (good_any _ _).mono ?_; rintro e w' ⟨rfl, rfl⟩)
    go_ret2
    exact ⟨rfl, rfl⟩
end Go.Proofs.YtfoooldkmokjpaaGreatDoor.Ce
end
section
set_option maxRecDepth 100000
namespace Go.Proofs.YtfoooldkmokjpaaGreatDoor.Ac
open Go.RowKit
theorem get_form (l : List Row) (wh : Tx) (f : Bool) (y : Int) : ∃ gd go, getV l wh f y = ⟨wh, f, y, gd, go⟩ := by
 have h := (hit_iff _ _ _ _).1 (get_hit l wh f y)
 generalize getV l wh f y = G at *
 obtain ⟨a, b, c, d, e⟩ := G
 obtain ⟨h1, h2, h3⟩ := h
 simp only at h1 h2 h3
 subst h1 h2 h3
 exact ⟨d, e, rfl⟩
theorem ce_addV {a b : Int} (h : Ce.addE a b = 0) : Ce.addV a b = a + b := by
 have h1 := (ce_add a b).1 h
 unfold Ce.addV
 have g1 : Ce.good a = true := (Ce.good_iff a).2 (by omega)
 have g2 : Ce.good b = true := (Ce.good_iff b).2 (by omega)
 have g3 : Ce.good (a + b) = true := (Ce.good_iff _).2 (by omega)
 simp [g1, g2, g3]
theorem add_put {l : List Row} (hl : Ok l) {wh : Tx} {f : Bool} {y d o : Int} (h : addE l wh f y d o = 0) {i : Nat} {fb : Bool} (hs : Stands l (rowN l wh f y d o) i fb) : putR l (rowN l wh f y d o) i fb = addV l wh f y d o := by
 have k := add_zero h
 unfold putR addV
 rw [if_pos h]
 cases fb with
 | true =>
  rw [if_pos rfl]
  obtain ⟨hi, hg⟩ := get_found hl.up hs
  have hone := (one_iff _).1 (hl.1 _ (List.getElem_mem hi))
  rw [if_neg (by rw [hg]; rw [hg] at k; omega)]
  obtain ⟨_, hp⟩ := put_found hs
  exact hp.symm
 | false =>
  rw [if_neg (by decide)]
  by_cases h0 : (getV l wh f y).oo + o = 0
  ·rw [if_pos h0, if_pos (show (rowN l wh f y d o).oo = 0 from h0)]
  ·rw [if_neg h0, if_neg (show ¬ (rowN l wh f y d o).oo = 0 from h0), put_none hs]
theorem rws_lo {w : World} {v : Value} {l : List Row} (h : RwsAt All w v l) : RwsAt (fun b => b < w.heap.size) w v l := by
 obtain ⟨a, c, rfl, h1, h2, h3⟩ := h
 exact ⟨a, c, rfl, h1, h2, h3.imp id fun ⟨b, o, e, _, hb, hc⟩ => ⟨b, o, e, hb, hb, hc⟩⟩
theorem box_set {w : World} {b : Nat} {a0 a1 a2 a3 a4 : Value} {T : TypeId} (h : w.heap[b]? = some (.cells #[a0, a1, a2, a3, a4] T (0, 0))) (u : Value) : (w.setCell ⟨b, 3, none⟩ u).heap[b]? = some (.cells #[a0, a1, a2, u, a4] T (0, 0)) := by rw [heap_set h]; rfl
theorem box_set4 {w : World} {b : Nat} {a0 a1 a2 a3 a4 : Value} {T : TypeId} (h : w.heap[b]? = some (.cells #[a0, a1, a2, a3, a4] T (0, 0))) (u : Value) : (w.setCell ⟨b, 4, none⟩ u).heap[b]? = some (.cells #[a0, a1, a2, a3, u] T (0, 0)) := by rw [heap_set h]; rfl
set_option maxHeartbeats 8000000 in
theorem add_any (l : List Row) (wh : Tx) (f : Bool) (y d o : Int) (v : Value) (w : World) (h : RwsAt All w v l) (hl : l.length ≤ 10000) (hO : Ok l) :
  Calls Tryz.prog 139 #[v, .string (mk wh), .bool f, .int .i64 y, .int .i64 d, .int .i64 o] w fun e w' => ∃ v', e = .returned (.tuple #[v', .int .i64 (addE l wh f y d o)]) ∧ Own w.heap.size w' v' (addV l wh f y d o) ∧ Below w.heap.size w w' := by
 obtain ⟨gd, go, hG⟩ := get_form l wh f y
 have HGet : Hid (Calls Tryz.prog 134 #[v, .string (mk wh), .bool f, .int .i64 y] w fun e w' => e = .returned (.agg #[.string (mk wh), .bool f, .int .i64 y, .int .i64 gd, .int .i64 go]) ∧ Below w.heap.size w w') := by
  have hq := get_any l wh f y v w h (by omega) hO.up
  rw [hG] at hq
  exact hq
 have HRlo : Hid (∀ W, Below w.heap.size w W → RwsAt All W v l) := fun W hW => ((rws_lo h).move (Below.moves_lo hW)).all
 have HO := Lib.hid hO
 have HPut : Hid (∀ W, RwsAt All W v l → Calls Tryz.prog 161 #[v, .agg #[.string (mk wh), .bool f, .int .i64 y, .int .i64 (gd + d), .int .i64 (go + o)]] W fun e w' => ∃ v' i fb, e = .returned v' ∧ Stands l ⟨wh, f, y, gd + d, go + o⟩ i fb ∧ Own W.heap.size w' v' (putR l ⟨wh, f, y, gd + d, go + o⟩ i fb) ∧ Below W.heap.size W w') := fun W hW => put_any l ⟨wh, f, y, gd + d, go + o⟩ v W hW hl hO.up
 have HRow : Hid (rowN l wh f y d o = ⟨wh, f, y, gd + d, go + o⟩) := (by unfold rowN; rw [hG] : rowN l wh f y d o = ⟨wh, f, y, gd + d, go + o⟩)
 obtain ⟨fa, fk, rfl, hm1, hm2⟩ := h.form
 have HA1 := Lib.hid fun W => Ce.add_any gd d W
 have HA2 := Lib.hid fun W => Ce.add_any go o W
 obtain ⟨E, HE⟩ : ∃ E, Hid (addE l wh f y d o = E) := ⟨_, (rfl : addE l wh f y d o = _)⟩
 have HEd : Hid (E = if Ce.addE gd d = 0 then (if Ce.addE go o = 0 then (if d ≤ o then 0 else 3) else Ce.addE go o) else Ce.addE gd d) := (by rw [← HE.out]; unfold addE; rw [hG] : E = _)
 have HPL : Hid (E = 0 → ∀ i fb, Stands l (rowN l wh f y d o) i fb → putR l (rowN l wh f y d o) i fb = addV l wh f y d o) := fun h0 i fb hs => add_put hO (HE.out.trans h0) hs
 have HNil : Hid (E ≠ 0 → addV l wh f y d o = []) := fun h0 => by unfold addV; rw [if_neg (by rw [HE.out]; exact h0)]
 rw [HE.out]
 rw [HRow.out] at HPL
 obtain ⟨L2, HL2⟩ : ∃ L2, Hid (addV l wh f y d o = L2) := ⟨_, (rfl : addV l wh f y d o = _)⟩
 rw [HL2.out] at HPL HNil ⊢
 have HV1 : Hid (Ce.addE gd d = 0 → Ce.addV gd d = gd + d) := ce_addV
 have HV2 : Hid (Ce.addE go o = 0 → Ce.addV go o = go + o) := ce_addV
 generalize Ce.addE gd d = E1 at *
 generalize Ce.addE go o = E2 at *
 generalize Ce.addV gd d = V1 at *
 generalize Ce.addV go o = V2 at *
 clear h hO hG HE HO HRow HL2
 go_enter Tryz.func139, Tryz.ntmps139
 go_wp2_with fail
 go_at_call 134
 refine HGet.out.mono ?_
 rintro e w1 ⟨rfl, hb1⟩
 have hb2 := below_alloc w1 (.cells #[.string (mk wh), .bool f, .int .i64 y, .int .i64 gd, .int .i64 go] TA)
 have HZ := Lib.hid (heap_alloc_new w1 (.cells #[.string (mk wh), .bool f, .int .i64 y, .int .i64 gd, .int .i64 go] TA))
 have HB := Lib.hid (below_trans hb1 hb2)
 have HS := Lib.hid hb1.size
 clear hb1 hb2 HGet
 go_upto_region 3 with fail
 generalize w1.alloc (.cells #[.string (mk wh), .bool f, .int .i64 y, .int .i64 gd, .int .i64 go] TA) = W at *
 generalize hq : w1.heap.size = q at *
 generalize hp : w.heap.size = p at *
 have HPQ := Lib.hid HS.out
 obtain ⟨z0, z1, z2, z3, z4⟩ := cells5 HZ.out
 obtain ⟨t0, t1, t2, t3, t4⟩ := frz5 HZ.out
 have HZ2 := Lib.hid (box_set HZ.out (.int .i64 V1))
 have HB2 : Hid (Below p w (W.setCell ⟨q, 3, none⟩ (.int .i64 V1))) := HB.out.setCell (p := ⟨q, 3, none⟩) HPQ.out _
 by_cases h1 : E1 = 0
 ·have e1 := HV1.out h1
  have b1 : (E1 != 0) = false := by simp [h1]
  have HEd2 : Hid (E = if E2 = 0 then (if d ≤ o then 0 else 3) else E2) := HEd.out.trans (by rw [if_pos h1])
  rw [← e1] at HPut HPL
  clear HEd HV1 e1 h1
  go_upto_region 6 with (go_at_call 123; refine (HA1.out _).mono ?_; rintro e w' ⟨rfl, hw⟩; rw [hw]; clear hw w')
  generalize W.setCell ⟨q, 3, none⟩ (.int .i64 V1) = W3 at *
  clear z0 z1 z2 z3 z4 t0 t1 t2 t3 t4 HZ HB HA1 b1
  obtain ⟨z0, z1, z2, z3, z4⟩ := cells5 HZ2.out
  obtain ⟨t0, t1, t2, t3, t4⟩ := frz5 HZ2.out
  have HZ3 := Lib.hid (box_set4 HZ2.out (.int .i64 V2))
  have HB3 : Hid (Below p w (W3.setCell ⟨q, 4, none⟩ (.int .i64 V2))) := HB2.out.setCell (p := ⟨q, 4, none⟩) HPQ.out _
  by_cases h2 : E2 = 0
  ·have e2 := HV2.out h2
   have b2 : (E2 != 0) = false := by simp [h2]
   have HEd3 : Hid (E = if d ≤ o then 0 else 3) := HEd2.out.trans (by rw [if_pos h2])
   rw [← e2] at HPut HPL
   clear HEd2 HV2 e2 h2
   go_upto_region 9 with (go_at_call 123; refine (HA2.out _).mono ?_; rintro e w' ⟨rfl, hw⟩; rw [hw]; clear hw w')
   generalize W3.setCell ⟨q, 4, none⟩ (.int .i64 V2) = W4 at *
   clear z0 z1 z2 z3 z4 t0 t1 t2 t3 t4 HZ2 HB2 HA2 b2
   obtain ⟨z0, z1, z2, z3, z4⟩ := cells5 HZ3.out
   by_cases h3 : d ≤ o
   ·have HE0 : Hid (E = 0) := HEd3.out.trans (by rw [if_pos h3])
    have n3 : ¬ o < d := by omega
    clear h3
    have HP := Lib.hid (HPut.out W4 (HRlo.out W4 HB3.out))
    clear HPut
    go_wp2_with fail
    go_at_call 161
    refine HP.out.mono ?_
    rintro e w5 ⟨v5, i5, fb5, rfl, hs5, ho5, hb5⟩
    rw [HPL.out HE0.out i5 fb5 hs5] at ho5
    have HO5 := Lib.hid (own_base HB3.out.size ho5)
    have HB5 := Lib.hid (below_tr hp HB3.out hb5)
    obtain ⟨a5, c5, rfl, -, -⟩ := own_form ho5
    clear hs5 ho5 hb5 HP HPL z0 z1 z2 z3 z4
    go_wp2
    go_ret2
    exact ⟨_, (by first | (rw [HE0.out]; done) | (rw [HE0.out]; rfl)), by first | exact HO5.out | (rw [hp]; exact HO5.out), by first | exact HB5.out | (rw [hp]; exact HB5.out)⟩
   ·have HE0 : Hid (E = 3) := HEd3.out.trans (by rw [if_neg h3])
    have n3 : o < d := by omega
    have HNl : Hid (L2 = []) := HNil.out (by rw [HE0.out]; decide)
    clear h3
    go_wp2
    go_ret2
    exact ⟨.slice none 0 0, (by first | (rw [HE0.out]; done) | (rw [HE0.out]; rfl)), by rw [HNl.out]; exact own_nil _ _, by first | exact HB3.out | (rw [hp]; exact HB3.out)⟩
  ·have b2 : (E2 != 0) = true := by simp [h2]
   have HE0 : Hid (E = E2) := HEd2.out.trans (by rw [if_neg h2])
   have HNl : Hid (L2 = []) := HNil.out (by rw [HE0.out]; exact h2)
   clear h2 HV2 HPL HNil HEd2
   go_wp2_with (go_at_call 123; refine (HA2.out _).mono ?_; rintro e w' ⟨rfl, hw⟩; rw [hw]; clear hw w')
   go_ret2
   exact ⟨.slice none 0 0, (by first | (rw [HE0.out]; done) | (rw [HE0.out]; rfl)), by rw [HNl.out]; exact own_nil _ _, by first | exact HB3.out | (rw [hp]; exact HB3.out)⟩
 ·have b1 : (E1 != 0) = true := by simp [h1]
  have HE0 : Hid (E = E1) := HEd.out.trans (by rw [if_neg h1])
  have HNl : Hid (L2 = []) := HNil.out (by rw [HE0.out]; exact h1)
  clear HEd h1 HV1 HV2 HPL HNil
  go_wp2_with (go_at_call 123; refine (HA1.out _).mono ?_; rintro e w' ⟨rfl, hw⟩; rw [hw]; clear hw w')
  go_ret2
  exact ⟨.slice none 0 0, (by first | (rw [HE0.out]; done) | (rw [HE0.out]; rfl)), by rw [HNl.out]; exact own_nil _ _, by first | exact HB2.out | (rw [hp]; exact HB2.out)⟩
theorem eight {w : World} {b : Nat} {c0 c1 c2 c3 c4 c5 c6 c7 : Value} {T : TypeId} (h : w.heap[b]? = some (.cells #[c0, c1, c2, c3, c4, c5, c6, c7] T (0, 0))) : w.cell? ⟨b, 0, none⟩ = some c0 ∧ w.cell? ⟨b, 1, none⟩ = some c1 ∧ w.cell? ⟨b, 2, none⟩ = some c2 ∧ w.cell? ⟨b, 3, none⟩ = some c3 ∧ w.cell? ⟨b, 4, none⟩ = some c4 ∧ w.cell? ⟨b, 5, none⟩ = some c5 ∧ w.cell? ⟨b, 6, none⟩ = some c6 ∧ w.cell? ⟨b, 7, none⟩ = some c7 := by
 refine ⟨?_, ?_, ?_, ?_, ?_, ?_, ?_, ?_⟩ <;> (rw [cell_of_row w b _ _ T (0, 0) h]; rfl)
open Sh (Ot member)
def Small (o : Ot) : Prop := (-1152921504606846976 ≤ o.de ∧ o.de ≤ 1152921504606846976) ∧ (-1152921504606846976 ≤ o.cp ∧ o.cp ≤ 1152921504606846976) ∧ (-1152921504606846976 ≤ o.cn ∧ o.cn ≤ 1152921504606846976)
set_option maxHeartbeats 1000000 in
theorem member_any (o : Ot) (w : World) (hs : Small o) :
  Calls Tryz.prog 138 #[.agg #[.int .i64 o.al, .int .i64 o.de, .int .i64 o.cp, .int .i64 o.cn, .int .i64 o.plan, .int .i64 o.wr, .int .i64 o.pr, .int .i64 o.deny]] w fun e w' => e = .returned (.int .i64 (member o)) ∧ Below w.heap.size w w' := by
 obtain ⟨⟨h1, h2⟩, ⟨h3, h4⟩, ⟨h5, h6⟩⟩ := hs
 have HB := Lib.hid (below_alloc w (.cells #[.int .i64 o.al, .int .i64 o.de, .int .i64 o.cp, .int .i64 o.cn, .int .i64 o.plan, .int .i64 o.wr, .int .i64 o.pr, .int .i64 o.deny] 48))
 have HX := Lib.hid (alloc_new w #[.int .i64 o.al, .int .i64 o.de, .int .i64 o.cp, .int .i64 o.cn, .int .i64 o.plan, .int .i64 o.wr, .int .i64 o.pr, .int .i64 o.deny] 48)
 rw [show member o = o.de + o.cp + o.cn from rfl]
 go_enter Tryz.func138, Tryz.ntmps138
 go_upto_region 1 with fail
 generalize w.alloc (.cells #[.int .i64 o.al, .int .i64 o.de, .int .i64 o.cp, .int .i64 o.cn, .int .i64 o.plan, .int .i64 o.wr, .int .i64 o.pr, .int .i64 o.deny] 48) = W at *
 generalize hp : w.heap.size = p at *
 obtain ⟨b0, b1, b2, b3, b4, b5, b6, b7⟩ := eight HX.out
 go_wp2
 go_ret
 exact ⟨rfl, by first | exact HB.out | (rw [hp]; exact HB.out)⟩
theorem add_len (l : List Row) (wh : Tx) (f : Bool) (y d o : Int) : (addV l wh f y d o).length ≤ l.length + 1 := by
 unfold addV
 split
 ·split
  ·omega
  ·have : ∀ (a : Row) (l : List Row), (put a l).length ≤ l.length + 1 := by
    intro a l
    induction l with
    | nil => simp [put]
    | cons x r ih => unfold put; split; simp; omega; split <;> simp
   exact this _ _
 ·simp
set_option maxHeartbeats 4000000 in
theorem both_any (l : List Row) (m f : Tx) (y : Int) (o : Ot) (v : Value) (w : World) (h : RwsAt All w v l) (hl : l.length ≤ 9000) (hO : Ok l) (hs : Small o) :
  Calls Tryz.prog 95 #[v, .string (mk m), .string (mk f), .int .i64 y, .agg #[.int .i64 o.al, .int .i64 o.de, .int .i64 o.cp, .int .i64 o.cn, .int .i64 o.plan, .int .i64 o.wr, .int .i64 o.pr, .int .i64 o.deny]] w fun e w' => ∃ v', e = .returned (.tuple #[v', .int .i64 (bothE l m f y o)]) ∧ Own w.heap.size w' v' (bothV l m f y o) ∧ Below w.heap.size w w' := by
 have HB := Lib.hid (below_alloc w (.cells #[.int .i64 o.al, .int .i64 o.de, .int .i64 o.cp, .int .i64 o.cn, .int .i64 o.plan, .int .i64 o.wr, .int .i64 o.pr, .int .i64 o.deny] 48))
 have HX := Lib.hid (alloc_new w #[.int .i64 o.al, .int .i64 o.de, .int .i64 o.cp, .int .i64 o.cn, .int .i64 o.plan, .int .i64 o.wr, .int .i64 o.pr, .int .i64 o.deny] 48)
 have HM := Lib.hid fun W => member_any o W hs
 have HRlo : Hid (∀ W, Below w.heap.size w W → RwsAt All W v l) := fun W hW => ((rws_lo h).move (Below.moves_lo hW)).all
 have HA1 := Lib.hid fun W (hW : RwsAt All W v l) => add_any l m false y o.de (member o) v W hW (by omega) hO
 have HA2 : Hid (addE l m false y o.de (member o) = 0 → ∀ W v2, RwsAt All W v2 (addV l m false y o.de (member o)) → Calls Tryz.prog 139 #[v2, .string (mk f), .bool true, .int .i64 y, .int .i64 o.de, .int .i64 (member o)] W fun e w' => ∃ v', e = .returned (.tuple #[v', .int .i64 (addE (addV l m false y o.de (member o)) f true y o.de (member o))]) ∧ Own W.heap.size w' v' (addV (addV l m false y o.de (member o)) f true y o.de (member o)) ∧ Below W.heap.size W w') := fun h0 W v2 hW =>
  add_any _ f true y o.de (member o) v2 W hW (by have := add_len l m false y o.de (member o); omega) (add_ok hO h0)
 obtain ⟨fa, fk, rfl, hm1, hm2⟩ := h.form
 have HE : Hid (bothE l m f y o = if addE l m false y o.de (member o) = 0 then addE (addV l m false y o.de (member o)) f true y o.de (member o) else addE l m false y o.de (member o)) := (rfl : bothE l m f y o = _)
 have HV : Hid (bothV l m f y o = if addE l m false y o.de (member o) = 0 then addV (addV l m false y o.de (member o)) f true y o.de (member o) else []) := (rfl : bothV l m f y o = _)
 generalize bothE l m f y o = E at *
 generalize bothV l m f y o = V at *
 generalize addV (addV l m false y o.de (member o)) f true y o.de (member o) = V2 at *
 generalize addE (addV l m false y o.de (member o)) f true y o.de (member o) = E2 at *
 generalize addV l m false y o.de (member o) = V1 at *
 generalize addE l m false y o.de (member o) = E1 at *
 generalize member o = M at *
 clear h hO hs
 go_enter Tryz.func95, Tryz.ntmps95
 go_upto_region 1 with fail
 generalize w.alloc (.cells #[.int .i64 o.al, .int .i64 o.de, .int .i64 o.cp, .int .i64 o.cn, .int .i64 o.plan, .int .i64 o.wr, .int .i64 o.pr, .int .i64 o.deny] 48) = W at *
 generalize hp : w.heap.size = p at *
 obtain ⟨b0, b1, b2, b3, b4, b5, b6, b7⟩ := eight HX.out
 go_wp2_with fail
 go_at_call 138
 refine (HM.out _).mono ?_
 rintro e w1 ⟨rfl, hb1⟩
 have HB1 := Lib.hid (below_tr hp HB.out hb1)
 have HX1 := Lib.hid (keepB HX.out hb1)
 clear hb1 b0 b1 b2 b3 b4 b5 b6 b7 HX HB HM
 obtain ⟨b0, b1, b2, b3, b4, b5, b6, b7⟩ := eight HX1.out
 go_wp2_with fail
 go_at_call 139
 refine (HA1.out w1 (HRlo.out w1 HB1.out)).mono ?_
 rintro e w2 ⟨v2, rfl, ho2, hb2⟩
 have HB2 := Lib.hid (below_tr hp HB1.out hb2)
 have HX2 := Lib.hid (keepB HX1.out hb2)
 have HR2 := Lib.hid (rws_of_own (K := All) ho2 fun _ _ => trivial)
 obtain ⟨a2, c2, rfl, hm3, hm4⟩ := own_form ho2
 clear ho2 hb2 b0 b1 b2 b3 b4 b5 b6 b7 HX1 HB1 HA1 HRlo
 obtain ⟨b0, b1, b2, b3, b4, b5, b6, b7⟩ := eight HX2.out
 by_cases h1 : E1 = 0
 ·have n1 : (E1 != 0) = false := by simp [h1]
  have HE0 : Hid (E = E2) := HE.out.trans (if_pos h1)
  have HV0 : Hid (V = V2) := HV.out.trans (if_pos h1)
  have HA := Lib.hid (HA2.out h1 w2 _ HR2.out)
  clear h1 HA2 HE HV
  go_wp2_with fail
  go_at_call 139
  refine HA.out.mono ?_
  rintro e w3 ⟨v3, rfl, ho3, hb3⟩
  have HO3 := Lib.hid (own_base HB2.out.size ho3)
  have HB3 := Lib.hid (below_tr hp HB2.out hb3)
  obtain ⟨a3, c3, rfl, -, -⟩ := own_form ho3
  clear ho3 hb3 HA b0 b1 b2 b3 b4 b5 b6 b7
  go_wp2
  go_ret2
  exact ⟨_, (by first | (rw [HE0.out]; done) | (rw [HE0.out]; rfl)), by rw [HV0.out]; first | exact HO3.out | (rw [hp]; exact HO3.out), by first | exact HB3.out | (rw [hp]; exact HB3.out)⟩
 ·have n1 : (E1 != 0) = true := by simp [h1]
  have HE0 : Hid (E = E1) := HE.out.trans (if_neg h1)
  have HV0 : Hid (V = []) := HV.out.trans (if_neg h1)
  clear h1 HA2 HE HV
  go_wp2
  go_ret2
  exact ⟨.slice none 0 0, (by first | (rw [HE0.out]; done) | (rw [HE0.out]; rfl)), by rw [HV0.out]; exact own_nil _ _, by first | exact HB2.out | (rw [hp]; exact HB2.out)⟩
end Go.Proofs.YtfoooldkmokjpaaGreatDoor.Ac
end
section
set_option maxRecDepth 100000
namespace Go.Proofs.YtfoooldkmokjpaaGreatDoor.Ac
open Go.RowKit
set_option maxHeartbeats 4000000 in
theorem rget_any (l : List Row) (wh : Tx) (f : Bool) (y : Int) (v : Value) (w : World) (h : RwsAt All w v l) (hl : l.length ≤ 100000) :
  Calls Tryz.prog 19 #[v, .string (mk wh), .bool f, .int .i64 y] w fun e w' => e = .returned (rwv (getV l wh f y)) ∧ Below w.heap.size w w' := by
 have hb1 := below_alloc w (.cells #[.string ⟨#[]⟩, .bool false, .int .i64 0, .int .i64 0, .int .i64 0] TA)
 have HR := Lib.hid (heap_alloc_new w (.cells #[.string ⟨#[]⟩, .bool false, .int .i64 0, .int .i64 0, .int .i64 0] TA))
 have HF := Lib.hid (h.grw hb1)
 have HB := Lib.hid hb1
 obtain ⟨fa, fk, rfl, hm1, hm2⟩ := h.form
 obtain ⟨G, HG⟩ : ∃ G, Hid (getV l wh f y = G) := ⟨_, (rfl : getV l wh f y = _)⟩
 have HG0 : Hid (getV (l.drop 0) wh f y = G) := HG.out
 rw [HG.out]
 clear h hb1 HG
 go_enter Tryz.func19, Tryz.ntmps19
 go_upto_region 1 with fail
 generalize w.alloc (.cells #[.string ⟨#[]⟩, .bool false, .int .i64 0, .int .i64 0, .int .i64 0] TA) = W at *
 generalize hp : w.heap.size = p at *
 go_wp2
 go_loopg [9] (l.length) (fun g s9 wr => ∃ k : Nat, s9 = .int .i64 k ∧ k ≤ l.length ∧ l.length - k ≤ g ∧ wr = W ∧ Hid (getV (l.drop k) wh f y = G))
 case atStart => exact ⟨0, rfl, Nat.zero_le _, by omega, rfl, HG0.out⟩
 case round =>
  obtain ⟨k, rfl, hk, hgk, hwr, HI⟩ := hrel
  rw [hwr]
  clear HG0 hwr wr
  by_cases hlt : k < l.length
  ·have hltz : (k : Int) < (l.length : Int) := by omega
   obtain ⟨b, oo, rfl, -, -, hc⟩ := RwsAt.get HF.out k hlt
   have HI2 : Hid (G = if hit wh f y l[k] = true then l[k] else getV (l.drop (k + 1)) wh f y) := HI.out.symm.trans (by rw [List.drop_eq_getElem_cons hlt]; rfl)
   obtain ⟨x, HX⟩ : ∃ x, Hid (l[k] = x) := ⟨l[k], (rfl : l[k] = l[k])⟩
   rw [HX.out] at HI2 hc
   obtain ⟨x0, x1, x2, x3, x4⟩ := hc
   clear HI HX
   have HE := mk_eqs' x.who wh
   by_cases c1 : x.who = wh
   ·have q1 : ((mk x.who).toList == (mk wh).toList) = true := by rw [HE]; exact decide_eq_true c1
    have HI3 : Hid (G = if x.fam = f ∧ x.year = y then x else getV (l.drop (k + 1)) wh f y) := HI2.out.trans (by
     by_cases c : x.fam = f ∧ x.year = y
     ·rw [if_pos c, if_pos ((hit_iff _ _ _ _).2 ⟨c1, c⟩)]
     ·rw [if_neg c, if_neg (fun e => c ((hit_iff _ _ _ _).1 e).2)])
    clear HI2 HE c1
    by_cases c2 : x.fam = f
    ·have q2 : (x.fam == f) = true := by simp [c2]
     by_cases c3 : x.year = y
     ·have q3 : (x.year == y) = true := by simp [c3]
      have hG : G = x := HI3.out.trans (if_pos ⟨c2, c3⟩)
      clear HI3 c2 c3
      subst hG
      obtain ⟨r0, r1, r2, r3, r4⟩ := cells5 HR.out
      obtain ⟨t0, t1, t2, t3, t4⟩ := frz5 HR.out
      have HXF : Hid ((((((W.setCell ⟨p, 0, none⟩ (.string (mk G.who))).setCell ⟨p, 1, none⟩ (.bool G.fam)).setCell ⟨p, 2, none⟩ (.int .i64 G.year)).setCell ⟨p, 3, none⟩ (.int .i64 G.de)).setCell ⟨p, 4, none⟩ (.int .i64 G.oo)).heap[p]? = some (.cells #[.string (mk G.who), .bool G.fam, .int .i64 G.year, .int .i64 G.de, .int .i64 G.oo] TA (0, 0))) := put5_heap HR.out
      have HBF : Hid (Below p w (((((W.setCell ⟨p, 0, none⟩ (.string (mk G.who))).setCell ⟨p, 1, none⟩ (.bool G.fam)).setCell ⟨p, 2, none⟩ (.int .i64 G.year)).setCell ⟨p, 3, none⟩ (.int .i64 G.de)).setCell ⟨p, 4, none⟩ (.int .i64 G.oo))) := put5_below HB.out p (Nat.le_refl _) _ _ _ _ _
      go_wp2
      clear r0 r1 r2 r3 r4 t0 t1 t2 t3 t4 x0 x1 x2 x3 x4
      generalize (((((W.setCell ⟨p, 0, none⟩ (.string (mk G.who))).setCell ⟨p, 1, none⟩ (.bool G.fam)).setCell ⟨p, 2, none⟩ (.int .i64 G.year)).setCell ⟨p, 3, none⟩ (.int .i64 G.de)).setCell ⟨p, 4, none⟩ (.int .i64 G.oo)) = WF at *
      obtain ⟨r0, r1, r2, r3, r4⟩ := cells5 HXF.out
      refine bodyPost_ret (v := rwv G) (by simp [results, Tryz.results19, go_sem, r0, r1, r2, r3, r4]) rfl ?_
      exact ⟨rfl, by first | exact HBF.out | (rw [hp]; exact HBF.out)⟩
     ·have q3 : (x.year == y) = false := by simp [c3]
      have HI4 : Hid (getV (l.drop (k + 1)) wh f y = G) := (HI3.out.trans (if_neg fun c => c3 c.2)).symm
      clear HI3 c2 c3
      go_wp2
      go_roundg (l.length - (k + 1))
      case measure => omega
      case rel => exact ⟨k + 1, by first | rfl | go_num | (congr 1; omega), by omega, by omega, rfl, HI4.out⟩
    ·have q2 : (x.fam == f) = false := by simp [c2]
     have HI4 : Hid (getV (l.drop (k + 1)) wh f y = G) := (HI3.out.trans (if_neg fun c => c2 c.1)).symm
     clear HI3 c2
     go_wp2
     go_roundg (l.length - (k + 1))
     case measure => omega
     case rel => exact ⟨k + 1, by first | rfl | go_num | (congr 1; omega), by omega, by omega, rfl, HI4.out⟩
   ·have q1 : ((mk x.who).toList == (mk wh).toList) = false := by rw [HE]; exact decide_eq_false c1
    have HI4 : Hid (getV (l.drop (k + 1)) wh f y = G) := (HI2.out.trans (if_neg fun e => c1 ((hit_iff _ _ _ _).1 e).1)).symm
    clear HI2 HE c1
    go_wp2
    go_roundg (l.length - (k + 1))
    case measure => omega
    case rel => exact ⟨k + 1, by first | rfl | go_num | (congr 1; omega), by omega, by omega, rfl, HI4.out⟩
  ·have hltz : ¬ (k : Int) < (l.length : Int) := by omega
   have hG : G = ⟨wh, f, y, 0, 0⟩ := HI.out.symm.trans (by rw [List.drop_eq_nil_of_le (by omega)]; rfl)
   clear HI
   subst hG
   obtain ⟨r0, r1, r2, r3, r4⟩ := cells5 HR.out
   obtain ⟨t0, t1, t2, t3, t4⟩ := frz5 HR.out
   have HXF : Hid ((((((W.setCell ⟨p, 0, none⟩ (.string (mk wh))).setCell ⟨p, 1, none⟩ (.bool f)).setCell ⟨p, 2, none⟩ (.int .i64 y)).setCell ⟨p, 3, none⟩ (.int .i64 0)).setCell ⟨p, 4, none⟩ (.int .i64 0)).heap[p]? = some (.cells #[.string (mk wh), .bool f, .int .i64 y, .int .i64 0, .int .i64 0] TA (0, 0))) := put5_heap HR.out
   have HBF : Hid (Below p w (((((W.setCell ⟨p, 0, none⟩ (.string (mk wh))).setCell ⟨p, 1, none⟩ (.bool f)).setCell ⟨p, 2, none⟩ (.int .i64 y)).setCell ⟨p, 3, none⟩ (.int .i64 0)).setCell ⟨p, 4, none⟩ (.int .i64 0))) := put5_below HB.out p (Nat.le_refl _) _ _ _ _ _
   go_wp2
   clear r0 r1 r2 r3 r4 t0 t1 t2 t3 t4
   generalize (((((W.setCell ⟨p, 0, none⟩ (.string (mk wh))).setCell ⟨p, 1, none⟩ (.bool f)).setCell ⟨p, 2, none⟩ (.int .i64 y)).setCell ⟨p, 3, none⟩ (.int .i64 0)).setCell ⟨p, 4, none⟩ (.int .i64 0)) = WF at *
   obtain ⟨r0, r1, r2, r3, r4⟩ := cells5 HXF.out
   refine bodyPost_ret (v := .agg #[.string (mk wh), .bool f, .int .i64 y, .int .i64 0, .int .i64 0]) (by simp [results, Tryz.results19, go_sem, r0, r1, r2, r3, r4]) rfl ?_
   exact ⟨rfl, by first | exact HBF.out | (rw [hp]; exact HBF.out)⟩
end Go.Proofs.YtfoooldkmokjpaaGreatDoor.Ac
end
section
set_option maxRecDepth 100000
namespace Go.Proofs.YtfoooldkmokjpaaGreatDoor.Ac
open Go.RowKit
end Go.Proofs.YtfoooldkmokjpaaGreatDoor.Ac
end
