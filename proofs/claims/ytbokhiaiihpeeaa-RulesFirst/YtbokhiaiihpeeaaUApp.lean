/-
  Whether a rule applies: rules.Applies, as a contract. (Written by gen_app.py.)
-/
import Derived.Test.YtbokhiaiihpeeaaUHolds
import Derived.Test.YtbokhiaiihpeeaaUBox
import Derived.Test.YtbokhiaiihpeeaaRInv
set_option linter.unusedSimpArgs false
set_option linter.unusedVariables false
set_option maxRecDepth 100000
namespace Go.Proofs.Ytbokhiaiihpeeaa.Ul
open Go.RowKit
open Pl (Cd St Ru Pn KsAt StsAt RusAt RuIn Ok1 cdv stv ruv pnv below_alloc below_trans bfive bsix beight below_tr)
open Wo (box_cell box_two keepB heap_far)
open Cm (Ln)

set_option maxHeartbeats 8000000 in
theorem app_any (x : Ln) (net : Int) (ml : Value) (r : Ru) (k u s : Value) (w : World) (h : RuIn All w r k u s) (hx : TxAt All w ml x.mods) :
    Calls Try.prog 13 #[ruv r k u s, lnv x ml, .int .i64 net] w fun e w' => e = .returned (.bool (appB x net r)) ∧ Below w.heap.size w w' := by
  obtain ⟨T, HT⟩ : ∃ T, Hid (appB x net r = T) := ⟨_, rfl⟩
  rw [HT.out]
  obtain ⟨hb, hz1, hz2⟩ := box_rl w r k u s x ml
  have HB := Lib.hid hb
  have HX := Lib.hid hz1
  have HL := Lib.hid hz2
  have HM := Lib.hid (tx_grw hx hb)
  obtain ⟨-, -, -, hk, hu, hs⟩ := h
  have HC0 := Lib.hid (hold_any x net ml _ r.cif (Nat.lt_succ_self _) _ _ (hk.grw hb) (tx_grw hx hb))
  have HU := Lib.hid (hu.grw hb)
  obtain ⟨ka, kc, rfl, -, -⟩ := hk.form
  obtain ⟨ua, uc, rfl, hu1, hu2⟩ := hu.form
  obtain ⟨sa, sc, rfl, hs1, hs2, -⟩ := hs.form
  have HCA := Lib.hid fun (c : Cd) (m : Value) (W : World) (h1 : KsAt All W m c.kids) (h2 : TxAt All W ml x.mods) => hold_any x net ml _ c (Nat.lt_succ_self _) m W h1 h2
  obtain ⟨la, lk, rfl, hl1, hl2⟩ := tx_form hx
  unfold HoldsC at HC0 HCA
  clear hk hu hs hx hb hz1 hz2
  go_enter Try.func13, Try.ntmps13
  go_upto_region 1 with fail
  generalize (w.alloc (.cells #[.int .i64 r.rank, .int .i64 r.cif.kind, .string (mk r.cif.lo), .string (mk r.cif.hi), .int .i64 r.cif.n, .slice ka r.cif.kids.length kc, .slice ua r.unl.length uc, .slice sa r.sets.length sc] 27)).alloc (.cells #[.string (mk x.proc), .slice la x.mods.length lk, .int .i64 x.date, .int .i64 x.units, .int .i64 x.billed, .int .i64 x.prior] 30) = W at *
  generalize hp : w.heap.size = p at *
  obtain ⟨q, hq⟩ : ∃ q, q = p + 1 := ⟨_, rfl⟩
  rw [← hq] at HL ⊢
  clear hq
  obtain ⟨x0, x1, x2, x3, x4, x5, x6, x7⟩ := beight HX.out
  obtain ⟨y0, y1, y2, y3, y4, y5⟩ := bsix HL.out
  go_wp2_with fail
  go_at_call 11
  refine HC0.out.mono ?_
  rintro e w1 ⟨rfl, hb1⟩
  have HB1 := Lib.hid (below_tr hp HB.out hb1)
  have HX1 := Lib.hid (keepB HX.out hb1)
  have HL1 := Lib.hid (keepB HL.out hb1)
  have HM1 := Lib.hid (tx_grw HM.out hb1)
  have HU1 := Lib.hid (HU.out.grw hb1)
  have HW0 := Lib.hid (Below.refl w1.heap.size w1)
  have HXK := Lib.hid fun W' (hW : Below w1.heap.size w1 W') => And.intro (beight (keepB HX1.out hW)) (bsix (keepB HL1.out hW))
  clear hb1 HC0 HX HL HM HU x0 x1 x2 x3 x4 x5 x6 x7 y0 y1 y2 y3 y4 y5 HB
  obtain ⟨x0, x1, x2, x3, x4, x5, x6, x7⟩ := beight HX1.out
  obtain ⟨y0, y1, y2, y3, y4, y5⟩ := bsix HL1.out
  cases hc : holdsB x net r.cif
  · have HR : Hid (T = false) := by show _ = _; rw [← HT.out]; unfold appB; rw [hc]; rfl
    clear HT HXK HCA hc
    go_wp2
    go_ret
    exact ⟨by first | rfl | (rw [HR.out]; rfl), by first | exact below_tr hp HB1.out HW0.out | (rw [hp]; exact below_tr hp HB1.out HW0.out)⟩
  have HTE : Hid (T = !r.unl.any (holdsB x net)) := by show _ = _; rw [← HT.out]; unfold appB; rw [hc]; rfl
  clear HT hc
  go_wp2
  go_loopg [18] (r.unl.length) (fun g i wr => ∃ j : Nat, j ≤ r.unl.length ∧ g = r.unl.length - j ∧ i = .int .i64 j ∧ Hid (Below w1.heap.size w1 wr) ∧ Hid ((r.unl.take j).any (holdsB x net) = false))
  case atStart => exact ⟨0, Nat.zero_le _, rfl, rfl, HW0.out, rfl⟩
  case round =>
    clear x0 x1 x2 x3 x4 x5 x6 x7 y0 y1 y2 y3 y4 y5 HW0
    obtain ⟨j, hj, hgk, rfl, HBr, HA⟩ := hrel
    obtain ⟨⟨x0, x1, x2, x3, x4, x5, x6, x7⟩, ⟨y0, y1, y2, y3, y4, y5⟩⟩ := HXK.out _ HBr.out
    by_cases hlt : j < r.unl.length
    case neg =>
      have HR : Hid (T = true) := by
        show _ = _
        have h := HA.out
        rw [List.take_of_length_le (by omega)] at h
        rw [HTE.out, h]; rfl
      clear HA
      go_wp2
      go_ret
      exact ⟨by first | rfl | (rw [HR.out]; rfl), by first | exact below_tr hp HB1.out HBr.out | (rw [hp]; exact below_tr hp HB1.out HBr.out)⟩
    obtain ⟨b, o, mv, rfl, hbs, hxx, hcc, hkk, hok⟩ := KsAt.get (HU1.out.grw HBr.out) j hlt
    obtain ⟨z0, z1, z2, z3, z4⟩ := hcc
    have hbz := below_alloc wr (.cells #[.int .i64 r.unl[j].kind, .string (mk r.unl[j].lo), .string (mk r.unl[j].hi), .int .i64 r.unl[j].n, mv] 24)
    have HC := Lib.hid (HCA.out r.unl[j] mv _ (hkk.grw hbz) (tx_grw HM1.out (below_trans HBr.out hbz)))
    obtain ⟨na, nc, rfl, -, -⟩ := hkk.form
    have HBz := Lib.hid (below_trans HBr.out hbz)
    have HLz := Lib.hid (HXK.out _ (below_trans HBr.out hbz)).2
    have HZ := Lib.hid (heap_alloc_new wr (.cells #[.int .i64 r.unl[j].kind, .string (mk r.unl[j].lo), .string (mk r.unl[j].hi), .int .i64 r.unl[j].n, .slice na r.unl[j].kids.length nc] 24))
    have HHit := Lib.hid fun e => any_hitC (holdsB x net) r.unl j _ hxx e
    have HSn := Lib.hid fun e => any_snocC (holdsB x net) r.unl j _ hxx HA.out e
    clear hkk hok hxx hbz HA
    generalize r.unl[j] = kd at *
    go_upto_region 6 with fail
    clear x0 x1 x2 x3 x4 x5 x6 x7 y0 y1 y2 y3 y4 y5 z0 z1 z2 z3 z4
    generalize wr.alloc (.cells #[.int .i64 kd.kind, .string (mk kd.lo), .string (mk kd.hi), .int .i64 kd.n, .slice na kd.kids.length nc] 24) = W3 at *
    generalize wr.heap.size = p3 at *
    obtain ⟨y0, y1, y2, y3, y4, y5⟩ := HLz.out
    obtain ⟨z0, z1, z2, z3, z4⟩ := bfive HZ.out
    cases hq : holdsB x net kd
    all_goals
      rw [hq] at HC
      go_wp2_with (go_at_call 11; refine HC.out.mono ?_; rintro e w3 ⟨rfl, hb3⟩; have HB3 := Lib.hid (below_trans HBz.out hb3); clear hb3)
    · go_roundg (r.unl.length - (j + 1))
      case rel => exact ⟨j + 1, by omega, rfl, by go_num, HB3.out, HSn.out hq⟩
      case measure => omega
    · have HR : Hid (T = false) := by show _ = _; rw [HTE.out, HHit.out hq]; rfl
      go_ret
      exact ⟨by first | rfl | (rw [HR.out]; rfl), by first | exact below_tr hp HB1.out HB3.out | (rw [hp]; exact below_tr hp HB1.out HB3.out)⟩
end Go.Proofs.Ytbokhiaiihpeeaa.Ul
