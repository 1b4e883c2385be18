/-
  Whether a rule applies: the reference's Applies, as a contract. (Written by gen_app.py.)
-/
import Derived.Test.YtbokhiaiihpeeaaURHolds
import Derived.Test.YtbokhiaiihpeeaaUBox
import Derived.Test.YtbokhiaiihpeeaaRInv
set_option linter.unusedSimpArgs false
set_option linter.unusedVariables false
set_option maxRecDepth 100000
namespace Go.Proofs.Ytbokhiaiihpeeaa.Ul
open Go.RowKit
open Pl (Cd St Ru Pn KsAt StsAt RusAt RuIn Ok1 cdv stv ruv pnv below_alloc below_trans bfive bsix beight below_tr)
open Wo (box_cell box_two keepB heap_far)
open Cm (Ln)

set_option maxHeartbeats 8000000 in
theorem rapp_any (x : Ln) (net : Int) (ml : Value) (r : Ru) (k u s : Value) (w : World) (h : RuIn All w r k u s) (hx : TxAt All w ml x.mods) :
    Calls Try.prog 14 #[ruv r k u s, lnv x ml, .int .i64 net] w fun e w' => e = .returned (.bool (appB x net r)) ∧ Below w.heap.size w w' := by
  obtain ⟨T, HT⟩ : ∃ T, Hid (appB x net r = T) := ⟨_, rfl⟩
  rw [HT.out]
  obtain ⟨hb, hz1, hz2⟩ := box_rl w r k u s x ml
  have HB := Lib.hid hb
  have HX := Lib.hid hz1
  have HL := Lib.hid hz2
  have HM := Lib.hid (tx_grw hx hb)
  obtain ⟨-, -, -, hk, hu, hs⟩ := h
  have HC0 := Lib.hid (rhold_any x net ml _ r.cif (Nat.lt_succ_self _) _ _ (hk.grw hb) (tx_grw hx hb))
  have HU := Lib.hid (hu.grw hb)
  obtain ⟨ka, kc, rfl, -, -⟩ := hk.form
  obtain ⟨ua, uc, rfl, hu1, hu2⟩ := hu.form
  obtain ⟨sa, sc, rfl, hs1, hs2, -⟩ := hs.form
  have HCA := Lib.hid fun (c : Cd) (m : Value) (W : World) (h1 : KsAt All W m c.kids) (h2 : TxAt All W ml x.mods) => rhold_any x net ml _ c (Nat.lt_succ_self _) m W h1 h2
  obtain ⟨la, lk, rfl, hl1, hl2⟩ := tx_form hx
  unfold RHoldsC at HC0 HCA
  clear hk hu hs hx hb hz1 hz2
  go_enter Try.func14, Try.ntmps14
  go_upto_region 1 with fail
  generalize (w.alloc (.cells #[.int .i64 r.rank, .int .i64 r.cif.kind, .string (mk r.cif.lo), .string (mk r.cif.hi), .int .i64 r.cif.n, .slice ka r.cif.kids.length kc, .slice ua r.unl.length uc, .slice sa r.sets.length sc] 27)).alloc (.cells #[.string (mk x.proc), .slice la x.mods.length lk, .int .i64 x.date, .int .i64 x.units, .int .i64 x.billed, .int .i64 x.prior] 30) = W at *
  generalize hp : w.heap.size = p at *
  obtain ⟨q, hq⟩ : ∃ q, q = p + 1 := ⟨_, rfl⟩
  rw [← hq] at HL ⊢
  clear hq
  obtain ⟨x0, x1, x2, x3, x4, x5, x6, x7⟩ := beight HX.out
  obtain ⟨y0, y1, y2, y3, y4, y5⟩ := bsix HL.out
  go_wp2_with fail
  go_at_call 12
  refine HC0.out.mono ?_
  rintro e w1 ⟨rfl, hb1⟩
  have HB1 := Lib.hid (below_tr hp HB.out hb1)
  have HX1 := Lib.hid (keepB HX.out hb1)
  have HL1 := Lib.hid (keepB HL.out hb1)
  have HM1 := Lib.hid (tx_grw HM.out hb1)
  have HU1 := Lib.hid (HU.out.grw hb1)
  have HW0 := Lib.hid (Below.refl w1.heap.size w1)
  have HXK := Lib.hid fun W' (hW : Below w1.heap.size w1 W') => And.intro (beight (keepB HX1.out hW)) (bsix (keepB HL1.out hW))
  clear hb1 HC0 HX HL HM HU x0 x1 x2 x3 x4 x5 x6 x7 y0 y1 y2 y3 y4 y5 HB
  obtain ⟨x0, x1, x2, x3, x4, x5, x6, x7⟩ := beight HX1.out
  obtain ⟨y0, y1, y2, y3, y4, y5⟩ := bsix HL1.out
  have HTE : Hid (T = (holdsB x net r.cif && !r.unl.any (holdsB x net))) := by show _ = _; rw [← HT.out]; rfl
  clear HT
  go_wp2
  go_loopg [7, 8] (r.unl.length) (fun g ok i wr => ∃ (j : Nat) (Q : Bool), j ≤ r.unl.length ∧ g = r.unl.length - j ∧ ok = .bool Q ∧ i = .int .i64 j ∧ Hid (Below w1.heap.size w1 wr) ∧ Hid (Q = (holdsB x net r.cif && !(r.unl.take j).any (holdsB x net))))
  case atStart => exact ⟨0, _, Nat.zero_le _, rfl, rfl, rfl, HW0.out, by show _ = _; simp⟩
  case round =>
    clear x0 x1 x2 x3 x4 x5 x6 x7 y0 y1 y2 y3 y4 y5 HW0
    obtain ⟨j, Q, hj, hgk, rfl, rfl, HBr, HA⟩ := hrel
    obtain ⟨⟨x0, x1, x2, x3, x4, x5, x6, x7⟩, ⟨y0, y1, y2, y3, y4, y5⟩⟩ := HXK.out _ HBr.out
    by_cases hlt : j < r.unl.length
    case neg =>
      have HR : Hid (Q = T) := by
        show _ = _
        have h := HA.out
        rw [List.take_of_length_le (by omega)] at h
        rw [HTE.out, h]
      clear HA
      go_wp2
      go_ret
      exact ⟨by first | rfl | (rw [← HR.out]; rfl), by first | exact below_tr hp HB1.out HBr.out | (rw [hp]; exact below_tr hp HB1.out HBr.out)⟩
    obtain ⟨b, o, mv, rfl, hbs, hxx, hcc, hkk, hok⟩ := KsAt.get (HU1.out.grw HBr.out) j hlt
    have HC := Lib.hid fun W' (hW : Below wr.heap.size wr W') => HCA.out r.unl[j] mv W' (hkk.grw hW) (tx_grw HM1.out (below_trans HBr.out hW))
    have HXL := Lib.hid fun W' (hW : Below wr.heap.size wr W') => And.intro (HXK.out W' (below_trans HBr.out hW)) (hcc.of (hW.block b hbs))
    obtain ⟨na, nc, rfl, -, -⟩ := hkk.form
    have HSn := Lib.hid (any_more (holdsB x net) r.unl j _ hxx)
    have HD := Lib.hid (Below.drew (Below.refl wr.heap.size wr))
    clear hkk hok hxx hcc hbs
    generalize r.unl[j] = kd at *
    unfold Pl.CdCells at HXL
    go_upto_region 5 with fail
    clear x0 x1 x2 x3 x4 x5 x6 x7 y0 y1 y2 y3 y4 y5
    go_cut [28] (fun s wx => s = .bool (holdsB x net kd) ∧ Hid (Below wr.heap.size wr wx))
    case first =>
      refine Ri.wp_region_lasting (by kernel_rfl) (by kernel_rfl) (by kernel_rfl) (fun Wx => Below wr.heap.size wr Wx) (fun kz vs wz => (fun kx vx wx => match kx with | 0 => vx = .pointer (some ⟨p, 6, none⟩) | 1 => vx = .slice (some ⟨b, o, none⟩) r.unl.length uc | 2 => vx = .int .i64 (j : Nat) | 3 => vx = .pointer (some ⟨b, o + j * 5, none⟩) | 4 => vx = cdv kd (.slice na kd.kids.length nc) | 5 => vx = lnv x (.slice la x.mods.length lk) | 6 => vx = .int .i64 net | 7 => vx = .bool (holdsB x net kd) | _ => True : Nat → Value → World → Prop) kz (vs kz) wz) (fun kz => [kz]) (by kernel_rfl) (fun jz vs iz vz wz hiz hz => Ri.loc_own (F := (fun kx vx wx => match kx with | 0 => vx = .pointer (some ⟨p, 6, none⟩) | 1 => vx = .slice (some ⟨b, o, none⟩) r.unl.length uc | 2 => vx = .int .i64 (j : Nat) | 3 => vx = .pointer (some ⟨b, o + j * 5, none⟩) | 4 => vx = cdv kd (.slice na kd.kids.length nc) | 5 => vx = lnv x (.slice la x.mods.length lk) | 6 => vx = .int .i64 net | 7 => vx = .bool (holdsB x net kd) | _ => True : Nat → Value → World → Prop)) jz vs iz vz wz hiz hz) HD.out ⟨⟨rfl, ?_⟩, ⟨rfl, ?_⟩, ⟨rfl, ?_⟩, ⟨rfl, ?_⟩, ⟨rfl, ?_⟩, ⟨rfl, ?_⟩, ⟨rfl, ?_⟩, ⟨rfl, ?_⟩, trivial⟩ ?_
      · intro vs Wx A hA hB hpre K hK
        have e3 := (hA 3).trans (show _ = Value.pointer (some ⟨p, 0, none⟩) by kernel_rfl)
        clear hA hpre
        go_simp
        first | exact hK _ _ hB rfl (fun _ _ h => h) | exact hK _ _ hB trivial (fun _ _ h => h) | (rw [if_neg (by omega)]; go_simp; exact hK _ _ hB rfl (fun _ _ h => h))
      · intro vs Wx A hA hB hpre K hK
        have e21 := ((hA 21).trans (show _ = vs 0 by kernel_rfl)).trans (by first | exact hpre.1 rfl | exact hpre.2.1 rfl | exact hpre.2.2.1 rfl | exact hpre.2.2.2.1 rfl | exact hpre.2.2.2.2.1 rfl | exact hpre.2.2.2.2.2.1 rfl | exact hpre.2.2.2.2.2.2.1 rfl | exact hpre.2.2.2.2.2.2.2.1 rfl | exact hpre.2.2.2.2.2.2.2.2.1 rfl | exact hpre.2.2.2.2.2.2.2.2.2.1 rfl)
        obtain ⟨⟨⟨x0, x1, x2, x3, x4, x5, x6, x7⟩, ⟨y0, y1, y2, y3, y4, y5⟩⟩, z0, z1, z2, z3, z4⟩ := HXL.out Wx hB
        clear hA hpre
        go_simp
        first | exact hK _ _ hB rfl (fun _ _ h => h) | exact hK _ _ hB trivial (fun _ _ h => h) | (rw [if_neg (by omega)]; go_simp; exact hK _ _ hB rfl (fun _ _ h => h))
      · intro vs Wx A hA hB hpre K hK
        have e8 := (hA 8).trans (show _ = Value.int .i64 (j : Nat) by kernel_rfl)
        clear hA hpre
        go_simp
        first | exact hK _ _ hB rfl (fun _ _ h => h) | exact hK _ _ hB trivial (fun _ _ h => h) | (rw [if_neg (by omega)]; go_simp; exact hK _ _ hB rfl (fun _ _ h => h))
      · intro vs Wx A hA hB hpre K hK
        have e22 := ((hA 22).trans (show _ = vs 1 by kernel_rfl)).trans (by first | exact hpre.1 rfl | exact hpre.2.1 rfl | exact hpre.2.2.1 rfl | exact hpre.2.2.2.1 rfl | exact hpre.2.2.2.2.1 rfl | exact hpre.2.2.2.2.2.1 rfl | exact hpre.2.2.2.2.2.2.1 rfl | exact hpre.2.2.2.2.2.2.2.1 rfl | exact hpre.2.2.2.2.2.2.2.2.1 rfl | exact hpre.2.2.2.2.2.2.2.2.2.1 rfl)
        have e23 := ((hA 23).trans (show _ = vs 2 by kernel_rfl)).trans (by first | exact hpre.1 rfl | exact hpre.2.1 rfl | exact hpre.2.2.1 rfl | exact hpre.2.2.2.1 rfl | exact hpre.2.2.2.2.1 rfl | exact hpre.2.2.2.2.2.1 rfl | exact hpre.2.2.2.2.2.2.1 rfl | exact hpre.2.2.2.2.2.2.2.1 rfl | exact hpre.2.2.2.2.2.2.2.2.1 rfl | exact hpre.2.2.2.2.2.2.2.2.2.1 rfl)
        clear hA hpre
        go_simp
        first | exact hK _ _ hB rfl (fun _ _ h => h) | exact hK _ _ hB trivial (fun _ _ h => h) | (rw [if_neg (by omega)]; go_simp; exact hK _ _ hB rfl (fun _ _ h => h))
      · intro vs Wx A hA hB hpre K hK
        have e24 := ((hA 24).trans (show _ = vs 3 by kernel_rfl)).trans (by first | exact hpre.1 rfl | exact hpre.2.1 rfl | exact hpre.2.2.1 rfl | exact hpre.2.2.2.1 rfl | exact hpre.2.2.2.2.1 rfl | exact hpre.2.2.2.2.2.1 rfl | exact hpre.2.2.2.2.2.2.1 rfl | exact hpre.2.2.2.2.2.2.2.1 rfl | exact hpre.2.2.2.2.2.2.2.2.1 rfl | exact hpre.2.2.2.2.2.2.2.2.2.1 rfl)
        obtain ⟨⟨⟨x0, x1, x2, x3, x4, x5, x6, x7⟩, ⟨y0, y1, y2, y3, y4, y5⟩⟩, z0, z1, z2, z3, z4⟩ := HXL.out Wx hB
        clear hA hpre
        go_simp
        first | exact hK _ _ hB rfl (fun _ _ h => h) | exact hK _ _ hB trivial (fun _ _ h => h) | (rw [if_neg (by omega)]; go_simp; exact hK _ _ hB rfl (fun _ _ h => h))
      · intro vs Wx A hA hB hpre K hK
        have e4 := (hA 4).trans (show _ = Value.pointer (some ⟨q, 0, none⟩) by kernel_rfl)
        obtain ⟨⟨⟨x0, x1, x2, x3, x4, x5, x6, x7⟩, ⟨y0, y1, y2, y3, y4, y5⟩⟩, z0, z1, z2, z3, z4⟩ := HXL.out Wx hB
        clear hA hpre
        go_simp
        first | exact hK _ _ hB rfl (fun _ _ h => h) | exact hK _ _ hB trivial (fun _ _ h => h) | (rw [if_neg (by omega)]; go_simp; exact hK _ _ hB rfl (fun _ _ h => h))
      · intro vs Wx A hA hB hpre K hK
        have e2 := (hA 2).trans (show _ = Value.int .i64 net by kernel_rfl)
        clear hA hpre
        go_simp
        first | exact hK _ _ hB rfl (fun _ _ h => h) | exact hK _ _ hB trivial (fun _ _ h => h) | (rw [if_neg (by omega)]; go_simp; exact hK _ _ hB rfl (fun _ _ h => h))
      · intro vs Wx A hA hB hpre K hK
        have e25 := ((hA 25).trans (show _ = vs 4 by kernel_rfl)).trans (by first | exact hpre.1 rfl | exact hpre.2.1 rfl | exact hpre.2.2.1 rfl | exact hpre.2.2.2.1 rfl | exact hpre.2.2.2.2.1 rfl | exact hpre.2.2.2.2.2.1 rfl | exact hpre.2.2.2.2.2.2.1 rfl | exact hpre.2.2.2.2.2.2.2.1 rfl | exact hpre.2.2.2.2.2.2.2.2.1 rfl | exact hpre.2.2.2.2.2.2.2.2.2.1 rfl)
        have e26 := ((hA 26).trans (show _ = vs 5 by kernel_rfl)).trans (by first | exact hpre.1 rfl | exact hpre.2.1 rfl | exact hpre.2.2.1 rfl | exact hpre.2.2.2.1 rfl | exact hpre.2.2.2.2.1 rfl | exact hpre.2.2.2.2.2.1 rfl | exact hpre.2.2.2.2.2.2.1 rfl | exact hpre.2.2.2.2.2.2.2.1 rfl | exact hpre.2.2.2.2.2.2.2.2.1 rfl | exact hpre.2.2.2.2.2.2.2.2.2.1 rfl)
        have e27 := ((hA 27).trans (show _ = vs 6 by kernel_rfl)).trans (by first | exact hpre.1 rfl | exact hpre.2.1 rfl | exact hpre.2.2.1 rfl | exact hpre.2.2.2.1 rfl | exact hpre.2.2.2.2.1 rfl | exact hpre.2.2.2.2.2.1 rfl | exact hpre.2.2.2.2.2.2.1 rfl | exact hpre.2.2.2.2.2.2.2.1 rfl | exact hpre.2.2.2.2.2.2.2.2.1 rfl | exact hpre.2.2.2.2.2.2.2.2.2.1 rfl)
        clear hA hpre
        go_simp
        go_at_call 12
        refine (HC.out _ hB).mono ?_
        rintro e w3 ⟨rfl, hb3⟩
        exact hK _ _ (below_trans hB hb3) rfl (fun _ _ h => h)
      · intro vs Wx hB hF
        have h28 : vs 7 = .bool (holdsB x net kd) := hF 7 (by decide)
        have HBW := Lib.hid hB
        clear hF hB
        simp only [Ri.puts]
        go_simp
        go_wp2_with fail
        go_meet
        exact ⟨by first | rfl | exact h28, HBW.out⟩
    case rest =>
      obtain ⟨rfl, HBx⟩ := hcut
      have HBn := Lib.hid (below_trans HBr.out HBx.out)
      clear HC HXL HXK
      cases hq : holdsB x net kd
      · go_wp2
        go_roundg (r.unl.length - (j + 1))
        case rel => exact ⟨j + 1, Q, by omega, rfl, by first | rfl | go_num, by go_num, HBn.out, by show _ = _; rw [HSn.out, hq, Bool.or_false]; exact HA.out⟩
        case measure => omega
      · go_wp2
        go_roundg (r.unl.length - (j + 1))
        case rel => exact ⟨j + 1, false, by omega, rfl, by first | rfl | go_num, by go_num, HBn.out, by show _ = _; rw [HSn.out, hq, Bool.or_true]; simp⟩
        case measure => omega
end Go.Proofs.Ytbokhiaiihpeeaa.Ul
