/-
  What a plan says of a service: the reference's Resolve, as a contract. (Written by gen_res.py.)
-/
import Derived.Test.YtbokhiaiihpeeaaURVal
import Derived.Test.YtbokhiaiihpeeaaRInvB
set_option linter.unusedSimpArgs false
set_option linter.unusedVariables false
set_option maxRecDepth 100000
namespace Go.Proofs.Ytbokhiaiihpeeaa.Ul
open Go.RowKit
open Pl (Cd St Ru Pn KsAt StsAt RusAt RuIn Ok1 cdv stv ruv pnv below_alloc below_trans bfive bsix beight below_tr)
open Wo (box_cell box_two keepB heap_far)
open Cm (Ln)

set_option maxHeartbeats 16000000 in
theorem rres_any (p : Pn) (m : Value) (x : Ln) (ml : Value) (net : Int) (w : World) (h : RusAt All w m p.rules) (hx : TxAt All w ml x.mods) :
    Calls Try.prog 16 #[pnv p m, lnv x ml, .int .i64 net] w fun e w' => e = .returned (benV x net p.rules) ∧ Below w.heap.size w w' := by
  obtain ⟨hb, hz1, hz2, hz3, hsz⟩ := box_plb w p m x ml
  have HB := Lib.hid hb
  have HX := Lib.hid hz1
  have HL := Lib.hid hz2
  have HR := Lib.hid hz3
  have HRu := Lib.hid (lo_rus (q := w.heap.size + 2) h hb (by omega))
  have HMx := Lib.hid (lo_tx (q := w.heap.size + 2) hx hb (by omega))
  obtain ⟨ma, mc, rfl, hm1, hm2, hm3⟩ := h.form
  have hm3 : p.rules.length ≤ 281474976710656 := hm3
  obtain ⟨la, lk, rfl, hl1, hl2⟩ := tx_form hx
  clear h hx hb hz1 hz2 hz3 hsz
  go_enter Try.func16, Try.ntmps16
  go_upto_region 1 with fail
  generalize ((w.alloc (.cells #[.int .i64 p.mode, .int .i64 p.indDed, .int .i64 p.famDed, .int .i64 p.indOop, .int .i64 p.famOop, .slice ma p.rules.length mc] 34)).alloc (.cells #[.string (mk x.proc), .slice la x.mods.length lk, .int .i64 x.date, .int .i64 x.units, .int .i64 x.billed, .int .i64 x.prior] 30)).alloc (.cells #[.bool false, .bool false, .int .i64 0, .int .i64 0] 39) = W at *
  generalize hp : w.heap.size = p0 at *
  obtain ⟨q1, hq1⟩ : ∃ q1, q1 = p0 + 1 := ⟨_, rfl⟩
  obtain ⟨rb, hrb⟩ : ∃ rb, rb = q1 + 1 := ⟨_, rfl⟩
  rw [← hq1] at HL ⊢
  rw [← hrb]
  rw [show p0 + 2 = rb by omega] at HR HRu HMx
  have HP0 : Hid (p0 < rb ∧ q1 < rb ∧ p0 ≤ rb) := ⟨by omega, by omega, by omega⟩
  clear hq1 hrb
  have HXK := Lib.hid fun W' (hW : Below rb W W') => And.intro (bsix (keepLo HX.out hW HP0.out.1)) (bsix (keepLo HL.out hW HP0.out.2.1))
  have HV := Lib.hid fun (k : Int) W' (hW : Below rb W W') => rval_any p _ x _ net k W' (all_rus HRu.out hW) (all_tx HMx.out hW)
  have HD : Hid ((fun Wx => Below rb W Wx ∧ ∃ c0 c1 c2 c3, Wx.heap[rb]? = some (.cells #[c0, c1, c2, c3] 39 (0, 0))) W.drew) := ⟨Below.drew (Below.refl rb W), _, _, _, _, HR.out⟩
  refine Ri.wp_region_lastingB (by kernel_rfl) (by kernel_rfl) (by kernel_rfl) (fun Wx => Below rb W Wx ∧ ∃ c0 c1 c2 c3, Wx.heap[rb]? = some (.cells #[c0, c1, c2, c3] 39 (0, 0))) (fun kz vs wz => (fun kx vx wx => match kx with | 0 => vx = pnv p (.slice ma p.rules.length mc) | 1 => vx = lnv x (.slice la x.mods.length lk) | 2 => vx = .int .i64 net | 3 => vx = .int .i64 (valV x net 1 p.rules) | 4 => vx = .bool ((valV x net 1 p.rules) == 1) | 5 => vx = pnv p (.slice ma p.rules.length mc) | 6 => vx = lnv x (.slice la x.mods.length lk) | 7 => vx = .int .i64 net | 8 => vx = .int .i64 (valV x net 2 p.rules) | 9 => vx = .bool ((valV x net 2 p.rules) == 1) | 10 => vx = pnv p (.slice ma p.rules.length mc) | 11 => vx = lnv x (.slice la x.mods.length lk) | 12 => vx = .int .i64 net | 13 => vx = .int .i64 (valV x net 3 p.rules) | 14 => vx = pnv p (.slice ma p.rules.length mc) | 15 => vx = lnv x (.slice la x.mods.length lk) | 16 => vx = .int .i64 net | 17 => vx = .int .i64 (valV x net 4 p.rules) | 18 => vx = benV x net p.rules | 19 => wx.heap[rb]? = some (.cells (benC (valV x net 1 p.rules) (valV x net 2 p.rules) (valV x net 3 p.rules) (valV x net 4 p.rules)) 39 (0, 0)) | _ => True : Nat → Value → World → Prop) kz (vs kz) wz) (fun kz => [kz]) (by kernel_rfl) (fun jz vs iz vz wz hiz hz => Ri.loc_own (F := (fun kx vx wx => match kx with | 0 => vx = pnv p (.slice ma p.rules.length mc) | 1 => vx = lnv x (.slice la x.mods.length lk) | 2 => vx = .int .i64 net | 3 => vx = .int .i64 (valV x net 1 p.rules) | 4 => vx = .bool ((valV x net 1 p.rules) == 1) | 5 => vx = pnv p (.slice ma p.rules.length mc) | 6 => vx = lnv x (.slice la x.mods.length lk) | 7 => vx = .int .i64 net | 8 => vx = .int .i64 (valV x net 2 p.rules) | 9 => vx = .bool ((valV x net 2 p.rules) == 1) | 10 => vx = pnv p (.slice ma p.rules.length mc) | 11 => vx = lnv x (.slice la x.mods.length lk) | 12 => vx = .int .i64 net | 13 => vx = .int .i64 (valV x net 3 p.rules) | 14 => vx = pnv p (.slice ma p.rules.length mc) | 15 => vx = lnv x (.slice la x.mods.length lk) | 16 => vx = .int .i64 net | 17 => vx = .int .i64 (valV x net 4 p.rules) | 18 => vx = benV x net p.rules | 19 => wx.heap[rb]? = some (.cells (benC (valV x net 1 p.rules) (valV x net 2 p.rules) (valV x net 3 p.rules) (valV x net 4 p.rules)) 39 (0, 0)) | _ => True : Nat → Value → World → Prop)) jz vs iz vz wz hiz hz) HD.out ⟨⟨rfl, ?_⟩, ⟨rfl, ?_⟩, ⟨rfl, ?_⟩, ⟨rfl, ?_⟩, ⟨rfl, ?_⟩, ⟨rfl, ?_⟩, ⟨rfl, ?_⟩, ⟨rfl, ?_⟩, ⟨rfl, ?_⟩, ⟨rfl, ?_⟩, ⟨rfl, ?_⟩, ⟨rfl, ?_⟩, ⟨rfl, ?_⟩, ⟨rfl, ?_⟩, ⟨rfl, ?_⟩, ⟨rfl, ?_⟩, ⟨rfl, ?_⟩, ⟨rfl, ?_⟩, ⟨rfl, ?_⟩, ⟨rfl, ?_⟩, trivial⟩ ?_
  · intro vs Wx A hA hB hpre K hK
    have e3 := (hA 3).trans (show _ = Value.pointer (some ⟨p0, 0, none⟩) by kernel_rfl)
    obtain ⟨⟨x0, x1, x2, x3, x4, x5⟩, ⟨y0, y1, y2, y3, y4, y5⟩⟩ := HXK.out Wx hB.1
    clear hA hpre
    go_simp
    first | exact hK _ _ hB rfl (fun _ _ h => h) | exact hK _ _ hB trivial (fun _ _ h => h) | (rw [if_neg (by omega)]; go_simp; exact hK _ _ hB rfl (fun _ _ h => h))
  · intro vs Wx A hA hB hpre K hK
    have e4 := (hA 4).trans (show _ = Value.pointer (some ⟨q1, 0, none⟩) by kernel_rfl)
    obtain ⟨⟨x0, x1, x2, x3, x4, x5⟩, ⟨y0, y1, y2, y3, y4, y5⟩⟩ := HXK.out Wx hB.1
    clear hA hpre
    go_simp
    first | exact hK _ _ hB rfl (fun _ _ h => h) | exact hK _ _ hB trivial (fun _ _ h => h) | (rw [if_neg (by omega)]; go_simp; exact hK _ _ hB rfl (fun _ _ h => h))
  · intro vs Wx A hA hB hpre K hK
    have e2 := (hA 2).trans (show _ = Value.int .i64 net by kernel_rfl)
    clear hA hpre
    go_simp
    first | exact hK _ _ hB rfl (fun _ _ h => h) | exact hK _ _ hB trivial (fun _ _ h => h) | (rw [if_neg (by omega)]; go_simp; exact hK _ _ hB rfl (fun _ _ h => h))
  · intro vs Wx A hA hB hpre K hK
    have e7 := ((hA 7).trans (show _ = vs 0 by kernel_rfl)).trans (by first | exact hpre.1 rfl | exact hpre.2.1 rfl | exact hpre.2.2.1 rfl | exact hpre.2.2.2.1 rfl | exact hpre.2.2.2.2.1 rfl | exact hpre.2.2.2.2.2.1 rfl | exact hpre.2.2.2.2.2.2.1 rfl | exact hpre.2.2.2.2.2.2.2.1 rfl | exact hpre.2.2.2.2.2.2.2.2.1 rfl | exact hpre.2.2.2.2.2.2.2.2.2.1 rfl)
    have e8 := ((hA 8).trans (show _ = vs 1 by kernel_rfl)).trans (by first | exact hpre.1 rfl | exact hpre.2.1 rfl | exact hpre.2.2.1 rfl | exact hpre.2.2.2.1 rfl | exact hpre.2.2.2.2.1 rfl | exact hpre.2.2.2.2.2.1 rfl | exact hpre.2.2.2.2.2.2.1 rfl | exact hpre.2.2.2.2.2.2.2.1 rfl | exact hpre.2.2.2.2.2.2.2.2.1 rfl | exact hpre.2.2.2.2.2.2.2.2.2.1 rfl)
    have e9 := ((hA 9).trans (show _ = vs 2 by kernel_rfl)).trans (by first | exact hpre.1 rfl | exact hpre.2.1 rfl | exact hpre.2.2.1 rfl | exact hpre.2.2.2.1 rfl | exact hpre.2.2.2.2.1 rfl | exact hpre.2.2.2.2.2.1 rfl | exact hpre.2.2.2.2.2.2.1 rfl | exact hpre.2.2.2.2.2.2.2.1 rfl | exact hpre.2.2.2.2.2.2.2.2.1 rfl | exact hpre.2.2.2.2.2.2.2.2.2.1 rfl)
    clear hA hpre
    go_simp
    go_at_call 23
    refine (HV.out 1 _ hB.1).mono ?_
    rintro e w3 ⟨rfl, hb3⟩
    obtain ⟨hB1, c0, c1, c2, c3, hB2⟩ := hB
    refine hK _ _ ⟨below_lo hB1 (Nat.le_of_lt (Array.getElem?_eq_some_iff.1 hB2).1) hb3, _, _, _, _, keepB hB2 hb3⟩ rfl (fun jz hj hz => ?_)
    match jz, hj, hz with
    | 0, _, hz => exact hz
    | 1, _, hz => exact hz
    | 2, _, hz => exact hz
    | 3, _, hz => exact hz
    | 4, _, hz => exact hz
    | 5, _, hz => exact hz
    | 6, _, hz => exact hz
    | 7, _, hz => exact hz
    | 8, _, hz => exact hz
    | 9, _, hz => exact hz
    | 10, _, hz => exact hz
    | 11, _, hz => exact hz
    | 12, _, hz => exact hz
    | 13, _, hz => exact hz
    | 14, _, hz => exact hz
    | 15, _, hz => exact hz
    | 16, _, hz => exact hz
    | 17, _, hz => exact hz
    | 18, _, hz => exact hz
    | 19, _, hz => exact keepB hz hb3
    | n + 20, _, hz => exact hz
  · intro vs Wx A hA hB hpre K hK
    have e10 := ((hA 10).trans (show _ = vs 3 by kernel_rfl)).trans (by first | exact hpre.1 rfl | exact hpre.2.1 rfl | exact hpre.2.2.1 rfl | exact hpre.2.2.2.1 rfl | exact hpre.2.2.2.2.1 rfl | exact hpre.2.2.2.2.2.1 rfl | exact hpre.2.2.2.2.2.2.1 rfl | exact hpre.2.2.2.2.2.2.2.1 rfl | exact hpre.2.2.2.2.2.2.2.2.1 rfl | exact hpre.2.2.2.2.2.2.2.2.2.1 rfl)
    clear hA hpre
    go_simp
    first | exact hK _ _ hB rfl (fun _ _ h => h) | exact hK _ _ hB trivial (fun _ _ h => h) | (rw [if_neg (by omega)]; go_simp; exact hK _ _ hB rfl (fun _ _ h => h))
  · intro vs Wx A hA hB hpre K hK
    have e3 := (hA 3).trans (show _ = Value.pointer (some ⟨p0, 0, none⟩) by kernel_rfl)
    obtain ⟨⟨x0, x1, x2, x3, x4, x5⟩, ⟨y0, y1, y2, y3, y4, y5⟩⟩ := HXK.out Wx hB.1
    clear hA hpre
    go_simp
    first | exact hK _ _ hB rfl (fun _ _ h => h) | exact hK _ _ hB trivial (fun _ _ h => h) | (rw [if_neg (by omega)]; go_simp; exact hK _ _ hB rfl (fun _ _ h => h))
  · intro vs Wx A hA hB hpre K hK
    have e4 := (hA 4).trans (show _ = Value.pointer (some ⟨q1, 0, none⟩) by kernel_rfl)
    obtain ⟨⟨x0, x1, x2, x3, x4, x5⟩, ⟨y0, y1, y2, y3, y4, y5⟩⟩ := HXK.out Wx hB.1
    clear hA hpre
    go_simp
    first | exact hK _ _ hB rfl (fun _ _ h => h) | exact hK _ _ hB trivial (fun _ _ h => h) | (rw [if_neg (by omega)]; go_simp; exact hK _ _ hB rfl (fun _ _ h => h))
  · intro vs Wx A hA hB hpre K hK
    have e2 := (hA 2).trans (show _ = Value.int .i64 net by kernel_rfl)
    clear hA hpre
    go_simp
    first | exact hK _ _ hB rfl (fun _ _ h => h) | exact hK _ _ hB trivial (fun _ _ h => h) | (rw [if_neg (by omega)]; go_simp; exact hK _ _ hB rfl (fun _ _ h => h))
  · intro vs Wx A hA hB hpre K hK
    have e12 := ((hA 12).trans (show _ = vs 5 by kernel_rfl)).trans (by first | exact hpre.1 rfl | exact hpre.2.1 rfl | exact hpre.2.2.1 rfl | exact hpre.2.2.2.1 rfl | exact hpre.2.2.2.2.1 rfl | exact hpre.2.2.2.2.2.1 rfl | exact hpre.2.2.2.2.2.2.1 rfl | exact hpre.2.2.2.2.2.2.2.1 rfl | exact hpre.2.2.2.2.2.2.2.2.1 rfl | exact hpre.2.2.2.2.2.2.2.2.2.1 rfl)
    have e13 := ((hA 13).trans (show _ = vs 6 by kernel_rfl)).trans (by first | exact hpre.1 rfl | exact hpre.2.1 rfl | exact hpre.2.2.1 rfl | exact hpre.2.2.2.1 rfl | exact hpre.2.2.2.2.1 rfl | exact hpre.2.2.2.2.2.1 rfl | exact hpre.2.2.2.2.2.2.1 rfl | exact hpre.2.2.2.2.2.2.2.1 rfl | exact hpre.2.2.2.2.2.2.2.2.1 rfl | exact hpre.2.2.2.2.2.2.2.2.2.1 rfl)
    have e14 := ((hA 14).trans (show _ = vs 7 by kernel_rfl)).trans (by first | exact hpre.1 rfl | exact hpre.2.1 rfl | exact hpre.2.2.1 rfl | exact hpre.2.2.2.1 rfl | exact hpre.2.2.2.2.1 rfl | exact hpre.2.2.2.2.2.1 rfl | exact hpre.2.2.2.2.2.2.1 rfl | exact hpre.2.2.2.2.2.2.2.1 rfl | exact hpre.2.2.2.2.2.2.2.2.1 rfl | exact hpre.2.2.2.2.2.2.2.2.2.1 rfl)
    clear hA hpre
    go_simp
    go_at_call 23
    refine (HV.out 2 _ hB.1).mono ?_
    rintro e w3 ⟨rfl, hb3⟩
    obtain ⟨hB1, c0, c1, c2, c3, hB2⟩ := hB
    refine hK _ _ ⟨below_lo hB1 (Nat.le_of_lt (Array.getElem?_eq_some_iff.1 hB2).1) hb3, _, _, _, _, keepB hB2 hb3⟩ rfl (fun jz hj hz => ?_)
    match jz, hj, hz with
    | 0, _, hz => exact hz
    | 1, _, hz => exact hz
    | 2, _, hz => exact hz
    | 3, _, hz => exact hz
    | 4, _, hz => exact hz
    | 5, _, hz => exact hz
    | 6, _, hz => exact hz
    | 7, _, hz => exact hz
    | 8, _, hz => exact hz
    | 9, _, hz => exact hz
    | 10, _, hz => exact hz
    | 11, _, hz => exact hz
    | 12, _, hz => exact hz
    | 13, _, hz => exact hz
    | 14, _, hz => exact hz
    | 15, _, hz => exact hz
    | 16, _, hz => exact hz
    | 17, _, hz => exact hz
    | 18, _, hz => exact hz
    | 19, _, hz => exact keepB hz hb3
    | n + 20, _, hz => exact hz
  · intro vs Wx A hA hB hpre K hK
    have e15 := ((hA 15).trans (show _ = vs 8 by kernel_rfl)).trans (by first | exact hpre.1 rfl | exact hpre.2.1 rfl | exact hpre.2.2.1 rfl | exact hpre.2.2.2.1 rfl | exact hpre.2.2.2.2.1 rfl | exact hpre.2.2.2.2.2.1 rfl | exact hpre.2.2.2.2.2.2.1 rfl | exact hpre.2.2.2.2.2.2.2.1 rfl | exact hpre.2.2.2.2.2.2.2.2.1 rfl | exact hpre.2.2.2.2.2.2.2.2.2.1 rfl)
    clear hA hpre
    go_simp
    first | exact hK _ _ hB rfl (fun _ _ h => h) | exact hK _ _ hB trivial (fun _ _ h => h) | (rw [if_neg (by omega)]; go_simp; exact hK _ _ hB rfl (fun _ _ h => h))
  · intro vs Wx A hA hB hpre K hK
    have e3 := (hA 3).trans (show _ = Value.pointer (some ⟨p0, 0, none⟩) by kernel_rfl)
    obtain ⟨⟨x0, x1, x2, x3, x4, x5⟩, ⟨y0, y1, y2, y3, y4, y5⟩⟩ := HXK.out Wx hB.1
    clear hA hpre
    go_simp
    first | exact hK _ _ hB rfl (fun _ _ h => h) | exact hK _ _ hB trivial (fun _ _ h => h) | (rw [if_neg (by omega)]; go_simp; exact hK _ _ hB rfl (fun _ _ h => h))
  · intro vs Wx A hA hB hpre K hK
    have e4 := (hA 4).trans (show _ = Value.pointer (some ⟨q1, 0, none⟩) by kernel_rfl)
    obtain ⟨⟨x0, x1, x2, x3, x4, x5⟩, ⟨y0, y1, y2, y3, y4, y5⟩⟩ := HXK.out Wx hB.1
    clear hA hpre
    go_simp
    first | exact hK _ _ hB rfl (fun _ _ h => h) | exact hK _ _ hB trivial (fun _ _ h => h) | (rw [if_neg (by omega)]; go_simp; exact hK _ _ hB rfl (fun _ _ h => h))
  · intro vs Wx A hA hB hpre K hK
    have e2 := (hA 2).trans (show _ = Value.int .i64 net by kernel_rfl)
    clear hA hpre
    go_simp
    first | exact hK _ _ hB rfl (fun _ _ h => h) | exact hK _ _ hB trivial (fun _ _ h => h) | (rw [if_neg (by omega)]; go_simp; exact hK _ _ hB rfl (fun _ _ h => h))
  · intro vs Wx A hA hB hpre K hK
    have e17 := ((hA 17).trans (show _ = vs 10 by kernel_rfl)).trans (by first | exact hpre.1 rfl | exact hpre.2.1 rfl | exact hpre.2.2.1 rfl | exact hpre.2.2.2.1 rfl | exact hpre.2.2.2.2.1 rfl | exact hpre.2.2.2.2.2.1 rfl | exact hpre.2.2.2.2.2.2.1 rfl | exact hpre.2.2.2.2.2.2.2.1 rfl | exact hpre.2.2.2.2.2.2.2.2.1 rfl | exact hpre.2.2.2.2.2.2.2.2.2.1 rfl)
    have e18 := ((hA 18).trans (show _ = vs 11 by kernel_rfl)).trans (by first | exact hpre.1 rfl | exact hpre.2.1 rfl | exact hpre.2.2.1 rfl | exact hpre.2.2.2.1 rfl | exact hpre.2.2.2.2.1 rfl | exact hpre.2.2.2.2.2.1 rfl | exact hpre.2.2.2.2.2.2.1 rfl | exact hpre.2.2.2.2.2.2.2.1 rfl | exact hpre.2.2.2.2.2.2.2.2.1 rfl | exact hpre.2.2.2.2.2.2.2.2.2.1 rfl)
    have e19 := ((hA 19).trans (show _ = vs 12 by kernel_rfl)).trans (by first | exact hpre.1 rfl | exact hpre.2.1 rfl | exact hpre.2.2.1 rfl | exact hpre.2.2.2.1 rfl | exact hpre.2.2.2.2.1 rfl | exact hpre.2.2.2.2.2.1 rfl | exact hpre.2.2.2.2.2.2.1 rfl | exact hpre.2.2.2.2.2.2.2.1 rfl | exact hpre.2.2.2.2.2.2.2.2.1 rfl | exact hpre.2.2.2.2.2.2.2.2.2.1 rfl)
    clear hA hpre
    go_simp
    go_at_call 23
    refine (HV.out 3 _ hB.1).mono ?_
    rintro e w3 ⟨rfl, hb3⟩
    obtain ⟨hB1, c0, c1, c2, c3, hB2⟩ := hB
    refine hK _ _ ⟨below_lo hB1 (Nat.le_of_lt (Array.getElem?_eq_some_iff.1 hB2).1) hb3, _, _, _, _, keepB hB2 hb3⟩ rfl (fun jz hj hz => ?_)
    match jz, hj, hz with
    | 0, _, hz => exact hz
    | 1, _, hz => exact hz
    | 2, _, hz => exact hz
    | 3, _, hz => exact hz
    | 4, _, hz => exact hz
    | 5, _, hz => exact hz
    | 6, _, hz => exact hz
    | 7, _, hz => exact hz
    | 8, _, hz => exact hz
    | 9, _, hz => exact hz
    | 10, _, hz => exact hz
    | 11, _, hz => exact hz
    | 12, _, hz => exact hz
    | 13, _, hz => exact hz
    | 14, _, hz => exact hz
    | 15, _, hz => exact hz
    | 16, _, hz => exact hz
    | 17, _, hz => exact hz
    | 18, _, hz => exact hz
    | 19, _, hz => exact keepB hz hb3
    | n + 20, _, hz => exact hz
  · intro vs Wx A hA hB hpre K hK
    have e3 := (hA 3).trans (show _ = Value.pointer (some ⟨p0, 0, none⟩) by kernel_rfl)
    obtain ⟨⟨x0, x1, x2, x3, x4, x5⟩, ⟨y0, y1, y2, y3, y4, y5⟩⟩ := HXK.out Wx hB.1
    clear hA hpre
    go_simp
    first | exact hK _ _ hB rfl (fun _ _ h => h) | exact hK _ _ hB trivial (fun _ _ h => h) | (rw [if_neg (by omega)]; go_simp; exact hK _ _ hB rfl (fun _ _ h => h))
  · intro vs Wx A hA hB hpre K hK
    have e4 := (hA 4).trans (show _ = Value.pointer (some ⟨q1, 0, none⟩) by kernel_rfl)
    obtain ⟨⟨x0, x1, x2, x3, x4, x5⟩, ⟨y0, y1, y2, y3, y4, y5⟩⟩ := HXK.out Wx hB.1
    clear hA hpre
    go_simp
    first | exact hK _ _ hB rfl (fun _ _ h => h) | exact hK _ _ hB trivial (fun _ _ h => h) | (rw [if_neg (by omega)]; go_simp; exact hK _ _ hB rfl (fun _ _ h => h))
  · intro vs Wx A hA hB hpre K hK
    have e2 := (hA 2).trans (show _ = Value.int .i64 net by kernel_rfl)
    clear hA hpre
    go_simp
    first | exact hK _ _ hB rfl (fun _ _ h => h) | exact hK _ _ hB trivial (fun _ _ h => h) | (rw [if_neg (by omega)]; go_simp; exact hK _ _ hB rfl (fun _ _ h => h))
  · intro vs Wx A hA hB hpre K hK
    have e21 := ((hA 21).trans (show _ = vs 14 by kernel_rfl)).trans (by first | exact hpre.1 rfl | exact hpre.2.1 rfl | exact hpre.2.2.1 rfl | exact hpre.2.2.2.1 rfl | exact hpre.2.2.2.2.1 rfl | exact hpre.2.2.2.2.2.1 rfl | exact hpre.2.2.2.2.2.2.1 rfl | exact hpre.2.2.2.2.2.2.2.1 rfl | exact hpre.2.2.2.2.2.2.2.2.1 rfl | exact hpre.2.2.2.2.2.2.2.2.2.1 rfl)
    have e22 := ((hA 22).trans (show _ = vs 15 by kernel_rfl)).trans (by first | exact hpre.1 rfl | exact hpre.2.1 rfl | exact hpre.2.2.1 rfl | exact hpre.2.2.2.1 rfl | exact hpre.2.2.2.2.1 rfl | exact hpre.2.2.2.2.2.1 rfl | exact hpre.2.2.2.2.2.2.1 rfl | exact hpre.2.2.2.2.2.2.2.1 rfl | exact hpre.2.2.2.2.2.2.2.2.1 rfl | exact hpre.2.2.2.2.2.2.2.2.2.1 rfl)
    have e23 := ((hA 23).trans (show _ = vs 16 by kernel_rfl)).trans (by first | exact hpre.1 rfl | exact hpre.2.1 rfl | exact hpre.2.2.1 rfl | exact hpre.2.2.2.1 rfl | exact hpre.2.2.2.2.1 rfl | exact hpre.2.2.2.2.2.1 rfl | exact hpre.2.2.2.2.2.2.1 rfl | exact hpre.2.2.2.2.2.2.2.1 rfl | exact hpre.2.2.2.2.2.2.2.2.1 rfl | exact hpre.2.2.2.2.2.2.2.2.2.1 rfl)
    clear hA hpre
    go_simp
    go_at_call 23
    refine (HV.out 4 _ hB.1).mono ?_
    rintro e w3 ⟨rfl, hb3⟩
    obtain ⟨hB1, c0, c1, c2, c3, hB2⟩ := hB
    refine hK _ _ ⟨below_lo hB1 (Nat.le_of_lt (Array.getElem?_eq_some_iff.1 hB2).1) hb3, _, _, _, _, keepB hB2 hb3⟩ rfl (fun jz hj hz => ?_)
    match jz, hj, hz with
    | 0, _, hz => exact hz
    | 1, _, hz => exact hz
    | 2, _, hz => exact hz
    | 3, _, hz => exact hz
    | 4, _, hz => exact hz
    | 5, _, hz => exact hz
    | 6, _, hz => exact hz
    | 7, _, hz => exact hz
    | 8, _, hz => exact hz
    | 9, _, hz => exact hz
    | 10, _, hz => exact hz
    | 11, _, hz => exact hz
    | 12, _, hz => exact hz
    | 13, _, hz => exact hz
    | 14, _, hz => exact hz
    | 15, _, hz => exact hz
    | 16, _, hz => exact hz
    | 17, _, hz => exact hz
    | 18, _, hz => exact hz
    | 19, _, hz => exact keepB hz hb3
    | n + 20, _, hz => exact hz
  · intro vs Wx A hA hB hpre K hK
    have e11 := ((hA 11).trans (show _ = vs 4 by kernel_rfl)).trans (by first | exact hpre.1 rfl | exact hpre.2.1 rfl | exact hpre.2.2.1 rfl | exact hpre.2.2.2.1 rfl | exact hpre.2.2.2.2.1 rfl | exact hpre.2.2.2.2.2.1 rfl | exact hpre.2.2.2.2.2.2.1 rfl | exact hpre.2.2.2.2.2.2.2.1 rfl | exact hpre.2.2.2.2.2.2.2.2.1 rfl | exact hpre.2.2.2.2.2.2.2.2.2.1 rfl)
    have e16 := ((hA 16).trans (show _ = vs 9 by kernel_rfl)).trans (by first | exact hpre.1 rfl | exact hpre.2.1 rfl | exact hpre.2.2.1 rfl | exact hpre.2.2.2.1 rfl | exact hpre.2.2.2.2.1 rfl | exact hpre.2.2.2.2.2.1 rfl | exact hpre.2.2.2.2.2.2.1 rfl | exact hpre.2.2.2.2.2.2.2.1 rfl | exact hpre.2.2.2.2.2.2.2.2.1 rfl | exact hpre.2.2.2.2.2.2.2.2.2.1 rfl)
    have e20 := ((hA 20).trans (show _ = vs 13 by kernel_rfl)).trans (by first | exact hpre.1 rfl | exact hpre.2.1 rfl | exact hpre.2.2.1 rfl | exact hpre.2.2.2.1 rfl | exact hpre.2.2.2.2.1 rfl | exact hpre.2.2.2.2.2.1 rfl | exact hpre.2.2.2.2.2.2.1 rfl | exact hpre.2.2.2.2.2.2.2.1 rfl | exact hpre.2.2.2.2.2.2.2.2.1 rfl | exact hpre.2.2.2.2.2.2.2.2.2.1 rfl)
    have e24 := ((hA 24).trans (show _ = vs 17 by kernel_rfl)).trans (by first | exact hpre.1 rfl | exact hpre.2.1 rfl | exact hpre.2.2.1 rfl | exact hpre.2.2.2.1 rfl | exact hpre.2.2.2.2.1 rfl | exact hpre.2.2.2.2.2.1 rfl | exact hpre.2.2.2.2.2.2.1 rfl | exact hpre.2.2.2.2.2.2.2.1 rfl | exact hpre.2.2.2.2.2.2.2.2.1 rfl | exact hpre.2.2.2.2.2.2.2.2.2.1 rfl)
    clear hA hpre
    go_simp
    first | exact hK _ _ hB rfl (fun _ _ h => h) | exact hK _ _ hB trivial (fun _ _ h => h) | (rw [if_neg (by omega)]; go_simp; exact hK _ _ hB rfl (fun _ _ h => h))
  · intro vs Wx A hA hB hpre K hK
    have e6 := (hA 6).trans (show _ = Value.pointer (some ⟨rb, 0, none⟩) by kernel_rfl)
    have e25 := ((hA 25).trans (show _ = vs 18 by kernel_rfl)).trans (by first | exact hpre.1 rfl | exact hpre.2.1 rfl | exact hpre.2.2.1 rfl | exact hpre.2.2.2.1 rfl | exact hpre.2.2.2.2.1 rfl | exact hpre.2.2.2.2.2.1 rfl | exact hpre.2.2.2.2.2.2.1 rfl | exact hpre.2.2.2.2.2.2.2.1 rfl | exact hpre.2.2.2.2.2.2.2.2.1 rfl | exact hpre.2.2.2.2.2.2.2.2.2.1 rfl)
    obtain ⟨hB1, c0, c1, c2, c3, hB2⟩ := hB
    obtain ⟨⟨m0, m1, m2, m3⟩, f0, f1, f2, f3⟩ := bfour hB2
    have HB1 := Lib.hid hB1
    have HN := Lib.hid (put4_heap hB2 (.bool ((valV x net 1 p.rules) == 1)) (.bool ((valV x net 2 p.rules) == 1)) (.int .i64 (valV x net 3 p.rules)) (.int .i64 (valV x net 4 p.rules)))
    clear hB1 hB2
    clear hA hpre
    go_simp
    refine hK undef _ ⟨put4_below HB1.out rb (Nat.le_refl _) _ _ _ _, _, _, _, _, HN.out⟩ HN.out (fun jz hj hz => ?_)
    match jz, hj, hz with
    | 0, _, hz => exact hz
    | 1, _, hz => exact hz
    | 2, _, hz => exact hz
    | 3, _, hz => exact hz
    | 4, _, hz => exact hz
    | 5, _, hz => exact hz
    | 6, _, hz => exact hz
    | 7, _, hz => exact hz
    | 8, _, hz => exact hz
    | 9, _, hz => exact hz
    | 10, _, hz => exact hz
    | 11, _, hz => exact hz
    | 12, _, hz => exact hz
    | 13, _, hz => exact hz
    | 14, _, hz => exact hz
    | 15, _, hz => exact hz
    | 16, _, hz => exact hz
    | 17, _, hz => exact hz
    | 18, _, hz => exact hz
    | 19, hj, _ => exact absurd rfl hj
    | n + 20, _, hz => exact hz
  · intro vs Wx hB hF
    have h19 : Wx.heap[rb]? = some (.cells (benC (valV x net 1 p.rules) (valV x net 2 p.rules) (valV x net 3 p.rules) (valV x net 4 p.rules)) 39 (0, 0)) := hF 19 (by decide)
    obtain ⟨⟨r0, r1, r2, r3⟩, -⟩ := bfour h19
    have HBW := Lib.hid (HB.out.trans (hB.1.mono HP0.out.2.2))
    clear hF hB h19
    simp only [Ri.puts]
    go_simp
    go_wp2_with fail
    refine bodyPost_ret (v := benV x net p.rules) (by simp [results, Try.results16, go_sem, r0, r1, r2, r3]) rfl ⟨rfl, ?_⟩
    first | exact HBW.out | (rw [hp]; exact HBW.out)
end Go.Proofs.Ytbokhiaiihpeeaa.Ul
