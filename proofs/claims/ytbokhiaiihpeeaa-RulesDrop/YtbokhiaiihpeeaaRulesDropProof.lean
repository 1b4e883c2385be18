/-
  RulesDrop holds for every plan, service and numbers: a rule that does not apply plays no part.
-/
import Derived.Test.YtbokhiaiihpeeaaRows
import Derived.WalkKit
import Derived.ProofKit
import Derived.OpenShut
import Derived.ShutString
import Derived.Below
import Derived.Carry
import Derived.Laws.Cover2
import Derived.HandedShaped
import Derived.Test.YtbokhiaiihpeeaaUMod
import Derived.Test.YtbokhiaiihpeeaaURApp
import Derived.Test.YtbokhiaiihpeeaaPOpen
import Derived.Test.YtbokhiaiihpeeaaULine
namespace Go.Proofs.Ytbokhiaiihpeeaa.rulesDrop
open Go.ChangeShapes Go.WideShapes Go.ChangeAt Go.RowKit
open Pl (Cd St Ru Pn KsAt StsAt RusAt RuIn Ok1 cdv stv ruv pnv below_alloc below_trans bfive bsix beight below_tr)
open Wo (box_cell box_two keepB heap_far)
open Cm (Ln)
open Ul
set_option linter.unusedVariables false
set_option linter.unusedSimpArgs false
set_option maxRecDepth 100000

theorem own : ownKnob Try.prog.godebug = none := by kernel_rfl

/-! ### the walk: the law returns true -/
set_option maxHeartbeats 16000000 in
theorem walk (w : World) (x0 : Pn) (m0 : Value) (h0 : RusAt All w m0 x0.rules) (z0 : Pl.PnOk x0) (x1 : Ln) (m1 : Value) (h1 : TxAt All w m1 x1.mods) (a2 : Int) (z2 : Cm.I64 a2) (a3 : Int) (z3 : Cm.I64 a3) :
    Calls Try.prog 5 #[pnv x0 m0, lnv x1 m1, .int .i64 a2, .int .i64 a3] w fun e w' => e = .returned (.bool true) ∧ Below w.heap.size w w' := by
  obtain ⟨hb, hz1, hz2⟩ := box_pl w x0 m0 x1 m1
  have HB := Lib.hid hb
  have HX := Lib.hid hz1
  have HL := Lib.hid hz2
  have HRu := Lib.hid (h0.grw hb)
  have HM := Lib.hid (tx_grw h1 hb)
  have HLt := Lib.hid (light_any x0 m0 x1 m1 _ (h0.grw hb) (tx_grw h1 hb))
  obtain ⟨ma, mc, rfl, hm1, hm2, hm3⟩ := h0.form
  have hm3 : x0.rules.length ≤ 281474976710656 := hm3
  obtain ⟨la, lk, rfl, hl1, hl2⟩ := tx_form h1
  clear h0 h1 hb hz1 hz2
  go_enter Try.func5, Try.ntmps5
  go_upto_region 1 with fail
  generalize (w.alloc (.cells #[.int .i64 x0.mode, .int .i64 x0.indDed, .int .i64 x0.famDed, .int .i64 x0.indOop, .int .i64 x0.famOop, .slice ma x0.rules.length mc] 34)).alloc (.cells #[.string (mk x1.proc), .slice la x1.mods.length lk, .int .i64 x1.date, .int .i64 x1.units, .int .i64 x1.billed, .int .i64 x1.prior] 30) = W at *
  generalize hp : w.heap.size = p0 at *
  obtain ⟨q1, hq1⟩ : ∃ q1, q1 = p0 + 1 := ⟨_, rfl⟩
  rw [← hq1] at HL ⊢
  clear hq1
  obtain ⟨x0', x1', x2', x3', x4', x5'⟩ := bsix HX.out
  obtain ⟨y0', y1', y2', y3', y4', y5'⟩ := bsix HL.out
  go_wp2_with fail
  go_at_call 9
  refine HLt.out.mono ?_
  rintro e w1 ⟨⟨bl, rfl, hbl⟩, hb1⟩
  have HB1 := Lib.hid (below_tr hp HB.out hb1)
  have HX1 := Lib.hid (keepB HX.out hb1)
  have HL1 := Lib.hid (keepB HL.out hb1)
  have HRu1 := Lib.hid (HRu.out.grw hb1)
  have HM1 := Lib.hid (tx_grw HM.out hb1)
  clear hb1 HB HX HL HRu HM HLt x0' x1' x2' x3' x4' x5' y0' y1' y2' y3' y4' y5'
  obtain ⟨x0', x1', x2', x3', x4', x5'⟩ := bsix HX1.out
  obtain ⟨y0', y1', y2', y3', y4', y5'⟩ := bsix HL1.out
  generalize hnn : x0.rules.length = n at *
  have HN := Lib.hid hnn
  clear hnn
  cases bl
  · clear hbl
    go_wp2_with (go_at_call 10; refine (works_any _).mono ?_; rintro e w9 ⟨rfl, hb9⟩; have HB9 := Lib.hid (below_tr hp HB1.out hb9); clear hb9)
    go_ret
    exact ⟨rfl, by first | exact HB9.out | (rw [hp]; exact HB9.out)⟩
  have hlen := hbl rfl
  clear hbl
  by_cases hne : n = 0
  · subst hne
    clear hlen hm1 hm2 hm3
    go_wp2_with (go_at_call 10; refine (works_any _).mono ?_; rintro e w9 ⟨rfl, hb9⟩; have HB9 := Lib.hid (below_tr hp HB1.out hb9); clear hb9)
    go_ret
    exact ⟨rfl, by first | exact HB9.out | (rw [hp]; exact HB9.out)⟩
  have bne : ((n : Int) == 0) = false := by simp; omega
  have hne' : ¬ ((n : Int) = 0) := by omega
  obtain ⟨k, hk, hkn⟩ := mod_fact a3 n hne hlen
  obtain ⟨b, o, L, rfl, hL1, hL2, hL3⟩ := Rr.rus_rows HRu1.out (by rw [HN.out]; omega)
  obtain ⟨b', o', kv, uv, sv, hbo, hbs, hxx, hcc, hin⟩ := RusAt.get HRu1.out k (by rw [HN.out]; exact hkn)
  obtain ⟨rfl, rfl⟩ : b = b' ∧ o = o' := by simpa using hbo
  obtain ⟨-, -, -, hk1, hk2, hk3⟩ := id hin
  obtain ⟨ka, kc, rfl, -, -⟩ := hk1.form
  obtain ⟨ua, uc, rfl, -, -⟩ := hk2.form
  obtain ⟨sa, sc, rfl, -, -, -⟩ := hk3.form
  have HXK := Lib.hid fun W' (hW : Below w1.heap.size w1 W') => And.intro (And.intro (bsix (keepB HX1.out hW)) (bsix (keepB HL1.out hW))) (hcc.of (hW.block b hbs))
  have HAp := Lib.hid fun W' (hW : Below w1.heap.size w1 W') => rapp_any x1 a2 _ (x0.rules[k]'(by rw [HN.out]; exact hkn)) _ _ _ W' (hin.move (Below.moves hW)) (tx_grw HM1.out hW)
  have HKr := Lib.hid hxx
  have HLs := Lib.hid (And.intro hL1 (And.intro hL2 hL3))
  have HD := Lib.hid (Below.drew (Below.refl w1.heap.size w1))
  have HLk : Hid (L.length = n) := by show _ = _; rw [← HN.out, ← hL1]; simp
  have hkn' : (k : Int) < (n : Int) := by omega
  have HBS1 := Lib.hid hbs
  clear hk1 hk2 hk3 hin hcc hbs hbo hxx hL1 hL2 hL3
  generalize x0.rules[k]'(by rw [HN.out]; exact hkn) = r at *
  unfold Pl.RuCells at HXK
  go_upto_region 4 with fail
  rw [hk]
  clear x0' x1' x2' x3' x4' x5' y0' y1' y2' y3' y4' y5' hk bne hne'
  go_cut [37] (fun s wx => s = .bool (appB x1 a2 r) ∧ Hid (Below w1.heap.size w1 wx))
  case first =>
    refine Ri.wp_region_lasting (by kernel_rfl) (by kernel_rfl) (by kernel_rfl) (fun Wx => Below w1.heap.size w1 Wx) (fun kz vs wz => (fun kx vx wx => match kx with | 0 => vx = .pointer (some ⟨p0, 5, none⟩) | 1 => vx = .slice (some ⟨b, o, none⟩) n mc | 2 => vx = .int .i64 (k : Nat) | 3 => vx = .pointer (some ⟨b, o + k * 8, none⟩) | 4 => vx = ruv r (.slice ka r.cif.kids.length kc) (.slice ua r.unl.length uc) (.slice sa r.sets.length sc) | 5 => vx = lnv x1 (.slice la x1.mods.length lk) | 6 => vx = .int .i64 a2 | 7 => vx = .bool (appB x1 a2 r) | _ => True : Nat → Value → World → Prop) kz (vs kz) wz) (fun kz => [kz]) (by kernel_rfl) (fun jz vs iz vz wz hiz hz => Ri.loc_own (F := (fun kx vx wx => match kx with | 0 => vx = .pointer (some ⟨p0, 5, none⟩) | 1 => vx = .slice (some ⟨b, o, none⟩) n mc | 2 => vx = .int .i64 (k : Nat) | 3 => vx = .pointer (some ⟨b, o + k * 8, none⟩) | 4 => vx = ruv r (.slice ka r.cif.kids.length kc) (.slice ua r.unl.length uc) (.slice sa r.sets.length sc) | 5 => vx = lnv x1 (.slice la x1.mods.length lk) | 6 => vx = .int .i64 a2 | 7 => vx = .bool (appB x1 a2 r) | _ => True : Nat → Value → World → Prop)) jz vs iz vz wz hiz hz) HD.out ⟨⟨rfl, ?_⟩, ⟨rfl, ?_⟩, ⟨rfl, ?_⟩, ⟨rfl, ?_⟩, ⟨rfl, ?_⟩, ⟨rfl, ?_⟩, ⟨rfl, ?_⟩, ⟨rfl, ?_⟩, trivial⟩ ?_
    · intro vs Wx A hA hB hpre K hK
      have e4 := (hA 4).trans (show _ = Value.pointer (some ⟨p0, 0, none⟩) by kernel_rfl)
      clear hA hpre
      go_simp
      first | exact hK _ _ hB rfl (fun _ _ h => h) | exact hK _ _ hB trivial (fun _ _ h => h) | (rw [if_neg (by omega)]; go_simp; exact hK _ _ hB rfl (fun _ _ h => h))
    · intro vs Wx A hA hB hpre K hK
      have e30 := ((hA 30).trans (show _ = vs 0 by kernel_rfl)).trans (by first | exact hpre.1 rfl | exact hpre.2.1 rfl | exact hpre.2.2.1 rfl | exact hpre.2.2.2.1 rfl | exact hpre.2.2.2.2.1 rfl | exact hpre.2.2.2.2.2.1 rfl | exact hpre.2.2.2.2.2.2.1 rfl | exact hpre.2.2.2.2.2.2.2.1 rfl | exact hpre.2.2.2.2.2.2.2.2.1 rfl | exact hpre.2.2.2.2.2.2.2.2.2.1 rfl)
      obtain ⟨⟨⟨x0', x1', x2', x3', x4', x5'⟩, ⟨y0', y1', y2', y3', y4', y5'⟩⟩, z0, z1, z2, z3, z4, z5, z6, z7⟩ := HXK.out Wx hB
      clear hA hpre
      go_simp
      first | exact hK _ _ hB rfl (fun _ _ h => h) | exact hK _ _ hB trivial (fun _ _ h => h) | (rw [if_neg (by omega)]; go_simp; exact hK _ _ hB rfl (fun _ _ h => h))
    · intro vs Wx A hA hB hpre K hK
      have e9 := (hA 9).trans (show _ = Value.int .i64 (k : Nat) by kernel_rfl)
      clear hA hpre
      go_simp
      first | exact hK _ _ hB rfl (fun _ _ h => h) | exact hK _ _ hB trivial (fun _ _ h => h) | (rw [if_neg (by omega)]; go_simp; exact hK _ _ hB rfl (fun _ _ h => h))
    · intro vs Wx A hA hB hpre K hK
      have e31 := ((hA 31).trans (show _ = vs 1 by kernel_rfl)).trans (by first | exact hpre.1 rfl | exact hpre.2.1 rfl | exact hpre.2.2.1 rfl | exact hpre.2.2.2.1 rfl | exact hpre.2.2.2.2.1 rfl | exact hpre.2.2.2.2.2.1 rfl | exact hpre.2.2.2.2.2.2.1 rfl | exact hpre.2.2.2.2.2.2.2.1 rfl | exact hpre.2.2.2.2.2.2.2.2.1 rfl | exact hpre.2.2.2.2.2.2.2.2.2.1 rfl)
      have e32 := ((hA 32).trans (show _ = vs 2 by kernel_rfl)).trans (by first | exact hpre.1 rfl | exact hpre.2.1 rfl | exact hpre.2.2.1 rfl | exact hpre.2.2.2.1 rfl | exact hpre.2.2.2.2.1 rfl | exact hpre.2.2.2.2.2.1 rfl | exact hpre.2.2.2.2.2.2.1 rfl | exact hpre.2.2.2.2.2.2.2.1 rfl | exact hpre.2.2.2.2.2.2.2.2.1 rfl | exact hpre.2.2.2.2.2.2.2.2.2.1 rfl)
      clear hA hpre
      go_simp
      first | exact hK _ _ hB rfl (fun _ _ h => h) | exact hK _ _ hB trivial (fun _ _ h => h) | (rw [if_neg (by omega)]; go_simp; exact hK _ _ hB rfl (fun _ _ h => h))
    · intro vs Wx A hA hB hpre K hK
      have e33 := ((hA 33).trans (show _ = vs 3 by kernel_rfl)).trans (by first | exact hpre.1 rfl | exact hpre.2.1 rfl | exact hpre.2.2.1 rfl | exact hpre.2.2.2.1 rfl | exact hpre.2.2.2.2.1 rfl | exact hpre.2.2.2.2.2.1 rfl | exact hpre.2.2.2.2.2.2.1 rfl | exact hpre.2.2.2.2.2.2.2.1 rfl | exact hpre.2.2.2.2.2.2.2.2.1 rfl | exact hpre.2.2.2.2.2.2.2.2.2.1 rfl)
      obtain ⟨⟨⟨x0', x1', x2', x3', x4', x5'⟩, ⟨y0', y1', y2', y3', y4', y5'⟩⟩, z0, z1, z2, z3, z4, z5, z6, z7⟩ := HXK.out Wx hB
      clear hA hpre
      go_simp
      first | exact hK _ _ hB rfl (fun _ _ h => h) | exact hK _ _ hB trivial (fun _ _ h => h) | (rw [if_neg (by omega)]; go_simp; exact hK _ _ hB rfl (fun _ _ h => h))
    · intro vs Wx A hA hB hpre K hK
      have e5 := (hA 5).trans (show _ = Value.pointer (some ⟨q1, 0, none⟩) by kernel_rfl)
      obtain ⟨⟨⟨x0', x1', x2', x3', x4', x5'⟩, ⟨y0', y1', y2', y3', y4', y5'⟩⟩, z0, z1, z2, z3, z4, z5, z6, z7⟩ := HXK.out Wx hB
      clear hA hpre
      go_simp
      first | exact hK _ _ hB rfl (fun _ _ h => h) | exact hK _ _ hB trivial (fun _ _ h => h) | (rw [if_neg (by omega)]; go_simp; exact hK _ _ hB rfl (fun _ _ h => h))
    · intro vs Wx A hA hB hpre K hK
      have e2 := (hA 2).trans (show _ = Value.int .i64 a2 by kernel_rfl)
      clear hA hpre
      go_simp
      first | exact hK _ _ hB rfl (fun _ _ h => h) | exact hK _ _ hB trivial (fun _ _ h => h) | (rw [if_neg (by omega)]; go_simp; exact hK _ _ hB rfl (fun _ _ h => h))
    · intro vs Wx A hA hB hpre K hK
      have e34 := ((hA 34).trans (show _ = vs 4 by kernel_rfl)).trans (by first | exact hpre.1 rfl | exact hpre.2.1 rfl | exact hpre.2.2.1 rfl | exact hpre.2.2.2.1 rfl | exact hpre.2.2.2.2.1 rfl | exact hpre.2.2.2.2.2.1 rfl | exact hpre.2.2.2.2.2.2.1 rfl | exact hpre.2.2.2.2.2.2.2.1 rfl | exact hpre.2.2.2.2.2.2.2.2.1 rfl | exact hpre.2.2.2.2.2.2.2.2.2.1 rfl)
      have e35 := ((hA 35).trans (show _ = vs 5 by kernel_rfl)).trans (by first | exact hpre.1 rfl | exact hpre.2.1 rfl | exact hpre.2.2.1 rfl | exact hpre.2.2.2.1 rfl | exact hpre.2.2.2.2.1 rfl | exact hpre.2.2.2.2.2.1 rfl | exact hpre.2.2.2.2.2.2.1 rfl | exact hpre.2.2.2.2.2.2.2.1 rfl | exact hpre.2.2.2.2.2.2.2.2.1 rfl | exact hpre.2.2.2.2.2.2.2.2.2.1 rfl)
      have e36 := ((hA 36).trans (show _ = vs 6 by kernel_rfl)).trans (by first | exact hpre.1 rfl | exact hpre.2.1 rfl | exact hpre.2.2.1 rfl | exact hpre.2.2.2.1 rfl | exact hpre.2.2.2.2.1 rfl | exact hpre.2.2.2.2.2.1 rfl | exact hpre.2.2.2.2.2.2.1 rfl | exact hpre.2.2.2.2.2.2.2.1 rfl | exact hpre.2.2.2.2.2.2.2.2.1 rfl | exact hpre.2.2.2.2.2.2.2.2.2.1 rfl)
      clear hA hpre
      go_simp
      go_at_call 14
      refine (HAp.out _ hB).mono ?_
      rintro e w3 ⟨rfl, hb3⟩
      exact hK _ _ (below_trans hB hb3) rfl (fun _ _ h => h)
    · intro vs Wx hB hF
      have hL : vs 7 = .bool (appB x1 a2 r) := hF 7 (by decide)
      have HBW := Lib.hid hB
      clear hF hB
      simp only [Ri.puts]
      go_simp
      go_wp2_with fail
      go_meet
      exact ⟨by first | rfl | exact hL, HBW.out⟩
  case rest =>
    obtain ⟨rfl, HBx⟩ := hcut
    have HB2 := Lib.hid (below_tr hp HB1.out HBx.out)
    obtain ⟨⟨⟨x0', x1', x2', x3', x4', x5'⟩, ⟨y0', y1', y2', y3', y4', y5'⟩⟩, -⟩ := HXK.out _ HBx.out
    cases hq : appB x1 a2 r
    case true =>
      go_wp2_with (go_at_call 10; refine (works_any _).mono ?_; rintro e w9 ⟨rfl, hb9⟩; have HB9 := Lib.hid (below_tr hp HB2.out hb9); clear hb9)
      go_ret
      exact ⟨rfl, by first | exact HB9.out | (rw [hp]; exact HB9.out)⟩
    have hbz := below_alloc wc (.cells #[.int .i64 x0.mode, .int .i64 x0.indDed, .int .i64 x0.famDed, .int .i64 x0.indOop, .int .i64 x0.famOop, .slice none 0 0] 34)
    have HZ := Lib.hid (heap_alloc_new wc (.cells #[.int .i64 x0.mode, .int .i64 x0.indDed, .int .i64 x0.famDed, .int .i64 x0.indOop, .int .i64 x0.famOop, .slice none 0 0] 34))
    have hqs : w1.heap.size ≤ wc.heap.size := HBx.out.size
    have HT := Lib.hid fun W' (hW : Below wc.heap.size (wc.alloc (.cells #[.int .i64 x0.mode, .int .i64 x0.indDed, .int .i64 x0.famDed, .int .i64 x0.indOop, .int .i64 x0.famOop, .slice none 0 0] 34)) W') => (below_trans HBx.out hbz).trans (hW.mono hqs)
    have HIN := Lib.hid fun W' (hW : Below wc.heap.size (wc.alloc (.cells #[.int .i64 x0.mode, .int .i64 x0.indDed, .int .i64 x0.famDed, .int .i64 x0.indOop, .int .i64 x0.famOop, .slice none 0 0] 34)) W') (t : Rr.Rw) (ht : t ∈ L) => ru_lo (q := wc.heap.size) (HLs.out.2.2 t ht) (HT.out W' hW) hqs
    have HTX := Lib.hid fun W' (hW : Below wc.heap.size (wc.alloc (.cells #[.int .i64 x0.mode, .int .i64 x0.indDed, .int .i64 x0.famDed, .int .i64 x0.indOop, .int .i64 x0.famOop, .slice none 0 0] 34)) W') => tx_grw HM1.out (HT.out W' hW)
    have HRP := Lib.hid fun W' (hW : Below wc.heap.size (wc.alloc (.cells #[.int .i64 x0.mode, .int .i64 x0.indDed, .int .i64 x0.famDed, .int .i64 x0.indOop, .int .i64 x0.famOop, .slice none 0 0] 34)) W') => HRu1.out.grw (HT.out W' hW)
    have HXQ := Lib.hid fun W' (hW : Below wc.heap.size (wc.alloc (.cells #[.int .i64 x0.mode, .int .i64 x0.indDed, .int .i64 x0.famDed, .int .i64 x0.indOop, .int .i64 x0.famOop, .slice none 0 0] 34)) W') => And.intro (bsix (keepB HX1.out (HT.out W' hW))) (bsix (keepB HL1.out (HT.out W' hW)))
    have HCL := Lib.hid fun W' (hW : Below wc.heap.size (wc.alloc (.cells #[.int .i64 x0.mode, .int .i64 x0.indDed, .int .i64 x0.famDed, .int .i64 x0.indOop, .int .i64 x0.famOop, .slice none 0 0] 34)) W') j u (h : (Rr.rcs L)[j]? = some u) => (show W'.cell? ⟨b, o + j, none⟩ = some u by rw [World.cell?_of_block (w := w1) ((HT.out W' hW).block b HBS1.out)]; exact HLs.out.2.1 j u h)
    have HB5 := Lib.hid (below_tr hp HB2.out hbz)
    have HPQ : Hid (p0 ≤ wc.heap.size) := by
      have h1 := HB2.out.size
      rw [hp] at h1
      exact h1
    have HQW : Hid (wc.heap.size < (wc.alloc (.cells #[.int .i64 x0.mode, .int .i64 x0.indDed, .int .i64 x0.famDed, .int .i64 x0.indOop, .int .i64 x0.famOop, .slice none 0 0] 34)).heap.size) := by show _ < _; simp
    clear hbz hqs
    go_upto_region 8 with fail
    clear x0' x1' x2' x3' x4' x5' y0' y1' y2' y3' y4' y5' HT
    generalize wc.alloc (.cells #[.int .i64 x0.mode, .int .i64 x0.indDed, .int .i64 x0.famDed, .int .i64 x0.indOop, .int .i64 x0.famOop, .slice none 0 0] 34) = W5 at *
    generalize wc.heap.size = qb at *
    have HD := Lib.hid (Below.drew (Below.refl W5.heap.size W5))
    have hkm : (k : Int) ≤ (mc : Int) := by omega
    have hk0 : (0 : Int) ≤ (k : Int) := by omega
    have HLB : Hid (([] : List Rr.Rw).length + (L.take k).length ≤ 1000) := by show _ ≤ _; simp; omega
    have HBk : Hid (k = (L.take k).length) := by show _ = _; have := HLk.out; rw [List.length_take]; omega
    go_cut [9] (fun s wx => s = .int .i64 (k : Nat) ∧ ∃ fa fn fc, Hid (wx.ownsRow (qb + 1) 27 8 (.slice fa fn fc) ([] ++ L.take k).length (Rr.rcs ([] ++ L.take k))) ∧ Hid (wx.heap[qb]? = some (.cells #[.int .i64 x0.mode, .int .i64 x0.indDed, .int .i64 x0.famDed, .int .i64 x0.indOop, .int .i64 x0.famOop, .slice fa fn fc] 34 (0, 0))) ∧ Hid (Below qb W5 wx))
    case first =>
      refine Ri.wp_region_tail 6 (by kernel_rfl) (by kernel_rfl) (by kernel_rfl) (by decide) (by kernel_rfl) (fun Wx => Below W5.heap.size W5 Wx) (fun kz vs wz => (fun kx vx wx => match kx with | 0 => vx = .pointer (some ⟨qb, 5, none⟩) | 1 => vx = .slice none 0 0 | 2 => vx = .pointer (some ⟨p0, 5, none⟩) | 3 => vx = .slice (some ⟨b, o, none⟩) n mc | 4 => vx = .int .i64 (k : Nat) | 5 => vx = .slice (some ⟨b, o, none⟩) k mc | _ => True : Nat → Value → World → Prop) kz (vs kz) wz) (fun kz => [kz]) (by kernel_rfl) (fun jz vs iz vz wz hiz hz => Ri.loc_own (F := (fun kx vx wx => match kx with | 0 => vx = .pointer (some ⟨qb, 5, none⟩) | 1 => vx = .slice none 0 0 | 2 => vx = .pointer (some ⟨p0, 5, none⟩) | 3 => vx = .slice (some ⟨b, o, none⟩) n mc | 4 => vx = .int .i64 (k : Nat) | 5 => vx = .slice (some ⟨b, o, none⟩) k mc | _ => True : Nat → Value → World → Prop)) jz vs iz vz wz hiz hz) HD.out ⟨⟨rfl, ?_⟩, ⟨rfl, ?_⟩, ⟨rfl, ?_⟩, ⟨rfl, ?_⟩, ⟨rfl, ?_⟩, ⟨rfl, ?_⟩, trivial⟩ ?_
      · intro vs Wx A hA hB hpre K hK
        have e10 := (hA 10).trans (show _ = Value.pointer (some ⟨qb, 0, none⟩) by kernel_rfl)
        clear hA hpre
        go_simp
        first | exact hK _ _ hB rfl (fun _ _ h => h) | exact hK _ _ hB trivial (fun _ _ h => h) | (rw [if_neg (by omega)]; go_simp; exact hK _ _ hB rfl (fun _ _ h => h))
      · intro vs Wx A hA hB hpre K hK
        have e41 := ((hA 41).trans (show _ = vs 0 by kernel_rfl)).trans (by first | exact hpre.1 rfl | exact hpre.2.1 rfl | exact hpre.2.2.1 rfl | exact hpre.2.2.2.1 rfl | exact hpre.2.2.2.2.1 rfl | exact hpre.2.2.2.2.2.1 rfl | exact hpre.2.2.2.2.2.2.1 rfl | exact hpre.2.2.2.2.2.2.2.1 rfl | exact hpre.2.2.2.2.2.2.2.2.1 rfl | exact hpre.2.2.2.2.2.2.2.2.2.1 rfl)
        obtain ⟨⟨x0', x1', x2', x3', x4', x5'⟩, ⟨y0', y1', y2', y3', y4', y5'⟩⟩ := HXQ.out Wx (hB.mono (Nat.le_of_lt HQW.out))
        obtain ⟨c0, c1, c2, c3, c4, c5⟩ := bsix (keepB HZ.out hB)
        clear hA hpre
        go_simp
        first | exact hK _ _ hB rfl (fun _ _ h => h) | exact hK _ _ hB trivial (fun _ _ h => h) | (rw [if_neg (by omega)]; go_simp; exact hK _ _ hB rfl (fun _ _ h => h))
      · intro vs Wx A hA hB hpre K hK
        have e4 := (hA 4).trans (show _ = Value.pointer (some ⟨p0, 0, none⟩) by kernel_rfl)
        clear hA hpre
        go_simp
        first | exact hK _ _ hB rfl (fun _ _ h => h) | exact hK _ _ hB trivial (fun _ _ h => h) | (rw [if_neg (by omega)]; go_simp; exact hK _ _ hB rfl (fun _ _ h => h))
      · intro vs Wx A hA hB hpre K hK
        have e43 := ((hA 43).trans (show _ = vs 2 by kernel_rfl)).trans (by first | exact hpre.1 rfl | exact hpre.2.1 rfl | exact hpre.2.2.1 rfl | exact hpre.2.2.2.1 rfl | exact hpre.2.2.2.2.1 rfl | exact hpre.2.2.2.2.2.1 rfl | exact hpre.2.2.2.2.2.2.1 rfl | exact hpre.2.2.2.2.2.2.2.1 rfl | exact hpre.2.2.2.2.2.2.2.2.1 rfl | exact hpre.2.2.2.2.2.2.2.2.2.1 rfl)
        obtain ⟨⟨x0', x1', x2', x3', x4', x5'⟩, ⟨y0', y1', y2', y3', y4', y5'⟩⟩ := HXQ.out Wx (hB.mono (Nat.le_of_lt HQW.out))
        obtain ⟨c0, c1, c2, c3, c4, c5⟩ := bsix (keepB HZ.out hB)
        clear hA hpre
        go_simp
        first | exact hK _ _ hB rfl (fun _ _ h => h) | exact hK _ _ hB trivial (fun _ _ h => h) | (rw [if_neg (by omega)]; go_simp; exact hK _ _ hB rfl (fun _ _ h => h))
      · intro vs Wx A hA hB hpre K hK
        have e9 := (hA 9).trans (show _ = Value.int .i64 (k : Nat) by kernel_rfl)
        clear hA hpre
        go_simp
        first | exact hK _ _ hB rfl (fun _ _ h => h) | exact hK _ _ hB trivial (fun _ _ h => h) | (rw [if_neg (by omega)]; go_simp; exact hK _ _ hB rfl (fun _ _ h => h))
      · intro vs Wx A hA hB hpre K hK
        have e44 := ((hA 44).trans (show _ = vs 3 by kernel_rfl)).trans (by first | exact hpre.1 rfl | exact hpre.2.1 rfl | exact hpre.2.2.1 rfl | exact hpre.2.2.2.1 rfl | exact hpre.2.2.2.2.1 rfl | exact hpre.2.2.2.2.2.1 rfl | exact hpre.2.2.2.2.2.2.1 rfl | exact hpre.2.2.2.2.2.2.2.1 rfl | exact hpre.2.2.2.2.2.2.2.2.1 rfl | exact hpre.2.2.2.2.2.2.2.2.2.1 rfl)
        have e45 := ((hA 45).trans (show _ = vs 4 by kernel_rfl)).trans (by first | exact hpre.1 rfl | exact hpre.2.1 rfl | exact hpre.2.2.1 rfl | exact hpre.2.2.2.1 rfl | exact hpre.2.2.2.2.1 rfl | exact hpre.2.2.2.2.2.1 rfl | exact hpre.2.2.2.2.2.2.1 rfl | exact hpre.2.2.2.2.2.2.2.1 rfl | exact hpre.2.2.2.2.2.2.2.2.1 rfl | exact hpre.2.2.2.2.2.2.2.2.2.1 rfl)
        clear hA hpre
        go_simp
        first | exact hK _ _ hB rfl (fun _ _ h => h) | exact hK _ _ hB trivial (fun _ _ h => h) | (rw [if_neg (by omega)]; go_simp; exact hK _ _ hB rfl (fun _ _ h => h))
      · intro vs Wx hB hF
        refine fun A6 hA K6 hK6 => ?_
        have e42 := ((hA 42).trans (show _ = vs 1 by kernel_rfl)).trans (hF 1 (by decide))
        have e46 := ((hA 46).trans (show _ = vs 5 by kernel_rfl)).trans (hF 5 (by decide))
        clear hA
        have hBq := (Below.refl qb W5).trans (hB.mono (Nat.le_of_lt HQW.out))
        have hqx : qb + 1 ≤ Wx.heap.size := Nat.lt_of_lt_of_le HQW.out hB.size
        have hzx := keepB HZ.out hB
        have hox : Wx.ownsRow (qb + 1) 27 8 (.slice none 0 0) (([] : List Rr.Rw)).length (Rr.rcs (([] : List Rr.Rw))) := (World.ownsRow_nil _ _ _ _)
        refine Rr.wp_app _ _ rfl (qb + 1) (.slice none 0 0) (([] : List Rr.Rw)) (by first | exact e42 | simpa [Act.eval] using e42) hox (some ⟨b, o, none⟩) (k) (mc) (L.take k) (by first | exact e46 | simpa [Act.eval] using e46) HBk.out (Or.inr ⟨b, o, rfl, fun j u hj => HCL.out Wx hBq j u (take_at hj)⟩) (Rr.rcs_one (K := fun b => b < qb) (w := Wx) _ (fun t ht => HIN.out Wx hBq t (List.mem_of_mem_take ht))) HLB.out hqx ?_
        intro vn w6 hown hgr hat
        have HBQ := Lib.hid (hBq.trans (grow_below (B := qb) hgr (by omega) (fun b hb => Nat.le_of_succ_le (own_ge hox b hb))))
        have HBX := Lib.hid (grow_box hgr hox (Nat.lt_succ_self qb) hzx)
        obtain ⟨fa2, fn2, fc2, rfl⟩ := own_form hown
        have HOW := Lib.hid hown
        clear hown hgr hat hzx hox hqx hBq e42 e46
        refine hK6 _ _ ?_
        refine fun A7 hA K7 hK7 => ?_
        have e10 := (hA 10).trans (show _ = Value.pointer (some ⟨qb, 0, none⟩) by kernel_rfl)
        clear hA
        go_simp
        refine hK7 _ _ ?_
        refine fun A8 hA K8 hK8 => ?_
        have e48 := (hA 48).trans (show _ = Value.pointer (some ⟨qb, 5, none⟩) by kernel_rfl)
        have e47 := (hA 47).trans (show _ = Value.slice fa2 fn2 fc2 by kernel_rfl)
        clear hA
        obtain ⟨c0, c1, c2, c3, c4, c5⟩ := bsix HBX.out
        have fz := bsix_soft HBX.out 5
        have HS := Lib.hid (set5 HBX.out (.slice fa2 fn2 fc2))
        have HOS := Lib.hid (own_set HOW.out (Nat.lt_succ_self qb) 5 (.slice fa2 fn2 fc2))
        have HBS := Lib.hid (HBQ.out.setCell (p := ⟨qb, 5, none⟩) (Nat.le_refl _) (.slice fa2 fn2 fc2))
        clear HBX HOW HBQ
        go_simp
        refine hK8 undef _ ?_
        clear hF hB
        simp only [Ri.Tail, Ri.puts]
        go_simp
        go_wp2_with fail
        go_meet
        exact ⟨by first | rfl | (go_simp; done), _, _, _, HOS.out, HS.out, HBS.out⟩
    case rest =>
      obtain ⟨rfl, fa, fn, fc, HOW, HBX, HBq⟩ := hcut
      simp only [List.nil_append] at HOW
      obtain ⟨w6, hw6⟩ : ∃ x, x = wc := ⟨_, rfl⟩
      subst hw6
      have HQ6 : Hid (qb < w6.heap.size) := (Array.getElem?_eq_some_iff.1 HBX.out).1
      have HD6 := Lib.hid (Below.drew (Below.refl w6.heap.size w6))
      have hk1 : (k : Int) + 1 ≤ (n : Int) := by omega
      have hk1m : (k : Int) + 1 ≤ (mc : Int) := by omega
      have hk10 : (0 : Int) ≤ (k : Int) + 1 := by omega
      have HWR : Hid (IntKind.i64.wrap ((k : Int) + 1) = (k : Int) + 1) := by show _ = _; rw [IntKind.wrap_i64]; omega
      clear HLB HD HZ
      have HLB : Hid ((L.take k).length + (L.drop (k + 1)).length ≤ 1000) := by show _ ≤ _; have := HLk.out; rw [List.length_take, List.length_drop]; omega
      have HBk2 : Hid (n - (k + 1) = (L.drop (k + 1)).length) := by show _ = _; have := HLk.out; rw [List.length_drop]; omega
      go_upto_region 9 with fail
      go_cut [9] (fun s wx => s = .int .i64 (k : Nat) ∧ ∃ fa fn fc, Hid (wx.ownsRow (qb + 1) 27 8 (.slice fa fn fc) (L.take k ++ L.drop (k + 1)).length (Rr.rcs (L.take k ++ L.drop (k + 1)))) ∧ Hid (wx.heap[qb]? = some (.cells #[.int .i64 x0.mode, .int .i64 x0.indDed, .int .i64 x0.famDed, .int .i64 x0.indOop, .int .i64 x0.famOop, .slice fa fn fc] 34 (0, 0))) ∧ Hid (Below qb W5 wx))
      case first =>
        by_cases hcap : mc = k + 1
        · subst hcap
          obtain rfl : n = k + 1 := by omega
          have HBk3 : Hid (0 = (L.drop (k + 1)).length) := by show _ = _; rw [← HBk2.out]; omega
          clear HBk2
          refine Ri.wp_region_tail 7 (by kernel_rfl) (by kernel_rfl) (by kernel_rfl) (by decide) (by kernel_rfl) (fun Wx => Below w6.heap.size w6 Wx) (fun kz vs wz => (fun kx vx wx => match kx with | 0 => vx = .pointer (some ⟨qb, 5, none⟩) | 1 => vx = .slice fa fn fc | 2 => vx = .pointer (some ⟨p0, 5, none⟩) | 3 => vx = .slice (some ⟨b, o, none⟩) (k + 1) (k + 1) | 4 => vx = .int .i64 (k : Nat) | 5 => vx = .int .i64 ((k : Int) + 1) | 6 => vx = .slice (some ⟨b, o, none⟩) (0) (0) | _ => True : Nat → Value → World → Prop) kz (vs kz) wz) (fun kz => [kz]) (by kernel_rfl) (fun jz vs iz vz wz hiz hz => Ri.loc_own (F := (fun kx vx wx => match kx with | 0 => vx = .pointer (some ⟨qb, 5, none⟩) | 1 => vx = .slice fa fn fc | 2 => vx = .pointer (some ⟨p0, 5, none⟩) | 3 => vx = .slice (some ⟨b, o, none⟩) (k + 1) (k + 1) | 4 => vx = .int .i64 (k : Nat) | 5 => vx = .int .i64 ((k : Int) + 1) | 6 => vx = .slice (some ⟨b, o, none⟩) (0) (0) | _ => True : Nat → Value → World → Prop)) jz vs iz vz wz hiz hz) HD6.out ⟨⟨rfl, ?_⟩, ⟨rfl, ?_⟩, ⟨rfl, ?_⟩, ⟨rfl, ?_⟩, ⟨rfl, ?_⟩, ⟨rfl, ?_⟩, ⟨rfl, ?_⟩, trivial⟩ ?_
          · intro vs Wx A hA hB hpre K hK
            have e10 := (hA 10).trans (show _ = Value.pointer (some ⟨qb, 0, none⟩) by kernel_rfl)
            clear hA hpre
            go_simp
            first | exact hK _ _ hB rfl (fun _ _ h => h) | exact hK _ _ hB trivial (fun _ _ h => h) | (rw [if_neg (by omega)]; go_simp; exact hK _ _ hB rfl (fun _ _ h => h))
          · intro vs Wx A hA hB hpre K hK
            have e49 := ((hA 49).trans (show _ = vs 0 by kernel_rfl)).trans (by first | exact hpre.1 rfl | exact hpre.2.1 rfl | exact hpre.2.2.1 rfl | exact hpre.2.2.2.1 rfl | exact hpre.2.2.2.2.1 rfl | exact hpre.2.2.2.2.2.1 rfl | exact hpre.2.2.2.2.2.2.1 rfl | exact hpre.2.2.2.2.2.2.2.1 rfl | exact hpre.2.2.2.2.2.2.2.2.1 rfl | exact hpre.2.2.2.2.2.2.2.2.2.1 rfl)
            obtain ⟨⟨x0', x1', x2', x3', x4', x5'⟩, ⟨y0', y1', y2', y3', y4', y5'⟩⟩ := HXQ.out Wx (HBq.out.trans (hB.mono (Nat.le_of_lt HQ6.out)))
            obtain ⟨c0, c1, c2, c3, c4, c5⟩ := bsix (keepB HBX.out hB)
            clear hA hpre
            go_simp
            first | exact hK _ _ hB rfl (fun _ _ h => h) | exact hK _ _ hB trivial (fun _ _ h => h) | (rw [if_neg (by omega)]; go_simp; exact hK _ _ hB rfl (fun _ _ h => h))
          · intro vs Wx A hA hB hpre K hK
            have e4 := (hA 4).trans (show _ = Value.pointer (some ⟨p0, 0, none⟩) by kernel_rfl)
            clear hA hpre
            go_simp
            first | exact hK _ _ hB rfl (fun _ _ h => h) | exact hK _ _ hB trivial (fun _ _ h => h) | (rw [if_neg (by omega)]; go_simp; exact hK _ _ hB rfl (fun _ _ h => h))
          · intro vs Wx A hA hB hpre K hK
            have e51 := ((hA 51).trans (show _ = vs 2 by kernel_rfl)).trans (by first | exact hpre.1 rfl | exact hpre.2.1 rfl | exact hpre.2.2.1 rfl | exact hpre.2.2.2.1 rfl | exact hpre.2.2.2.2.1 rfl | exact hpre.2.2.2.2.2.1 rfl | exact hpre.2.2.2.2.2.2.1 rfl | exact hpre.2.2.2.2.2.2.2.1 rfl | exact hpre.2.2.2.2.2.2.2.2.1 rfl | exact hpre.2.2.2.2.2.2.2.2.2.1 rfl)
            obtain ⟨⟨x0', x1', x2', x3', x4', x5'⟩, ⟨y0', y1', y2', y3', y4', y5'⟩⟩ := HXQ.out Wx (HBq.out.trans (hB.mono (Nat.le_of_lt HQ6.out)))
            obtain ⟨c0, c1, c2, c3, c4, c5⟩ := bsix (keepB HBX.out hB)
            clear hA hpre
            go_simp
            first | exact hK _ _ hB rfl (fun _ _ h => h) | exact hK _ _ hB trivial (fun _ _ h => h) | (rw [if_neg (by omega)]; go_simp; exact hK _ _ hB rfl (fun _ _ h => h))
          · intro vs Wx A hA hB hpre K hK
            have e9 := (hA 9).trans (show _ = Value.int .i64 (k : Nat) by kernel_rfl)
            clear hA hpre
            go_simp
            first | exact hK _ _ hB rfl (fun _ _ h => h) | exact hK _ _ hB trivial (fun _ _ h => h) | (rw [if_neg (by omega)]; go_simp; exact hK _ _ hB rfl (fun _ _ h => h))
          · intro vs Wx A hA hB hpre K hK
            have e53 := ((hA 53).trans (show _ = vs 4 by kernel_rfl)).trans (by first | exact hpre.1 rfl | exact hpre.2.1 rfl | exact hpre.2.2.1 rfl | exact hpre.2.2.2.1 rfl | exact hpre.2.2.2.2.1 rfl | exact hpre.2.2.2.2.2.1 rfl | exact hpre.2.2.2.2.2.2.1 rfl | exact hpre.2.2.2.2.2.2.2.1 rfl | exact hpre.2.2.2.2.2.2.2.2.1 rfl | exact hpre.2.2.2.2.2.2.2.2.2.1 rfl)
            have hwr := HWR.out
            clear hA hpre
            go_simp
            first | exact hK _ _ hB rfl (fun _ _ h => h) | exact hK _ _ hB trivial (fun _ _ h => h) | (rw [if_neg (by omega)]; go_simp; exact hK _ _ hB rfl (fun _ _ h => h))
          · intro vs Wx A hA hB hpre K hK
            have e52 := ((hA 52).trans (show _ = vs 3 by kernel_rfl)).trans (by first | exact hpre.1 rfl | exact hpre.2.1 rfl | exact hpre.2.2.1 rfl | exact hpre.2.2.2.1 rfl | exact hpre.2.2.2.2.1 rfl | exact hpre.2.2.2.2.2.1 rfl | exact hpre.2.2.2.2.2.2.1 rfl | exact hpre.2.2.2.2.2.2.2.1 rfl | exact hpre.2.2.2.2.2.2.2.2.1 rfl | exact hpre.2.2.2.2.2.2.2.2.2.1 rfl)
            have e54 := ((hA 54).trans (show _ = vs 5 by kernel_rfl)).trans (by first | exact hpre.1 rfl | exact hpre.2.1 rfl | exact hpre.2.2.1 rfl | exact hpre.2.2.2.1 rfl | exact hpre.2.2.2.2.1 rfl | exact hpre.2.2.2.2.2.1 rfl | exact hpre.2.2.2.2.2.2.1 rfl | exact hpre.2.2.2.2.2.2.2.1 rfl | exact hpre.2.2.2.2.2.2.2.2.1 rfl | exact hpre.2.2.2.2.2.2.2.2.2.1 rfl)
            clear hA hpre
            go_simp
            first | exact hK _ _ hB rfl (fun _ _ h => h) | exact hK _ _ hB trivial (fun _ _ h => h) | (rw [if_neg (by omega)]; go_simp; exact hK _ _ hB rfl (fun _ _ h => h))
          · intro vs Wx hB hF
            refine fun A7 hA K7 hK7 => ?_
            have e50 := ((hA 50).trans (show _ = vs 1 by kernel_rfl)).trans (hF 1 (by decide))
            have e55 := ((hA 55).trans (show _ = vs 6 by kernel_rfl)).trans (hF 6 (by decide))
            clear hA
            have hBq := HBq.out.trans (hB.mono (Nat.le_of_lt HQ6.out))
            have hqx : qb + 1 ≤ Wx.heap.size := Nat.lt_of_lt_of_le HQ6.out hB.size
            have hzx := keepB HBX.out hB
            have hox : Wx.ownsRow (qb + 1) 27 8 (.slice fa fn fc) (L.take k).length (Rr.rcs (L.take k)) := (own_far HOW.out hB)
            refine Rr.wp_app _ _ rfl (qb + 1) (.slice fa fn fc) (L.take k) (by first | exact e50 | simpa [Act.eval] using e50) hox (some ⟨b, o, none⟩) (0) (0) (L.drop (k + 1)) (by first | exact e55 | simpa [Act.eval] using e55) HBk3.out (Or.inl rfl) (Rr.rcs_one (K := fun b => b < qb) (w := Wx) _ (fun t ht => HIN.out Wx hBq t (List.mem_of_mem_drop ht))) HLB.out hqx ?_
            intro vn w6 hown hgr hat
            have HBQ := Lib.hid (hBq.trans (grow_below (B := qb) hgr (by omega) (fun b hb => Nat.le_of_succ_le (own_ge hox b hb))))
            have HBX := Lib.hid (grow_box hgr hox (Nat.lt_succ_self qb) hzx)
            obtain ⟨fa2, fn2, fc2, rfl⟩ := own_form hown
            have HOW := Lib.hid hown
            clear hown hgr hat hzx hox hqx hBq e50 e55
            refine hK7 _ _ ?_
            refine fun A8 hA K8 hK8 => ?_
            have e10 := (hA 10).trans (show _ = Value.pointer (some ⟨qb, 0, none⟩) by kernel_rfl)
            clear hA
            go_simp
            refine hK8 _ _ ?_
            refine fun A9 hA K9 hK9 => ?_
            have e57 := (hA 57).trans (show _ = Value.pointer (some ⟨qb, 5, none⟩) by kernel_rfl)
            have e56 := (hA 56).trans (show _ = Value.slice fa2 fn2 fc2 by kernel_rfl)
            clear hA
            obtain ⟨c0, c1, c2, c3, c4, c5⟩ := bsix HBX.out
            have fz := bsix_soft HBX.out 5
            have HS := Lib.hid (set5 HBX.out (.slice fa2 fn2 fc2))
            have HOS := Lib.hid (own_set HOW.out (Nat.lt_succ_self qb) 5 (.slice fa2 fn2 fc2))
            have HBS := Lib.hid (HBQ.out.setCell (p := ⟨qb, 5, none⟩) (Nat.le_refl _) (.slice fa2 fn2 fc2))
            clear HBX HOW HBQ
            go_simp
            refine hK9 undef _ ?_
            clear hF hB
            simp only [Ri.Tail, Ri.puts]
            go_simp
            go_wp2_with fail
            go_meet
            exact ⟨by first | rfl | (go_simp; done), _, _, _, HOS.out, HS.out, HBS.out⟩
        have hcap' : ¬ ((mc : Int) = (k : Int) + 1) := by omega
        refine Ri.wp_region_tail 7 (by kernel_rfl) (by kernel_rfl) (by kernel_rfl) (by decide) (by kernel_rfl) (fun Wx => Below w6.heap.size w6 Wx) (fun kz vs wz => (fun kx vx wx => match kx with | 0 => vx = .pointer (some ⟨qb, 5, none⟩) | 1 => vx = .slice fa fn fc | 2 => vx = .pointer (some ⟨p0, 5, none⟩) | 3 => vx = .slice (some ⟨b, o, none⟩) n mc | 4 => vx = .int .i64 (k : Nat) | 5 => vx = .int .i64 ((k : Int) + 1) | 6 => vx = .slice (some ⟨b, o + (k + 1) * 8, none⟩) (n - (k + 1)) (mc - (k + 1)) | _ => True : Nat → Value → World → Prop) kz (vs kz) wz) (fun kz => [kz]) (by kernel_rfl) (fun jz vs iz vz wz hiz hz => Ri.loc_own (F := (fun kx vx wx => match kx with | 0 => vx = .pointer (some ⟨qb, 5, none⟩) | 1 => vx = .slice fa fn fc | 2 => vx = .pointer (some ⟨p0, 5, none⟩) | 3 => vx = .slice (some ⟨b, o, none⟩) n mc | 4 => vx = .int .i64 (k : Nat) | 5 => vx = .int .i64 ((k : Int) + 1) | 6 => vx = .slice (some ⟨b, o + (k + 1) * 8, none⟩) (n - (k + 1)) (mc - (k + 1)) | _ => True : Nat → Value → World → Prop)) jz vs iz vz wz hiz hz) HD6.out ⟨⟨rfl, ?_⟩, ⟨rfl, ?_⟩, ⟨rfl, ?_⟩, ⟨rfl, ?_⟩, ⟨rfl, ?_⟩, ⟨rfl, ?_⟩, ⟨rfl, ?_⟩, trivial⟩ ?_
        · intro vs Wx A hA hB hpre K hK
          have e10 := (hA 10).trans (show _ = Value.pointer (some ⟨qb, 0, none⟩) by kernel_rfl)
          clear hA hpre
          go_simp
          first | exact hK _ _ hB rfl (fun _ _ h => h) | exact hK _ _ hB trivial (fun _ _ h => h) | (rw [if_neg (by omega)]; go_simp; exact hK _ _ hB rfl (fun _ _ h => h))
        · intro vs Wx A hA hB hpre K hK
          have e49 := ((hA 49).trans (show _ = vs 0 by kernel_rfl)).trans (by first | exact hpre.1 rfl | exact hpre.2.1 rfl | exact hpre.2.2.1 rfl | exact hpre.2.2.2.1 rfl | exact hpre.2.2.2.2.1 rfl | exact hpre.2.2.2.2.2.1 rfl | exact hpre.2.2.2.2.2.2.1 rfl | exact hpre.2.2.2.2.2.2.2.1 rfl | exact hpre.2.2.2.2.2.2.2.2.1 rfl | exact hpre.2.2.2.2.2.2.2.2.2.1 rfl)
          obtain ⟨⟨x0', x1', x2', x3', x4', x5'⟩, ⟨y0', y1', y2', y3', y4', y5'⟩⟩ := HXQ.out Wx (HBq.out.trans (hB.mono (Nat.le_of_lt HQ6.out)))
          obtain ⟨c0, c1, c2, c3, c4, c5⟩ := bsix (keepB HBX.out hB)
          clear hA hpre
          go_simp
          first | exact hK _ _ hB rfl (fun _ _ h => h) | exact hK _ _ hB trivial (fun _ _ h => h) | (rw [if_neg (by omega)]; go_simp; exact hK _ _ hB rfl (fun _ _ h => h))
        · intro vs Wx A hA hB hpre K hK
          have e4 := (hA 4).trans (show _ = Value.pointer (some ⟨p0, 0, none⟩) by kernel_rfl)
          clear hA hpre
          go_simp
          first | exact hK _ _ hB rfl (fun _ _ h => h) | exact hK _ _ hB trivial (fun _ _ h => h) | (rw [if_neg (by omega)]; go_simp; exact hK _ _ hB rfl (fun _ _ h => h))
        · intro vs Wx A hA hB hpre K hK
          have e51 := ((hA 51).trans (show _ = vs 2 by kernel_rfl)).trans (by first | exact hpre.1 rfl | exact hpre.2.1 rfl | exact hpre.2.2.1 rfl | exact hpre.2.2.2.1 rfl | exact hpre.2.2.2.2.1 rfl | exact hpre.2.2.2.2.2.1 rfl | exact hpre.2.2.2.2.2.2.1 rfl | exact hpre.2.2.2.2.2.2.2.1 rfl | exact hpre.2.2.2.2.2.2.2.2.1 rfl | exact hpre.2.2.2.2.2.2.2.2.2.1 rfl)
          obtain ⟨⟨x0', x1', x2', x3', x4', x5'⟩, ⟨y0', y1', y2', y3', y4', y5'⟩⟩ := HXQ.out Wx (HBq.out.trans (hB.mono (Nat.le_of_lt HQ6.out)))
          obtain ⟨c0, c1, c2, c3, c4, c5⟩ := bsix (keepB HBX.out hB)
          clear hA hpre
          go_simp
          first | exact hK _ _ hB rfl (fun _ _ h => h) | exact hK _ _ hB trivial (fun _ _ h => h) | (rw [if_neg (by omega)]; go_simp; exact hK _ _ hB rfl (fun _ _ h => h))
        · intro vs Wx A hA hB hpre K hK
          have e9 := (hA 9).trans (show _ = Value.int .i64 (k : Nat) by kernel_rfl)
          clear hA hpre
          go_simp
          first | exact hK _ _ hB rfl (fun _ _ h => h) | exact hK _ _ hB trivial (fun _ _ h => h) | (rw [if_neg (by omega)]; go_simp; exact hK _ _ hB rfl (fun _ _ h => h))
        · intro vs Wx A hA hB hpre K hK
          have e53 := ((hA 53).trans (show _ = vs 4 by kernel_rfl)).trans (by first | exact hpre.1 rfl | exact hpre.2.1 rfl | exact hpre.2.2.1 rfl | exact hpre.2.2.2.1 rfl | exact hpre.2.2.2.2.1 rfl | exact hpre.2.2.2.2.2.1 rfl | exact hpre.2.2.2.2.2.2.1 rfl | exact hpre.2.2.2.2.2.2.2.1 rfl | exact hpre.2.2.2.2.2.2.2.2.1 rfl | exact hpre.2.2.2.2.2.2.2.2.2.1 rfl)
          have hwr := HWR.out
          clear hA hpre
          go_simp
          first | exact hK _ _ hB rfl (fun _ _ h => h) | exact hK _ _ hB trivial (fun _ _ h => h) | (rw [if_neg (by omega)]; go_simp; exact hK _ _ hB rfl (fun _ _ h => h))
        · intro vs Wx A hA hB hpre K hK
          have e52 := ((hA 52).trans (show _ = vs 3 by kernel_rfl)).trans (by first | exact hpre.1 rfl | exact hpre.2.1 rfl | exact hpre.2.2.1 rfl | exact hpre.2.2.2.1 rfl | exact hpre.2.2.2.2.1 rfl | exact hpre.2.2.2.2.2.1 rfl | exact hpre.2.2.2.2.2.2.1 rfl | exact hpre.2.2.2.2.2.2.2.1 rfl | exact hpre.2.2.2.2.2.2.2.2.1 rfl | exact hpre.2.2.2.2.2.2.2.2.2.1 rfl)
          have e54 := ((hA 54).trans (show _ = vs 5 by kernel_rfl)).trans (by first | exact hpre.1 rfl | exact hpre.2.1 rfl | exact hpre.2.2.1 rfl | exact hpre.2.2.2.1 rfl | exact hpre.2.2.2.2.1 rfl | exact hpre.2.2.2.2.2.1 rfl | exact hpre.2.2.2.2.2.2.1 rfl | exact hpre.2.2.2.2.2.2.2.1 rfl | exact hpre.2.2.2.2.2.2.2.2.1 rfl | exact hpre.2.2.2.2.2.2.2.2.2.1 rfl)
          clear hA hpre
          go_simp
          first | exact hK _ _ hB rfl (fun _ _ h => h) | exact hK _ _ hB trivial (fun _ _ h => h) | (rw [if_neg (by omega)]; go_simp; exact hK _ _ hB rfl (fun _ _ h => h))
        · intro vs Wx hB hF
          refine fun A7 hA K7 hK7 => ?_
          have e50 := ((hA 50).trans (show _ = vs 1 by kernel_rfl)).trans (hF 1 (by decide))
          have e55 := ((hA 55).trans (show _ = vs 6 by kernel_rfl)).trans (hF 6 (by decide))
          clear hA
          have hBq := HBq.out.trans (hB.mono (Nat.le_of_lt HQ6.out))
          have hqx : qb + 1 ≤ Wx.heap.size := Nat.lt_of_lt_of_le HQ6.out hB.size
          have hzx := keepB HBX.out hB
          have hox : Wx.ownsRow (qb + 1) 27 8 (.slice fa fn fc) (L.take k).length (Rr.rcs (L.take k)) := (own_far HOW.out hB)
          refine Rr.wp_app _ _ rfl (qb + 1) (.slice fa fn fc) (L.take k) (by first | exact e50 | simpa [Act.eval] using e50) hox (some ⟨b, o + (k + 1) * 8, none⟩) (n - (k + 1)) (mc - (k + 1)) (L.drop (k + 1)) (by first | exact e55 | simpa [Act.eval] using e55) HBk2.out (Or.inr ⟨b, o + (k + 1) * 8, rfl, fun j u hj => by rw [Nat.add_assoc]; exact HCL.out Wx hBq _ u (drop_at hj)⟩) (Rr.rcs_one (K := fun b => b < qb) (w := Wx) _ (fun t ht => HIN.out Wx hBq t (List.mem_of_mem_drop ht))) HLB.out hqx ?_
          intro vn w6 hown hgr hat
          have HBQ := Lib.hid (hBq.trans (grow_below (B := qb) hgr (by omega) (fun b hb => Nat.le_of_succ_le (own_ge hox b hb))))
          have HBX := Lib.hid (grow_box hgr hox (Nat.lt_succ_self qb) hzx)
          obtain ⟨fa2, fn2, fc2, rfl⟩ := own_form hown
          have HOW := Lib.hid hown
          clear hown hgr hat hzx hox hqx hBq e50 e55
          refine hK7 _ _ ?_
          refine fun A8 hA K8 hK8 => ?_
          have e10 := (hA 10).trans (show _ = Value.pointer (some ⟨qb, 0, none⟩) by kernel_rfl)
          clear hA
          go_simp
          refine hK8 _ _ ?_
          refine fun A9 hA K9 hK9 => ?_
          have e57 := (hA 57).trans (show _ = Value.pointer (some ⟨qb, 5, none⟩) by kernel_rfl)
          have e56 := (hA 56).trans (show _ = Value.slice fa2 fn2 fc2 by kernel_rfl)
          clear hA
          obtain ⟨c0, c1, c2, c3, c4, c5⟩ := bsix HBX.out
          have fz := bsix_soft HBX.out 5
          have HS := Lib.hid (set5 HBX.out (.slice fa2 fn2 fc2))
          have HOS := Lib.hid (own_set HOW.out (Nat.lt_succ_self qb) 5 (.slice fa2 fn2 fc2))
          have HBS := Lib.hid (HBQ.out.setCell (p := ⟨qb, 5, none⟩) (Nat.le_refl _) (.slice fa2 fn2 fc2))
          clear HBX HOW HBQ
          go_simp
          refine hK9 undef _ ?_
          clear hF hB
          simp only [Ri.Tail, Ri.puts]
          go_simp
          go_wp2_with fail
          go_meet
          exact ⟨by first | rfl | (go_simp; done), _, _, _, HOS.out, HS.out, HBS.out⟩
      case rest =>
        obtain ⟨rfl, fa3, fn3, fc3, HOW3, HBX3, HBq3⟩ := hcut
        obtain ⟨w7, hw7⟩ : ∃ x, x = wc := ⟨_, rfl⟩
        subst hw7
        have HLen : Hid ((L.take k ++ L.drop (k + 1)).length ≤ 1000) := by show _ ≤ _; rw [List.length_append]; exact HLB.out
        have HQR := Lib.hid fun W' (hW : Below w7.heap.size w7 W') => Rr.own_rus (own_far HOW3.out hW) (fun t ht => HIN.out W' (HBq3.out.trans (hW.mono (Nat.le_of_lt (Array.getElem?_eq_some_iff.1 HBX3.out).1))) t (by rcases List.mem_append.1 ht with h | h; exact List.mem_of_mem_take h; exact List.mem_of_mem_drop h)) HLen.out
        have HEQ : Hid (benV x1 a2 ((L.take k ++ L.drop (k + 1)).map (·.1)) = benV x1 a2 x0.rules) := by
          show _ = _
          have e1 : (L.take k ++ L.drop (k + 1)).map (·.1) = x0.rules.take k ++ x0.rules.drop (k + 1) := by rw [List.map_append, List.map_take, List.map_drop, HLs.out.1]
          have e2 : x0.rules = x0.rules.take k ++ r :: x0.rules.drop (k + 1) := by
            have h := HKr.out
            have hlt := (List.getElem?_eq_some_iff.1 h).1
            have hr : x0.rules[k] = r := by rw [List.getElem?_eq_getElem hlt] at h; exact Option.some.inj h
            rw [← hr, ← List.drop_eq_getElem_cons hlt, List.take_append_drop]
          rw [e1]
          have hv := fun what => val_drop x1 a2 what (x0.rules.take k) (x0.rules.drop (k + 1)) r hq
          show benv _ _ _ _ = benv _ _ _ _
          rw [← hv 1, ← hv 2, ← hv 3, ← hv 4, ← e2]
        clear HOW3 HLen HOW HBX HBq HCL
        have HBF := Lib.hid (HB5.out.trans (HBq3.out.mono HPQ.out))
        have HQ7 : Hid (qb < w7.heap.size) := (Array.getElem?_eq_some_iff.1 HBX3.out).1
        have HUP := Lib.hid fun W' (hW : Below w7.heap.size w7 W') => HBq3.out.trans (hW.mono (Nat.le_of_lt HQ7.out))
        have HXK := Lib.hid fun W' (hW : Below w7.heap.size w7 W') => And.intro (HXQ.out W' (HUP.out W' hW)) (bsix (keepB HBX3.out hW))
        have HRs := Lib.hid fun W' (hW : Below w7.heap.size w7 W') => res_any x0 _ x1 _ a2 W' (HRP.out W' (HUP.out W' hW)) (HTX.out W' (HUP.out W' hW))
        have HRq := Lib.hid fun W' (hW : Below w7.heap.size w7 W') => res_any ⟨x0.mode, x0.indDed, x0.famDed, x0.indOop, x0.famOop, (L.take k ++ L.drop (k + 1)).map (·.1)⟩ (.slice fa3 fn3 fc3) x1 _ a2 W' (HQR.out W' hW) (HTX.out W' (HUP.out W' hW))
        change Hid (∀ W' (hW : Below w7.heap.size w7 W'), Calls _ _ _ _ fun e w' => e = .returned (benV x1 a2 ((L.take k ++ L.drop (k + 1)).map (·.1))) ∧ _) at HRq
        rw [HEQ.out] at HRq
        have HD7 := Lib.hid (Below.drew (Below.refl w7.heap.size w7))
        clear HQR HEQ
        go_upto_region 10 with fail
        refine Ri.wp_region_lasting_g (by kernel_rfl) (by kernel_rfl) (by kernel_rfl) (fun Wx => Below w7.heap.size w7 Wx) (fun kz vs wz => (fun kx vx wx => match kx with | 0 => vx = pnv x0 (.slice (some ⟨b, o, none⟩) n mc) | 1 => vx = lnv x1 (.slice la x1.mods.length lk) | 2 => vx = .int .i64 a2 | 3 => vx = benV x1 a2 x0.rules | 4 => vx = pnv ⟨x0.mode, x0.indDed, x0.famDed, x0.indOop, x0.famOop, (L.take k ++ L.drop (k + 1)).map (·.1)⟩ (.slice fa3 fn3 fc3) | 5 => vx = lnv x1 (.slice la x1.mods.length lk) | 6 => vx = .int .i64 a2 | 7 => vx = benV x1 a2 x0.rules | 8 => vx = .bool true | 9 => vx = .bool true | 10 => vx = .bool true | 11 => vx = .bool true | 12 => vx = .bool true | _ => True : Nat → Value → World → Prop) kz (vs kz) wz) (fun kz => [kz]) (by kernel_rfl) (fun jz vs iz vz wz hiz hz => Ri.loc_own (F := (fun kx vx wx => match kx with | 0 => vx = pnv x0 (.slice (some ⟨b, o, none⟩) n mc) | 1 => vx = lnv x1 (.slice la x1.mods.length lk) | 2 => vx = .int .i64 a2 | 3 => vx = benV x1 a2 x0.rules | 4 => vx = pnv ⟨x0.mode, x0.indDed, x0.famDed, x0.indOop, x0.famOop, (L.take k ++ L.drop (k + 1)).map (·.1)⟩ (.slice fa3 fn3 fc3) | 5 => vx = lnv x1 (.slice la x1.mods.length lk) | 6 => vx = .int .i64 a2 | 7 => vx = benV x1 a2 x0.rules | 8 => vx = .bool true | 9 => vx = .bool true | 10 => vx = .bool true | 11 => vx = .bool true | 12 => vx = .bool true | _ => True : Nat → Value → World → Prop)) jz vs iz vz wz hiz hz) HD7.out ⟨Or.inl ⟨rfl, ?_⟩, Or.inl ⟨rfl, ?_⟩, Or.inl ⟨rfl, ?_⟩, Or.inl ⟨rfl, ?_⟩, Or.inl ⟨rfl, ?_⟩, Or.inl ⟨rfl, ?_⟩, Or.inl ⟨rfl, ?_⟩, Or.inl ⟨rfl, ?_⟩, Or.inl ⟨rfl, ?_⟩, Or.inl ⟨rfl, ?_⟩, Or.inr ⟨9, true, 67, rfl, rfl, ?_⟩, Or.inl ⟨rfl, ?_⟩, Or.inl ⟨rfl, ?_⟩, trivial⟩ ?_
        · intro vs Wx A hA hB hpre K hK
          have e4 := (hA 4).trans (show _ = Value.pointer (some ⟨p0, 0, none⟩) by kernel_rfl)
          obtain ⟨⟨⟨x0', x1', x2', x3', x4', x5'⟩, ⟨y0', y1', y2', y3', y4', y5'⟩⟩, ⟨c0, c1, c2, c3, c4, c5⟩⟩ := HXK.out Wx hB
          clear hA hpre
          go_simp
          first | exact hK _ _ hB rfl (fun _ _ h => h) | exact hK _ _ hB trivial (fun _ _ h => h) | (rw [if_neg (by omega)]; go_simp; exact hK _ _ hB rfl (fun _ _ h => h))
        · intro vs Wx A hA hB hpre K hK
          have e5 := (hA 5).trans (show _ = Value.pointer (some ⟨q1, 0, none⟩) by kernel_rfl)
          obtain ⟨⟨⟨x0', x1', x2', x3', x4', x5'⟩, ⟨y0', y1', y2', y3', y4', y5'⟩⟩, ⟨c0, c1, c2, c3, c4, c5⟩⟩ := HXK.out Wx hB
          clear hA hpre
          go_simp
          first | exact hK _ _ hB rfl (fun _ _ h => h) | exact hK _ _ hB trivial (fun _ _ h => h) | (rw [if_neg (by omega)]; go_simp; exact hK _ _ hB rfl (fun _ _ h => h))
        · intro vs Wx A hA hB hpre K hK
          have e2 := (hA 2).trans (show _ = Value.int .i64 a2 by kernel_rfl)
          clear hA hpre
          go_simp
          first | exact hK _ _ hB rfl (fun _ _ h => h) | exact hK _ _ hB trivial (fun _ _ h => h) | (rw [if_neg (by omega)]; go_simp; exact hK _ _ hB rfl (fun _ _ h => h))
        · intro vs Wx A hA hB hpre K hK
          have e58 := ((hA 58).trans (show _ = vs 0 by kernel_rfl)).trans (by first | exact hpre.1 rfl | exact hpre.2.1 rfl | exact hpre.2.2.1 rfl | exact hpre.2.2.2.1 rfl | exact hpre.2.2.2.2.1 rfl | exact hpre.2.2.2.2.2.1 rfl | exact hpre.2.2.2.2.2.2.1 rfl | exact hpre.2.2.2.2.2.2.2.1 rfl | exact hpre.2.2.2.2.2.2.2.2.1 rfl | exact hpre.2.2.2.2.2.2.2.2.2.1 rfl)
          have e59 := ((hA 59).trans (show _ = vs 1 by kernel_rfl)).trans (by first | exact hpre.1 rfl | exact hpre.2.1 rfl | exact hpre.2.2.1 rfl | exact hpre.2.2.2.1 rfl | exact hpre.2.2.2.2.1 rfl | exact hpre.2.2.2.2.2.1 rfl | exact hpre.2.2.2.2.2.2.1 rfl | exact hpre.2.2.2.2.2.2.2.1 rfl | exact hpre.2.2.2.2.2.2.2.2.1 rfl | exact hpre.2.2.2.2.2.2.2.2.2.1 rfl)
          have e60 := ((hA 60).trans (show _ = vs 2 by kernel_rfl)).trans (by first | exact hpre.1 rfl | exact hpre.2.1 rfl | exact hpre.2.2.1 rfl | exact hpre.2.2.2.1 rfl | exact hpre.2.2.2.2.1 rfl | exact hpre.2.2.2.2.2.1 rfl | exact hpre.2.2.2.2.2.2.1 rfl | exact hpre.2.2.2.2.2.2.2.1 rfl | exact hpre.2.2.2.2.2.2.2.2.1 rfl | exact hpre.2.2.2.2.2.2.2.2.2.1 rfl)
          clear hA hpre
          go_simp
          go_at_call 15
          refine (HRs.out _ hB).mono ?_
          rintro e w3 ⟨rfl, hb3⟩
          exact hK _ _ (below_trans hB hb3) rfl (fun _ _ h => h)
        · intro vs Wx A hA hB hpre K hK
          have e10 := (hA 10).trans (show _ = Value.pointer (some ⟨qb, 0, none⟩) by kernel_rfl)
          obtain ⟨⟨⟨x0', x1', x2', x3', x4', x5'⟩, ⟨y0', y1', y2', y3', y4', y5'⟩⟩, ⟨c0, c1, c2, c3, c4, c5⟩⟩ := HXK.out Wx hB
          clear hA hpre
          go_simp
          first | exact hK _ _ hB rfl (fun _ _ h => h) | exact hK _ _ hB trivial (fun _ _ h => h) | (rw [if_neg (by omega)]; go_simp; exact hK _ _ hB rfl (fun _ _ h => h))
        · intro vs Wx A hA hB hpre K hK
          have e5 := (hA 5).trans (show _ = Value.pointer (some ⟨q1, 0, none⟩) by kernel_rfl)
          obtain ⟨⟨⟨x0', x1', x2', x3', x4', x5'⟩, ⟨y0', y1', y2', y3', y4', y5'⟩⟩, ⟨c0, c1, c2, c3, c4, c5⟩⟩ := HXK.out Wx hB
          clear hA hpre
          go_simp
          first | exact hK _ _ hB rfl (fun _ _ h => h) | exact hK _ _ hB trivial (fun _ _ h => h) | (rw [if_neg (by omega)]; go_simp; exact hK _ _ hB rfl (fun _ _ h => h))
        · intro vs Wx A hA hB hpre K hK
          have e2 := (hA 2).trans (show _ = Value.int .i64 a2 by kernel_rfl)
          clear hA hpre
          go_simp
          first | exact hK _ _ hB rfl (fun _ _ h => h) | exact hK _ _ hB trivial (fun _ _ h => h) | (rw [if_neg (by omega)]; go_simp; exact hK _ _ hB rfl (fun _ _ h => h))
        · intro vs Wx A hA hB hpre K hK
          have e62 := ((hA 62).trans (show _ = vs 4 by kernel_rfl)).trans (by first | exact hpre.1 rfl | exact hpre.2.1 rfl | exact hpre.2.2.1 rfl | exact hpre.2.2.2.1 rfl | exact hpre.2.2.2.2.1 rfl | exact hpre.2.2.2.2.2.1 rfl | exact hpre.2.2.2.2.2.2.1 rfl | exact hpre.2.2.2.2.2.2.2.1 rfl | exact hpre.2.2.2.2.2.2.2.2.1 rfl | exact hpre.2.2.2.2.2.2.2.2.2.1 rfl)
          have e63 := ((hA 63).trans (show _ = vs 5 by kernel_rfl)).trans (by first | exact hpre.1 rfl | exact hpre.2.1 rfl | exact hpre.2.2.1 rfl | exact hpre.2.2.2.1 rfl | exact hpre.2.2.2.2.1 rfl | exact hpre.2.2.2.2.2.1 rfl | exact hpre.2.2.2.2.2.2.1 rfl | exact hpre.2.2.2.2.2.2.2.1 rfl | exact hpre.2.2.2.2.2.2.2.2.1 rfl | exact hpre.2.2.2.2.2.2.2.2.2.1 rfl)
          have e64 := ((hA 64).trans (show _ = vs 6 by kernel_rfl)).trans (by first | exact hpre.1 rfl | exact hpre.2.1 rfl | exact hpre.2.2.1 rfl | exact hpre.2.2.2.1 rfl | exact hpre.2.2.2.2.1 rfl | exact hpre.2.2.2.2.2.1 rfl | exact hpre.2.2.2.2.2.2.1 rfl | exact hpre.2.2.2.2.2.2.2.1 rfl | exact hpre.2.2.2.2.2.2.2.2.1 rfl | exact hpre.2.2.2.2.2.2.2.2.2.1 rfl)
          clear hA hpre
          go_simp
          go_at_call 15
          refine (HRq.out _ hB).mono ?_
          rintro e w3 ⟨rfl, hb3⟩
          exact hK _ _ (below_trans hB hb3) rfl (fun _ _ h => h)
        · intro vs Wx A hA hB hpre K hK
          have e61 := ((hA 61).trans (show _ = vs 3 by kernel_rfl)).trans (by first | exact hpre.1 rfl | exact hpre.2.1 rfl | exact hpre.2.2.1 rfl | exact hpre.2.2.2.1 rfl | exact hpre.2.2.2.2.1 rfl | exact hpre.2.2.2.2.2.1 rfl | exact hpre.2.2.2.2.2.2.1 rfl | exact hpre.2.2.2.2.2.2.2.1 rfl | exact hpre.2.2.2.2.2.2.2.2.1 rfl | exact hpre.2.2.2.2.2.2.2.2.2.1 rfl)
          have e65 := ((hA 65).trans (show _ = vs 7 by kernel_rfl)).trans (by first | exact hpre.1 rfl | exact hpre.2.1 rfl | exact hpre.2.2.1 rfl | exact hpre.2.2.2.1 rfl | exact hpre.2.2.2.2.1 rfl | exact hpre.2.2.2.2.2.1 rfl | exact hpre.2.2.2.2.2.2.1 rfl | exact hpre.2.2.2.2.2.2.2.1 rfl | exact hpre.2.2.2.2.2.2.2.2.1 rfl | exact hpre.2.2.2.2.2.2.2.2.2.1 rfl)
          clear hA hpre
          go_simp
          first | exact hK _ _ hB rfl (fun _ _ h => h) | exact hK _ _ hB trivial (fun _ _ h => h) | (rw [if_neg (by omega)]; go_simp; exact hK _ _ hB rfl (fun _ _ h => h))
        · intro vs Wx A hA hB hpre K hK
          have e66 := ((hA 66).trans (show _ = vs 8 by kernel_rfl)).trans (by first | exact hpre.1 rfl | exact hpre.2.1 rfl | exact hpre.2.2.1 rfl | exact hpre.2.2.2.1 rfl | exact hpre.2.2.2.2.1 rfl | exact hpre.2.2.2.2.2.1 rfl | exact hpre.2.2.2.2.2.2.1 rfl | exact hpre.2.2.2.2.2.2.2.1 rfl | exact hpre.2.2.2.2.2.2.2.2.1 rfl | exact hpre.2.2.2.2.2.2.2.2.2.1 rfl)
          clear hA hpre
          go_simp
          first | exact hK _ _ hB rfl (fun _ _ h => h) | exact hK _ _ hB trivial (fun _ _ h => h) | (rw [if_neg (by omega)]; go_simp; exact hK _ _ hB rfl (fun _ _ h => h))
        · intro vs Wx A hA hB hpre
          have eg := ((hA 67).trans (show _ = vs 9 by kernel_rfl)).trans (by first | exact hpre.1 rfl | exact hpre.2.1 rfl | exact hpre.2.2.1 rfl | exact hpre.2.2.2.1 rfl | exact hpre.2.2.2.2.1 rfl | exact hpre.2.2.2.2.2.1 rfl | exact hpre.2.2.2.2.2.2.1 rfl | exact hpre.2.2.2.2.2.2.2.1 rfl | exact hpre.2.2.2.2.2.2.2.2.1 rfl | exact hpre.2.2.2.2.2.2.2.2.2.1 rfl)
          refine ⟨true, eg, fun _ K hK => ?_, fun h => absurd rfl h⟩
          clear hA hpre
          go_simp
          go_at_call 10
          refine (works_any _).mono ?_
          rintro e w3 ⟨rfl, hb3⟩
          exact hK _ _ (below_trans hB hb3) rfl (fun _ _ h => h)
        · intro vs Wx A hA hB hpre K hK
          have e67 := ((hA 67).trans (show _ = vs 9 by kernel_rfl)).trans (by first | exact hpre.1 rfl | exact hpre.2.1 rfl | exact hpre.2.2.1 rfl | exact hpre.2.2.2.1 rfl | exact hpre.2.2.2.2.1 rfl | exact hpre.2.2.2.2.2.1 rfl | exact hpre.2.2.2.2.2.2.1 rfl | exact hpre.2.2.2.2.2.2.2.1 rfl | exact hpre.2.2.2.2.2.2.2.2.1 rfl | exact hpre.2.2.2.2.2.2.2.2.2.1 rfl)
          have e68 := ((hA 68).trans (show _ = vs 10 by kernel_rfl)).trans (by first | exact hpre.1 rfl | exact hpre.2.1 rfl | exact hpre.2.2.1 rfl | exact hpre.2.2.2.1 rfl | exact hpre.2.2.2.2.1 rfl | exact hpre.2.2.2.2.2.1 rfl | exact hpre.2.2.2.2.2.2.1 rfl | exact hpre.2.2.2.2.2.2.2.1 rfl | exact hpre.2.2.2.2.2.2.2.2.1 rfl | exact hpre.2.2.2.2.2.2.2.2.2.1 rfl)
          clear hA hpre
          go_simp
          first | exact hK _ _ hB rfl (fun _ _ h => h) | exact hK _ _ hB trivial (fun _ _ h => h) | (rw [if_neg (by omega)]; go_simp; exact hK _ _ hB rfl (fun _ _ h => h))
        · intro vs Wx A hA hB hpre K hK
          have e69 := ((hA 69).trans (show _ = vs 11 by kernel_rfl)).trans (by first | exact hpre.1 rfl | exact hpre.2.1 rfl | exact hpre.2.2.1 rfl | exact hpre.2.2.2.1 rfl | exact hpre.2.2.2.2.1 rfl | exact hpre.2.2.2.2.2.1 rfl | exact hpre.2.2.2.2.2.2.1 rfl | exact hpre.2.2.2.2.2.2.2.1 rfl | exact hpre.2.2.2.2.2.2.2.2.1 rfl | exact hpre.2.2.2.2.2.2.2.2.2.1 rfl)
          clear hA hpre
          go_simp
          first | exact hK _ _ hB rfl (fun _ _ h => h) | exact hK _ _ hB trivial (fun _ _ h => h) | (rw [if_neg (by omega)]; go_simp; exact hK _ _ hB rfl (fun _ _ h => h))
        · intro vs Wx hB hF
          have hL : vs 12 = .bool true := hF 12 (by decide)
          have HBW := Lib.hid (below_tr hp HBF.out hB)
          clear hF hB
          simp only [Ri.puts]
          go_simp
          go_wp2_with fail
          go_ret
          exact ⟨by first | rfl | (rw [hL]; rfl) | simp [hL], by first | exact HBW.out | (rw [hp]; exact HBW.out)⟩

/-! ### the row's step -/
theorem laidOut : laidOutB Try.prog = true := by kernel_rfl
theorem lifted (os : Os) (started : os.Started) (H : Type) (enc : TypeId × Value → H) :
    ReturnsInHanded {} Try.checked os 5 .any (Rows.rulesDropSpec.pre6 enc Try.prog Try.f5 Rows.rulesDropRow.domain false) (Rows.rulesDropSpec.post enc Try.prog Try.f5 false true false false) := by
  refine returnsInHanded_of_change_shaped (C := Try.checked) own started (by kernel_rfl) Try.func5
    (ChangeSpec.witness6 (enc := enc) (C := Try.checked) false ⟨#[], #[.agg #[.int .i64 0, .int .i64 0, .int .i64 0, .int .i64 0, .int .i64 0, .slice none 0 0], .agg #[.string ByteArray.empty, .slice none 0 0, .int .i64 0, .int .i64 0, .int .i64 0, .int .i64 0], .int .i64 0, .int .i64 0], []⟩ 8 (by kernel_rfl) (by kernel_rfl) (by kernel_rfl) (by kernel_rfl)) ?_
  intro W base args ds gs before hval0 hW hcnd hwt _ _
  have hval : ∀ (j : Nat) t v, Try.f5.params[j]? = some t → args[j]? = some v → Value.okWide Try.prog W .any base t v := hval0
  have hW' := hW
  obtain ⟨p, q, hA0, hV, rfl, hfz, hnd⟩ := hW
  have hA : DataW.TrodAll enc Try.prog W 0 (fun _ => true) true Try.f5.params.toList args.toList ds p := hA0
  rw [Try.params5] at hA hval hwt
  obtain ⟨v0, vs0, d0, ds0, p0, q0, hargs, rfl, rfl, h0, r0⟩ := trodAll_cons hA
  obtain ⟨v1, vs1, d1, ds1, p1, q1, rfl, rfl, rfl, h1, r1⟩ := trodAll_cons r0
  obtain ⟨v2, vs2, d2, ds2, p2, q2, rfl, rfl, rfl, h2, r2⟩ := trodAll_cons r1
  obtain ⟨v3, vs3, d3, ds3, p3, q3, rfl, rfl, rfl, h3, r3⟩ := trodAll_cons r2
  obtain ⟨rfl, rfl, rfl⟩ := trodAll_nil r3
  obtain rfl : args = #[v0, v1, v2, v3] := by cases args; simp_all
  obtain ⟨rfl, rfl⟩ := trodVars_none hV
  have hwl : ∀ z, (z ∈ d0.weights Try.prog 34 → z ≤ reachBytes) ∧ (z ∈ d1.weights Try.prog 30 → z ≤ reachBytes) ∧ (z ∈ d2.weights Try.prog 3 → z ≤ reachBytes) ∧ (z ∈ d3.weights Try.prog 3 → z ≤ reachBytes) := fun z => by
    have h := List.all_eq_true.1 hwt z
    simp only [decide_eq_true_eq] at h
    refine ⟨fun hz => h ?_, fun hz => h ?_, fun hz => h ?_, fun hz => h ?_⟩
    all_goals
      simp only [List.cons_append, List.nil_append, List.toList_toArray, List.append_nil, DataW.weightsEach, List.mem_append]
      first | exact Or.inl hz | exact Or.inr (Or.inl hz) | exact Or.inr (Or.inr (Or.inl hz)) | exact Or.inr (Or.inr (Or.inr (Or.inl hz))) | simp [hz]
  have k0 := h0
  have lt0 : ∀ x ∈ p0, x.block < W.heap.size := by obtain ⟨m, hm⟩ := k0; exact DataW.trod_lt m _ _ _ hm
  obtain ⟨x0, m0, rfl, g0, z0⟩ := Pl.open_plan (hval 0 34 v0 rfl rfl) h0 (fun z hz => (hwl z).1 hz)
  have k1 := h1
  have lt1 : ∀ x ∈ p1, x.block < W.heap.size := by obtain ⟨m, hm⟩ := k1; exact DataW.trod_lt m _ _ _ hm
  obtain ⟨x1, m1, rfl, g1⟩ := Pl.open_line (hval 1 30 v1 rfl rfl) h1
  have k2 := h2
  have lt2 : ∀ x ∈ p2, x.block < W.heap.size := by obtain ⟨m, hm⟩ := k2; exact DataW.trod_lt m _ _ _ hm
  obtain ⟨a2, rfl, _, _, w2⟩ := open_int Try.underlying3 (hval 2 3 v2 rfl rfl) h2
  have k3 := h3
  have lt3 : ∀ x ∈ p3, x.block < W.heap.size := by obtain ⟨m, hm⟩ := k3; exact DataW.trod_lt m _ _ _ hm
  obtain ⟨a3, rfl, _, _, w3⟩ := open_int Try.underlying3 (hval 3 3 v3 rfl rfl) h3
  clear hA0 hval0
  refine (walk W x0 m0 g0 z0 x1 m1 g1 a2 (by simpa [Cm.I64, Lit.wf, IntKind.min, IntKind.max, IntKind.signed, IntKind.bits] using w2) a3 (by simpa [Cm.I64, Lit.wf, IntKind.min, IntKind.max, IntKind.signed, IntKind.bits] using w3)).mono fun e W' ⟨he, bel⟩ => ?_
  subst he
  exact ⟨_, rfl, _, _, _, [], _, [], hW', (trodAll_cons_mk (shut_bool Try.underlying4 _) trodAll_mk0), (trodAll_cons_mk (Below.trod laidOut (by kernel_rfl) (of_decide_eq_true (by kernel_rfl)) k0 bel lt0) (trodAll_cons_mk (Below.trod laidOut (by kernel_rfl) (of_decide_eq_true (by kernel_rfl)) k1 bel lt1) (trodAll_cons_mk (Below.trod laidOut (by kernel_rfl) (of_decide_eq_true (by kernel_rfl)) k2 bel lt2) (trodAll_cons_mk (Below.trod laidOut (by kernel_rfl) (of_decide_eq_true (by kernel_rfl)) k3 bel lt3) trodAll_mk0)))), rfl, bel.frame _, fun h => by cases h⟩

theorem over : Rows.rulesDropRow.holds Try.pinned (OpenSpec.ofChange Rows.rulesDropSpec) :=
  OpenClaim.holds_of_wide 5 Try.f5 rfl rfl rfl rfl rfl rfl rfl ⟨rfl, rfl, rfl, rfl, rfl⟩ rfl rfl rfl rfl rfl (by kernel_rfl) Try.func5 (by kernel_rfl)
    (of_decide_eq_true (by kernel_rfl)) (by unfold Func.isWrapper; first | (rw [if_pos (by decide +kernel)]; kernel_rfl) | (rw [if_neg (by decide +kernel)]; exact ⟨rfl, rfl⟩))
    (fun os started H enc _ => lifted os started H enc)

/-- The statement. -/
theorem proved : Rows.RulesDropSaid := over
end Go.Proofs.Ytbokhiaiihpeeaa.rulesDrop
namespace Go.Proofs.Ytbokhiaiihpeeaa
theorem rulesDrop_holds : Rows.RulesDropSaid := rulesDrop.proved
#print axioms rulesDrop_holds
end Go.Proofs.Ytbokhiaiihpeeaa
