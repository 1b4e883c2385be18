/-
  RulesOrder holds for every plan, service and numbers: where no two rules have one rank, in which order they stand plays no part.
-/
import Derived.Test.YtbokhiaiihpeeaaRows
import Derived.WalkKit
import Derived.ProofKit
import Derived.OpenShut
import Derived.ShutString
import Derived.Below
import Derived.Carry
import Derived.Laws.Cover2
import Derived.HandedShaped
import Derived.Test.YtbokhiaiihpeeaaUMod
import Derived.Test.YtbokhiaiihpeeaaURApp
import Derived.Test.YtbokhiaiihpeeaaPOpen
import Derived.Test.YtbokhiaiihpeeaaULine
namespace Go.Proofs.Ytbokhiaiihpeeaa.rulesOrder
open Go.ChangeShapes Go.WideShapes Go.ChangeAt Go.RowKit
open Pl (Cd St Ru Pn KsAt StsAt RusAt RuIn Ok1 cdv stv ruv pnv below_alloc below_trans bfive bsix beight below_tr)
open Wo (box_cell box_two keepB heap_far)
open Cm (Ln)
open Ul
set_option linter.unusedVariables false
set_option linter.unusedSimpArgs false
set_option maxRecDepth 100000

theorem own : ownKnob Try.prog.godebug = none := by kernel_rfl

/-! ### the walk: the law returns true -/
set_option maxHeartbeats 16000000 in
theorem walk (w : World) (x0 : Pn) (m0 : Value) (h0 : RusAt All w m0 x0.rules) (z0 : Pl.PnOk x0) (x1 : Ln) (m1 : Value) (h1 : TxAt All w m1 x1.mods) (a2 : Int) (z2 : Cm.I64 a2) (a3 : Int) (z3 : Cm.I64 a3) :
    Calls Try.prog 6 #[pnv x0 m0, lnv x1 m1, .int .i64 a2, .int .i64 a3] w fun e w' => e = .returned (.bool true) ∧ Below w.heap.size w w' := by
  obtain ⟨hb, hz1, hz2⟩ := box_pl w x0 m0 x1 m1
  have HB := Lib.hid hb
  have HX := Lib.hid hz1
  have HL := Lib.hid hz2
  have HRu := Lib.hid (h0.grw hb)
  have HM := Lib.hid (tx_grw h1 hb)
  have HLt := Lib.hid (light_any x0 m0 x1 m1 _ (h0.grw hb) (tx_grw h1 hb))
  obtain ⟨ma, mc, rfl, hm1, hm2, hm3⟩ := h0.form
  have hm3 : x0.rules.length ≤ 281474976710656 := hm3
  obtain ⟨la, lk, rfl, hl1, hl2⟩ := tx_form h1
  clear h0 h1 hb hz1 hz2
  go_enter Try.func6, Try.ntmps6
  go_upto_region 1 with fail
  generalize (w.alloc (.cells #[.int .i64 x0.mode, .int .i64 x0.indDed, .int .i64 x0.famDed, .int .i64 x0.indOop, .int .i64 x0.famOop, .slice ma x0.rules.length mc] 34)).alloc (.cells #[.string (mk x1.proc), .slice la x1.mods.length lk, .int .i64 x1.date, .int .i64 x1.units, .int .i64 x1.billed, .int .i64 x1.prior] 30) = W at *
  generalize hp : w.heap.size = p0 at *
  obtain ⟨q1, hq1⟩ : ∃ q1, q1 = p0 + 1 := ⟨_, rfl⟩
  rw [← hq1] at HL ⊢
  clear hq1
  obtain ⟨x0', x1', x2', x3', x4', x5'⟩ := bsix HX.out
  obtain ⟨y0', y1', y2', y3', y4', y5'⟩ := bsix HL.out
  go_wp2_with fail
  go_at_call 9
  refine HLt.out.mono ?_
  rintro e w1 ⟨⟨bl, rfl, hbl⟩, hb1⟩
  have HB1 := Lib.hid (below_tr hp HB.out hb1)
  have HX1 := Lib.hid (keepB HX.out hb1)
  have HL1 := Lib.hid (keepB HL.out hb1)
  have HRu1 := Lib.hid (HRu.out.grw hb1)
  have HM1 := Lib.hid (tx_grw HM.out hb1)
  clear hb1 HB HX HL HRu HM HLt x0' x1' x2' x3' x4' x5' y0' y1' y2' y3' y4' y5'
  obtain ⟨x0', x1', x2', x3', x4', x5'⟩ := bsix HX1.out
  obtain ⟨y0', y1', y2', y3', y4', y5'⟩ := bsix HL1.out
  generalize hnn : x0.rules.length = n at *
  have HN := Lib.hid hnn
  clear hnn
  cases bl
  · clear hbl
    go_wp2_with (go_at_call 10; refine (works_any _).mono ?_; rintro e w9 ⟨rfl, hb9⟩; have HB9 := Lib.hid (below_tr hp HB1.out hb9); clear hb9)
    go_ret
    exact ⟨rfl, by first | exact HB9.out | (rw [hp]; exact HB9.out)⟩
  have hlen := hbl rfl
  clear hbl
  by_cases hne : n = 0
  · subst hne
    clear hlen hm1 hm2 hm3
    go_wp2_with (go_at_call 10; refine (works_any _).mono ?_; rintro e w9 ⟨rfl, hb9⟩; have HB9 := Lib.hid (below_tr hp HB1.out hb9); clear hb9)
    go_ret
    exact ⟨rfl, by first | exact HB9.out | (rw [hp]; exact HB9.out)⟩
  have bne : ((n : Int) == 0) = false := by simp; omega
  have hne' : ¬ ((n : Int) = 0) := by omega
  obtain ⟨k, hk, hkn⟩ := mod_fact a3 n hne hlen
  obtain ⟨b, o, L, rfl, hL1, hL2, hL3⟩ := Rr.rus_rows HRu1.out (by rw [HN.out]; omega)
  have hbs : b < w1.heap.size := by
    obtain ⟨b', o', kv, uv, sv, hbo, hbs, -⟩ := RusAt.get HRu1.out 0 (by rw [HN.out]; omega)
    obtain ⟨rfl, rfl⟩ : b = b' ∧ o = o' := by simpa using hbo
    exact hbs
  have HBS1 := Lib.hid hbs
  have HLs := Lib.hid (And.intro hL1 (And.intro hL2 hL3))
  have HLk : Hid (L.length = n) := by show _ = _; rw [← HN.out, ← hL1]; simp
  have HRK := Lib.hid fun (j : Nat) (hj : j < n) W' (hW : Below w1.heap.size w1 W') => rank_at (HRu1.out.grw hW) j (by rw [HN.out]; exact hj)
  have HX6 := Lib.hid fun W' (hW : Below w1.heap.size w1 W') => bsix (keepB HX1.out hW)
  have HW0 := Lib.hid (Below.refl w1.heap.size w1)
  clear hL1 hL2 hL3 hbs
  go_wp2
  go_loopg [9] (n) (fun g z wr => ∃ i : Nat, i ≤ n ∧ g = n - i ∧ z = .int .i64 i ∧ Hid (Below w1.heap.size w1 wr) ∧ Hid (∀ a c, c < a → a < i → rankL x0.rules a ≠ rankL x0.rules c))
  case atStart => exact ⟨0, Nat.zero_le _, rfl, rfl, HW0.out, fun a c _ h => by omega⟩
  case round =>
    clear x0' x1' x2' x3' x4' x5' y0' y1' y2' y3' y4' y5' HW0
    obtain ⟨i, hi, hgk, rfl, HBr, HDis⟩ := hrel
    obtain ⟨wo, hwo⟩ : ∃ z, z = wr := ⟨_, rfl⟩
    subst hwo
    obtain ⟨x0', x1', x2', x3', x4', x5'⟩ := HX6.out _ HBr.out
    by_cases hlt : i < n
    case pos =>
      have HWr := Lib.hid (Below.refl wo.heap.size wo)
      go_wp2
      go_loopg [10] (i) (fun g z wj => ∃ j : Nat, j ≤ i ∧ g = i - j ∧ z = .int .i64 j ∧ Hid (Below wo.heap.size wo wj) ∧ Hid (∀ c, c < j → rankL x0.rules i ≠ rankL x0.rules c))
      case atStart => exact ⟨0, Nat.zero_le _, rfl, rfl, HWr.out, fun c h => by omega⟩
      case round =>
        clear x0' x1' x2' x3' x4' x5' HWr
        obtain ⟨j, hj, hgj, rfl, HBj, HDj⟩ := hrel
        obtain ⟨wj, hwj⟩ : ∃ z, z = wr := ⟨_, rfl⟩
        subst hwj
        have HBw := Lib.hid (below_trans HBr.out HBj.out)
        obtain ⟨x0', x1', x2', x3', x4', x5'⟩ := HX6.out _ HBw.out
        by_cases hlj : j < i
        case neg =>
          have HDn : Hid (∀ a c, c < a → a < i + 1 → rankL x0.rules a ≠ rankL x0.rules c) := fun a c hc ha => by
            rcases Nat.lt_or_ge a i with h | h
            · exact HDis.out a c hc h
            · obtain rfl : a = i := by omega
              exact HDj.out c (by omega)
          clear HDis HDj
          go_wp2
          go_roundg (n - (i + 1))
          case rel => exact ⟨i + 1, by omega, rfl, by go_num, HBw.out, HDn.out⟩
          case measure => omega
        have HXI := Lib.hid fun W' (hW : Below wj.heap.size wj W') => And.intro (HX6.out W' (below_trans HBw.out hW)) (And.intro (HRK.out i hlt W' (below_trans HBw.out hW)) (HRK.out j (by omega) W' (below_trans HBw.out hW)))
        have HD := Lib.hid (Below.drew (Below.refl wj.heap.size wj))
        have hjn : (j : Int) < (n : Int) := by omega
        have hin : (i : Int) < (n : Int) := by omega
        by_cases heq : rankL x0.rules i = rankL x0.rules j
        · obtain ⟨RI, hRI⟩ : ∃ z, Hid (z = rankL x0.rules i) := ⟨_, rfl⟩
          obtain ⟨RJ, hRJ⟩ : ∃ z, Hid (z = rankL x0.rules j) := ⟨_, rfl⟩
          have HQE : Hid ((RI == RJ) = true) := by show _ = _; rw [hRI.out, hRJ.out, heq]; simp
          rw [← hRI.out, ← hRJ.out] at HXI
          clear heq HDj HDis hRI hRJ
          go_upto_region 9 with fail
          clear x0' x1' x2' x3' x4' x5'
          go_cut [50] (fun s wx => s = .bool true ∧ Hid (Below wj.heap.size wj wx))
          case first =>
            refine Ri.wp_region_lasting (by kernel_rfl) (by kernel_rfl) (by kernel_rfl) (fun Wx => Below wj.heap.size wj Wx) (fun kz vs wz => (fun kx vx wx => match kx with | 0 => vx = .pointer (some ⟨p0, 5, none⟩) | 1 => vx = .slice (some ⟨b, o, none⟩) n mc | 2 => vx = .int .i64 (i : Nat) | 3 => vx = .pointer (some ⟨b, o + i * 8, none⟩) | 4 => vx = .pointer (some ⟨b, o + i * 8, none⟩) | 5 => vx = .int .i64 RI | 6 => vx = .pointer (some ⟨p0, 5, none⟩) | 7 => vx = .slice (some ⟨b, o, none⟩) n mc | 8 => vx = .int .i64 (j : Nat) | 9 => vx = .pointer (some ⟨b, o + j * 8, none⟩) | 10 => vx = .pointer (some ⟨b, o + j * 8, none⟩) | 11 => vx = .int .i64 RJ | 12 => vx = .bool true | _ => True : Nat → Value → World → Prop) kz (vs kz) wz) (fun kz => [kz]) (by kernel_rfl) (fun jz vs iz vz wz hiz hz => Ri.loc_own (F := (fun kx vx wx => match kx with | 0 => vx = .pointer (some ⟨p0, 5, none⟩) | 1 => vx = .slice (some ⟨b, o, none⟩) n mc | 2 => vx = .int .i64 (i : Nat) | 3 => vx = .pointer (some ⟨b, o + i * 8, none⟩) | 4 => vx = .pointer (some ⟨b, o + i * 8, none⟩) | 5 => vx = .int .i64 RI | 6 => vx = .pointer (some ⟨p0, 5, none⟩) | 7 => vx = .slice (some ⟨b, o, none⟩) n mc | 8 => vx = .int .i64 (j : Nat) | 9 => vx = .pointer (some ⟨b, o + j * 8, none⟩) | 10 => vx = .pointer (some ⟨b, o + j * 8, none⟩) | 11 => vx = .int .i64 RJ | 12 => vx = .bool true | _ => True : Nat → Value → World → Prop)) jz vs iz vz wz hiz hz) HD.out ⟨⟨rfl, ?_⟩, ⟨rfl, ?_⟩, ⟨rfl, ?_⟩, ⟨rfl, ?_⟩, ⟨rfl, ?_⟩, ⟨rfl, ?_⟩, ⟨rfl, ?_⟩, ⟨rfl, ?_⟩, ⟨rfl, ?_⟩, ⟨rfl, ?_⟩, ⟨rfl, ?_⟩, ⟨rfl, ?_⟩, ⟨rfl, ?_⟩, trivial⟩ ?_
            · intro vs Wx A hA hB hpre K hK
              have e4 := (hA 4).trans (show _ = Value.pointer (some ⟨p0, 0, none⟩) by kernel_rfl)
              clear hA hpre
              go_simp
              first | exact hK _ _ hB rfl (fun _ _ h => h) | exact hK _ _ hB trivial (fun _ _ h => h) | (rw [if_neg (by omega)]; go_simp; exact hK _ _ hB rfl (fun _ _ h => h))
            · intro vs Wx A hA hB hpre K hK
              have e38 := ((hA 38).trans (show _ = vs 0 by kernel_rfl)).trans (by first | exact hpre.1 rfl | exact hpre.2.1 rfl | exact hpre.2.2.1 rfl | exact hpre.2.2.2.1 rfl | exact hpre.2.2.2.2.1 rfl | exact hpre.2.2.2.2.2.1 rfl | exact hpre.2.2.2.2.2.2.1 rfl | exact hpre.2.2.2.2.2.2.2.1 rfl | exact hpre.2.2.2.2.2.2.2.2.1 rfl | exact hpre.2.2.2.2.2.2.2.2.2.1 rfl)
              obtain ⟨⟨x0', x1', x2', x3', x4', x5'⟩, zi, zj⟩ := HXI.out Wx hB
              clear hA hpre
              go_simp
              first | exact hK _ _ hB rfl (fun _ _ h => h) | exact hK _ _ hB trivial (fun _ _ h => h) | (rw [if_neg (by omega)]; go_simp; exact hK _ _ hB rfl (fun _ _ h => h))
            · intro vs Wx A hA hB hpre K hK
              have e9 := (hA 9).trans (show _ = Value.int .i64 (i : Nat) by kernel_rfl)
              clear hA hpre
              go_simp
              first | exact hK _ _ hB rfl (fun _ _ h => h) | exact hK _ _ hB trivial (fun _ _ h => h) | (rw [if_neg (by omega)]; go_simp; exact hK _ _ hB rfl (fun _ _ h => h))
            · intro vs Wx A hA hB hpre K hK
              have e39 := ((hA 39).trans (show _ = vs 1 by kernel_rfl)).trans (by first | exact hpre.1 rfl | exact hpre.2.1 rfl | exact hpre.2.2.1 rfl | exact hpre.2.2.2.1 rfl | exact hpre.2.2.2.2.1 rfl | exact hpre.2.2.2.2.2.1 rfl | exact hpre.2.2.2.2.2.2.1 rfl | exact hpre.2.2.2.2.2.2.2.1 rfl | exact hpre.2.2.2.2.2.2.2.2.1 rfl | exact hpre.2.2.2.2.2.2.2.2.2.1 rfl)
              have e40 := ((hA 40).trans (show _ = vs 2 by kernel_rfl)).trans (by first | exact hpre.1 rfl | exact hpre.2.1 rfl | exact hpre.2.2.1 rfl | exact hpre.2.2.2.1 rfl | exact hpre.2.2.2.2.1 rfl | exact hpre.2.2.2.2.2.1 rfl | exact hpre.2.2.2.2.2.2.1 rfl | exact hpre.2.2.2.2.2.2.2.1 rfl | exact hpre.2.2.2.2.2.2.2.2.1 rfl | exact hpre.2.2.2.2.2.2.2.2.2.1 rfl)
              clear hA hpre
              go_simp
              first | exact hK _ _ hB rfl (fun _ _ h => h) | exact hK _ _ hB trivial (fun _ _ h => h) | (rw [if_neg (by omega)]; go_simp; exact hK _ _ hB rfl (fun _ _ h => h))
            · intro vs Wx A hA hB hpre K hK
              have e41 := ((hA 41).trans (show _ = vs 3 by kernel_rfl)).trans (by first | exact hpre.1 rfl | exact hpre.2.1 rfl | exact hpre.2.2.1 rfl | exact hpre.2.2.2.1 rfl | exact hpre.2.2.2.2.1 rfl | exact hpre.2.2.2.2.2.1 rfl | exact hpre.2.2.2.2.2.2.1 rfl | exact hpre.2.2.2.2.2.2.2.1 rfl | exact hpre.2.2.2.2.2.2.2.2.1 rfl | exact hpre.2.2.2.2.2.2.2.2.2.1 rfl)
              clear hA hpre
              go_simp
              first | exact hK _ _ hB rfl (fun _ _ h => h) | exact hK _ _ hB trivial (fun _ _ h => h) | (rw [if_neg (by omega)]; go_simp; exact hK _ _ hB rfl (fun _ _ h => h))
            · intro vs Wx A hA hB hpre K hK
              have e42 := ((hA 42).trans (show _ = vs 4 by kernel_rfl)).trans (by first | exact hpre.1 rfl | exact hpre.2.1 rfl | exact hpre.2.2.1 rfl | exact hpre.2.2.2.1 rfl | exact hpre.2.2.2.2.1 rfl | exact hpre.2.2.2.2.2.1 rfl | exact hpre.2.2.2.2.2.2.1 rfl | exact hpre.2.2.2.2.2.2.2.1 rfl | exact hpre.2.2.2.2.2.2.2.2.1 rfl | exact hpre.2.2.2.2.2.2.2.2.2.1 rfl)
              obtain ⟨⟨x0', x1', x2', x3', x4', x5'⟩, zi, zj⟩ := HXI.out Wx hB
              clear hA hpre
              go_simp
              first | exact hK _ _ hB rfl (fun _ _ h => h) | exact hK _ _ hB trivial (fun _ _ h => h) | (rw [if_neg (by omega)]; go_simp; exact hK _ _ hB rfl (fun _ _ h => h))
            · intro vs Wx A hA hB hpre K hK
              have e4 := (hA 4).trans (show _ = Value.pointer (some ⟨p0, 0, none⟩) by kernel_rfl)
              clear hA hpre
              go_simp
              first | exact hK _ _ hB rfl (fun _ _ h => h) | exact hK _ _ hB trivial (fun _ _ h => h) | (rw [if_neg (by omega)]; go_simp; exact hK _ _ hB rfl (fun _ _ h => h))
            · intro vs Wx A hA hB hpre K hK
              have e44 := ((hA 44).trans (show _ = vs 6 by kernel_rfl)).trans (by first | exact hpre.1 rfl | exact hpre.2.1 rfl | exact hpre.2.2.1 rfl | exact hpre.2.2.2.1 rfl | exact hpre.2.2.2.2.1 rfl | exact hpre.2.2.2.2.2.1 rfl | exact hpre.2.2.2.2.2.2.1 rfl | exact hpre.2.2.2.2.2.2.2.1 rfl | exact hpre.2.2.2.2.2.2.2.2.1 rfl | exact hpre.2.2.2.2.2.2.2.2.2.1 rfl)
              obtain ⟨⟨x0', x1', x2', x3', x4', x5'⟩, zi, zj⟩ := HXI.out Wx hB
              clear hA hpre
              go_simp
              first | exact hK _ _ hB rfl (fun _ _ h => h) | exact hK _ _ hB trivial (fun _ _ h => h) | (rw [if_neg (by omega)]; go_simp; exact hK _ _ hB rfl (fun _ _ h => h))
            · intro vs Wx A hA hB hpre K hK
              have e10 := (hA 10).trans (show _ = Value.int .i64 (j : Nat) by kernel_rfl)
              clear hA hpre
              go_simp
              first | exact hK _ _ hB rfl (fun _ _ h => h) | exact hK _ _ hB trivial (fun _ _ h => h) | (rw [if_neg (by omega)]; go_simp; exact hK _ _ hB rfl (fun _ _ h => h))
            · intro vs Wx A hA hB hpre K hK
              have e45 := ((hA 45).trans (show _ = vs 7 by kernel_rfl)).trans (by first | exact hpre.1 rfl | exact hpre.2.1 rfl | exact hpre.2.2.1 rfl | exact hpre.2.2.2.1 rfl | exact hpre.2.2.2.2.1 rfl | exact hpre.2.2.2.2.2.1 rfl | exact hpre.2.2.2.2.2.2.1 rfl | exact hpre.2.2.2.2.2.2.2.1 rfl | exact hpre.2.2.2.2.2.2.2.2.1 rfl | exact hpre.2.2.2.2.2.2.2.2.2.1 rfl)
              have e46 := ((hA 46).trans (show _ = vs 8 by kernel_rfl)).trans (by first | exact hpre.1 rfl | exact hpre.2.1 rfl | exact hpre.2.2.1 rfl | exact hpre.2.2.2.1 rfl | exact hpre.2.2.2.2.1 rfl | exact hpre.2.2.2.2.2.1 rfl | exact hpre.2.2.2.2.2.2.1 rfl | exact hpre.2.2.2.2.2.2.2.1 rfl | exact hpre.2.2.2.2.2.2.2.2.1 rfl | exact hpre.2.2.2.2.2.2.2.2.2.1 rfl)
              clear hA hpre
              go_simp
              first | exact hK _ _ hB rfl (fun _ _ h => h) | exact hK _ _ hB trivial (fun _ _ h => h) | (rw [if_neg (by omega)]; go_simp; exact hK _ _ hB rfl (fun _ _ h => h))
            · intro vs Wx A hA hB hpre K hK
              have e47 := ((hA 47).trans (show _ = vs 9 by kernel_rfl)).trans (by first | exact hpre.1 rfl | exact hpre.2.1 rfl | exact hpre.2.2.1 rfl | exact hpre.2.2.2.1 rfl | exact hpre.2.2.2.2.1 rfl | exact hpre.2.2.2.2.2.1 rfl | exact hpre.2.2.2.2.2.2.1 rfl | exact hpre.2.2.2.2.2.2.2.1 rfl | exact hpre.2.2.2.2.2.2.2.2.1 rfl | exact hpre.2.2.2.2.2.2.2.2.2.1 rfl)
              clear hA hpre
              go_simp
              first | exact hK _ _ hB rfl (fun _ _ h => h) | exact hK _ _ hB trivial (fun _ _ h => h) | (rw [if_neg (by omega)]; go_simp; exact hK _ _ hB rfl (fun _ _ h => h))
            · intro vs Wx A hA hB hpre K hK
              have e48 := ((hA 48).trans (show _ = vs 10 by kernel_rfl)).trans (by first | exact hpre.1 rfl | exact hpre.2.1 rfl | exact hpre.2.2.1 rfl | exact hpre.2.2.2.1 rfl | exact hpre.2.2.2.2.1 rfl | exact hpre.2.2.2.2.2.1 rfl | exact hpre.2.2.2.2.2.2.1 rfl | exact hpre.2.2.2.2.2.2.2.1 rfl | exact hpre.2.2.2.2.2.2.2.2.1 rfl | exact hpre.2.2.2.2.2.2.2.2.2.1 rfl)
              obtain ⟨⟨x0', x1', x2', x3', x4', x5'⟩, zi, zj⟩ := HXI.out Wx hB
              clear hA hpre
              go_simp
              first | exact hK _ _ hB rfl (fun _ _ h => h) | exact hK _ _ hB trivial (fun _ _ h => h) | (rw [if_neg (by omega)]; go_simp; exact hK _ _ hB rfl (fun _ _ h => h))
            · intro vs Wx A hA hB hpre K hK
              have e43 := ((hA 43).trans (show _ = vs 5 by kernel_rfl)).trans (by first | exact hpre.1 rfl | exact hpre.2.1 rfl | exact hpre.2.2.1 rfl | exact hpre.2.2.2.1 rfl | exact hpre.2.2.2.2.1 rfl | exact hpre.2.2.2.2.2.1 rfl | exact hpre.2.2.2.2.2.2.1 rfl | exact hpre.2.2.2.2.2.2.2.1 rfl | exact hpre.2.2.2.2.2.2.2.2.1 rfl | exact hpre.2.2.2.2.2.2.2.2.2.1 rfl)
              have e49 := ((hA 49).trans (show _ = vs 11 by kernel_rfl)).trans (by first | exact hpre.1 rfl | exact hpre.2.1 rfl | exact hpre.2.2.1 rfl | exact hpre.2.2.2.1 rfl | exact hpre.2.2.2.2.1 rfl | exact hpre.2.2.2.2.2.1 rfl | exact hpre.2.2.2.2.2.2.1 rfl | exact hpre.2.2.2.2.2.2.2.1 rfl | exact hpre.2.2.2.2.2.2.2.2.1 rfl | exact hpre.2.2.2.2.2.2.2.2.2.1 rfl)
              have hq := HQE.out
              clear hA hpre
              go_simp
              first | exact hK _ _ hB rfl (fun _ _ h => h) | exact hK _ _ hB trivial (fun _ _ h => h) | (rw [if_neg (by omega)]; go_simp; exact hK _ _ hB rfl (fun _ _ h => h))
            · intro vs Wx hB hF
              have hL : vs 12 = .bool true := hF 12 (by decide)
              have HBW := Lib.hid hB
              clear hF hB
              simp only [Ri.puts]
              go_simp
              go_wp2_with fail
              go_meet
              exact ⟨by first | rfl | exact hL, HBW.out⟩
          case rest =>
            obtain ⟨rfl, HBx⟩ := hcut
            have HBW := Lib.hid (below_tr hp HB1.out (below_trans HBw.out HBx.out))
            go_wp2_with (go_at_call 10; refine (works_any _).mono ?_; rintro e w9 ⟨rfl, hb9⟩; have HB9 := Lib.hid (below_tr hp HBW.out hb9); clear hb9)
            go_ret
            exact ⟨rfl, by first | exact HB9.out | (rw [hp]; exact HB9.out)⟩
        · obtain ⟨RI, hRI⟩ : ∃ z, Hid (z = rankL x0.rules i) := ⟨_, rfl⟩
          obtain ⟨RJ, hRJ⟩ : ∃ z, Hid (z = rankL x0.rules j) := ⟨_, rfl⟩
          have HQE : Hid ((RI == RJ) = false) := by show _ = _; rw [hRI.out, hRJ.out]; simpa using heq
          rw [← hRI.out, ← hRJ.out] at HXI
          have HDk : Hid (∀ c, c < j + 1 → rankL x0.rules i ≠ rankL x0.rules c) := fun c hc => by
            rcases Nat.lt_or_ge c j with h | h
            · exact HDj.out c h
            · obtain rfl : c = j := by omega
              exact heq
          clear heq HDj hRI hRJ
          go_upto_region 9 with fail
          clear x0' x1' x2' x3' x4' x5'
          go_cut [50] (fun s wx => s = .bool false ∧ Hid (Below wj.heap.size wj wx))
          case first =>
            refine Ri.wp_region_lasting (by kernel_rfl) (by kernel_rfl) (by kernel_rfl) (fun Wx => Below wj.heap.size wj Wx) (fun kz vs wz => (fun kx vx wx => match kx with | 0 => vx = .pointer (some ⟨p0, 5, none⟩) | 1 => vx = .slice (some ⟨b, o, none⟩) n mc | 2 => vx = .int .i64 (i : Nat) | 3 => vx = .pointer (some ⟨b, o + i * 8, none⟩) | 4 => vx = .pointer (some ⟨b, o + i * 8, none⟩) | 5 => vx = .int .i64 RI | 6 => vx = .pointer (some ⟨p0, 5, none⟩) | 7 => vx = .slice (some ⟨b, o, none⟩) n mc | 8 => vx = .int .i64 (j : Nat) | 9 => vx = .pointer (some ⟨b, o + j * 8, none⟩) | 10 => vx = .pointer (some ⟨b, o + j * 8, none⟩) | 11 => vx = .int .i64 RJ | 12 => vx = .bool false | _ => True : Nat → Value → World → Prop) kz (vs kz) wz) (fun kz => [kz]) (by kernel_rfl) (fun jz vs iz vz wz hiz hz => Ri.loc_own (F := (fun kx vx wx => match kx with | 0 => vx = .pointer (some ⟨p0, 5, none⟩) | 1 => vx = .slice (some ⟨b, o, none⟩) n mc | 2 => vx = .int .i64 (i : Nat) | 3 => vx = .pointer (some ⟨b, o + i * 8, none⟩) | 4 => vx = .pointer (some ⟨b, o + i * 8, none⟩) | 5 => vx = .int .i64 RI | 6 => vx = .pointer (some ⟨p0, 5, none⟩) | 7 => vx = .slice (some ⟨b, o, none⟩) n mc | 8 => vx = .int .i64 (j : Nat) | 9 => vx = .pointer (some ⟨b, o + j * 8, none⟩) | 10 => vx = .pointer (some ⟨b, o + j * 8, none⟩) | 11 => vx = .int .i64 RJ | 12 => vx = .bool false | _ => True : Nat → Value → World → Prop)) jz vs iz vz wz hiz hz) HD.out ⟨⟨rfl, ?_⟩, ⟨rfl, ?_⟩, ⟨rfl, ?_⟩, ⟨rfl, ?_⟩, ⟨rfl, ?_⟩, ⟨rfl, ?_⟩, ⟨rfl, ?_⟩, ⟨rfl, ?_⟩, ⟨rfl, ?_⟩, ⟨rfl, ?_⟩, ⟨rfl, ?_⟩, ⟨rfl, ?_⟩, ⟨rfl, ?_⟩, trivial⟩ ?_
            · intro vs Wx A hA hB hpre K hK
              have e4 := (hA 4).trans (show _ = Value.pointer (some ⟨p0, 0, none⟩) by kernel_rfl)
              clear hA hpre
              go_simp
              first | exact hK _ _ hB rfl (fun _ _ h => h) | exact hK _ _ hB trivial (fun _ _ h => h) | (rw [if_neg (by omega)]; go_simp; exact hK _ _ hB rfl (fun _ _ h => h))
            · intro vs Wx A hA hB hpre K hK
              have e38 := ((hA 38).trans (show _ = vs 0 by kernel_rfl)).trans (by first | exact hpre.1 rfl | exact hpre.2.1 rfl | exact hpre.2.2.1 rfl | exact hpre.2.2.2.1 rfl | exact hpre.2.2.2.2.1 rfl | exact hpre.2.2.2.2.2.1 rfl | exact hpre.2.2.2.2.2.2.1 rfl | exact hpre.2.2.2.2.2.2.2.1 rfl | exact hpre.2.2.2.2.2.2.2.2.1 rfl | exact hpre.2.2.2.2.2.2.2.2.2.1 rfl)
              obtain ⟨⟨x0', x1', x2', x3', x4', x5'⟩, zi, zj⟩ := HXI.out Wx hB
              clear hA hpre
              go_simp
              first | exact hK _ _ hB rfl (fun _ _ h => h) | exact hK _ _ hB trivial (fun _ _ h => h) | (rw [if_neg (by omega)]; go_simp; exact hK _ _ hB rfl (fun _ _ h => h))
            · intro vs Wx A hA hB hpre K hK
              have e9 := (hA 9).trans (show _ = Value.int .i64 (i : Nat) by kernel_rfl)
              clear hA hpre
              go_simp
              first | exact hK _ _ hB rfl (fun _ _ h => h) | exact hK _ _ hB trivial (fun _ _ h => h) | (rw [if_neg (by omega)]; go_simp; exact hK _ _ hB rfl (fun _ _ h => h))
            · intro vs Wx A hA hB hpre K hK
              have e39 := ((hA 39).trans (show _ = vs 1 by kernel_rfl)).trans (by first | exact hpre.1 rfl | exact hpre.2.1 rfl | exact hpre.2.2.1 rfl | exact hpre.2.2.2.1 rfl | exact hpre.2.2.2.2.1 rfl | exact hpre.2.2.2.2.2.1 rfl | exact hpre.2.2.2.2.2.2.1 rfl | exact hpre.2.2.2.2.2.2.2.1 rfl | exact hpre.2.2.2.2.2.2.2.2.1 rfl | exact hpre.2.2.2.2.2.2.2.2.2.1 rfl)
              have e40 := ((hA 40).trans (show _ = vs 2 by kernel_rfl)).trans (by first | exact hpre.1 rfl | exact hpre.2.1 rfl | exact hpre.2.2.1 rfl | exact hpre.2.2.2.1 rfl | exact hpre.2.2.2.2.1 rfl | exact hpre.2.2.2.2.2.1 rfl | exact hpre.2.2.2.2.2.2.1 rfl | exact hpre.2.2.2.2.2.2.2.1 rfl | exact hpre.2.2.2.2.2.2.2.2.1 rfl | exact hpre.2.2.2.2.2.2.2.2.2.1 rfl)
              clear hA hpre
              go_simp
              first | exact hK _ _ hB rfl (fun _ _ h => h) | exact hK _ _ hB trivial (fun _ _ h => h) | (rw [if_neg (by omega)]; go_simp; exact hK _ _ hB rfl (fun _ _ h => h))
            · intro vs Wx A hA hB hpre K hK
              have e41 := ((hA 41).trans (show _ = vs 3 by kernel_rfl)).trans (by first | exact hpre.1 rfl | exact hpre.2.1 rfl | exact hpre.2.2.1 rfl | exact hpre.2.2.2.1 rfl | exact hpre.2.2.2.2.1 rfl | exact hpre.2.2.2.2.2.1 rfl | exact hpre.2.2.2.2.2.2.1 rfl | exact hpre.2.2.2.2.2.2.2.1 rfl | exact hpre.2.2.2.2.2.2.2.2.1 rfl | exact hpre.2.2.2.2.2.2.2.2.2.1 rfl)
              clear hA hpre
              go_simp
              first | exact hK _ _ hB rfl (fun _ _ h => h) | exact hK _ _ hB trivial (fun _ _ h => h) | (rw [if_neg (by omega)]; go_simp; exact hK _ _ hB rfl (fun _ _ h => h))
            · intro vs Wx A hA hB hpre K hK
              have e42 := ((hA 42).trans (show _ = vs 4 by kernel_rfl)).trans (by first | exact hpre.1 rfl | exact hpre.2.1 rfl | exact hpre.2.2.1 rfl | exact hpre.2.2.2.1 rfl | exact hpre.2.2.2.2.1 rfl | exact hpre.2.2.2.2.2.1 rfl | exact hpre.2.2.2.2.2.2.1 rfl | exact hpre.2.2.2.2.2.2.2.1 rfl | exact hpre.2.2.2.2.2.2.2.2.1 rfl | exact hpre.2.2.2.2.2.2.2.2.2.1 rfl)
              obtain ⟨⟨x0', x1', x2', x3', x4', x5'⟩, zi, zj⟩ := HXI.out Wx hB
              clear hA hpre
              go_simp
              first | exact hK _ _ hB rfl (fun _ _ h => h) | exact hK _ _ hB trivial (fun _ _ h => h) | (rw [if_neg (by omega)]; go_simp; exact hK _ _ hB rfl (fun _ _ h => h))
            · intro vs Wx A hA hB hpre K hK
              have e4 := (hA 4).trans (show _ = Value.pointer (some ⟨p0, 0, none⟩) by kernel_rfl)
              clear hA hpre
              go_simp
              first | exact hK _ _ hB rfl (fun _ _ h => h) | exact hK _ _ hB trivial (fun _ _ h => h) | (rw [if_neg (by omega)]; go_simp; exact hK _ _ hB rfl (fun _ _ h => h))
            · intro vs Wx A hA hB hpre K hK
              have e44 := ((hA 44).trans (show _ = vs 6 by kernel_rfl)).trans (by first | exact hpre.1 rfl | exact hpre.2.1 rfl | exact hpre.2.2.1 rfl | exact hpre.2.2.2.1 rfl | exact hpre.2.2.2.2.1 rfl | exact hpre.2.2.2.2.2.1 rfl | exact hpre.2.2.2.2.2.2.1 rfl | exact hpre.2.2.2.2.2.2.2.1 rfl | exact hpre.2.2.2.2.2.2.2.2.1 rfl | exact hpre.2.2.2.2.2.2.2.2.2.1 rfl)
              obtain ⟨⟨x0', x1', x2', x3', x4', x5'⟩, zi, zj⟩ := HXI.out Wx hB
              clear hA hpre
              go_simp
              first | exact hK _ _ hB rfl (fun _ _ h => h) | exact hK _ _ hB trivial (fun _ _ h => h) | (rw [if_neg (by omega)]; go_simp; exact hK _ _ hB rfl (fun _ _ h => h))
            · intro vs Wx A hA hB hpre K hK
              have e10 := (hA 10).trans (show _ = Value.int .i64 (j : Nat) by kernel_rfl)
              clear hA hpre
              go_simp
              first | exact hK _ _ hB rfl (fun _ _ h => h) | exact hK _ _ hB trivial (fun _ _ h => h) | (rw [if_neg (by omega)]; go_simp; exact hK _ _ hB rfl (fun _ _ h => h))
            · intro vs Wx A hA hB hpre K hK
              have e45 := ((hA 45).trans (show _ = vs 7 by kernel_rfl)).trans (by first | exact hpre.1 rfl | exact hpre.2.1 rfl | exact hpre.2.2.1 rfl | exact hpre.2.2.2.1 rfl | exact hpre.2.2.2.2.1 rfl | exact hpre.2.2.2.2.2.1 rfl | exact hpre.2.2.2.2.2.2.1 rfl | exact hpre.2.2.2.2.2.2.2.1 rfl | exact hpre.2.2.2.2.2.2.2.2.1 rfl | exact hpre.2.2.2.2.2.2.2.2.2.1 rfl)
              have e46 := ((hA 46).trans (show _ = vs 8 by kernel_rfl)).trans (by first | exact hpre.1 rfl | exact hpre.2.1 rfl | exact hpre.2.2.1 rfl | exact hpre.2.2.2.1 rfl | exact hpre.2.2.2.2.1 rfl | exact hpre.2.2.2.2.2.1 rfl | exact hpre.2.2.2.2.2.2.1 rfl | exact hpre.2.2.2.2.2.2.2.1 rfl | exact hpre.2.2.2.2.2.2.2.2.1 rfl | exact hpre.2.2.2.2.2.2.2.2.2.1 rfl)
              clear hA hpre
              go_simp
              first | exact hK _ _ hB rfl (fun _ _ h => h) | exact hK _ _ hB trivial (fun _ _ h => h) | (rw [if_neg (by omega)]; go_simp; exact hK _ _ hB rfl (fun _ _ h => h))
            · intro vs Wx A hA hB hpre K hK
              have e47 := ((hA 47).trans (show _ = vs 9 by kernel_rfl)).trans (by first | exact hpre.1 rfl | exact hpre.2.1 rfl | exact hpre.2.2.1 rfl | exact hpre.2.2.2.1 rfl | exact hpre.2.2.2.2.1 rfl | exact hpre.2.2.2.2.2.1 rfl | exact hpre.2.2.2.2.2.2.1 rfl | exact hpre.2.2.2.2.2.2.2.1 rfl | exact hpre.2.2.2.2.2.2.2.2.1 rfl | exact hpre.2.2.2.2.2.2.2.2.2.1 rfl)
              clear hA hpre
              go_simp
              first | exact hK _ _ hB rfl (fun _ _ h => h) | exact hK _ _ hB trivial (fun _ _ h => h) | (rw [if_neg (by omega)]; go_simp; exact hK _ _ hB rfl (fun _ _ h => h))
            · intro vs Wx A hA hB hpre K hK
              have e48 := ((hA 48).trans (show _ = vs 10 by kernel_rfl)).trans (by first | exact hpre.1 rfl | exact hpre.2.1 rfl | exact hpre.2.2.1 rfl | exact hpre.2.2.2.1 rfl | exact hpre.2.2.2.2.1 rfl | exact hpre.2.2.2.2.2.1 rfl | exact hpre.2.2.2.2.2.2.1 rfl | exact hpre.2.2.2.2.2.2.2.1 rfl | exact hpre.2.2.2.2.2.2.2.2.1 rfl | exact hpre.2.2.2.2.2.2.2.2.2.1 rfl)
              obtain ⟨⟨x0', x1', x2', x3', x4', x5'⟩, zi, zj⟩ := HXI.out Wx hB
              clear hA hpre
              go_simp
              first | exact hK _ _ hB rfl (fun _ _ h => h) | exact hK _ _ hB trivial (fun _ _ h => h) | (rw [if_neg (by omega)]; go_simp; exact hK _ _ hB rfl (fun _ _ h => h))
            · intro vs Wx A hA hB hpre K hK
              have e43 := ((hA 43).trans (show _ = vs 5 by kernel_rfl)).trans (by first | exact hpre.1 rfl | exact hpre.2.1 rfl | exact hpre.2.2.1 rfl | exact hpre.2.2.2.1 rfl | exact hpre.2.2.2.2.1 rfl | exact hpre.2.2.2.2.2.1 rfl | exact hpre.2.2.2.2.2.2.1 rfl | exact hpre.2.2.2.2.2.2.2.1 rfl | exact hpre.2.2.2.2.2.2.2.2.1 rfl | exact hpre.2.2.2.2.2.2.2.2.2.1 rfl)
              have e49 := ((hA 49).trans (show _ = vs 11 by kernel_rfl)).trans (by first | exact hpre.1 rfl | exact hpre.2.1 rfl | exact hpre.2.2.1 rfl | exact hpre.2.2.2.1 rfl | exact hpre.2.2.2.2.1 rfl | exact hpre.2.2.2.2.2.1 rfl | exact hpre.2.2.2.2.2.2.1 rfl | exact hpre.2.2.2.2.2.2.2.1 rfl | exact hpre.2.2.2.2.2.2.2.2.1 rfl | exact hpre.2.2.2.2.2.2.2.2.2.1 rfl)
              have hq := HQE.out
              clear hA hpre
              go_simp
              first | exact hK _ _ hB rfl (fun _ _ h => h) | exact hK _ _ hB trivial (fun _ _ h => h) | (rw [if_neg (by omega)]; go_simp; exact hK _ _ hB rfl (fun _ _ h => h))
            · intro vs Wx hB hF
              have hL : vs 12 = .bool false := hF 12 (by decide)
              have HBW := Lib.hid hB
              clear hF hB
              simp only [Ri.puts]
              go_simp
              go_wp2_with fail
              go_meet
              exact ⟨by first | rfl | exact hL, HBW.out⟩
          case rest =>
            obtain ⟨rfl, HBx⟩ := hcut
            go_wp2
            go_roundg (i - (j + 1))
            case rel => exact ⟨j + 1, by omega, rfl, by go_num, below_trans HBj.out HBx.out, HDk.out⟩
            case measure => omega
    have hin2 : n = i := by omega
    subst hin2
    have HB2 := Lib.hid (below_tr hp HB1.out HBr.out)
    have hk' := hk
    have hbz := below_alloc wo (.cells #[.int .i64 x0.mode, .int .i64 x0.indDed, .int .i64 x0.famDed, .int .i64 x0.indOop, .int .i64 x0.famOop, .slice none 0 0] 34)
    have HZ := Lib.hid (heap_alloc_new wo (.cells #[.int .i64 x0.mode, .int .i64 x0.indDed, .int .i64 x0.famDed, .int .i64 x0.indOop, .int .i64 x0.famOop, .slice none 0 0] 34))
    have hqs : w1.heap.size ≤ wo.heap.size := HBr.out.size
    have HT := Lib.hid fun W' (hW : Below wo.heap.size (wo.alloc (.cells #[.int .i64 x0.mode, .int .i64 x0.indDed, .int .i64 x0.famDed, .int .i64 x0.indOop, .int .i64 x0.famOop, .slice none 0 0] 34)) W') => (below_trans HBr.out hbz).trans (hW.mono hqs)
    have HIN := Lib.hid fun W' (hW : Below wo.heap.size (wo.alloc (.cells #[.int .i64 x0.mode, .int .i64 x0.indDed, .int .i64 x0.famDed, .int .i64 x0.indOop, .int .i64 x0.famOop, .slice none 0 0] 34)) W') (t : Rr.Rw) (ht : t ∈ L) => ru_lo (q := wo.heap.size) (HLs.out.2.2 t ht) (HT.out W' hW) hqs
    have HTX := Lib.hid fun W' (hW : Below wo.heap.size (wo.alloc (.cells #[.int .i64 x0.mode, .int .i64 x0.indDed, .int .i64 x0.famDed, .int .i64 x0.indOop, .int .i64 x0.famOop, .slice none 0 0] 34)) W') => tx_grw HM1.out (HT.out W' hW)
    have HRP := Lib.hid fun W' (hW : Below wo.heap.size (wo.alloc (.cells #[.int .i64 x0.mode, .int .i64 x0.indDed, .int .i64 x0.famDed, .int .i64 x0.indOop, .int .i64 x0.famOop, .slice none 0 0] 34)) W') => HRu1.out.grw (HT.out W' hW)
    have HXQ := Lib.hid fun W' (hW : Below wo.heap.size (wo.alloc (.cells #[.int .i64 x0.mode, .int .i64 x0.indDed, .int .i64 x0.famDed, .int .i64 x0.indOop, .int .i64 x0.famOop, .slice none 0 0] 34)) W') => And.intro (bsix (keepB HX1.out (HT.out W' hW))) (bsix (keepB HL1.out (HT.out W' hW)))
    have HCL := Lib.hid fun W' (hW : Below wo.heap.size (wo.alloc (.cells #[.int .i64 x0.mode, .int .i64 x0.indDed, .int .i64 x0.famDed, .int .i64 x0.indOop, .int .i64 x0.famOop, .slice none 0 0] 34)) W') j u (h : (Rr.rcs L)[j]? = some u) => (show W'.cell? ⟨b, o + j, none⟩ = some u by rw [World.cell?_of_block (w := w1) ((HT.out W' hW).block b HBS1.out)]; exact HLs.out.2.1 j u h)
    have HB5 := Lib.hid (below_tr hp HB2.out hbz)
    have HPQ : Hid (p0 ≤ wo.heap.size) := by
      have h1 := HB2.out.size
      rw [hp] at h1
      exact h1
    have HQW : Hid (wo.heap.size < (wo.alloc (.cells #[.int .i64 x0.mode, .int .i64 x0.indDed, .int .i64 x0.famDed, .int .i64 x0.indOop, .int .i64 x0.famOop, .slice none 0 0] 34)).heap.size) := by show _ < _; simp
    clear hbz hqs
    go_upto_region 15 with fail
    rw [hk']
    clear x0' x1' x2' x3' x4' x5' HT hk hk'
    generalize wo.alloc (.cells #[.int .i64 x0.mode, .int .i64 x0.indDed, .int .i64 x0.famDed, .int .i64 x0.indOop, .int .i64 x0.famOop, .slice none 0 0] 34) = W5 at *
    generalize wo.heap.size = qb at *
    have HRC := Lib.hid fun (t : Rr.Rw) (ix : Nat) (ht : L[ix]? = some t) W' (hW : Below qb W5 W') => row_cells (HCL.out W' hW) ht
    have HQ5 := Lib.hid (Below.refl qb W5)
    have HNil : Hid (W5.ownsRow (qb + 1) 27 8 (.slice none 0 0) (([] : List Rr.Rw)).length (Rr.rcs (([] : List Rr.Rw)))) := World.ownsRow_nil _ _ _ _
    have HM0 : Hid (([] : List Rr.Rw).length = 0 ∧ ∀ j, j < 0 → ([] : List Rr.Rw)[j]? = L[(k + n - j) % n]?) := ⟨rfl, fun j h => by omega⟩
    go_wp2
    go_loopg [14] (n) (fun g z wr => ∃ (i : Nat) (M : List Rr.Rw) (fa : Option Addr) (fn fc : Nat), i ≤ n ∧ g = n - i ∧ z = .int .i64 i ∧ Hid (Below qb W5 wr) ∧ Hid (M.length = i ∧ ∀ j, j < i → M[j]? = L[(k + n - j) % n]?) ∧ Hid (wr.ownsRow (qb + 1) 27 8 (.slice fa fn fc) (M).length (Rr.rcs (M))) ∧ Hid (wr.heap[qb]? = some (.cells #[.int .i64 x0.mode, .int .i64 x0.indDed, .int .i64 x0.famDed, .int .i64 x0.indOop, .int .i64 x0.famOop, .slice fa fn fc] 34 (0, 0))))
    case atStart => exact ⟨0, [], none, 0, 0, Nat.zero_le _, rfl, rfl, HQ5.out, HM0.out, HNil.out, HZ.out⟩
    case round =>
      clear HQ5 HNil HM0 HZ
      obtain ⟨i, M, fa, fn, fc, hi, hgk, rfl, HBq, HM, HOW, HBX⟩ := hrel
      obtain ⟨w6, hw6⟩ : ∃ x, x = wr := ⟨_, rfl⟩
      subst hw6
      have HQ6 : Hid (qb < w6.heap.size) := (Array.getElem?_eq_some_iff.1 HBX.out).1
      by_cases hlt : i < n
      case neg =>
        have hin3 : n = i := by omega
        subst hin3
        obtain ⟨w7, hw7⟩ : ∃ x, x = w6 := ⟨_, rfl⟩
        subst hw7
        have HBX3 := HBX
        have HBq3 := HBq
        have HQR := Lib.hid fun W' (hW : Below w7.heap.size w7 W') => Rr.own_rus (own_far HOW.out hW) (fun t ht => HIN.out W' (HBq3.out.trans (hW.mono (Nat.le_of_lt (Array.getElem?_eq_some_iff.1 HBX3.out).1))) t (rows_in HM.out HLk.out (by omega) t ht)) (by rw [HM.out.1]; omega)
        have HEQ : Hid (benV x1 a2 (M.map (·.1)) = benV x1 a2 x0.rules) := turn_ben x1 a2 x0.rules L M n k HLs.out.1 HN.out hkn HM.out HDis.out
        clear HOW HBX HBq HM HDis HCL
        have HBF := Lib.hid (HB5.out.trans (HBq3.out.mono HPQ.out))
        have HQ7 : Hid (qb < w7.heap.size) := (Array.getElem?_eq_some_iff.1 HBX3.out).1
        have HUP := Lib.hid fun W' (hW : Below w7.heap.size w7 W') => HBq3.out.trans (hW.mono (Nat.le_of_lt HQ7.out))
        have HXK := Lib.hid fun W' (hW : Below w7.heap.size w7 W') => And.intro (HXQ.out W' (HUP.out W' hW)) (bsix (keepB HBX3.out hW))
        have HRs := Lib.hid fun W' (hW : Below w7.heap.size w7 W') => res_any x0 _ x1 _ a2 W' (HRP.out W' (HUP.out W' hW)) (HTX.out W' (HUP.out W' hW))
        have HRq := Lib.hid fun W' (hW : Below w7.heap.size w7 W') => res_any ⟨x0.mode, x0.indDed, x0.famDed, x0.indOop, x0.famOop, M.map (·.1)⟩ (.slice fa fn fc) x1 _ a2 W' (HQR.out W' hW) (HTX.out W' (HUP.out W' hW))
        change Hid (∀ W' (hW : Below w7.heap.size w7 W'), Calls _ _ _ _ fun e w' => e = .returned (benV x1 a2 (M.map (·.1))) ∧ _) at HRq
        rw [HEQ.out] at HRq
        have HD7 := Lib.hid (Below.drew (Below.refl w7.heap.size w7))
        clear HQR HEQ
        go_upto_region 19 with fail
        refine Ri.wp_region_lasting_g (by kernel_rfl) (by kernel_rfl) (by kernel_rfl) (fun Wx => Below w7.heap.size w7 Wx) (fun kz vs wz => (fun kx vx wx => match kx with | 0 => vx = pnv x0 (.slice (some ⟨b, o, none⟩) n mc) | 1 => vx = lnv x1 (.slice la x1.mods.length lk) | 2 => vx = .int .i64 a2 | 3 => vx = benV x1 a2 x0.rules | 4 => vx = pnv ⟨x0.mode, x0.indDed, x0.famDed, x0.indOop, x0.famOop, M.map (·.1)⟩ (.slice fa fn fc) | 5 => vx = lnv x1 (.slice la x1.mods.length lk) | 6 => vx = .int .i64 a2 | 7 => vx = benV x1 a2 x0.rules | 8 => vx = .bool true | 9 => vx = .bool true | 10 => vx = .bool true | 11 => vx = .bool true | 12 => vx = .bool true | _ => True : Nat → Value → World → Prop) kz (vs kz) wz) (fun kz => [kz]) (by kernel_rfl) (fun jz vs iz vz wz hiz hz => Ri.loc_own (F := (fun kx vx wx => match kx with | 0 => vx = pnv x0 (.slice (some ⟨b, o, none⟩) n mc) | 1 => vx = lnv x1 (.slice la x1.mods.length lk) | 2 => vx = .int .i64 a2 | 3 => vx = benV x1 a2 x0.rules | 4 => vx = pnv ⟨x0.mode, x0.indDed, x0.famDed, x0.indOop, x0.famOop, M.map (·.1)⟩ (.slice fa fn fc) | 5 => vx = lnv x1 (.slice la x1.mods.length lk) | 6 => vx = .int .i64 a2 | 7 => vx = benV x1 a2 x0.rules | 8 => vx = .bool true | 9 => vx = .bool true | 10 => vx = .bool true | 11 => vx = .bool true | 12 => vx = .bool true | _ => True : Nat → Value → World → Prop)) jz vs iz vz wz hiz hz) HD7.out ⟨Or.inl ⟨rfl, ?_⟩, Or.inl ⟨rfl, ?_⟩, Or.inl ⟨rfl, ?_⟩, Or.inl ⟨rfl, ?_⟩, Or.inl ⟨rfl, ?_⟩, Or.inl ⟨rfl, ?_⟩, Or.inl ⟨rfl, ?_⟩, Or.inl ⟨rfl, ?_⟩, Or.inl ⟨rfl, ?_⟩, Or.inl ⟨rfl, ?_⟩, Or.inr ⟨9, true, 93, rfl, rfl, ?_⟩, Or.inl ⟨rfl, ?_⟩, Or.inl ⟨rfl, ?_⟩, trivial⟩ ?_
        · intro vs Wx A hA hB hpre K hK
          have e4 := (hA 4).trans (show _ = Value.pointer (some ⟨p0, 0, none⟩) by kernel_rfl)
          obtain ⟨⟨⟨x0', x1', x2', x3', x4', x5'⟩, ⟨y0', y1', y2', y3', y4', y5'⟩⟩, ⟨c0, c1, c2, c3, c4, c5⟩⟩ := HXK.out Wx hB
          clear hA hpre
          go_simp
          first | exact hK _ _ hB rfl (fun _ _ h => h) | exact hK _ _ hB trivial (fun _ _ h => h) | (rw [if_neg (by omega)]; go_simp; exact hK _ _ hB rfl (fun _ _ h => h))
        · intro vs Wx A hA hB hpre K hK
          have e5 := (hA 5).trans (show _ = Value.pointer (some ⟨q1, 0, none⟩) by kernel_rfl)
          obtain ⟨⟨⟨x0', x1', x2', x3', x4', x5'⟩, ⟨y0', y1', y2', y3', y4', y5'⟩⟩, ⟨c0, c1, c2, c3, c4, c5⟩⟩ := HXK.out Wx hB
          clear hA hpre
          go_simp
          first | exact hK _ _ hB rfl (fun _ _ h => h) | exact hK _ _ hB trivial (fun _ _ h => h) | (rw [if_neg (by omega)]; go_simp; exact hK _ _ hB rfl (fun _ _ h => h))
        · intro vs Wx A hA hB hpre K hK
          have e2 := (hA 2).trans (show _ = Value.int .i64 a2 by kernel_rfl)
          clear hA hpre
          go_simp
          first | exact hK _ _ hB rfl (fun _ _ h => h) | exact hK _ _ hB trivial (fun _ _ h => h) | (rw [if_neg (by omega)]; go_simp; exact hK _ _ hB rfl (fun _ _ h => h))
        · intro vs Wx A hA hB hpre K hK
          have e84 := ((hA 84).trans (show _ = vs 0 by kernel_rfl)).trans (by first | exact hpre.1 rfl | exact hpre.2.1 rfl | exact hpre.2.2.1 rfl | exact hpre.2.2.2.1 rfl | exact hpre.2.2.2.2.1 rfl | exact hpre.2.2.2.2.2.1 rfl | exact hpre.2.2.2.2.2.2.1 rfl | exact hpre.2.2.2.2.2.2.2.1 rfl | exact hpre.2.2.2.2.2.2.2.2.1 rfl | exact hpre.2.2.2.2.2.2.2.2.2.1 rfl)
          have e85 := ((hA 85).trans (show _ = vs 1 by kernel_rfl)).trans (by first | exact hpre.1 rfl | exact hpre.2.1 rfl | exact hpre.2.2.1 rfl | exact hpre.2.2.2.1 rfl | exact hpre.2.2.2.2.1 rfl | exact hpre.2.2.2.2.2.1 rfl | exact hpre.2.2.2.2.2.2.1 rfl | exact hpre.2.2.2.2.2.2.2.1 rfl | exact hpre.2.2.2.2.2.2.2.2.1 rfl | exact hpre.2.2.2.2.2.2.2.2.2.1 rfl)
          have e86 := ((hA 86).trans (show _ = vs 2 by kernel_rfl)).trans (by first | exact hpre.1 rfl | exact hpre.2.1 rfl | exact hpre.2.2.1 rfl | exact hpre.2.2.2.1 rfl | exact hpre.2.2.2.2.1 rfl | exact hpre.2.2.2.2.2.1 rfl | exact hpre.2.2.2.2.2.2.1 rfl | exact hpre.2.2.2.2.2.2.2.1 rfl | exact hpre.2.2.2.2.2.2.2.2.1 rfl | exact hpre.2.2.2.2.2.2.2.2.2.1 rfl)
          clear hA hpre
          go_simp
          go_at_call 15
          refine (HRs.out _ hB).mono ?_
          rintro e w3 ⟨rfl, hb3⟩
          exact hK _ _ (below_trans hB hb3) rfl (fun _ _ h => h)
        · intro vs Wx A hA hB hpre K hK
          have e13 := (hA 13).trans (show _ = Value.pointer (some ⟨qb, 0, none⟩) by kernel_rfl)
          obtain ⟨⟨⟨x0', x1', x2', x3', x4', x5'⟩, ⟨y0', y1', y2', y3', y4', y5'⟩⟩, ⟨c0, c1, c2, c3, c4, c5⟩⟩ := HXK.out Wx hB
          clear hA hpre
          go_simp
          first | exact hK _ _ hB rfl (fun _ _ h => h) | exact hK _ _ hB trivial (fun _ _ h => h) | (rw [if_neg (by omega)]; go_simp; exact hK _ _ hB rfl (fun _ _ h => h))
        · intro vs Wx A hA hB hpre K hK
          have e5 := (hA 5).trans (show _ = Value.pointer (some ⟨q1, 0, none⟩) by kernel_rfl)
          obtain ⟨⟨⟨x0', x1', x2', x3', x4', x5'⟩, ⟨y0', y1', y2', y3', y4', y5'⟩⟩, ⟨c0, c1, c2, c3, c4, c5⟩⟩ := HXK.out Wx hB
          clear hA hpre
          go_simp
          first | exact hK _ _ hB rfl (fun _ _ h => h) | exact hK _ _ hB trivial (fun _ _ h => h) | (rw [if_neg (by omega)]; go_simp; exact hK _ _ hB rfl (fun _ _ h => h))
        · intro vs Wx A hA hB hpre K hK
          have e2 := (hA 2).trans (show _ = Value.int .i64 a2 by kernel_rfl)
          clear hA hpre
          go_simp
          first | exact hK _ _ hB rfl (fun _ _ h => h) | exact hK _ _ hB trivial (fun _ _ h => h) | (rw [if_neg (by omega)]; go_simp; exact hK _ _ hB rfl (fun _ _ h => h))
        · intro vs Wx A hA hB hpre K hK
          have e88 := ((hA 88).trans (show _ = vs 4 by kernel_rfl)).trans (by first | exact hpre.1 rfl | exact hpre.2.1 rfl | exact hpre.2.2.1 rfl | exact hpre.2.2.2.1 rfl | exact hpre.2.2.2.2.1 rfl | exact hpre.2.2.2.2.2.1 rfl | exact hpre.2.2.2.2.2.2.1 rfl | exact hpre.2.2.2.2.2.2.2.1 rfl | exact hpre.2.2.2.2.2.2.2.2.1 rfl | exact hpre.2.2.2.2.2.2.2.2.2.1 rfl)
          have e89 := ((hA 89).trans (show _ = vs 5 by kernel_rfl)).trans (by first | exact hpre.1 rfl | exact hpre.2.1 rfl | exact hpre.2.2.1 rfl | exact hpre.2.2.2.1 rfl | exact hpre.2.2.2.2.1 rfl | exact hpre.2.2.2.2.2.1 rfl | exact hpre.2.2.2.2.2.2.1 rfl | exact hpre.2.2.2.2.2.2.2.1 rfl | exact hpre.2.2.2.2.2.2.2.2.1 rfl | exact hpre.2.2.2.2.2.2.2.2.2.1 rfl)
          have e90 := ((hA 90).trans (show _ = vs 6 by kernel_rfl)).trans (by first | exact hpre.1 rfl | exact hpre.2.1 rfl | exact hpre.2.2.1 rfl | exact hpre.2.2.2.1 rfl | exact hpre.2.2.2.2.1 rfl | exact hpre.2.2.2.2.2.1 rfl | exact hpre.2.2.2.2.2.2.1 rfl | exact hpre.2.2.2.2.2.2.2.1 rfl | exact hpre.2.2.2.2.2.2.2.2.1 rfl | exact hpre.2.2.2.2.2.2.2.2.2.1 rfl)
          clear hA hpre
          go_simp
          go_at_call 15
          refine (HRq.out _ hB).mono ?_
          rintro e w3 ⟨rfl, hb3⟩
          exact hK _ _ (below_trans hB hb3) rfl (fun _ _ h => h)
        · intro vs Wx A hA hB hpre K hK
          have e87 := ((hA 87).trans (show _ = vs 3 by kernel_rfl)).trans (by first | exact hpre.1 rfl | exact hpre.2.1 rfl | exact hpre.2.2.1 rfl | exact hpre.2.2.2.1 rfl | exact hpre.2.2.2.2.1 rfl | exact hpre.2.2.2.2.2.1 rfl | exact hpre.2.2.2.2.2.2.1 rfl | exact hpre.2.2.2.2.2.2.2.1 rfl | exact hpre.2.2.2.2.2.2.2.2.1 rfl | exact hpre.2.2.2.2.2.2.2.2.2.1 rfl)
          have e91 := ((hA 91).trans (show _ = vs 7 by kernel_rfl)).trans (by first | exact hpre.1 rfl | exact hpre.2.1 rfl | exact hpre.2.2.1 rfl | exact hpre.2.2.2.1 rfl | exact hpre.2.2.2.2.1 rfl | exact hpre.2.2.2.2.2.1 rfl | exact hpre.2.2.2.2.2.2.1 rfl | exact hpre.2.2.2.2.2.2.2.1 rfl | exact hpre.2.2.2.2.2.2.2.2.1 rfl | exact hpre.2.2.2.2.2.2.2.2.2.1 rfl)
          clear hA hpre
          go_simp
          first | exact hK _ _ hB rfl (fun _ _ h => h) | exact hK _ _ hB trivial (fun _ _ h => h) | (rw [if_neg (by omega)]; go_simp; exact hK _ _ hB rfl (fun _ _ h => h))
        · intro vs Wx A hA hB hpre K hK
          have e92 := ((hA 92).trans (show _ = vs 8 by kernel_rfl)).trans (by first | exact hpre.1 rfl | exact hpre.2.1 rfl | exact hpre.2.2.1 rfl | exact hpre.2.2.2.1 rfl | exact hpre.2.2.2.2.1 rfl | exact hpre.2.2.2.2.2.1 rfl | exact hpre.2.2.2.2.2.2.1 rfl | exact hpre.2.2.2.2.2.2.2.1 rfl | exact hpre.2.2.2.2.2.2.2.2.1 rfl | exact hpre.2.2.2.2.2.2.2.2.2.1 rfl)
          clear hA hpre
          go_simp
          first | exact hK _ _ hB rfl (fun _ _ h => h) | exact hK _ _ hB trivial (fun _ _ h => h) | (rw [if_neg (by omega)]; go_simp; exact hK _ _ hB rfl (fun _ _ h => h))
        · intro vs Wx A hA hB hpre
          have eg := ((hA 93).trans (show _ = vs 9 by kernel_rfl)).trans (by first | exact hpre.1 rfl | exact hpre.2.1 rfl | exact hpre.2.2.1 rfl | exact hpre.2.2.2.1 rfl | exact hpre.2.2.2.2.1 rfl | exact hpre.2.2.2.2.2.1 rfl | exact hpre.2.2.2.2.2.2.1 rfl | exact hpre.2.2.2.2.2.2.2.1 rfl | exact hpre.2.2.2.2.2.2.2.2.1 rfl | exact hpre.2.2.2.2.2.2.2.2.2.1 rfl)
          refine ⟨true, eg, fun _ K hK => ?_, fun h => absurd rfl h⟩
          clear hA hpre
          go_simp
          go_at_call 10
          refine (works_any _).mono ?_
          rintro e w3 ⟨rfl, hb3⟩
          exact hK _ _ (below_trans hB hb3) rfl (fun _ _ h => h)
        · intro vs Wx A hA hB hpre K hK
          have e93 := ((hA 93).trans (show _ = vs 9 by kernel_rfl)).trans (by first | exact hpre.1 rfl | exact hpre.2.1 rfl | exact hpre.2.2.1 rfl | exact hpre.2.2.2.1 rfl | exact hpre.2.2.2.2.1 rfl | exact hpre.2.2.2.2.2.1 rfl | exact hpre.2.2.2.2.2.2.1 rfl | exact hpre.2.2.2.2.2.2.2.1 rfl | exact hpre.2.2.2.2.2.2.2.2.1 rfl | exact hpre.2.2.2.2.2.2.2.2.2.1 rfl)
          have e94 := ((hA 94).trans (show _ = vs 10 by kernel_rfl)).trans (by first | exact hpre.1 rfl | exact hpre.2.1 rfl | exact hpre.2.2.1 rfl | exact hpre.2.2.2.1 rfl | exact hpre.2.2.2.2.1 rfl | exact hpre.2.2.2.2.2.1 rfl | exact hpre.2.2.2.2.2.2.1 rfl | exact hpre.2.2.2.2.2.2.2.1 rfl | exact hpre.2.2.2.2.2.2.2.2.1 rfl | exact hpre.2.2.2.2.2.2.2.2.2.1 rfl)
          clear hA hpre
          go_simp
          first | exact hK _ _ hB rfl (fun _ _ h => h) | exact hK _ _ hB trivial (fun _ _ h => h) | (rw [if_neg (by omega)]; go_simp; exact hK _ _ hB rfl (fun _ _ h => h))
        · intro vs Wx A hA hB hpre K hK
          have e95 := ((hA 95).trans (show _ = vs 11 by kernel_rfl)).trans (by first | exact hpre.1 rfl | exact hpre.2.1 rfl | exact hpre.2.2.1 rfl | exact hpre.2.2.2.1 rfl | exact hpre.2.2.2.2.1 rfl | exact hpre.2.2.2.2.2.1 rfl | exact hpre.2.2.2.2.2.2.1 rfl | exact hpre.2.2.2.2.2.2.2.1 rfl | exact hpre.2.2.2.2.2.2.2.2.1 rfl | exact hpre.2.2.2.2.2.2.2.2.2.1 rfl)
          clear hA hpre
          go_simp
          first | exact hK _ _ hB rfl (fun _ _ h => h) | exact hK _ _ hB trivial (fun _ _ h => h) | (rw [if_neg (by omega)]; go_simp; exact hK _ _ hB rfl (fun _ _ h => h))
        · intro vs Wx hB hF
          have hL : vs 12 = .bool true := hF 12 (by decide)
          have HBW := Lib.hid (below_tr hp HBF.out hB)
          clear hF hB
          simp only [Ri.puts]
          go_simp
          go_wp2_with fail
          go_ret
          exact ⟨by first | rfl | (rw [hL]; rfl) | simp [hL], by first | exact HBW.out | (rw [hp]; exact HBW.out)⟩
      have HD6 := Lib.hid (Below.drew (Below.refl w6.heap.size w6))
      obtain ⟨ix, hix, hixn⟩ : ∃ ix, ix = (k + n - i) % n ∧ ix < n := ⟨_, rfl, Nat.mod_lt _ (by omega)⟩
      have HI : Hid (IntKind.i64.wrap ((k : Int) + (n : Int)) = (k : Int) + (n : Int) ∧ IntKind.i64.wrap ((k : Int) + (n : Int) - (i : Int)) = (k : Int) + (n : Int) - (i : Int) ∧ ((k : Int) + (n : Int) - (i : Int)).tmod (n : Int) = (ix : Int)) := ⟨by rw [IntKind.wrap_i64]; omega, by rw [IntKind.wrap_i64]; omega, by rw [hix]; exact turn_num k n i (by omega)⟩
      obtain ⟨t, ht⟩ : ∃ t, L[ix]? = some t := ⟨_, List.getElem?_eq_getElem (by rw [HLk.out]; exact hixn)⟩
      have HTi : Hid (some t = L[(k + n - i) % n]?) := by show _ = _; rw [← hix, ht]
      have HTL := Lib.hid (List.mem_of_getElem? ht)
      have HRC := Lib.hid fun W' (hW : Below qb W5 W') => HRC.out t ix ht W' hW
      obtain ⟨r, kv, uv, sv⟩ := t
      obtain ⟨-, -, -, hk1, hk2, hk3⟩ := HIN.out _ HBq.out _ HTL.out
      obtain ⟨ka, kc, e1, -, -⟩ := hk1.form
      obtain ⟨ua, uc, e2, -, -⟩ := hk2.form
      obtain ⟨sa, sc, e3, -, -, -⟩ := hk3.form
      have f1 : kv = .slice ka r.cif.kids.length kc := e1
      have f2 : uv = .slice ua r.unl.length uc := e2
      have f3 : sv = .slice sa r.sets.length sc := e3
      clear hk1 hk2 hk3 e1 e2 e3
      subst f1 f2 f3
      have HLB : Hid (M.length + [(r, Value.slice ka r.cif.kids.length kc, Value.slice ua r.unl.length uc, Value.slice sa r.sets.length sc)].length ≤ 1000) := by show _ ≤ _; rw [HM.out.1]; simp; omega
      have hixn' : (ix : Int) < (n : Int) := by omega
      have hne2 : ¬ ((n : Int) = 0) := by omega
      clear ht hix
      unfold Pl.RuCells at HRC
      go_upto_region 18 with fail
      refine Ri.wp_region_tail 14 (by kernel_rfl) (by kernel_rfl) (by kernel_rfl) (by decide) (by kernel_rfl) (fun Wx => Below w6.heap.size w6 Wx) (fun kz vs wz => (fun kx vx wx => match kx with | 0 => vx = .pointer (some ⟨qb, 5, none⟩) | 1 => vx = .slice fa fn fc | 2 => vx = .pointer (some ⟨p0, 5, none⟩) | 3 => vx = .slice (some ⟨b, o, none⟩) n mc | 4 => vx = .int .i64 (k : Nat) | 5 => vx = .int .i64 (n : Nat) | 6 => vx = .int .i64 ((k : Int) + (n : Int)) | 7 => vx = .int .i64 (i : Nat) | 8 => vx = .int .i64 ((k : Int) + (n : Int) - (i : Int)) | 9 => vx = .int .i64 (n : Nat) | 10 => vx = .int .i64 (ix : Nat) | 11 => vx = .pointer (some ⟨b, o + ix * 8, none⟩) | 12 => vx = ruv r (.slice ka r.cif.kids.length kc) (.slice ua r.unl.length uc) (.slice sa r.sets.length sc) | 13 => (∃ g, vx = .slice (some ⟨g, 0, none⟩) 1 1 ∧ wx.heap[g]? = some (.cells #[.int .i64 r.rank, .int .i64 r.cif.kind, .string (mk r.cif.lo), .string (mk r.cif.hi), .int .i64 r.cif.n, .slice ka r.cif.kids.length kc, .slice ua r.unl.length uc, .slice sa r.sets.length sc] 27 (0, 0))) | _ => True : Nat → Value → World → Prop) kz (vs kz) wz) (fun kz => [kz]) (by kernel_rfl) (fun jz vs iz vz wz hiz hz => Ri.loc_own (F := (fun kx vx wx => match kx with | 0 => vx = .pointer (some ⟨qb, 5, none⟩) | 1 => vx = .slice fa fn fc | 2 => vx = .pointer (some ⟨p0, 5, none⟩) | 3 => vx = .slice (some ⟨b, o, none⟩) n mc | 4 => vx = .int .i64 (k : Nat) | 5 => vx = .int .i64 (n : Nat) | 6 => vx = .int .i64 ((k : Int) + (n : Int)) | 7 => vx = .int .i64 (i : Nat) | 8 => vx = .int .i64 ((k : Int) + (n : Int) - (i : Int)) | 9 => vx = .int .i64 (n : Nat) | 10 => vx = .int .i64 (ix : Nat) | 11 => vx = .pointer (some ⟨b, o + ix * 8, none⟩) | 12 => vx = ruv r (.slice ka r.cif.kids.length kc) (.slice ua r.unl.length uc) (.slice sa r.sets.length sc) | 13 => (∃ g, vx = .slice (some ⟨g, 0, none⟩) 1 1 ∧ wx.heap[g]? = some (.cells #[.int .i64 r.rank, .int .i64 r.cif.kind, .string (mk r.cif.lo), .string (mk r.cif.hi), .int .i64 r.cif.n, .slice ka r.cif.kids.length kc, .slice ua r.unl.length uc, .slice sa r.sets.length sc] 27 (0, 0))) | _ => True : Nat → Value → World → Prop)) jz vs iz vz wz hiz hz) HD6.out ⟨⟨rfl, ?_⟩, ⟨rfl, ?_⟩, ⟨rfl, ?_⟩, ⟨rfl, ?_⟩, ⟨rfl, ?_⟩, ⟨rfl, ?_⟩, ⟨rfl, ?_⟩, ⟨rfl, ?_⟩, ⟨rfl, ?_⟩, ⟨rfl, ?_⟩, ⟨rfl, ?_⟩, ⟨rfl, ?_⟩, ⟨rfl, ?_⟩, ⟨rfl, ?_⟩, trivial⟩ ?_
      · intro vs Wx A hA hB hpre K hK
        have e13 := (hA 13).trans (show _ = Value.pointer (some ⟨qb, 0, none⟩) by kernel_rfl)
        clear hA hpre
        go_simp
        first | exact hK _ _ hB rfl (fun _ _ h => h) | exact hK _ _ hB trivial (fun _ _ h => h) | (rw [if_neg (by omega)]; go_simp; exact hK _ _ hB rfl (fun _ _ h => h))
      · intro vs Wx A hA hB hpre K hK
        have e68 := ((hA 68).trans (show _ = vs 0 by kernel_rfl)).trans (by first | exact hpre.1 rfl | exact hpre.2.1 rfl | exact hpre.2.2.1 rfl | exact hpre.2.2.2.1 rfl | exact hpre.2.2.2.2.1 rfl | exact hpre.2.2.2.2.2.1 rfl | exact hpre.2.2.2.2.2.2.1 rfl | exact hpre.2.2.2.2.2.2.2.1 rfl | exact hpre.2.2.2.2.2.2.2.2.1 rfl | exact hpre.2.2.2.2.2.2.2.2.2.1 rfl)
        obtain ⟨⟨x0', x1', x2', x3', x4', x5'⟩, ⟨y0', y1', y2', y3', y4', y5'⟩⟩ := HXQ.out Wx (HBq.out.trans (hB.mono (Nat.le_of_lt HQ6.out)))
        obtain ⟨c0, c1, c2, c3, c4, c5⟩ := bsix (keepB HBX.out hB)
        obtain ⟨z0, z1, z2, z3, z4, z5, z6, z7⟩ := HRC.out Wx (HBq.out.trans (hB.mono (Nat.le_of_lt HQ6.out)))
        clear hA hpre
        go_simp
        first | exact hK _ _ hB rfl (fun _ _ h => h) | exact hK _ _ hB trivial (fun _ _ h => h) | (rw [if_neg (by omega)]; go_simp; exact hK _ _ hB rfl (fun _ _ h => h))
      · intro vs Wx A hA hB hpre K hK
        have e4 := (hA 4).trans (show _ = Value.pointer (some ⟨p0, 0, none⟩) by kernel_rfl)
        clear hA hpre
        go_simp
        first | exact hK _ _ hB rfl (fun _ _ h => h) | exact hK _ _ hB trivial (fun _ _ h => h) | (rw [if_neg (by omega)]; go_simp; exact hK _ _ hB rfl (fun _ _ h => h))
      · intro vs Wx A hA hB hpre K hK
        have e70 := ((hA 70).trans (show _ = vs 2 by kernel_rfl)).trans (by first | exact hpre.1 rfl | exact hpre.2.1 rfl | exact hpre.2.2.1 rfl | exact hpre.2.2.2.1 rfl | exact hpre.2.2.2.2.1 rfl | exact hpre.2.2.2.2.2.1 rfl | exact hpre.2.2.2.2.2.2.1 rfl | exact hpre.2.2.2.2.2.2.2.1 rfl | exact hpre.2.2.2.2.2.2.2.2.1 rfl | exact hpre.2.2.2.2.2.2.2.2.2.1 rfl)
        obtain ⟨⟨x0', x1', x2', x3', x4', x5'⟩, ⟨y0', y1', y2', y3', y4', y5'⟩⟩ := HXQ.out Wx (HBq.out.trans (hB.mono (Nat.le_of_lt HQ6.out)))
        obtain ⟨c0, c1, c2, c3, c4, c5⟩ := bsix (keepB HBX.out hB)
        obtain ⟨z0, z1, z2, z3, z4, z5, z6, z7⟩ := HRC.out Wx (HBq.out.trans (hB.mono (Nat.le_of_lt HQ6.out)))
        clear hA hpre
        go_simp
        first | exact hK _ _ hB rfl (fun _ _ h => h) | exact hK _ _ hB trivial (fun _ _ h => h) | (rw [if_neg (by omega)]; go_simp; exact hK _ _ hB rfl (fun _ _ h => h))
      · intro vs Wx A hA hB hpre K hK
        have e12 := (hA 12).trans (show _ = Value.int .i64 (k : Nat) by kernel_rfl)
        clear hA hpre
        go_simp
        first | exact hK _ _ hB rfl (fun _ _ h => h) | exact hK _ _ hB trivial (fun _ _ h => h) | (rw [if_neg (by omega)]; go_simp; exact hK _ _ hB rfl (fun _ _ h => h))
      · intro vs Wx A hA hB hpre K hK
        have e11 := (hA 11).trans (show _ = Value.int .i64 (n : Nat) by kernel_rfl)
        clear hA hpre
        go_simp
        first | exact hK _ _ hB rfl (fun _ _ h => h) | exact hK _ _ hB trivial (fun _ _ h => h) | (rw [if_neg (by omega)]; go_simp; exact hK _ _ hB rfl (fun _ _ h => h))
      · intro vs Wx A hA hB hpre K hK
        have e72 := ((hA 72).trans (show _ = vs 4 by kernel_rfl)).trans (by first | exact hpre.1 rfl | exact hpre.2.1 rfl | exact hpre.2.2.1 rfl | exact hpre.2.2.2.1 rfl | exact hpre.2.2.2.2.1 rfl | exact hpre.2.2.2.2.2.1 rfl | exact hpre.2.2.2.2.2.2.1 rfl | exact hpre.2.2.2.2.2.2.2.1 rfl | exact hpre.2.2.2.2.2.2.2.2.1 rfl | exact hpre.2.2.2.2.2.2.2.2.2.1 rfl)
        have e73 := ((hA 73).trans (show _ = vs 5 by kernel_rfl)).trans (by first | exact hpre.1 rfl | exact hpre.2.1 rfl | exact hpre.2.2.1 rfl | exact hpre.2.2.2.1 rfl | exact hpre.2.2.2.2.1 rfl | exact hpre.2.2.2.2.2.1 rfl | exact hpre.2.2.2.2.2.2.1 rfl | exact hpre.2.2.2.2.2.2.2.1 rfl | exact hpre.2.2.2.2.2.2.2.2.1 rfl | exact hpre.2.2.2.2.2.2.2.2.2.1 rfl)
        have h6 := HI.out.1
        clear hA hpre
        go_simp
        first | exact hK _ _ hB rfl (fun _ _ h => h) | exact hK _ _ hB trivial (fun _ _ h => h) | (rw [if_neg (by omega)]; go_simp; exact hK _ _ hB rfl (fun _ _ h => h))
      · intro vs Wx A hA hB hpre K hK
        have e14 := (hA 14).trans (show _ = Value.int .i64 (i : Nat) by kernel_rfl)
        clear hA hpre
        go_simp
        first | exact hK _ _ hB rfl (fun _ _ h => h) | exact hK _ _ hB trivial (fun _ _ h => h) | (rw [if_neg (by omega)]; go_simp; exact hK _ _ hB rfl (fun _ _ h => h))
      · intro vs Wx A hA hB hpre K hK
        have e74 := ((hA 74).trans (show _ = vs 6 by kernel_rfl)).trans (by first | exact hpre.1 rfl | exact hpre.2.1 rfl | exact hpre.2.2.1 rfl | exact hpre.2.2.2.1 rfl | exact hpre.2.2.2.2.1 rfl | exact hpre.2.2.2.2.2.1 rfl | exact hpre.2.2.2.2.2.2.1 rfl | exact hpre.2.2.2.2.2.2.2.1 rfl | exact hpre.2.2.2.2.2.2.2.2.1 rfl | exact hpre.2.2.2.2.2.2.2.2.2.1 rfl)
        have e75 := ((hA 75).trans (show _ = vs 7 by kernel_rfl)).trans (by first | exact hpre.1 rfl | exact hpre.2.1 rfl | exact hpre.2.2.1 rfl | exact hpre.2.2.2.1 rfl | exact hpre.2.2.2.2.1 rfl | exact hpre.2.2.2.2.2.1 rfl | exact hpre.2.2.2.2.2.2.1 rfl | exact hpre.2.2.2.2.2.2.2.1 rfl | exact hpre.2.2.2.2.2.2.2.2.1 rfl | exact hpre.2.2.2.2.2.2.2.2.2.1 rfl)
        have h8 := HI.out.2.1
        clear hA hpre
        go_simp
        first | exact hK _ _ hB rfl (fun _ _ h => h) | exact hK _ _ hB trivial (fun _ _ h => h) | (rw [if_neg (by omega)]; go_simp; exact hK _ _ hB rfl (fun _ _ h => h))
      · intro vs Wx A hA hB hpre K hK
        have e11 := (hA 11).trans (show _ = Value.int .i64 (n : Nat) by kernel_rfl)
        clear hA hpre
        go_simp
        first | exact hK _ _ hB rfl (fun _ _ h => h) | exact hK _ _ hB trivial (fun _ _ h => h) | (rw [if_neg (by omega)]; go_simp; exact hK _ _ hB rfl (fun _ _ h => h))
      · intro vs Wx A hA hB hpre K hK
        have e76 := ((hA 76).trans (show _ = vs 8 by kernel_rfl)).trans (by first | exact hpre.1 rfl | exact hpre.2.1 rfl | exact hpre.2.2.1 rfl | exact hpre.2.2.2.1 rfl | exact hpre.2.2.2.2.1 rfl | exact hpre.2.2.2.2.2.1 rfl | exact hpre.2.2.2.2.2.2.1 rfl | exact hpre.2.2.2.2.2.2.2.1 rfl | exact hpre.2.2.2.2.2.2.2.2.1 rfl | exact hpre.2.2.2.2.2.2.2.2.2.1 rfl)
        have e77 := ((hA 77).trans (show _ = vs 9 by kernel_rfl)).trans (by first | exact hpre.1 rfl | exact hpre.2.1 rfl | exact hpre.2.2.1 rfl | exact hpre.2.2.2.1 rfl | exact hpre.2.2.2.2.1 rfl | exact hpre.2.2.2.2.2.1 rfl | exact hpre.2.2.2.2.2.2.1 rfl | exact hpre.2.2.2.2.2.2.2.1 rfl | exact hpre.2.2.2.2.2.2.2.2.1 rfl | exact hpre.2.2.2.2.2.2.2.2.2.1 rfl)
        have h10 := HI.out.2.2
        clear hA hpre
        go_simp
        first | exact hK _ _ hB rfl (fun _ _ h => h) | exact hK _ _ hB trivial (fun _ _ h => h) | (rw [if_neg (by omega)]; go_simp; exact hK _ _ hB rfl (fun _ _ h => h))
      · intro vs Wx A hA hB hpre K hK
        have e71 := ((hA 71).trans (show _ = vs 3 by kernel_rfl)).trans (by first | exact hpre.1 rfl | exact hpre.2.1 rfl | exact hpre.2.2.1 rfl | exact hpre.2.2.2.1 rfl | exact hpre.2.2.2.2.1 rfl | exact hpre.2.2.2.2.2.1 rfl | exact hpre.2.2.2.2.2.2.1 rfl | exact hpre.2.2.2.2.2.2.2.1 rfl | exact hpre.2.2.2.2.2.2.2.2.1 rfl | exact hpre.2.2.2.2.2.2.2.2.2.1 rfl)
        have e78 := ((hA 78).trans (show _ = vs 10 by kernel_rfl)).trans (by first | exact hpre.1 rfl | exact hpre.2.1 rfl | exact hpre.2.2.1 rfl | exact hpre.2.2.2.1 rfl | exact hpre.2.2.2.2.1 rfl | exact hpre.2.2.2.2.2.1 rfl | exact hpre.2.2.2.2.2.2.1 rfl | exact hpre.2.2.2.2.2.2.2.1 rfl | exact hpre.2.2.2.2.2.2.2.2.1 rfl | exact hpre.2.2.2.2.2.2.2.2.2.1 rfl)
        clear hA hpre
        go_simp
        first | exact hK _ _ hB rfl (fun _ _ h => h) | exact hK _ _ hB trivial (fun _ _ h => h) | (rw [if_neg (by omega)]; go_simp; exact hK _ _ hB rfl (fun _ _ h => h))
      · intro vs Wx A hA hB hpre K hK
        have e79 := ((hA 79).trans (show _ = vs 11 by kernel_rfl)).trans (by first | exact hpre.1 rfl | exact hpre.2.1 rfl | exact hpre.2.2.1 rfl | exact hpre.2.2.2.1 rfl | exact hpre.2.2.2.2.1 rfl | exact hpre.2.2.2.2.2.1 rfl | exact hpre.2.2.2.2.2.2.1 rfl | exact hpre.2.2.2.2.2.2.2.1 rfl | exact hpre.2.2.2.2.2.2.2.2.1 rfl | exact hpre.2.2.2.2.2.2.2.2.2.1 rfl)
        obtain ⟨⟨x0', x1', x2', x3', x4', x5'⟩, ⟨y0', y1', y2', y3', y4', y5'⟩⟩ := HXQ.out Wx (HBq.out.trans (hB.mono (Nat.le_of_lt HQ6.out)))
        obtain ⟨c0, c1, c2, c3, c4, c5⟩ := bsix (keepB HBX.out hB)
        obtain ⟨z0, z1, z2, z3, z4, z5, z6, z7⟩ := HRC.out Wx (HBq.out.trans (hB.mono (Nat.le_of_lt HQ6.out)))
        clear hA hpre
        go_simp
        first | exact hK _ _ hB rfl (fun _ _ h => h) | exact hK _ _ hB trivial (fun _ _ h => h) | (rw [if_neg (by omega)]; go_simp; exact hK _ _ hB rfl (fun _ _ h => h))
      · intro vs Wx A hA hB hpre K hK
        have e80 := ((hA 80).trans (show _ = vs 12 by kernel_rfl)).trans (by first | exact hpre.1 rfl | exact hpre.2.1 rfl | exact hpre.2.2.1 rfl | exact hpre.2.2.2.1 rfl | exact hpre.2.2.2.2.1 rfl | exact hpre.2.2.2.2.2.1 rfl | exact hpre.2.2.2.2.2.2.1 rfl | exact hpre.2.2.2.2.2.2.2.1 rfl | exact hpre.2.2.2.2.2.2.2.2.1 rfl | exact hpre.2.2.2.2.2.2.2.2.2.1 rfl)
        clear hA hpre
        go_simp
        refine hK _ _ (below_trans hB (below_alloc Wx _)) ⟨_, rfl, heap_alloc_new Wx _⟩ (fun jz hj hz => ?_)
        match jz, hj, hz with
        | 0, _, hz => exact hz
        | 1, _, hz => exact hz
        | 2, _, hz => exact hz
        | 3, _, hz => exact hz
        | 4, _, hz => exact hz
        | 5, _, hz => exact hz
        | 6, _, hz => exact hz
        | 7, _, hz => exact hz
        | 8, _, hz => exact hz
        | 9, _, hz => exact hz
        | 10, _, hz => exact hz
        | 11, _, hz => exact hz
        | 12, _, hz => exact hz
        | 13, hj, _ => exact absurd rfl hj
        | n + 14, _, hz => exact hz
      · intro vs Wx hB hF
        refine fun A14 hA K14 hK14 => ?_
        have e69 := ((hA 69).trans (show _ = vs 1 by kernel_rfl)).trans (hF 1 (by decide))
        have e81 := (hA 81).trans (show _ = vs 13 by kernel_rfl)
        clear hA
        obtain ⟨g, rfl81, hg0⟩ := hF 13 (by decide)
        rw [rfl81] at e81
        have hBq := HBq.out.trans (hB.mono (Nat.le_of_lt HQ6.out))
        have hqx : qb + 1 ≤ Wx.heap.size := Nat.lt_of_lt_of_le HQ6.out hB.size
        have hzx := keepB HBX.out hB
        have hox : Wx.ownsRow (qb + 1) 27 8 (.slice fa fn fc) (M).length (Rr.rcs (M)) := (own_far HOW.out hB)
        refine Rr.wp_app _ _ rfl (qb + 1) (.slice fa fn fc) (M) (by first | exact e69 | simpa [Act.eval] using e69) hox (some ⟨g, 0, none⟩) (1) (1) ([(r, Value.slice ka r.cif.kids.length kc, Value.slice ua r.unl.length uc, Value.slice sa r.sets.length sc)]) (by first | exact e81 | simpa [Act.eval] using e81) rfl (Or.inr ⟨g, 0, rfl, fun j u hj => one_cells hg0 j u hj⟩) (Rr.rcs_one (K := fun b => b < qb) (w := Wx) _ (fun t ht => HIN.out Wx hBq t (by rcases List.mem_singleton.1 ht with rfl; exact HTL.out))) HLB.out hqx ?_
        intro vn w6 hown hgr hat
        have HBQ := Lib.hid (hBq.trans (grow_below (B := qb) hgr (by omega) (fun b hb => Nat.le_of_succ_le (own_ge hox b hb))))
        have HBX := Lib.hid (grow_box hgr hox (Nat.lt_succ_self qb) hzx)
        obtain ⟨fa2, fn2, fc2, rfl⟩ := own_form hown
        have HOW := Lib.hid hown
        clear hown hgr hat hzx hox hqx hBq e69 e81
        refine hK14 _ _ ?_
        refine fun A15 hA K15 hK15 => ?_
        have e13 := (hA 13).trans (show _ = Value.pointer (some ⟨qb, 0, none⟩) by kernel_rfl)
        clear hA
        go_simp
        refine hK15 _ _ ?_
        refine fun A16 hA K16 hK16 => ?_
        have e83 := (hA 83).trans (show _ = Value.pointer (some ⟨qb, 5, none⟩) by kernel_rfl)
        have e82 := (hA 82).trans (show _ = Value.slice fa2 fn2 fc2 by kernel_rfl)
        clear hA
        obtain ⟨c0, c1, c2, c3, c4, c5⟩ := bsix HBX.out
        have fz := bsix_soft HBX.out 5
        have HS := Lib.hid (set5 HBX.out (.slice fa2 fn2 fc2))
        have HOS := Lib.hid (own_set HOW.out (Nat.lt_succ_self qb) 5 (.slice fa2 fn2 fc2))
        have HBS := Lib.hid (HBQ.out.setCell (p := ⟨qb, 5, none⟩) (Nat.le_refl _) (.slice fa2 fn2 fc2))
        clear HBX HOW HBQ
        go_simp
        refine hK16 undef _ ?_
        have HMn : Hid ((M ++ [(r, Value.slice ka r.cif.kids.length kc, Value.slice ua r.unl.length uc, Value.slice sa r.sets.length sc)]).length = i + 1 ∧ ∀ j, j < i + 1 → (M ++ [(r, Value.slice ka r.cif.kids.length kc, Value.slice ua r.unl.length uc, Value.slice sa r.sets.length sc)])[j]? = L[(k + n - j) % n]?) := more_rows HM.out HTi.out
        clear hF hB
        simp only [Ri.Tail, Ri.puts]
        go_simp
        go_wp2
        go_roundg (n - (i + 1))
        case rel => exact ⟨i + 1, _, _, _, _, by omega, rfl, by go_num, HBS.out, HMn.out, HOS.out, HS.out⟩
        case measure => omega

/-! ### the row's step -/
theorem laidOut : laidOutB Try.prog = true := by kernel_rfl
theorem lifted (os : Os) (started : os.Started) (H : Type) (enc : TypeId × Value → H) :
    ReturnsInHanded {} Try.checked os 6 .any (Rows.rulesOrderSpec.pre6 enc Try.prog Try.f6 Rows.rulesOrderRow.domain false) (Rows.rulesOrderSpec.post enc Try.prog Try.f6 false true false false) := by
  refine returnsInHanded_of_change_shaped (C := Try.checked) own started (by kernel_rfl) Try.func6
    (ChangeSpec.witness6 (enc := enc) (C := Try.checked) false ⟨#[], #[.agg #[.int .i64 0, .int .i64 0, .int .i64 0, .int .i64 0, .int .i64 0, .slice none 0 0], .agg #[.string ByteArray.empty, .slice none 0 0, .int .i64 0, .int .i64 0, .int .i64 0, .int .i64 0], .int .i64 0, .int .i64 0], []⟩ 8 (by kernel_rfl) (by kernel_rfl) (by kernel_rfl) (by kernel_rfl)) ?_
  intro W base args ds gs before hval0 hW hcnd hwt _ _
  have hval : ∀ (j : Nat) t v, Try.f6.params[j]? = some t → args[j]? = some v → Value.okWide Try.prog W .any base t v := hval0
  have hW' := hW
  obtain ⟨p, q, hA0, hV, rfl, hfz, hnd⟩ := hW
  have hA : DataW.TrodAll enc Try.prog W 0 (fun _ => true) true Try.f6.params.toList args.toList ds p := hA0
  rw [Try.params6] at hA hval hwt
  obtain ⟨v0, vs0, d0, ds0, p0, q0, hargs, rfl, rfl, h0, r0⟩ := trodAll_cons hA
  obtain ⟨v1, vs1, d1, ds1, p1, q1, rfl, rfl, rfl, h1, r1⟩ := trodAll_cons r0
  obtain ⟨v2, vs2, d2, ds2, p2, q2, rfl, rfl, rfl, h2, r2⟩ := trodAll_cons r1
  obtain ⟨v3, vs3, d3, ds3, p3, q3, rfl, rfl, rfl, h3, r3⟩ := trodAll_cons r2
  obtain ⟨rfl, rfl, rfl⟩ := trodAll_nil r3
  obtain rfl : args = #[v0, v1, v2, v3] := by cases args; simp_all
  obtain ⟨rfl, rfl⟩ := trodVars_none hV
  have hwl : ∀ z, (z ∈ d0.weights Try.prog 34 → z ≤ reachBytes) ∧ (z ∈ d1.weights Try.prog 30 → z ≤ reachBytes) ∧ (z ∈ d2.weights Try.prog 3 → z ≤ reachBytes) ∧ (z ∈ d3.weights Try.prog 3 → z ≤ reachBytes) := fun z => by
    have h := List.all_eq_true.1 hwt z
    simp only [decide_eq_true_eq] at h
    refine ⟨fun hz => h ?_, fun hz => h ?_, fun hz => h ?_, fun hz => h ?_⟩
    all_goals
      simp only [List.cons_append, List.nil_append, List.toList_toArray, List.append_nil, DataW.weightsEach, List.mem_append]
      first | exact Or.inl hz | exact Or.inr (Or.inl hz) | exact Or.inr (Or.inr (Or.inl hz)) | exact Or.inr (Or.inr (Or.inr (Or.inl hz))) | simp [hz]
  have k0 := h0
  have lt0 : ∀ x ∈ p0, x.block < W.heap.size := by obtain ⟨m, hm⟩ := k0; exact DataW.trod_lt m _ _ _ hm
  obtain ⟨x0, m0, rfl, g0, z0⟩ := Pl.open_plan (hval 0 34 v0 rfl rfl) h0 (fun z hz => (hwl z).1 hz)
  have k1 := h1
  have lt1 : ∀ x ∈ p1, x.block < W.heap.size := by obtain ⟨m, hm⟩ := k1; exact DataW.trod_lt m _ _ _ hm
  obtain ⟨x1, m1, rfl, g1⟩ := Pl.open_line (hval 1 30 v1 rfl rfl) h1
  have k2 := h2
  have lt2 : ∀ x ∈ p2, x.block < W.heap.size := by obtain ⟨m, hm⟩ := k2; exact DataW.trod_lt m _ _ _ hm
  obtain ⟨a2, rfl, _, _, w2⟩ := open_int Try.underlying3 (hval 2 3 v2 rfl rfl) h2
  have k3 := h3
  have lt3 : ∀ x ∈ p3, x.block < W.heap.size := by obtain ⟨m, hm⟩ := k3; exact DataW.trod_lt m _ _ _ hm
  obtain ⟨a3, rfl, _, _, w3⟩ := open_int Try.underlying3 (hval 3 3 v3 rfl rfl) h3
  clear hA0 hval0
  refine (walk W x0 m0 g0 z0 x1 m1 g1 a2 (by simpa [Cm.I64, Lit.wf, IntKind.min, IntKind.max, IntKind.signed, IntKind.bits] using w2) a3 (by simpa [Cm.I64, Lit.wf, IntKind.min, IntKind.max, IntKind.signed, IntKind.bits] using w3)).mono fun e W' ⟨he, bel⟩ => ?_
  subst he
  exact ⟨_, rfl, _, _, _, [], _, [], hW', (trodAll_cons_mk (shut_bool Try.underlying4 _) trodAll_mk0), (trodAll_cons_mk (Below.trod laidOut (by kernel_rfl) (of_decide_eq_true (by kernel_rfl)) k0 bel lt0) (trodAll_cons_mk (Below.trod laidOut (by kernel_rfl) (of_decide_eq_true (by kernel_rfl)) k1 bel lt1) (trodAll_cons_mk (Below.trod laidOut (by kernel_rfl) (of_decide_eq_true (by kernel_rfl)) k2 bel lt2) (trodAll_cons_mk (Below.trod laidOut (by kernel_rfl) (of_decide_eq_true (by kernel_rfl)) k3 bel lt3) trodAll_mk0)))), rfl, bel.frame _, fun h => by cases h⟩

theorem over : Rows.rulesOrderRow.holds Try.pinned (OpenSpec.ofChange Rows.rulesOrderSpec) :=
  OpenClaim.holds_of_wide 6 Try.f6 rfl rfl rfl rfl rfl rfl rfl ⟨rfl, rfl, rfl, rfl, rfl⟩ rfl rfl rfl rfl rfl (by kernel_rfl) Try.func6 (by kernel_rfl)
    (of_decide_eq_true (by kernel_rfl)) (by unfold Func.isWrapper; first | (rw [if_pos (by decide +kernel)]; kernel_rfl) | (rw [if_neg (by decide +kernel)]; exact ⟨rfl, rfl⟩))
    (fun os started H enc _ => lifted os started H enc)

/-- The statement. -/
theorem proved : Rows.RulesOrderSaid := over
end Go.Proofs.Ytbokhiaiihpeeaa.rulesOrder
namespace Go.Proofs.Ytbokhiaiihpeeaa
theorem rulesOrder_holds : Rows.RulesOrderSaid := rulesOrder.proved
#print axioms rulesOrder_holds
end Go.Proofs.Ytbokhiaiihpeeaa
