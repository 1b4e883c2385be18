/-
  TwiceOnce holds for all services: of those that are the same one just the first is not marked.
-/
import Derived.Test.YtmgjnjbiljpneaaRows
import Derived.WalkKit
import Derived.ProofKit
import Derived.OpenShut
import Derived.ShutString
import Derived.Below
import Derived.Carry
import Derived.Laws.Cover2
import Derived.HandedShaped
import Derived.Test.YtmgjnjbiljpneaaIWorks
import Derived.Test.YtmgjnjbiljpneaaIRMarks
import Derived.Test.YtmgjnjbiljpneaaIRow
import Derived.Test.YtmgjnjbiljpneaaRTailG
import Derived.Test.YtmgjnjbiljpneaaIOpen
namespace Go.Proofs.Ytmgjnjbiljpneaa.twiceOnce
open Go.ChangeShapes Go.WideShapes Go.ChangeAt Go.RowKit
open Io
open Cm (Ln LnsAt lnv LnOk below_alloc below_trans)
open Tw
set_option linter.unusedVariables false
set_option linter.unusedSimpArgs false
set_option maxRecDepth 100000

theorem own : ownKnob Try.prog.godebug = none := by kernel_rfl

/-! ### the walk: the law returns true -/
set_option maxHeartbeats 16000000 in
theorem walk (w : World) (v0 : Value) (l0 : List Ln) (h0 : LnsAt All w v0 l0) (n0 : l0.length ≤ 281474976710656) (z0 : ∀ f ∈ l0, LnOk f) :
    Calls Try.prog 7 #[v0] w fun e w' => e = .returned (.bool true) ∧ Below w.heap.size w w' := by
  have HLt0 := Lib.hid (light_any v0 l0 w h0 z0 n0)
  have HB0 := Lib.hid (Below.refl w.heap.size w)
  have HM0 := Lib.hid fun W (hW : Below w.heap.size w W) q p => marks_ex v0 (.slice none 0 0) l0 [] W (LnsAt.move h0 (Below.moves hW)) (lns_nil _) q (by simp) p (by simp)
  have HL := Lib.hid fun W (hW : Below w.heap.size w W) => LnsAt.move h0 (Below.moves hW)
  obtain ⟨a, c, rfl, f1, f2⟩ := Cm.LnsAt.form h0
  clear h0 z0
  go_enter Try.func7, Try.ntmps7
  go_wp2_with fail
  go_at_call 9
  refine (HLt0.out).mono ?_
  rintro e w1 ⟨⟨bl, rfl, hbl⟩, hb1⟩
  have HB1 := Lib.hid (below_trans HB0.out hb1)
  clear hb1
  cases bl with
  | false =>
    clear hbl
    go_wp2_with (go_at_call 10; refine (works_any _).mono ?_; rintro e w9 ⟨rfl, hb9⟩; have HB9 := Lib.hid (below_trans HB1.out hb9); clear hb9)
    go_ret
    exact ⟨rfl, HB9.out⟩
  | true =>
  obtain ⟨k0, k1⟩ := hbl rfl
  have HK0 := Lib.hid k1
  clear hbl k1
  go_wp2_with fail
  go_at_call 14
  refine (HM0.out w1 HB1.out HK0.out (by omega)).mono ?_
  rintro e w2 ⟨g, rfl, hu2, hb2⟩
  have HB2 := Lib.hid (below_trans HB1.out hb2)
  have HU := Lib.hid hu2
  clear hb2 hu2
  have hnn : ((l0.length : Int) != (l0.length : Int)) = false := by simp
  go_wp2
  go_loopg [4] l0.length (fun gg i wr => ∃ n : Nat, n ≤ l0.length ∧ gg = l0.length - n ∧ i = .int .i64 n ∧ Hid (Below w2.heap.size w2 wr))
  case atStart => exact ⟨0, Nat.zero_le _, rfl, rfl, Below.refl _ _⟩
  case round =>
    obtain ⟨i, hi, hg, rfl, HBr⟩ := hrel
    by_cases hlt : i < l0.length
    case neg =>
      have hlt' : ¬ (i : Int) < (l0.length : Int) := by omega
      have HBe := Lib.hid (below_trans HB2.out HBr.out)
      go_wp2_with (go_at_call 10; refine (works_any _).mono ?_; rintro e w9 ⟨rfl, hb9⟩; have HB9 := Lib.hid (below_trans HBe.out hb9); clear hb9)
      go_ret
      exact ⟨rfl, HB9.out⟩
    have hx := List.getElem?_eq_getElem hlt
    have HMo := Lib.hid (marks_once l0 i _ hx)
    have HkX := Lib.hid (HK0.out _ (List.mem_of_getElem? hx))
    have HGx := Lib.hid fun W (hW : Below w.heap.size w W) => Cm.LnsAt.get (HL.out W hW) i hlt
    generalize l0[i] = x at *
    clear hx
    obtain ⟨wo, hwo⟩ : ∃ z, z = wr := ⟨_, rfl⟩
    subst hwo
    go_wp2
    go_loopg [5, 6] i (fun gg f k wr => ∃ n : Nat, n ≤ i ∧ gg = i - n ∧ k = .int .i64 n ∧ f = .bool (!inB x (l0.take n)) ∧ Hid (Below w2.heap.size w2 wr))
    case atStart => exact ⟨0, Nat.zero_le _, rfl, rfl, rfl, HBr.out⟩
    case round =>
      obtain ⟨k, hk, hgk, rfl, rfl, HBk⟩ := hrel
      by_cases hltk : k < i
      case neg =>
        obtain rfl : k = i := by omega
        have hlm : k < (marksV [] l0).length := by rw [marks_len]; exact hlt
        obtain ⟨b', o', he, hm, hc⟩ := BlAt.get (HU.out.far HBk.out) k hlm
        injection he with he
        injection he with he1 he2
        subst he1 he2
        rw [HMo.out] at hm
        have hm2 := Option.some.inj hm
        rw [← hm2, Nat.zero_add] at hc
        clear hm hm2 hlm
        generalize inB x (l0.take k) = T at *
        have hkk : ¬ (k : Int) < (k : Int) := by omega
        have hki : (k : Int) < (l0.length : Int) := by omega
        cases T
        all_goals
          go_wp2
          go_roundg (l0.length - (k + 1))
          case rel => exact ⟨k + 1, by omega, rfl, by go_num, HBk.out⟩
          case measure => omega
      have hkl : k < l0.length := by omega
      have hy := List.getElem?_eq_getElem hkl
      have HI := Lib.hid (in_step x _ l0 k hy)
      have HkY := Lib.hid (HK0.out _ (List.mem_of_getElem? hy))
      obtain ⟨wq, hwq⟩ : ∃ z, z = wr := ⟨_, rfl⟩
      subst hwq
      have HBq := Lib.hid (below_trans HB2.out HBk.out)
      obtain ⟨b, o, mx, ha, -, hcx, hrx⟩ := HGx.out wq HBq.out
      obtain ⟨b', o', my, ha', -, hcy, hry⟩ := Cm.LnsAt.get (HL.out wq HBq.out) k hkl
      rw [ha] at ha'
      injection ha' with ha'
      injection ha' with e1 e2
      subst e1 e2
      subst ha
      generalize l0[k] = y at *
      clear hy
      have HV := Lib.hid (Cm.mk_ne (keyV y) (keyV x))
      obtain ⟨V, hV⟩ : ∃ V, Hid (decide (keyV y = keyV x) = V) := ⟨_, rfl⟩
      rw [hV.out] at HV HI
      clear hV
      obtain ⟨T, hT⟩ : ∃ T, Hid (inB x (l0.take k) = T) := ⟨_, rfl⟩
      rw [hT.out] at HI ⊢
      clear hT
      have hb := World.block_lt_of_cell? wq _ hcx.1
      have HXK := Lib.hid fun W' (hW : Below wq.heap.size wq W') => And.intro (Cm.LnCells.of hcy (hW.block b hb)) (Cm.LnCells.of hcx (hW.block b hb))
      have HKy := Lib.hid fun W' (hW : Below wq.heap.size wq W') => key_any y my W' (TxAt.move hry (Below.moves hW)) HkY.out
      have HKx := Lib.hid fun W' (hW : Below wq.heap.size wq W') => key_any x mx W' (TxAt.move hrx (Below.moves hW)) HkX.out
      obtain ⟨ax, cx, rfl, -, -⟩ := Cm.TxAt.form hrx
      obtain ⟨ay, cy, rfl, -, -⟩ := Cm.TxAt.form hry
      have HD := Lib.hid (Below.drew (Below.refl wq.heap.size wq))
      have hki : (k : Int) < (i : Int) := by omega
      have hkl' : (k : Int) < (l0.length : Int) := by omega
      have hil' : (i : Int) < (l0.length : Int) := by omega
      have hEq := HV.out
      clear hcx hcy hrx hry HkY HV HGx
      generalize hKy : keyV y = Ky at *
      generalize hKx : keyV x = Kx at *
      clear hKy hKx
      cases T with
      | true =>
        rw [Bool.true_or] at HI
        clear hEq HKy HKx HXK HD HL hb
        simp only [Bool.not_true]
        go_wp2_with fail
        go_quiet (fail)
        go_wp2
        go_roundg (i - (k + 1))
        case rel => exact ⟨k + 1, by omega, rfl, by go_num, by rw [HI.out]; rfl, below_trans HBk.out (Cm.below_drewq ⟨_, rfl⟩)⟩
        case measure => omega
      | false =>
        rw [Bool.false_or] at HI
        simp only [Bool.not_false]
        go_upto_region 13 with fail
        refine Ri.wp_region_tailG 14 (by kernel_rfl) (by kernel_rfl) (by kernel_rfl) (by decide) (by kernel_rfl) (fun Wx => Below wq.heap.size wq Wx) (fun kz vs wz => (fun kx vx wx => match kx with | 0 => vx = .bool true | 1 => vx = .bool true | 2 => vx = Value.slice (some ⟨b, o, none⟩) l0.length c | 3 => vx = Value.int .i64 (k : Nat) | 4 => vx = Value.pointer (some ⟨b, o + k * 6, none⟩) | 5 => vx = lnv y (.slice ay y.mods.length cy) | 6 => vx = .string (mk Ky) | 7 => vx = Value.slice (some ⟨b, o, none⟩) l0.length c | 8 => vx = Value.int .i64 (i : Nat) | 9 => vx = Value.pointer (some ⟨b, o + i * 6, none⟩) | 10 => vx = lnv x (.slice ax x.mods.length cx) | 11 => vx = .string (mk Kx) | 12 => vx = .bool (!V) | 13 => vx = .bool (!V) | _ => True : Nat → Value → World → Prop) kz (vs kz) wz) (fun lst vs => lst 14 = false → vs 14 = .bool true) (fun kz => [kz]) (by kernel_rfl) (fun jz vs iz vz wz hiz hz => Ri.loc_own (F := (fun kx vx wx => match kx with | 0 => vx = .bool true | 1 => vx = .bool true | 2 => vx = Value.slice (some ⟨b, o, none⟩) l0.length c | 3 => vx = Value.int .i64 (k : Nat) | 4 => vx = Value.pointer (some ⟨b, o + k * 6, none⟩) | 5 => vx = lnv y (.slice ay y.mods.length cy) | 6 => vx = .string (mk Ky) | 7 => vx = Value.slice (some ⟨b, o, none⟩) l0.length c | 8 => vx = Value.int .i64 (i : Nat) | 9 => vx = Value.pointer (some ⟨b, o + i * 6, none⟩) | 10 => vx = lnv x (.slice ax x.mods.length cx) | 11 => vx = .string (mk Kx) | 12 => vx = .bool (!V) | 13 => vx = .bool (!V) | _ => True : Nat → Value → World → Prop)) jz vs iz vz wz hiz hz) HD.out ?_ ⟨Or.inl ⟨rfl, ?_⟩, Or.inl ⟨rfl, ?_⟩, Or.inr ⟨1, true, 30, rfl, rfl, ?_⟩, Or.inr ⟨1, true, 30, rfl, rfl, ?_⟩, Or.inr ⟨1, true, 30, rfl, rfl, ?_⟩, Or.inr ⟨1, true, 30, rfl, rfl, ?_⟩, Or.inr ⟨1, true, 30, rfl, rfl, ?_⟩, Or.inr ⟨1, true, 30, rfl, rfl, ?_⟩, Or.inr ⟨1, true, 30, rfl, rfl, ?_⟩, Or.inr ⟨1, true, 30, rfl, rfl, ?_⟩, Or.inr ⟨1, true, 30, rfl, rfl, ?_⟩, Or.inr ⟨1, true, 30, rfl, rfl, ?_⟩, Or.inr ⟨1, true, 30, rfl, rfl, ?_⟩, Or.inl ⟨rfl, ?_⟩, trivial⟩ ?_
        · intro vs hvs
          intro _
          have h1 := congrArg (fun a => a.tmps[5]?.getD undef) hvs
          exact (show vs 14 = _ by kernel_rfl).trans (h1.trans (show _ = Value.bool true by kernel_rfl))
        · intro vs Wx A lst hA hB hls hX hno hpre K hK
          have e5 := ((hA 5).trans (show _ = vs 14 by kernel_rfl)).trans (hX (hno 14 (by decide)))
          clear hA hpre
          go_simp
          first | exact hK _ _ hB rfl (fun _ _ h => h) hX | exact hK _ _ hB trivial (fun _ _ h => h) hX | (rw [if_neg (by omega)]; go_simp; exact hK _ _ hB rfl (fun _ _ h => h) hX)
        · intro vs Wx A lst hA hB hls hX hno hpre K hK
          have e29 := ((hA 29).trans (show _ = vs 0 by kernel_rfl)).trans (by first | exact hpre.1 rfl | exact hpre.2.1 rfl | exact hpre.2.2.1 rfl | exact hpre.2.2.2.1 rfl | exact hpre.2.2.2.2.1 rfl | exact hpre.2.2.2.2.2.1 rfl | exact hpre.2.2.2.2.2.2.1 rfl | exact hpre.2.2.2.2.2.2.2.1 rfl | exact hpre.2.2.2.2.2.2.2.2.1 rfl | exact hpre.2.2.2.2.2.2.2.2.2.1 rfl)
          clear hA hpre
          go_simp
          first | exact hK _ _ hB rfl (fun _ _ h => h) hX | exact hK _ _ hB trivial (fun _ _ h => h) hX | (rw [if_neg (by omega)]; go_simp; exact hK _ _ hB rfl (fun _ _ h => h) hX)
        · intro vs Wx A lst hA hB hls hX hno hpre
          have eg := ((hA 30).trans (show _ = vs 1 by kernel_rfl)).trans (by first | exact hpre.1 rfl | exact hpre.2.1 rfl | exact hpre.2.2.1 rfl | exact hpre.2.2.2.1 rfl | exact hpre.2.2.2.2.1 rfl | exact hpre.2.2.2.2.2.1 rfl | exact hpre.2.2.2.2.2.2.1 rfl | exact hpre.2.2.2.2.2.2.2.1 rfl | exact hpre.2.2.2.2.2.2.2.2.1 rfl | exact hpre.2.2.2.2.2.2.2.2.2.1 rfl)
          refine ⟨true, eg, fun _ K hK => ?_, fun h => absurd rfl h⟩
          have e0 := (hA 0).trans (show _ = Value.slice (some ⟨b, o, none⟩) l0.length c by kernel_rfl)
          clear hA hpre
          go_simp
          first | exact hK _ _ hB rfl (fun _ _ h => h) hX | exact hK _ _ hB trivial (fun _ _ h => h) hX | (rw [if_neg (by omega)]; go_simp; exact hK _ _ hB rfl (fun _ _ h => h) hX)
        · intro vs Wx A lst hA hB hls hX hno hpre
          have eg := ((hA 30).trans (show _ = vs 1 by kernel_rfl)).trans (by first | exact hpre.1 rfl | exact hpre.2.1 rfl | exact hpre.2.2.1 rfl | exact hpre.2.2.2.1 rfl | exact hpre.2.2.2.2.1 rfl | exact hpre.2.2.2.2.2.1 rfl | exact hpre.2.2.2.2.2.2.1 rfl | exact hpre.2.2.2.2.2.2.2.1 rfl | exact hpre.2.2.2.2.2.2.2.2.1 rfl | exact hpre.2.2.2.2.2.2.2.2.2.1 rfl)
          refine ⟨true, eg, fun _ K hK => ?_, fun h => absurd rfl h⟩
          have e6 := (hA 6).trans (show _ = Value.int .i64 (k : Nat) by kernel_rfl)
          clear hA hpre
          go_simp
          first | exact hK _ _ hB rfl (fun _ _ h => h) hX | exact hK _ _ hB trivial (fun _ _ h => h) hX | (rw [if_neg (by omega)]; go_simp; exact hK _ _ hB rfl (fun _ _ h => h) hX)
        · intro vs Wx A lst hA hB hls hX hno hpre
          have eg := ((hA 30).trans (show _ = vs 1 by kernel_rfl)).trans (by first | exact hpre.1 rfl | exact hpre.2.1 rfl | exact hpre.2.2.1 rfl | exact hpre.2.2.2.1 rfl | exact hpre.2.2.2.2.1 rfl | exact hpre.2.2.2.2.2.1 rfl | exact hpre.2.2.2.2.2.2.1 rfl | exact hpre.2.2.2.2.2.2.2.1 rfl | exact hpre.2.2.2.2.2.2.2.2.1 rfl | exact hpre.2.2.2.2.2.2.2.2.2.1 rfl)
          refine ⟨true, eg, fun _ K hK => ?_, fun h => absurd rfl h⟩
          have e31 := ((hA 31).trans (show _ = vs 2 by kernel_rfl)).trans (by first | exact hpre.1 rfl | exact hpre.2.1 rfl | exact hpre.2.2.1 rfl | exact hpre.2.2.2.1 rfl | exact hpre.2.2.2.2.1 rfl | exact hpre.2.2.2.2.2.1 rfl | exact hpre.2.2.2.2.2.2.1 rfl | exact hpre.2.2.2.2.2.2.2.1 rfl | exact hpre.2.2.2.2.2.2.2.2.1 rfl | exact hpre.2.2.2.2.2.2.2.2.2.1 rfl)
          have e32 := ((hA 32).trans (show _ = vs 3 by kernel_rfl)).trans (by first | exact hpre.1 rfl | exact hpre.2.1 rfl | exact hpre.2.2.1 rfl | exact hpre.2.2.2.1 rfl | exact hpre.2.2.2.2.1 rfl | exact hpre.2.2.2.2.2.1 rfl | exact hpre.2.2.2.2.2.2.1 rfl | exact hpre.2.2.2.2.2.2.2.1 rfl | exact hpre.2.2.2.2.2.2.2.2.1 rfl | exact hpre.2.2.2.2.2.2.2.2.2.1 rfl)
          clear hA hpre
          go_simp
          first | exact hK _ _ hB rfl (fun _ _ h => h) hX | exact hK _ _ hB trivial (fun _ _ h => h) hX | (rw [if_neg (by omega)]; go_simp; exact hK _ _ hB rfl (fun _ _ h => h) hX)
        · intro vs Wx A lst hA hB hls hX hno hpre
          have eg := ((hA 30).trans (show _ = vs 1 by kernel_rfl)).trans (by first | exact hpre.1 rfl | exact hpre.2.1 rfl | exact hpre.2.2.1 rfl | exact hpre.2.2.2.1 rfl | exact hpre.2.2.2.2.1 rfl | exact hpre.2.2.2.2.2.1 rfl | exact hpre.2.2.2.2.2.2.1 rfl | exact hpre.2.2.2.2.2.2.2.1 rfl | exact hpre.2.2.2.2.2.2.2.2.1 rfl | exact hpre.2.2.2.2.2.2.2.2.2.1 rfl)
          refine ⟨true, eg, fun _ K hK => ?_, fun h => absurd rfl h⟩
          have e33 := ((hA 33).trans (show _ = vs 4 by kernel_rfl)).trans (by first | exact hpre.1 rfl | exact hpre.2.1 rfl | exact hpre.2.2.1 rfl | exact hpre.2.2.2.1 rfl | exact hpre.2.2.2.2.1 rfl | exact hpre.2.2.2.2.2.1 rfl | exact hpre.2.2.2.2.2.2.1 rfl | exact hpre.2.2.2.2.2.2.2.1 rfl | exact hpre.2.2.2.2.2.2.2.2.1 rfl | exact hpre.2.2.2.2.2.2.2.2.2.1 rfl)
          obtain ⟨⟨c0, c1, c2, c3, c4, c5⟩, ⟨d0, d1, d2, d3, d4, d5⟩⟩ := HXK.out Wx hB
          clear hA hpre
          go_simp
          first | exact hK _ _ hB rfl (fun _ _ h => h) hX | exact hK _ _ hB trivial (fun _ _ h => h) hX | (rw [if_neg (by omega)]; go_simp; exact hK _ _ hB rfl (fun _ _ h => h) hX)
        · intro vs Wx A lst hA hB hls hX hno hpre
          have eg := ((hA 30).trans (show _ = vs 1 by kernel_rfl)).trans (by first | exact hpre.1 rfl | exact hpre.2.1 rfl | exact hpre.2.2.1 rfl | exact hpre.2.2.2.1 rfl | exact hpre.2.2.2.2.1 rfl | exact hpre.2.2.2.2.2.1 rfl | exact hpre.2.2.2.2.2.2.1 rfl | exact hpre.2.2.2.2.2.2.2.1 rfl | exact hpre.2.2.2.2.2.2.2.2.1 rfl | exact hpre.2.2.2.2.2.2.2.2.2.1 rfl)
          refine ⟨true, eg, fun _ K hK => ?_, fun h => absurd rfl h⟩
          have e34 := ((hA 34).trans (show _ = vs 5 by kernel_rfl)).trans (by first | exact hpre.1 rfl | exact hpre.2.1 rfl | exact hpre.2.2.1 rfl | exact hpre.2.2.2.1 rfl | exact hpre.2.2.2.2.1 rfl | exact hpre.2.2.2.2.2.1 rfl | exact hpre.2.2.2.2.2.2.1 rfl | exact hpre.2.2.2.2.2.2.2.1 rfl | exact hpre.2.2.2.2.2.2.2.2.1 rfl | exact hpre.2.2.2.2.2.2.2.2.2.1 rfl)
          clear hA hpre
          go_simp
          go_at_call 11
          refine (HKy.out _ hB).mono ?_
          rintro e w3 ⟨rfl, hb3⟩
          exact hK _ _ (below_trans hB hb3) rfl (fun _ _ h => h) hX
        · intro vs Wx A lst hA hB hls hX hno hpre
          have eg := ((hA 30).trans (show _ = vs 1 by kernel_rfl)).trans (by first | exact hpre.1 rfl | exact hpre.2.1 rfl | exact hpre.2.2.1 rfl | exact hpre.2.2.2.1 rfl | exact hpre.2.2.2.2.1 rfl | exact hpre.2.2.2.2.2.1 rfl | exact hpre.2.2.2.2.2.2.1 rfl | exact hpre.2.2.2.2.2.2.2.1 rfl | exact hpre.2.2.2.2.2.2.2.2.1 rfl | exact hpre.2.2.2.2.2.2.2.2.2.1 rfl)
          refine ⟨true, eg, fun _ K hK => ?_, fun h => absurd rfl h⟩
          have e0 := (hA 0).trans (show _ = Value.slice (some ⟨b, o, none⟩) l0.length c by kernel_rfl)
          clear hA hpre
          go_simp
          first | exact hK _ _ hB rfl (fun _ _ h => h) hX | exact hK _ _ hB trivial (fun _ _ h => h) hX | (rw [if_neg (by omega)]; go_simp; exact hK _ _ hB rfl (fun _ _ h => h) hX)
        · intro vs Wx A lst hA hB hls hX hno hpre
          have eg := ((hA 30).trans (show _ = vs 1 by kernel_rfl)).trans (by first | exact hpre.1 rfl | exact hpre.2.1 rfl | exact hpre.2.2.1 rfl | exact hpre.2.2.2.1 rfl | exact hpre.2.2.2.2.1 rfl | exact hpre.2.2.2.2.2.1 rfl | exact hpre.2.2.2.2.2.2.1 rfl | exact hpre.2.2.2.2.2.2.2.1 rfl | exact hpre.2.2.2.2.2.2.2.2.1 rfl | exact hpre.2.2.2.2.2.2.2.2.2.1 rfl)
          refine ⟨true, eg, fun _ K hK => ?_, fun h => absurd rfl h⟩
          have e4 := (hA 4).trans (show _ = Value.int .i64 (i : Nat) by kernel_rfl)
          clear hA hpre
          go_simp
          first | exact hK _ _ hB rfl (fun _ _ h => h) hX | exact hK _ _ hB trivial (fun _ _ h => h) hX | (rw [if_neg (by omega)]; go_simp; exact hK _ _ hB rfl (fun _ _ h => h) hX)
        · intro vs Wx A lst hA hB hls hX hno hpre
          have eg := ((hA 30).trans (show _ = vs 1 by kernel_rfl)).trans (by first | exact hpre.1 rfl | exact hpre.2.1 rfl | exact hpre.2.2.1 rfl | exact hpre.2.2.2.1 rfl | exact hpre.2.2.2.2.1 rfl | exact hpre.2.2.2.2.2.1 rfl | exact hpre.2.2.2.2.2.2.1 rfl | exact hpre.2.2.2.2.2.2.2.1 rfl | exact hpre.2.2.2.2.2.2.2.2.1 rfl | exact hpre.2.2.2.2.2.2.2.2.2.1 rfl)
          refine ⟨true, eg, fun _ K hK => ?_, fun h => absurd rfl h⟩
          have e36 := ((hA 36).trans (show _ = vs 7 by kernel_rfl)).trans (by first | exact hpre.1 rfl | exact hpre.2.1 rfl | exact hpre.2.2.1 rfl | exact hpre.2.2.2.1 rfl | exact hpre.2.2.2.2.1 rfl | exact hpre.2.2.2.2.2.1 rfl | exact hpre.2.2.2.2.2.2.1 rfl | exact hpre.2.2.2.2.2.2.2.1 rfl | exact hpre.2.2.2.2.2.2.2.2.1 rfl | exact hpre.2.2.2.2.2.2.2.2.2.1 rfl)
          have e37 := ((hA 37).trans (show _ = vs 8 by kernel_rfl)).trans (by first | exact hpre.1 rfl | exact hpre.2.1 rfl | exact hpre.2.2.1 rfl | exact hpre.2.2.2.1 rfl | exact hpre.2.2.2.2.1 rfl | exact hpre.2.2.2.2.2.1 rfl | exact hpre.2.2.2.2.2.2.1 rfl | exact hpre.2.2.2.2.2.2.2.1 rfl | exact hpre.2.2.2.2.2.2.2.2.1 rfl | exact hpre.2.2.2.2.2.2.2.2.2.1 rfl)
          clear hA hpre
          go_simp
          first | exact hK _ _ hB rfl (fun _ _ h => h) hX | exact hK _ _ hB trivial (fun _ _ h => h) hX | (rw [if_neg (by omega)]; go_simp; exact hK _ _ hB rfl (fun _ _ h => h) hX)
        · intro vs Wx A lst hA hB hls hX hno hpre
          have eg := ((hA 30).trans (show _ = vs 1 by kernel_rfl)).trans (by first | exact hpre.1 rfl | exact hpre.2.1 rfl | exact hpre.2.2.1 rfl | exact hpre.2.2.2.1 rfl | exact hpre.2.2.2.2.1 rfl | exact hpre.2.2.2.2.2.1 rfl | exact hpre.2.2.2.2.2.2.1 rfl | exact hpre.2.2.2.2.2.2.2.1 rfl | exact hpre.2.2.2.2.2.2.2.2.1 rfl | exact hpre.2.2.2.2.2.2.2.2.2.1 rfl)
          refine ⟨true, eg, fun _ K hK => ?_, fun h => absurd rfl h⟩
          have e38 := ((hA 38).trans (show _ = vs 9 by kernel_rfl)).trans (by first | exact hpre.1 rfl | exact hpre.2.1 rfl | exact hpre.2.2.1 rfl | exact hpre.2.2.2.1 rfl | exact hpre.2.2.2.2.1 rfl | exact hpre.2.2.2.2.2.1 rfl | exact hpre.2.2.2.2.2.2.1 rfl | exact hpre.2.2.2.2.2.2.2.1 rfl | exact hpre.2.2.2.2.2.2.2.2.1 rfl | exact hpre.2.2.2.2.2.2.2.2.2.1 rfl)
          obtain ⟨⟨c0, c1, c2, c3, c4, c5⟩, ⟨d0, d1, d2, d3, d4, d5⟩⟩ := HXK.out Wx hB
          clear hA hpre
          go_simp
          first | exact hK _ _ hB rfl (fun _ _ h => h) hX | exact hK _ _ hB trivial (fun _ _ h => h) hX | (rw [if_neg (by omega)]; go_simp; exact hK _ _ hB rfl (fun _ _ h => h) hX)
        · intro vs Wx A lst hA hB hls hX hno hpre
          have eg := ((hA 30).trans (show _ = vs 1 by kernel_rfl)).trans (by first | exact hpre.1 rfl | exact hpre.2.1 rfl | exact hpre.2.2.1 rfl | exact hpre.2.2.2.1 rfl | exact hpre.2.2.2.2.1 rfl | exact hpre.2.2.2.2.2.1 rfl | exact hpre.2.2.2.2.2.2.1 rfl | exact hpre.2.2.2.2.2.2.2.1 rfl | exact hpre.2.2.2.2.2.2.2.2.1 rfl | exact hpre.2.2.2.2.2.2.2.2.2.1 rfl)
          refine ⟨true, eg, fun _ K hK => ?_, fun h => absurd rfl h⟩
          have e39 := ((hA 39).trans (show _ = vs 10 by kernel_rfl)).trans (by first | exact hpre.1 rfl | exact hpre.2.1 rfl | exact hpre.2.2.1 rfl | exact hpre.2.2.2.1 rfl | exact hpre.2.2.2.2.1 rfl | exact hpre.2.2.2.2.2.1 rfl | exact hpre.2.2.2.2.2.2.1 rfl | exact hpre.2.2.2.2.2.2.2.1 rfl | exact hpre.2.2.2.2.2.2.2.2.1 rfl | exact hpre.2.2.2.2.2.2.2.2.2.1 rfl)
          clear hA hpre
          go_simp
          go_at_call 11
          refine (HKx.out _ hB).mono ?_
          rintro e w3 ⟨rfl, hb3⟩
          exact hK _ _ (below_trans hB hb3) rfl (fun _ _ h => h) hX
        · intro vs Wx A lst hA hB hls hX hno hpre
          have eg := ((hA 30).trans (show _ = vs 1 by kernel_rfl)).trans (by first | exact hpre.1 rfl | exact hpre.2.1 rfl | exact hpre.2.2.1 rfl | exact hpre.2.2.2.1 rfl | exact hpre.2.2.2.2.1 rfl | exact hpre.2.2.2.2.2.1 rfl | exact hpre.2.2.2.2.2.2.1 rfl | exact hpre.2.2.2.2.2.2.2.1 rfl | exact hpre.2.2.2.2.2.2.2.2.1 rfl | exact hpre.2.2.2.2.2.2.2.2.2.1 rfl)
          refine ⟨true, eg, fun _ K hK => ?_, fun h => absurd rfl h⟩
          have e35 := ((hA 35).trans (show _ = vs 6 by kernel_rfl)).trans (by first | exact hpre.1 rfl | exact hpre.2.1 rfl | exact hpre.2.2.1 rfl | exact hpre.2.2.2.1 rfl | exact hpre.2.2.2.2.1 rfl | exact hpre.2.2.2.2.2.1 rfl | exact hpre.2.2.2.2.2.2.1 rfl | exact hpre.2.2.2.2.2.2.2.1 rfl | exact hpre.2.2.2.2.2.2.2.2.1 rfl | exact hpre.2.2.2.2.2.2.2.2.2.1 rfl)
          have e40 := ((hA 40).trans (show _ = vs 11 by kernel_rfl)).trans (by first | exact hpre.1 rfl | exact hpre.2.1 rfl | exact hpre.2.2.1 rfl | exact hpre.2.2.2.1 rfl | exact hpre.2.2.2.2.1 rfl | exact hpre.2.2.2.2.2.1 rfl | exact hpre.2.2.2.2.2.2.1 rfl | exact hpre.2.2.2.2.2.2.2.1 rfl | exact hpre.2.2.2.2.2.2.2.2.1 rfl | exact hpre.2.2.2.2.2.2.2.2.2.1 rfl)
          clear hA hpre
          go_simp
          first | exact hK _ _ hB rfl (fun _ _ h => h) hX | exact hK _ _ hB trivial (fun _ _ h => h) hX | (rw [if_neg (by omega)]; go_simp; exact hK _ _ hB rfl (fun _ _ h => h) hX)
        · intro vs Wx A lst hA hB hls hX hno hpre K hK
          have e30 := ((hA 30).trans (show _ = vs 1 by kernel_rfl)).trans (by first | exact hpre.1 rfl | exact hpre.2.1 rfl | exact hpre.2.2.1 rfl | exact hpre.2.2.2.1 rfl | exact hpre.2.2.2.2.1 rfl | exact hpre.2.2.2.2.2.1 rfl | exact hpre.2.2.2.2.2.2.1 rfl | exact hpre.2.2.2.2.2.2.2.1 rfl | exact hpre.2.2.2.2.2.2.2.2.1 rfl | exact hpre.2.2.2.2.2.2.2.2.2.1 rfl)
          have e41 := ((hA 41).trans (show _ = vs 12 by kernel_rfl)).trans (by first | exact hpre.1 rfl | exact hpre.2.1 rfl | exact hpre.2.2.1 rfl | exact hpre.2.2.2.1 rfl | exact hpre.2.2.2.2.1 rfl | exact hpre.2.2.2.2.2.1 rfl | exact hpre.2.2.2.2.2.2.1 rfl | exact hpre.2.2.2.2.2.2.2.1 rfl | exact hpre.2.2.2.2.2.2.2.2.1 rfl | exact hpre.2.2.2.2.2.2.2.2.2.1 rfl)
          clear hA hpre
          go_simp
          first | exact hK _ _ hB rfl (fun _ _ h => h) hX | exact hK _ _ hB trivial (fun _ _ h => h) hX | (rw [if_neg (by omega)]; go_simp; exact hK _ _ hB rfl (fun _ _ h => h) hX)
        · intro vs Wx lst hall hX hB hF
          refine fun A14 hA K14 hK14 => ?_
          have e42 := ((hA 42).trans (show _ = vs 13 by kernel_rfl)).trans (hF 13 (by decide))
          clear hA
          clear hF
          go_simp
          refine hK14 _ _ ?_
          have HBW := Lib.hid (below_trans HBk.out hB)
          clear hB hX hall
          simp only [Ri.Tail, Ri.puts]
          go_simp
          go_wp2
          go_roundg (i - (k + 1))
          case rel => exact ⟨k + 1, by omega, rfl, by go_num, by rw [HI.out]; rfl, HBW.out⟩
          case measure => omega

/-! ### the row's step -/
theorem laidOut : laidOutB Try.prog = true := by kernel_rfl
theorem lifted (os : Os) (started : os.Started) (H : Type) (enc : TypeId × Value → H) :
    ReturnsInHanded {} Try.checked os 7 .any (Rows.twiceOnceSpec.pre6 enc Try.prog Try.f7 Rows.twiceOnceRow.domain false) (Rows.twiceOnceSpec.post enc Try.prog Try.f7 false true false false) := by
  refine returnsInHanded_of_change_shaped (C := Try.checked) own started (by kernel_rfl) Try.func7
    (ChangeSpec.witness6 (enc := enc) (C := Try.checked) false ⟨#[], #[.slice none 0 0], []⟩ 8 (by kernel_rfl) (by kernel_rfl) (by kernel_rfl) (by kernel_rfl)) ?_
  intro W base args ds gs before hval0 hW hcnd hwt _ _
  have hval : ∀ (j : Nat) t v, Try.f7.params[j]? = some t → args[j]? = some v → Value.okWide Try.prog W .any base t v := hval0
  have hW' := hW
  obtain ⟨p, q, hA0, hV, rfl, hfz, hnd⟩ := hW
  have hA : DataW.TrodAll enc Try.prog W 0 (fun _ => true) true Try.f7.params.toList args.toList ds p := hA0
  rw [Try.params7] at hA hval hwt
  obtain ⟨v0, vs0, d0, ds0, p0, q0, hargs, rfl, rfl, h0, r0⟩ := trodAll_cons hA
  obtain ⟨rfl, rfl, rfl⟩ := trodAll_nil r0
  obtain rfl : args = #[v0] := by cases args; simp_all
  obtain ⟨rfl, rfl⟩ := trodVars_none hV
  have hwl : ∀ z, (z ∈ d0.weights Try.prog 26 → z ≤ reachBytes) := fun z => by
    have h := List.all_eq_true.1 hwt z
    simp only [decide_eq_true_eq] at h
    refine fun hz => h ?_
    all_goals
      simp only [List.cons_append, List.nil_append, List.toList_toArray, List.append_nil, DataW.weightsEach, List.mem_append]
      first | exact Or.inl hz | exact Or.inr (Or.inl hz) | exact Or.inr (Or.inr (Or.inl hz)) | exact Or.inr (Or.inr (Or.inr (Or.inl hz))) | simp [hz]
  have k0 := h0
  have lt0 : ∀ x ∈ p0, x.block < W.heap.size := by obtain ⟨m, hm⟩ := k0; exact DataW.trod_lt m _ _ _ hm
  obtain ⟨l0, g0, n0, z0⟩ := open_lns (okWide_slice Try.underlying26 (hval 0 26 v0 rfl rfl)) h0 (fun z hz => hwl z hz)
  clear hA0 hval0
  refine (walk W v0 l0 g0 n0 z0).mono fun e W' ⟨he, bel⟩ => ?_
  subst he
  exact ⟨_, rfl, _, _, _, [], _, [], hW', (trodAll_cons_mk (shut_bool Try.underlying4 _) trodAll_mk0), (trodAll_cons_mk (Below.trod laidOut (by kernel_rfl) (of_decide_eq_true (by kernel_rfl)) k0 bel lt0) trodAll_mk0), rfl, bel.frame _, fun h => by cases h⟩

theorem over : Rows.twiceOnceRow.holds Try.pinned (OpenSpec.ofChange Rows.twiceOnceSpec) :=
  OpenClaim.holds_of_wide 7 Try.f7 rfl rfl rfl rfl rfl rfl rfl ⟨rfl, rfl, rfl, rfl, rfl⟩ rfl rfl rfl rfl rfl (by kernel_rfl) Try.func7 (by kernel_rfl)
    (of_decide_eq_true (by kernel_rfl)) (by unfold Func.isWrapper; first | (rw [if_pos (by decide +kernel)]; kernel_rfl) | (rw [if_neg (by decide +kernel)]; exact ⟨rfl, rfl⟩))
    (fun os started H enc _ => lifted os started H enc)

/-- The statement. -/
theorem proved : Rows.TwiceOnceSaid := over
end Go.Proofs.Ytmgjnjbiljpneaa.twiceOnce
namespace Go.Proofs.Ytmgjnjbiljpneaa
theorem twiceOnce_holds : Rows.TwiceOnceSaid := twiceOnce.proved
#print axioms twiceOnce_holds
end Go.Proofs.Ytmgjnjbiljpneaa
