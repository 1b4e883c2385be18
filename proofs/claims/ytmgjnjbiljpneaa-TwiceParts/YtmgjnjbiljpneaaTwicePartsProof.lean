/-
  TwiceParts holds for all services: what stands ahead may as well be part of the list.
-/
import Derived.Test.YtmgjnjbiljpneaaRows
import Derived.WalkKit
import Derived.ProofKit
import Derived.OpenShut
import Derived.ShutString
import Derived.Below
import Derived.Carry
import Derived.Laws.Cover2
import Derived.HandedShaped
import Derived.Test.YtmgjnjbiljpneaaIWorks
import Derived.Test.YtmgjnjbiljpneaaIRMarks
import Derived.Test.YtmgjnjbiljpneaaIRow
import Derived.Test.YtmgjnjbiljpneaaRInv
import Derived.Test.YtmgjnjbiljpneaaIOpen
namespace Go.Proofs.Ytmgjnjbiljpneaa.twiceParts
open Go.ChangeShapes Go.WideShapes Go.ChangeAt Go.RowKit
open Io
open Cm (Ln LnsAt lnv LnOk below_alloc below_trans)
open Tw
set_option linter.unusedVariables false
set_option linter.unusedSimpArgs false
set_option maxRecDepth 100000

theorem own : ownKnob Try.prog.godebug = none := by kernel_rfl

/-! ### the walk: the law returns true -/
set_option maxHeartbeats 16000000 in
theorem walk (w : World) (v0 : Value) (l0 : List Ln) (h0 : LnsAt All w v0 l0) (n0 : l0.length ≤ 281474976710656) (z0 : ∀ f ∈ l0, LnOk f) (v1 : Value) (l1 : List Ln) (h1 : LnsAt All w v1 l1) (n1 : l1.length ≤ 281474976710656) (z1 : ∀ f ∈ l1, LnOk f) :
    Calls Try.prog 6 #[v0, v1] w fun e w' => e = .returned (.bool true) ∧ Below w.heap.size w w' := by
  have HLt0 := Lib.hid fun W (hW : Below w.heap.size w W) => light_any v0 l0 W (LnsAt.move h0 (Below.moves hW)) z0 n0
  have HLt1 := Lib.hid fun W (hW : Below w.heap.size w W) => light_any v1 l1 W (LnsAt.move h1 (Below.moves hW)) z1 n1
  have HB0 := Lib.hid (Below.refl w.heap.size w)
  have HM0 := Lib.hid fun W (hW : Below w.heap.size w W) q q' p p' => marks_ex v0 v1 l0 l1 W (LnsAt.move h0 (Below.moves hW)) (LnsAt.move h1 (Below.moves hW)) q q' p p'
  obtain ⟨a, c, rfl, f1, f2⟩ := Cm.LnsAt.form h0
  obtain ⟨aa, ca, rfl, g1, g2⟩ := Cm.LnsAt.form h1
  obtain ⟨L1, hL1, hcs1, hms1⟩ := lns_rows h1
  obtain ⟨L0, hL0, hcs0, hms0⟩ := lns_rows h0
  have HCs1 := Lib.hid hcs1
  have HMs1 := Lib.hid hms1
  have HL1 := Lib.hid hL1
  have HCs0 := Lib.hid hcs0
  have HMs0 := Lib.hid hms0
  have HL0 := Lib.hid hL0
  have hlen1 : L1.length = l1.length := by rw [← hL1, List.length_map]
  have hlen0 : L0.length = l0.length := by rw [← hL0, List.length_map]
  clear h0 h1 z0 z1 hcs1 hms1 hL1 hcs0 hms0 hL0
  go_enter Try.func6, Try.ntmps6
  go_wp2_with fail
  go_at_call 9
  refine (HLt0.out w HB0.out).mono ?_
  rintro e w1 ⟨⟨bl, rfl, hbl⟩, hb1⟩
  have HB1 := Lib.hid (below_trans HB0.out hb1)
  clear hb1
  cases bl with
  | false =>
    clear hbl
    go_wp2_with (go_at_call 10; refine (works_any _).mono ?_; rintro e w9 ⟨rfl, hb9⟩; have HB9 := Lib.hid (below_trans HB1.out hb9); clear hb9)
    go_ret
    exact ⟨rfl, HB9.out⟩
  | true =>
  obtain ⟨k0, k1⟩ := hbl rfl
  have HK0 := Lib.hid k1
  clear hbl k1
  go_wp2_with fail
  go_at_call 9
  refine (HLt1.out w1 HB1.out).mono ?_
  rintro e w2 ⟨⟨bl, rfl, hbl⟩, hb2⟩
  have HB2 := Lib.hid (below_trans HB1.out hb2)
  clear hb2
  cases bl with
  | false =>
    clear hbl
    go_wp2_with (go_at_call 10; refine (works_any _).mono ?_; rintro e w9 ⟨rfl, hb9⟩; have HB9 := Lib.hid (below_trans HB2.out hb9); clear hb9)
    go_ret
    exact ⟨rfl, HB9.out⟩
  | true =>
  obtain ⟨k2, k3⟩ := hbl rfl
  have HK1 := Lib.hid k3
  clear hbl k3
  have HBw := Lib.hid (Below.refl w2.heap.size w2)
  have HC1 := Lib.hid (CsAt.far HCs1.out HB2.out)
  have HC0 := Lib.hid fun W (hW : Below w2.heap.size w2 W) => CsAt.far HCs0.out (below_trans HB2.out hW)
  have HS1 := Lib.hid (MsAt.far HMs1.out HB2.out)
  have HS0 := Lib.hid fun W (hW : Below w2.heap.size w2 W) => MsAt.far HMs0.out (below_trans HB2.out hW)
  go_upto_region 4 with fail
  go_wp2_with (first
    | (at_builtin; refine app_ln rfl _ _ rfl w2.heap.size _ L1 rfl ho3 a l0.length c L0 rfl hlen0.symm (HC0.out _ hb3) (HS0.out _ hb3) (by omega) hb3.size ?_; intro v4 w4 ho4 hb4)
    | (at_builtin; refine app_ln rfl _ _ rfl w2.heap.size _ [] rfl (OwnL.nil _ _) aa l1.length ca L1 rfl hlen1.symm HC1.out HS1.out (by simp; omega) (Nat.le_refl _) ?_; intro v3 w3 ho3 hb3; rw [List.nil_append] at ho3))
  have HB4 := Lib.hid (below_trans HB2.out (hb3.trans hb4))
  have HA4 := Lib.hid (own_lns ho4 (MsAt.app (HMs1.out.far HB4.out) (HMs0.out.far HB4.out)))
  rw [List.map_append, HL1.out, HL0.out] at HA4
  obtain ⟨N, hN⟩ : ∃ N, N = l1.length + l0.length := ⟨_, rfl⟩
  have hlN : (l1 ++ l0).length = N := by rw [List.length_append, hN]
  obtain ⟨ab, cb, hv4, -, -⟩ := Cm.LnsAt.form HA4.out
  rw [hlN] at hv4
  subst hv4
  have HMa := Lib.hid (marks_ex _ (.slice none 0 0) (l1 ++ l0) [] w4 HA4.out (lns_nil _) (fun x hx => (List.mem_append.1 hx).elim (HK1.out x) (HK0.out x)) (by simp) (by omega) (by simp))
  rw [hlN] at HMa
  have HN := Lib.hid hN
  have hNk : l1.length ≤ N := by omega
  have hNb : N ≤ 10000 := by omega
  clear ho3 hb3 ho4 hb4 hN hlN hlen0 hlen1
  go_at_call 14
  refine HMa.out.mono ?_
  rintro e w5 ⟨g5, rfl, hu5, hb5⟩
  have HB5 := Lib.hid (below_trans HB4.out hb5)
  have HM6 := Lib.hid fun W (hW : Below w5.heap.size w5 W) => HM0.out W (below_trans HB5.out hW) HK0.out HK1.out (by omega) (by omega)
  have HD := Lib.hid (Below.drew (Below.refl w5.heap.size w5))
  have HP := Lib.hid (marks_parts l1 l0)
  have hkN : (l1.length : Int) ≤ (N : Int) := by omega
  by_cases hc : N = l1.length
  · have HV : Hid (BlAt w5 (.slice (some ⟨g5, 0, none⟩) 0 0) (marksV l1 l0)) := by
      show BlAt _ _ _
      rw [show marksV l1 l0 = [] from List.length_eq_zero_iff.1 (by have := HN.out; rw [marks_len]; omega)]
      exact bl_nil _ _
    clear hu5 hb5 HMa HN
    subst hc
    clear hNk hkN
    go_upto_region 7 with fail
    refine Ri.wp_region_lasting_g (by kernel_rfl) (by kernel_rfl) (by kernel_rfl) (fun Wx => Below w5.heap.size w5 Wx) (fun kz vs wz => (fun kx vx wx => match kx with | 0 => vx = .slice (some ⟨g5, 0, none⟩) l1.length l1.length | 1 => vx = .int .i64 (l1.length : Nat) | 2 => vx = .slice ab l1.length cb | 3 => vx = .int .i64 (l1.length : Nat) | 4 => vx = .bool true | 5 => vx = .bool true | 6 => vx = .slice (some ⟨g5, 0, none⟩) l1.length l1.length | 7 => vx = .slice aa l1.length ca | 8 => vx = .int .i64 (l1.length : Nat) | 9 => vx = .slice (some ⟨g5, 0, none⟩) 0 0 | 10 => vx = .slice a l0.length c | 11 => vx = .slice aa l1.length ca | 12 => ∃ gx : Nat, vx = .slice (some ⟨gx, 0, none⟩) l0.length l0.length ∧ BlAt wx (.slice (some ⟨gx, 0, none⟩) l0.length l0.length) (marksV l1 l0) | 13 => vx = .bool true | 14 => vx = .bool true | 15 => vx = .bool true | 16 => vx = .bool true | 17 => vx = .bool true | 18 => vx = .bool true | _ => True : Nat → Value → World → Prop) kz (vs kz) wz) (fun kz => [kz]) (by kernel_rfl) (fun jz vs iz vz wz hiz hz => Ri.loc_own (F := (fun kx vx wx => match kx with | 0 => vx = .slice (some ⟨g5, 0, none⟩) l1.length l1.length | 1 => vx = .int .i64 (l1.length : Nat) | 2 => vx = .slice ab l1.length cb | 3 => vx = .int .i64 (l1.length : Nat) | 4 => vx = .bool true | 5 => vx = .bool true | 6 => vx = .slice (some ⟨g5, 0, none⟩) l1.length l1.length | 7 => vx = .slice aa l1.length ca | 8 => vx = .int .i64 (l1.length : Nat) | 9 => vx = .slice (some ⟨g5, 0, none⟩) 0 0 | 10 => vx = .slice a l0.length c | 11 => vx = .slice aa l1.length ca | 12 => ∃ gx : Nat, vx = .slice (some ⟨gx, 0, none⟩) l0.length l0.length ∧ BlAt wx (.slice (some ⟨gx, 0, none⟩) l0.length l0.length) (marksV l1 l0) | 13 => vx = .bool true | 14 => vx = .bool true | 15 => vx = .bool true | 16 => vx = .bool true | 17 => vx = .bool true | 18 => vx = .bool true | _ => True : Nat → Value → World → Prop)) jz vs iz vz wz hiz hz) HD.out ⟨Or.inl ⟨rfl, ?_⟩, Or.inl ⟨rfl, ?_⟩, Or.inl ⟨rfl, ?_⟩, Or.inl ⟨rfl, ?_⟩, Or.inl ⟨rfl, ?_⟩, Or.inl ⟨rfl, ?_⟩, Or.inr ⟨5, true, 29, rfl, rfl, ?_⟩, Or.inr ⟨5, true, 29, rfl, rfl, ?_⟩, Or.inr ⟨5, true, 29, rfl, rfl, ?_⟩, Or.inr ⟨5, true, 29, rfl, rfl, ?_⟩, Or.inr ⟨5, true, 29, rfl, rfl, ?_⟩, Or.inr ⟨5, true, 29, rfl, rfl, ?_⟩, Or.inr ⟨5, true, 29, rfl, rfl, ?_⟩, Or.inr ⟨5, true, 29, rfl, rfl, ?_⟩, Or.inl ⟨rfl, ?_⟩, Or.inl ⟨rfl, ?_⟩, Or.inr ⟨15, true, 39, rfl, rfl, ?_⟩, Or.inl ⟨rfl, ?_⟩, Or.inl ⟨rfl, ?_⟩, trivial⟩ ?_
    · intro vs Wx A hA hB hpre K hK
      have e6 := (hA 6).trans (show _ = Value.slice (some ⟨g5, 0, none⟩) l1.length l1.length by kernel_rfl)
      clear hA hpre
      go_simp
      first | exact hK _ _ hB rfl (fun _ _ h => h) | exact hK _ _ hB trivial (fun _ _ h => h) | (rw [if_neg (by omega)]; go_simp; exact hK _ _ hB rfl (fun _ _ h => h))
    · intro vs Wx A hA hB hpre K hK
      have e24 := ((hA 24).trans (show _ = vs 0 by kernel_rfl)).trans (by first | exact hpre.1 rfl | exact hpre.2.1 rfl | exact hpre.2.2.1 rfl | exact hpre.2.2.2.1 rfl | exact hpre.2.2.2.2.1 rfl | exact hpre.2.2.2.2.2.1 rfl | exact hpre.2.2.2.2.2.2.1 rfl | exact hpre.2.2.2.2.2.2.2.1 rfl | exact hpre.2.2.2.2.2.2.2.2.1 rfl | exact hpre.2.2.2.2.2.2.2.2.2.1 rfl)
      clear hA hpre
      go_simp
      first | exact hK _ _ hB rfl (fun _ _ h => h) | exact hK _ _ hB trivial (fun _ _ h => h) | (rw [if_neg (by omega)]; go_simp; exact hK _ _ hB rfl (fun _ _ h => h))
    · intro vs Wx A hA hB hpre K hK
      have e5 := (hA 5).trans (show _ = Value.slice ab l1.length cb by kernel_rfl)
      clear hA hpre
      go_simp
      first | exact hK _ _ hB rfl (fun _ _ h => h) | exact hK _ _ hB trivial (fun _ _ h => h) | (rw [if_neg (by omega)]; go_simp; exact hK _ _ hB rfl (fun _ _ h => h))
    · intro vs Wx A hA hB hpre K hK
      have e26 := ((hA 26).trans (show _ = vs 2 by kernel_rfl)).trans (by first | exact hpre.1 rfl | exact hpre.2.1 rfl | exact hpre.2.2.1 rfl | exact hpre.2.2.2.1 rfl | exact hpre.2.2.2.2.1 rfl | exact hpre.2.2.2.2.2.1 rfl | exact hpre.2.2.2.2.2.2.1 rfl | exact hpre.2.2.2.2.2.2.2.1 rfl | exact hpre.2.2.2.2.2.2.2.2.1 rfl | exact hpre.2.2.2.2.2.2.2.2.2.1 rfl)
      clear hA hpre
      go_simp
      first | exact hK _ _ hB rfl (fun _ _ h => h) | exact hK _ _ hB trivial (fun _ _ h => h) | (rw [if_neg (by omega)]; go_simp; exact hK _ _ hB rfl (fun _ _ h => h))
    · intro vs Wx A hA hB hpre K hK
      have e25 := ((hA 25).trans (show _ = vs 1 by kernel_rfl)).trans (by first | exact hpre.1 rfl | exact hpre.2.1 rfl | exact hpre.2.2.1 rfl | exact hpre.2.2.2.1 rfl | exact hpre.2.2.2.2.1 rfl | exact hpre.2.2.2.2.2.1 rfl | exact hpre.2.2.2.2.2.2.1 rfl | exact hpre.2.2.2.2.2.2.2.1 rfl | exact hpre.2.2.2.2.2.2.2.2.1 rfl | exact hpre.2.2.2.2.2.2.2.2.2.1 rfl)
      have e27 := ((hA 27).trans (show _ = vs 3 by kernel_rfl)).trans (by first | exact hpre.1 rfl | exact hpre.2.1 rfl | exact hpre.2.2.1 rfl | exact hpre.2.2.2.1 rfl | exact hpre.2.2.2.2.1 rfl | exact hpre.2.2.2.2.2.1 rfl | exact hpre.2.2.2.2.2.2.1 rfl | exact hpre.2.2.2.2.2.2.2.1 rfl | exact hpre.2.2.2.2.2.2.2.2.1 rfl | exact hpre.2.2.2.2.2.2.2.2.2.1 rfl)
      clear hA hpre
      go_simp
      first | exact hK _ _ hB rfl (fun _ _ h => h) | exact hK _ _ hB trivial (fun _ _ h => h) | (rw [if_neg (by omega)]; go_simp; exact hK _ _ hB rfl (fun _ _ h => h))
    · intro vs Wx A hA hB hpre K hK
      have e28 := ((hA 28).trans (show _ = vs 4 by kernel_rfl)).trans (by first | exact hpre.1 rfl | exact hpre.2.1 rfl | exact hpre.2.2.1 rfl | exact hpre.2.2.2.1 rfl | exact hpre.2.2.2.2.1 rfl | exact hpre.2.2.2.2.2.1 rfl | exact hpre.2.2.2.2.2.2.1 rfl | exact hpre.2.2.2.2.2.2.2.1 rfl | exact hpre.2.2.2.2.2.2.2.2.1 rfl | exact hpre.2.2.2.2.2.2.2.2.2.1 rfl)
      clear hA hpre
      go_simp
      first | exact hK _ _ hB rfl (fun _ _ h => h) | exact hK _ _ hB trivial (fun _ _ h => h) | (rw [if_neg (by omega)]; go_simp; exact hK _ _ hB rfl (fun _ _ h => h))
    · intro vs Wx A hA hB hpre
      have eg := ((hA 29).trans (show _ = vs 5 by kernel_rfl)).trans (by first | exact hpre.1 rfl | exact hpre.2.1 rfl | exact hpre.2.2.1 rfl | exact hpre.2.2.2.1 rfl | exact hpre.2.2.2.2.1 rfl | exact hpre.2.2.2.2.2.1 rfl | exact hpre.2.2.2.2.2.2.1 rfl | exact hpre.2.2.2.2.2.2.2.1 rfl | exact hpre.2.2.2.2.2.2.2.2.1 rfl | exact hpre.2.2.2.2.2.2.2.2.2.1 rfl)
      refine ⟨true, eg, fun _ K hK => ?_, fun h => absurd rfl h⟩
      have e6 := (hA 6).trans (show _ = Value.slice (some ⟨g5, 0, none⟩) l1.length l1.length by kernel_rfl)
      clear hA hpre
      go_simp
      first | exact hK _ _ hB rfl (fun _ _ h => h) | exact hK _ _ hB trivial (fun _ _ h => h) | (rw [if_neg (by omega)]; go_simp; exact hK _ _ hB rfl (fun _ _ h => h))
    · intro vs Wx A hA hB hpre
      have eg := ((hA 29).trans (show _ = vs 5 by kernel_rfl)).trans (by first | exact hpre.1 rfl | exact hpre.2.1 rfl | exact hpre.2.2.1 rfl | exact hpre.2.2.2.1 rfl | exact hpre.2.2.2.2.1 rfl | exact hpre.2.2.2.2.2.1 rfl | exact hpre.2.2.2.2.2.2.1 rfl | exact hpre.2.2.2.2.2.2.2.1 rfl | exact hpre.2.2.2.2.2.2.2.2.1 rfl | exact hpre.2.2.2.2.2.2.2.2.2.1 rfl)
      refine ⟨true, eg, fun _ K hK => ?_, fun h => absurd rfl h⟩
      have e1 := (hA 1).trans (show _ = Value.slice aa l1.length ca by kernel_rfl)
      clear hA hpre
      go_simp
      first | exact hK _ _ hB rfl (fun _ _ h => h) | exact hK _ _ hB trivial (fun _ _ h => h) | (rw [if_neg (by omega)]; go_simp; exact hK _ _ hB rfl (fun _ _ h => h))
    · intro vs Wx A hA hB hpre
      have eg := ((hA 29).trans (show _ = vs 5 by kernel_rfl)).trans (by first | exact hpre.1 rfl | exact hpre.2.1 rfl | exact hpre.2.2.1 rfl | exact hpre.2.2.2.1 rfl | exact hpre.2.2.2.2.1 rfl | exact hpre.2.2.2.2.2.1 rfl | exact hpre.2.2.2.2.2.2.1 rfl | exact hpre.2.2.2.2.2.2.2.1 rfl | exact hpre.2.2.2.2.2.2.2.2.1 rfl | exact hpre.2.2.2.2.2.2.2.2.2.1 rfl)
      refine ⟨true, eg, fun _ K hK => ?_, fun h => absurd rfl h⟩
      have e31 := ((hA 31).trans (show _ = vs 7 by kernel_rfl)).trans (by first | exact hpre.1 rfl | exact hpre.2.1 rfl | exact hpre.2.2.1 rfl | exact hpre.2.2.2.1 rfl | exact hpre.2.2.2.2.1 rfl | exact hpre.2.2.2.2.2.1 rfl | exact hpre.2.2.2.2.2.2.1 rfl | exact hpre.2.2.2.2.2.2.2.1 rfl | exact hpre.2.2.2.2.2.2.2.2.1 rfl | exact hpre.2.2.2.2.2.2.2.2.2.1 rfl)
      clear hA hpre
      go_simp
      first | exact hK _ _ hB rfl (fun _ _ h => h) | exact hK _ _ hB trivial (fun _ _ h => h) | (rw [if_neg (by omega)]; go_simp; exact hK _ _ hB rfl (fun _ _ h => h))
    · intro vs Wx A hA hB hpre
      have eg := ((hA 29).trans (show _ = vs 5 by kernel_rfl)).trans (by first | exact hpre.1 rfl | exact hpre.2.1 rfl | exact hpre.2.2.1 rfl | exact hpre.2.2.2.1 rfl | exact hpre.2.2.2.2.1 rfl | exact hpre.2.2.2.2.2.1 rfl | exact hpre.2.2.2.2.2.2.1 rfl | exact hpre.2.2.2.2.2.2.2.1 rfl | exact hpre.2.2.2.2.2.2.2.2.1 rfl | exact hpre.2.2.2.2.2.2.2.2.2.1 rfl)
      refine ⟨true, eg, fun _ K hK => ?_, fun h => absurd rfl h⟩
      have e30 := ((hA 30).trans (show _ = vs 6 by kernel_rfl)).trans (by first | exact hpre.1 rfl | exact hpre.2.1 rfl | exact hpre.2.2.1 rfl | exact hpre.2.2.2.1 rfl | exact hpre.2.2.2.2.1 rfl | exact hpre.2.2.2.2.2.1 rfl | exact hpre.2.2.2.2.2.2.1 rfl | exact hpre.2.2.2.2.2.2.2.1 rfl | exact hpre.2.2.2.2.2.2.2.2.1 rfl | exact hpre.2.2.2.2.2.2.2.2.2.1 rfl)
      have e32 := ((hA 32).trans (show _ = vs 8 by kernel_rfl)).trans (by first | exact hpre.1 rfl | exact hpre.2.1 rfl | exact hpre.2.2.1 rfl | exact hpre.2.2.2.1 rfl | exact hpre.2.2.2.2.1 rfl | exact hpre.2.2.2.2.2.1 rfl | exact hpre.2.2.2.2.2.2.1 rfl | exact hpre.2.2.2.2.2.2.2.1 rfl | exact hpre.2.2.2.2.2.2.2.2.1 rfl | exact hpre.2.2.2.2.2.2.2.2.2.1 rfl)
      clear hA hpre
      go_simp
      first | exact hK _ _ hB rfl (fun _ _ h => h) | exact hK _ _ hB trivial (fun _ _ h => h) | (rw [if_neg (by omega)]; go_simp; exact hK _ _ hB rfl (fun _ _ h => h))
    · intro vs Wx A hA hB hpre
      have eg := ((hA 29).trans (show _ = vs 5 by kernel_rfl)).trans (by first | exact hpre.1 rfl | exact hpre.2.1 rfl | exact hpre.2.2.1 rfl | exact hpre.2.2.2.1 rfl | exact hpre.2.2.2.2.1 rfl | exact hpre.2.2.2.2.2.1 rfl | exact hpre.2.2.2.2.2.2.1 rfl | exact hpre.2.2.2.2.2.2.2.1 rfl | exact hpre.2.2.2.2.2.2.2.2.1 rfl | exact hpre.2.2.2.2.2.2.2.2.2.1 rfl)
      refine ⟨true, eg, fun _ K hK => ?_, fun h => absurd rfl h⟩
      have e0 := (hA 0).trans (show _ = Value.slice a l0.length c by kernel_rfl)
      clear hA hpre
      go_simp
      first | exact hK _ _ hB rfl (fun _ _ h => h) | exact hK _ _ hB trivial (fun _ _ h => h) | (rw [if_neg (by omega)]; go_simp; exact hK _ _ hB rfl (fun _ _ h => h))
    · intro vs Wx A hA hB hpre
      have eg := ((hA 29).trans (show _ = vs 5 by kernel_rfl)).trans (by first | exact hpre.1 rfl | exact hpre.2.1 rfl | exact hpre.2.2.1 rfl | exact hpre.2.2.2.1 rfl | exact hpre.2.2.2.2.1 rfl | exact hpre.2.2.2.2.2.1 rfl | exact hpre.2.2.2.2.2.2.1 rfl | exact hpre.2.2.2.2.2.2.2.1 rfl | exact hpre.2.2.2.2.2.2.2.2.1 rfl | exact hpre.2.2.2.2.2.2.2.2.2.1 rfl)
      refine ⟨true, eg, fun _ K hK => ?_, fun h => absurd rfl h⟩
      have e1 := (hA 1).trans (show _ = Value.slice aa l1.length ca by kernel_rfl)
      clear hA hpre
      go_simp
      first | exact hK _ _ hB rfl (fun _ _ h => h) | exact hK _ _ hB trivial (fun _ _ h => h) | (rw [if_neg (by omega)]; go_simp; exact hK _ _ hB rfl (fun _ _ h => h))
    · intro vs Wx A hA hB hpre
      have eg := ((hA 29).trans (show _ = vs 5 by kernel_rfl)).trans (by first | exact hpre.1 rfl | exact hpre.2.1 rfl | exact hpre.2.2.1 rfl | exact hpre.2.2.2.1 rfl | exact hpre.2.2.2.2.1 rfl | exact hpre.2.2.2.2.2.1 rfl | exact hpre.2.2.2.2.2.2.1 rfl | exact hpre.2.2.2.2.2.2.2.1 rfl | exact hpre.2.2.2.2.2.2.2.2.1 rfl | exact hpre.2.2.2.2.2.2.2.2.2.1 rfl)
      refine ⟨true, eg, fun _ K hK => ?_, fun h => absurd rfl h⟩
      have e34 := ((hA 34).trans (show _ = vs 10 by kernel_rfl)).trans (by first | exact hpre.1 rfl | exact hpre.2.1 rfl | exact hpre.2.2.1 rfl | exact hpre.2.2.2.1 rfl | exact hpre.2.2.2.2.1 rfl | exact hpre.2.2.2.2.2.1 rfl | exact hpre.2.2.2.2.2.2.1 rfl | exact hpre.2.2.2.2.2.2.2.1 rfl | exact hpre.2.2.2.2.2.2.2.2.1 rfl | exact hpre.2.2.2.2.2.2.2.2.2.1 rfl)
      have e35 := ((hA 35).trans (show _ = vs 11 by kernel_rfl)).trans (by first | exact hpre.1 rfl | exact hpre.2.1 rfl | exact hpre.2.2.1 rfl | exact hpre.2.2.2.1 rfl | exact hpre.2.2.2.2.1 rfl | exact hpre.2.2.2.2.2.1 rfl | exact hpre.2.2.2.2.2.2.1 rfl | exact hpre.2.2.2.2.2.2.2.1 rfl | exact hpre.2.2.2.2.2.2.2.2.1 rfl | exact hpre.2.2.2.2.2.2.2.2.2.1 rfl)
      clear hA hpre
      go_simp
      go_at_call 14
      refine (HM6.out Wx hB).mono ?_
      rintro e w3 ⟨gq, rfl, hu, hb3⟩
      refine hK _ _ (below_trans hB hb3) ⟨gq, rfl, hu⟩ (fun jz hj hz => ?_)
      match jz, hj, hz with
      | 0, _, hz => exact hz
      | 1, _, hz => exact hz
      | 2, _, hz => exact hz
      | 3, _, hz => exact hz
      | 4, _, hz => exact hz
      | 5, _, hz => exact hz
      | 6, _, hz => exact hz
      | 7, _, hz => exact hz
      | 8, _, hz => exact hz
      | 9, _, hz => exact hz
      | 10, _, hz => exact hz
      | 11, _, hz => exact hz
      | 12, hj, _ => exact absurd rfl hj
      | 13, _, hz => exact hz
      | 14, _, hz => exact hz
      | 15, _, hz => exact hz
      | 16, _, hz => exact hz
      | 17, _, hz => exact hz
      | 18, _, hz => exact hz
      | n + 19, _, hz => exact hz
    · intro vs Wx A hA hB hpre
      have eg := ((hA 29).trans (show _ = vs 5 by kernel_rfl)).trans (by first | exact hpre.1 rfl | exact hpre.2.1 rfl | exact hpre.2.2.1 rfl | exact hpre.2.2.2.1 rfl | exact hpre.2.2.2.2.1 rfl | exact hpre.2.2.2.2.2.1 rfl | exact hpre.2.2.2.2.2.2.1 rfl | exact hpre.2.2.2.2.2.2.2.1 rfl | exact hpre.2.2.2.2.2.2.2.2.1 rfl | exact hpre.2.2.2.2.2.2.2.2.2.1 rfl)
      refine ⟨true, eg, fun _ K hK => ?_, fun h => absurd rfl h⟩
      have e33 := ((hA 33).trans (show _ = vs 9 by kernel_rfl)).trans (by first | exact hpre.1 rfl | exact hpre.2.1 rfl | exact hpre.2.2.1 rfl | exact hpre.2.2.2.1 rfl | exact hpre.2.2.2.2.1 rfl | exact hpre.2.2.2.2.2.1 rfl | exact hpre.2.2.2.2.2.2.1 rfl | exact hpre.2.2.2.2.2.2.2.1 rfl | exact hpre.2.2.2.2.2.2.2.2.1 rfl | exact hpre.2.2.2.2.2.2.2.2.2.1 rfl)
      have hx12 : ∃ gx : Nat, vs 12 = .slice (some ⟨gx, 0, none⟩) l0.length l0.length ∧ BlAt Wx (.slice (some ⟨gx, 0, none⟩) l0.length l0.length) (marksV l1 l0) := by first | exact hpre.1 rfl | exact hpre.2.1 rfl | exact hpre.2.2.1 rfl | exact hpre.2.2.2.1 rfl | exact hpre.2.2.2.2.1 rfl | exact hpre.2.2.2.2.2.1 rfl | exact hpre.2.2.2.2.2.2.1 rfl | exact hpre.2.2.2.2.2.2.2.1 rfl | exact hpre.2.2.2.2.2.2.2.2.1 rfl | exact hpre.2.2.2.2.2.2.2.2.2.1 rfl
      obtain ⟨gx12, hv12, hh12⟩ := hx12
      have e36 := ((hA 36).trans (show _ = vs 12 by kernel_rfl)).trans hv12
      clear hA hpre
      go_simp
      go_at_call 13
      refine (same_eq _ _ _ Wx (HV.out.far hB) hh12).mono ?_
      rintro e w3 ⟨rfl, hb3⟩
      refine hK _ _ (below_trans hB hb3) rfl (fun jz hj hz => ?_)
      match jz, hj, hz with
      | 0, _, hz => exact hz
      | 1, _, hz => exact hz
      | 2, _, hz => exact hz
      | 3, _, hz => exact hz
      | 4, _, hz => exact hz
      | 5, _, hz => exact hz
      | 6, _, hz => exact hz
      | 7, _, hz => exact hz
      | 8, _, hz => exact hz
      | 9, _, hz => exact hz
      | 10, _, hz => exact hz
      | 11, _, hz => exact hz
      | 12, _, hz => exact hz.elim fun gz hq => ⟨gz, hq.1, BlAt.far hq.2 hb3⟩
      | 13, _, hz => exact hz
      | 14, _, hz => exact hz
      | 15, _, hz => exact hz
      | 16, _, hz => exact hz
      | 17, _, hz => exact hz
      | 18, _, hz => exact hz
      | n + 19, _, hz => exact hz
    · intro vs Wx A hA hB hpre K hK
      have e29 := ((hA 29).trans (show _ = vs 5 by kernel_rfl)).trans (by first | exact hpre.1 rfl | exact hpre.2.1 rfl | exact hpre.2.2.1 rfl | exact hpre.2.2.2.1 rfl | exact hpre.2.2.2.2.1 rfl | exact hpre.2.2.2.2.2.1 rfl | exact hpre.2.2.2.2.2.2.1 rfl | exact hpre.2.2.2.2.2.2.2.1 rfl | exact hpre.2.2.2.2.2.2.2.2.1 rfl | exact hpre.2.2.2.2.2.2.2.2.2.1 rfl)
      have e37 := ((hA 37).trans (show _ = vs 13 by kernel_rfl)).trans (by first | exact hpre.1 rfl | exact hpre.2.1 rfl | exact hpre.2.2.1 rfl | exact hpre.2.2.2.1 rfl | exact hpre.2.2.2.2.1 rfl | exact hpre.2.2.2.2.2.1 rfl | exact hpre.2.2.2.2.2.2.1 rfl | exact hpre.2.2.2.2.2.2.2.1 rfl | exact hpre.2.2.2.2.2.2.2.2.1 rfl | exact hpre.2.2.2.2.2.2.2.2.2.1 rfl)
      clear hA hpre
      go_simp
      first | exact hK _ _ hB rfl (fun _ _ h => h) | exact hK _ _ hB trivial (fun _ _ h => h) | (rw [if_neg (by omega)]; go_simp; exact hK _ _ hB rfl (fun _ _ h => h))
    · intro vs Wx A hA hB hpre K hK
      have e38 := ((hA 38).trans (show _ = vs 14 by kernel_rfl)).trans (by first | exact hpre.1 rfl | exact hpre.2.1 rfl | exact hpre.2.2.1 rfl | exact hpre.2.2.2.1 rfl | exact hpre.2.2.2.2.1 rfl | exact hpre.2.2.2.2.2.1 rfl | exact hpre.2.2.2.2.2.2.1 rfl | exact hpre.2.2.2.2.2.2.2.1 rfl | exact hpre.2.2.2.2.2.2.2.2.1 rfl | exact hpre.2.2.2.2.2.2.2.2.2.1 rfl)
      clear hA hpre
      go_simp
      first | exact hK _ _ hB rfl (fun _ _ h => h) | exact hK _ _ hB trivial (fun _ _ h => h) | (rw [if_neg (by omega)]; go_simp; exact hK _ _ hB rfl (fun _ _ h => h))
    · intro vs Wx A hA hB hpre
      have eg := ((hA 39).trans (show _ = vs 15 by kernel_rfl)).trans (by first | exact hpre.1 rfl | exact hpre.2.1 rfl | exact hpre.2.2.1 rfl | exact hpre.2.2.2.1 rfl | exact hpre.2.2.2.2.1 rfl | exact hpre.2.2.2.2.2.1 rfl | exact hpre.2.2.2.2.2.2.1 rfl | exact hpre.2.2.2.2.2.2.2.1 rfl | exact hpre.2.2.2.2.2.2.2.2.1 rfl | exact hpre.2.2.2.2.2.2.2.2.2.1 rfl)
      refine ⟨true, eg, fun _ K hK => ?_, fun h => absurd rfl h⟩
      clear hA hpre
      go_simp
      go_at_call 10
      refine (works_any _).mono ?_
      rintro e w3 ⟨rfl, hb3⟩
      refine hK _ _ (below_trans hB hb3) rfl (fun jz hj hz => ?_)
      match jz, hj, hz with
      | 0, _, hz => exact hz
      | 1, _, hz => exact hz
      | 2, _, hz => exact hz
      | 3, _, hz => exact hz
      | 4, _, hz => exact hz
      | 5, _, hz => exact hz
      | 6, _, hz => exact hz
      | 7, _, hz => exact hz
      | 8, _, hz => exact hz
      | 9, _, hz => exact hz
      | 10, _, hz => exact hz
      | 11, _, hz => exact hz
      | 12, _, hz => exact hz.elim fun gz hq => ⟨gz, hq.1, BlAt.far hq.2 hb3⟩
      | 13, _, hz => exact hz
      | 14, _, hz => exact hz
      | 15, _, hz => exact hz
      | 16, _, hz => exact hz
      | 17, _, hz => exact hz
      | 18, _, hz => exact hz
      | n + 19, _, hz => exact hz
    · intro vs Wx A hA hB hpre K hK
      have e39 := ((hA 39).trans (show _ = vs 15 by kernel_rfl)).trans (by first | exact hpre.1 rfl | exact hpre.2.1 rfl | exact hpre.2.2.1 rfl | exact hpre.2.2.2.1 rfl | exact hpre.2.2.2.2.1 rfl | exact hpre.2.2.2.2.2.1 rfl | exact hpre.2.2.2.2.2.2.1 rfl | exact hpre.2.2.2.2.2.2.2.1 rfl | exact hpre.2.2.2.2.2.2.2.2.1 rfl | exact hpre.2.2.2.2.2.2.2.2.2.1 rfl)
      have e40 := ((hA 40).trans (show _ = vs 16 by kernel_rfl)).trans (by first | exact hpre.1 rfl | exact hpre.2.1 rfl | exact hpre.2.2.1 rfl | exact hpre.2.2.2.1 rfl | exact hpre.2.2.2.2.1 rfl | exact hpre.2.2.2.2.2.1 rfl | exact hpre.2.2.2.2.2.2.1 rfl | exact hpre.2.2.2.2.2.2.2.1 rfl | exact hpre.2.2.2.2.2.2.2.2.1 rfl | exact hpre.2.2.2.2.2.2.2.2.2.1 rfl)
      clear hA hpre
      go_simp
      first | exact hK _ _ hB rfl (fun _ _ h => h) | exact hK _ _ hB trivial (fun _ _ h => h) | (rw [if_neg (by omega)]; go_simp; exact hK _ _ hB rfl (fun _ _ h => h))
    · intro vs Wx A hA hB hpre K hK
      have e41 := ((hA 41).trans (show _ = vs 17 by kernel_rfl)).trans (by first | exact hpre.1 rfl | exact hpre.2.1 rfl | exact hpre.2.2.1 rfl | exact hpre.2.2.2.1 rfl | exact hpre.2.2.2.2.1 rfl | exact hpre.2.2.2.2.2.1 rfl | exact hpre.2.2.2.2.2.2.1 rfl | exact hpre.2.2.2.2.2.2.2.1 rfl | exact hpre.2.2.2.2.2.2.2.2.1 rfl | exact hpre.2.2.2.2.2.2.2.2.2.1 rfl)
      clear hA hpre
      go_simp
      first | exact hK _ _ hB rfl (fun _ _ h => h) | exact hK _ _ hB trivial (fun _ _ h => h) | (rw [if_neg (by omega)]; go_simp; exact hK _ _ hB rfl (fun _ _ h => h))
    · intro vs Wx hB hF
      have hL : vs 18 = .bool true := hF 18 (by decide)
      have HBW := Lib.hid (below_trans HB5.out hB)
      clear hF hB
      simp only [Ri.puts]
      go_simp
      go_wp2_with fail
      go_ret
      exact ⟨by first | rfl | (rw [hL]; rfl) | simp [hL], HBW.out⟩
  · have HV : Hid (BlAt w5 (.slice (some ⟨g5, l1.length, none⟩) (N - l1.length) (N - l1.length)) (marksV l1 l0)) := by
      show BlAt _ _ _
      rw [← HP.out]
      exact bl_drop hu5 (by omega) (by omega)
    clear hu5 hb5 HMa HN
    go_upto_region 7 with fail
    refine Ri.wp_region_lasting_g (by kernel_rfl) (by kernel_rfl) (by kernel_rfl) (fun Wx => Below w5.heap.size w5 Wx) (fun kz vs wz => (fun kx vx wx => match kx with | 0 => vx = .slice (some ⟨g5, 0, none⟩) N N | 1 => vx = .int .i64 (N : Nat) | 2 => vx = .slice ab N cb | 3 => vx = .int .i64 (N : Nat) | 4 => vx = .bool true | 5 => vx = .bool true | 6 => vx = .slice (some ⟨g5, 0, none⟩) N N | 7 => vx = .slice aa l1.length ca | 8 => vx = .int .i64 (l1.length : Nat) | 9 => vx = .slice (some ⟨g5, l1.length, none⟩) (N - l1.length) (N - l1.length) | 10 => vx = .slice a l0.length c | 11 => vx = .slice aa l1.length ca | 12 => ∃ gx : Nat, vx = .slice (some ⟨gx, 0, none⟩) l0.length l0.length ∧ BlAt wx (.slice (some ⟨gx, 0, none⟩) l0.length l0.length) (marksV l1 l0) | 13 => vx = .bool true | 14 => vx = .bool true | 15 => vx = .bool true | 16 => vx = .bool true | 17 => vx = .bool true | 18 => vx = .bool true | _ => True : Nat → Value → World → Prop) kz (vs kz) wz) (fun kz => [kz]) (by kernel_rfl) (fun jz vs iz vz wz hiz hz => Ri.loc_own (F := (fun kx vx wx => match kx with | 0 => vx = .slice (some ⟨g5, 0, none⟩) N N | 1 => vx = .int .i64 (N : Nat) | 2 => vx = .slice ab N cb | 3 => vx = .int .i64 (N : Nat) | 4 => vx = .bool true | 5 => vx = .bool true | 6 => vx = .slice (some ⟨g5, 0, none⟩) N N | 7 => vx = .slice aa l1.length ca | 8 => vx = .int .i64 (l1.length : Nat) | 9 => vx = .slice (some ⟨g5, l1.length, none⟩) (N - l1.length) (N - l1.length) | 10 => vx = .slice a l0.length c | 11 => vx = .slice aa l1.length ca | 12 => ∃ gx : Nat, vx = .slice (some ⟨gx, 0, none⟩) l0.length l0.length ∧ BlAt wx (.slice (some ⟨gx, 0, none⟩) l0.length l0.length) (marksV l1 l0) | 13 => vx = .bool true | 14 => vx = .bool true | 15 => vx = .bool true | 16 => vx = .bool true | 17 => vx = .bool true | 18 => vx = .bool true | _ => True : Nat → Value → World → Prop)) jz vs iz vz wz hiz hz) HD.out ⟨Or.inl ⟨rfl, ?_⟩, Or.inl ⟨rfl, ?_⟩, Or.inl ⟨rfl, ?_⟩, Or.inl ⟨rfl, ?_⟩, Or.inl ⟨rfl, ?_⟩, Or.inl ⟨rfl, ?_⟩, Or.inr ⟨5, true, 29, rfl, rfl, ?_⟩, Or.inr ⟨5, true, 29, rfl, rfl, ?_⟩, Or.inr ⟨5, true, 29, rfl, rfl, ?_⟩, Or.inr ⟨5, true, 29, rfl, rfl, ?_⟩, Or.inr ⟨5, true, 29, rfl, rfl, ?_⟩, Or.inr ⟨5, true, 29, rfl, rfl, ?_⟩, Or.inr ⟨5, true, 29, rfl, rfl, ?_⟩, Or.inr ⟨5, true, 29, rfl, rfl, ?_⟩, Or.inl ⟨rfl, ?_⟩, Or.inl ⟨rfl, ?_⟩, Or.inr ⟨15, true, 39, rfl, rfl, ?_⟩, Or.inl ⟨rfl, ?_⟩, Or.inl ⟨rfl, ?_⟩, trivial⟩ ?_
    · intro vs Wx A hA hB hpre K hK
      have e6 := (hA 6).trans (show _ = Value.slice (some ⟨g5, 0, none⟩) N N by kernel_rfl)
      clear hA hpre
      go_simp
      first | exact hK _ _ hB rfl (fun _ _ h => h) | exact hK _ _ hB trivial (fun _ _ h => h) | (rw [if_neg (by omega)]; go_simp; exact hK _ _ hB rfl (fun _ _ h => h))
    · intro vs Wx A hA hB hpre K hK
      have e24 := ((hA 24).trans (show _ = vs 0 by kernel_rfl)).trans (by first | exact hpre.1 rfl | exact hpre.2.1 rfl | exact hpre.2.2.1 rfl | exact hpre.2.2.2.1 rfl | exact hpre.2.2.2.2.1 rfl | exact hpre.2.2.2.2.2.1 rfl | exact hpre.2.2.2.2.2.2.1 rfl | exact hpre.2.2.2.2.2.2.2.1 rfl | exact hpre.2.2.2.2.2.2.2.2.1 rfl | exact hpre.2.2.2.2.2.2.2.2.2.1 rfl)
      clear hA hpre
      go_simp
      first | exact hK _ _ hB rfl (fun _ _ h => h) | exact hK _ _ hB trivial (fun _ _ h => h) | (rw [if_neg (by omega)]; go_simp; exact hK _ _ hB rfl (fun _ _ h => h))
    · intro vs Wx A hA hB hpre K hK
      have e5 := (hA 5).trans (show _ = Value.slice ab N cb by kernel_rfl)
      clear hA hpre
      go_simp
      first | exact hK _ _ hB rfl (fun _ _ h => h) | exact hK _ _ hB trivial (fun _ _ h => h) | (rw [if_neg (by omega)]; go_simp; exact hK _ _ hB rfl (fun _ _ h => h))
    · intro vs Wx A hA hB hpre K hK
      have e26 := ((hA 26).trans (show _ = vs 2 by kernel_rfl)).trans (by first | exact hpre.1 rfl | exact hpre.2.1 rfl | exact hpre.2.2.1 rfl | exact hpre.2.2.2.1 rfl | exact hpre.2.2.2.2.1 rfl | exact hpre.2.2.2.2.2.1 rfl | exact hpre.2.2.2.2.2.2.1 rfl | exact hpre.2.2.2.2.2.2.2.1 rfl | exact hpre.2.2.2.2.2.2.2.2.1 rfl | exact hpre.2.2.2.2.2.2.2.2.2.1 rfl)
      clear hA hpre
      go_simp
      first | exact hK _ _ hB rfl (fun _ _ h => h) | exact hK _ _ hB trivial (fun _ _ h => h) | (rw [if_neg (by omega)]; go_simp; exact hK _ _ hB rfl (fun _ _ h => h))
    · intro vs Wx A hA hB hpre K hK
      have e25 := ((hA 25).trans (show _ = vs 1 by kernel_rfl)).trans (by first | exact hpre.1 rfl | exact hpre.2.1 rfl | exact hpre.2.2.1 rfl | exact hpre.2.2.2.1 rfl | exact hpre.2.2.2.2.1 rfl | exact hpre.2.2.2.2.2.1 rfl | exact hpre.2.2.2.2.2.2.1 rfl | exact hpre.2.2.2.2.2.2.2.1 rfl | exact hpre.2.2.2.2.2.2.2.2.1 rfl | exact hpre.2.2.2.2.2.2.2.2.2.1 rfl)
      have e27 := ((hA 27).trans (show _ = vs 3 by kernel_rfl)).trans (by first | exact hpre.1 rfl | exact hpre.2.1 rfl | exact hpre.2.2.1 rfl | exact hpre.2.2.2.1 rfl | exact hpre.2.2.2.2.1 rfl | exact hpre.2.2.2.2.2.1 rfl | exact hpre.2.2.2.2.2.2.1 rfl | exact hpre.2.2.2.2.2.2.2.1 rfl | exact hpre.2.2.2.2.2.2.2.2.1 rfl | exact hpre.2.2.2.2.2.2.2.2.2.1 rfl)
      clear hA hpre
      go_simp
      first | exact hK _ _ hB rfl (fun _ _ h => h) | exact hK _ _ hB trivial (fun _ _ h => h) | (rw [if_neg (by omega)]; go_simp; exact hK _ _ hB rfl (fun _ _ h => h))
    · intro vs Wx A hA hB hpre K hK
      have e28 := ((hA 28).trans (show _ = vs 4 by kernel_rfl)).trans (by first | exact hpre.1 rfl | exact hpre.2.1 rfl | exact hpre.2.2.1 rfl | exact hpre.2.2.2.1 rfl | exact hpre.2.2.2.2.1 rfl | exact hpre.2.2.2.2.2.1 rfl | exact hpre.2.2.2.2.2.2.1 rfl | exact hpre.2.2.2.2.2.2.2.1 rfl | exact hpre.2.2.2.2.2.2.2.2.1 rfl | exact hpre.2.2.2.2.2.2.2.2.2.1 rfl)
      clear hA hpre
      go_simp
      first | exact hK _ _ hB rfl (fun _ _ h => h) | exact hK _ _ hB trivial (fun _ _ h => h) | (rw [if_neg (by omega)]; go_simp; exact hK _ _ hB rfl (fun _ _ h => h))
    · intro vs Wx A hA hB hpre
      have eg := ((hA 29).trans (show _ = vs 5 by kernel_rfl)).trans (by first | exact hpre.1 rfl | exact hpre.2.1 rfl | exact hpre.2.2.1 rfl | exact hpre.2.2.2.1 rfl | exact hpre.2.2.2.2.1 rfl | exact hpre.2.2.2.2.2.1 rfl | exact hpre.2.2.2.2.2.2.1 rfl | exact hpre.2.2.2.2.2.2.2.1 rfl | exact hpre.2.2.2.2.2.2.2.2.1 rfl | exact hpre.2.2.2.2.2.2.2.2.2.1 rfl)
      refine ⟨true, eg, fun _ K hK => ?_, fun h => absurd rfl h⟩
      have e6 := (hA 6).trans (show _ = Value.slice (some ⟨g5, 0, none⟩) N N by kernel_rfl)
      clear hA hpre
      go_simp
      first | exact hK _ _ hB rfl (fun _ _ h => h) | exact hK _ _ hB trivial (fun _ _ h => h) | (rw [if_neg (by omega)]; go_simp; exact hK _ _ hB rfl (fun _ _ h => h))
    · intro vs Wx A hA hB hpre
      have eg := ((hA 29).trans (show _ = vs 5 by kernel_rfl)).trans (by first | exact hpre.1 rfl | exact hpre.2.1 rfl | exact hpre.2.2.1 rfl | exact hpre.2.2.2.1 rfl | exact hpre.2.2.2.2.1 rfl | exact hpre.2.2.2.2.2.1 rfl | exact hpre.2.2.2.2.2.2.1 rfl | exact hpre.2.2.2.2.2.2.2.1 rfl | exact hpre.2.2.2.2.2.2.2.2.1 rfl | exact hpre.2.2.2.2.2.2.2.2.2.1 rfl)
      refine ⟨true, eg, fun _ K hK => ?_, fun h => absurd rfl h⟩
      have e1 := (hA 1).trans (show _ = Value.slice aa l1.length ca by kernel_rfl)
      clear hA hpre
      go_simp
      first | exact hK _ _ hB rfl (fun _ _ h => h) | exact hK _ _ hB trivial (fun _ _ h => h) | (rw [if_neg (by omega)]; go_simp; exact hK _ _ hB rfl (fun _ _ h => h))
    · intro vs Wx A hA hB hpre
      have eg := ((hA 29).trans (show _ = vs 5 by kernel_rfl)).trans (by first | exact hpre.1 rfl | exact hpre.2.1 rfl | exact hpre.2.2.1 rfl | exact hpre.2.2.2.1 rfl | exact hpre.2.2.2.2.1 rfl | exact hpre.2.2.2.2.2.1 rfl | exact hpre.2.2.2.2.2.2.1 rfl | exact hpre.2.2.2.2.2.2.2.1 rfl | exact hpre.2.2.2.2.2.2.2.2.1 rfl | exact hpre.2.2.2.2.2.2.2.2.2.1 rfl)
      refine ⟨true, eg, fun _ K hK => ?_, fun h => absurd rfl h⟩
      have e31 := ((hA 31).trans (show _ = vs 7 by kernel_rfl)).trans (by first | exact hpre.1 rfl | exact hpre.2.1 rfl | exact hpre.2.2.1 rfl | exact hpre.2.2.2.1 rfl | exact hpre.2.2.2.2.1 rfl | exact hpre.2.2.2.2.2.1 rfl | exact hpre.2.2.2.2.2.2.1 rfl | exact hpre.2.2.2.2.2.2.2.1 rfl | exact hpre.2.2.2.2.2.2.2.2.1 rfl | exact hpre.2.2.2.2.2.2.2.2.2.1 rfl)
      clear hA hpre
      go_simp
      first | exact hK _ _ hB rfl (fun _ _ h => h) | exact hK _ _ hB trivial (fun _ _ h => h) | (rw [if_neg (by omega)]; go_simp; exact hK _ _ hB rfl (fun _ _ h => h))
    · intro vs Wx A hA hB hpre
      have eg := ((hA 29).trans (show _ = vs 5 by kernel_rfl)).trans (by first | exact hpre.1 rfl | exact hpre.2.1 rfl | exact hpre.2.2.1 rfl | exact hpre.2.2.2.1 rfl | exact hpre.2.2.2.2.1 rfl | exact hpre.2.2.2.2.2.1 rfl | exact hpre.2.2.2.2.2.2.1 rfl | exact hpre.2.2.2.2.2.2.2.1 rfl | exact hpre.2.2.2.2.2.2.2.2.1 rfl | exact hpre.2.2.2.2.2.2.2.2.2.1 rfl)
      refine ⟨true, eg, fun _ K hK => ?_, fun h => absurd rfl h⟩
      have e30 := ((hA 30).trans (show _ = vs 6 by kernel_rfl)).trans (by first | exact hpre.1 rfl | exact hpre.2.1 rfl | exact hpre.2.2.1 rfl | exact hpre.2.2.2.1 rfl | exact hpre.2.2.2.2.1 rfl | exact hpre.2.2.2.2.2.1 rfl | exact hpre.2.2.2.2.2.2.1 rfl | exact hpre.2.2.2.2.2.2.2.1 rfl | exact hpre.2.2.2.2.2.2.2.2.1 rfl | exact hpre.2.2.2.2.2.2.2.2.2.1 rfl)
      have e32 := ((hA 32).trans (show _ = vs 8 by kernel_rfl)).trans (by first | exact hpre.1 rfl | exact hpre.2.1 rfl | exact hpre.2.2.1 rfl | exact hpre.2.2.2.1 rfl | exact hpre.2.2.2.2.1 rfl | exact hpre.2.2.2.2.2.1 rfl | exact hpre.2.2.2.2.2.2.1 rfl | exact hpre.2.2.2.2.2.2.2.1 rfl | exact hpre.2.2.2.2.2.2.2.2.1 rfl | exact hpre.2.2.2.2.2.2.2.2.2.1 rfl)
      clear hA hpre
      go_simp
      first | exact hK _ _ hB rfl (fun _ _ h => h) | exact hK _ _ hB trivial (fun _ _ h => h) | (rw [if_neg (by omega)]; go_simp; exact hK _ _ hB rfl (fun _ _ h => h))
    · intro vs Wx A hA hB hpre
      have eg := ((hA 29).trans (show _ = vs 5 by kernel_rfl)).trans (by first | exact hpre.1 rfl | exact hpre.2.1 rfl | exact hpre.2.2.1 rfl | exact hpre.2.2.2.1 rfl | exact hpre.2.2.2.2.1 rfl | exact hpre.2.2.2.2.2.1 rfl | exact hpre.2.2.2.2.2.2.1 rfl | exact hpre.2.2.2.2.2.2.2.1 rfl | exact hpre.2.2.2.2.2.2.2.2.1 rfl | exact hpre.2.2.2.2.2.2.2.2.2.1 rfl)
      refine ⟨true, eg, fun _ K hK => ?_, fun h => absurd rfl h⟩
      have e0 := (hA 0).trans (show _ = Value.slice a l0.length c by kernel_rfl)
      clear hA hpre
      go_simp
      first | exact hK _ _ hB rfl (fun _ _ h => h) | exact hK _ _ hB trivial (fun _ _ h => h) | (rw [if_neg (by omega)]; go_simp; exact hK _ _ hB rfl (fun _ _ h => h))
    · intro vs Wx A hA hB hpre
      have eg := ((hA 29).trans (show _ = vs 5 by kernel_rfl)).trans (by first | exact hpre.1 rfl | exact hpre.2.1 rfl | exact hpre.2.2.1 rfl | exact hpre.2.2.2.1 rfl | exact hpre.2.2.2.2.1 rfl | exact hpre.2.2.2.2.2.1 rfl | exact hpre.2.2.2.2.2.2.1 rfl | exact hpre.2.2.2.2.2.2.2.1 rfl | exact hpre.2.2.2.2.2.2.2.2.1 rfl | exact hpre.2.2.2.2.2.2.2.2.2.1 rfl)
      refine ⟨true, eg, fun _ K hK => ?_, fun h => absurd rfl h⟩
      have e1 := (hA 1).trans (show _ = Value.slice aa l1.length ca by kernel_rfl)
      clear hA hpre
      go_simp
      first | exact hK _ _ hB rfl (fun _ _ h => h) | exact hK _ _ hB trivial (fun _ _ h => h) | (rw [if_neg (by omega)]; go_simp; exact hK _ _ hB rfl (fun _ _ h => h))
    · intro vs Wx A hA hB hpre
      have eg := ((hA 29).trans (show _ = vs 5 by kernel_rfl)).trans (by first | exact hpre.1 rfl | exact hpre.2.1 rfl | exact hpre.2.2.1 rfl | exact hpre.2.2.2.1 rfl | exact hpre.2.2.2.2.1 rfl | exact hpre.2.2.2.2.2.1 rfl | exact hpre.2.2.2.2.2.2.1 rfl | exact hpre.2.2.2.2.2.2.2.1 rfl | exact hpre.2.2.2.2.2.2.2.2.1 rfl | exact hpre.2.2.2.2.2.2.2.2.2.1 rfl)
      refine ⟨true, eg, fun _ K hK => ?_, fun h => absurd rfl h⟩
      have e34 := ((hA 34).trans (show _ = vs 10 by kernel_rfl)).trans (by first | exact hpre.1 rfl | exact hpre.2.1 rfl | exact hpre.2.2.1 rfl | exact hpre.2.2.2.1 rfl | exact hpre.2.2.2.2.1 rfl | exact hpre.2.2.2.2.2.1 rfl | exact hpre.2.2.2.2.2.2.1 rfl | exact hpre.2.2.2.2.2.2.2.1 rfl | exact hpre.2.2.2.2.2.2.2.2.1 rfl | exact hpre.2.2.2.2.2.2.2.2.2.1 rfl)
      have e35 := ((hA 35).trans (show _ = vs 11 by kernel_rfl)).trans (by first | exact hpre.1 rfl | exact hpre.2.1 rfl | exact hpre.2.2.1 rfl | exact hpre.2.2.2.1 rfl | exact hpre.2.2.2.2.1 rfl | exact hpre.2.2.2.2.2.1 rfl | exact hpre.2.2.2.2.2.2.1 rfl | exact hpre.2.2.2.2.2.2.2.1 rfl | exact hpre.2.2.2.2.2.2.2.2.1 rfl | exact hpre.2.2.2.2.2.2.2.2.2.1 rfl)
      clear hA hpre
      go_simp
      go_at_call 14
      refine (HM6.out Wx hB).mono ?_
      rintro e w3 ⟨gq, rfl, hu, hb3⟩
      refine hK _ _ (below_trans hB hb3) ⟨gq, rfl, hu⟩ (fun jz hj hz => ?_)
      match jz, hj, hz with
      | 0, _, hz => exact hz
      | 1, _, hz => exact hz
      | 2, _, hz => exact hz
      | 3, _, hz => exact hz
      | 4, _, hz => exact hz
      | 5, _, hz => exact hz
      | 6, _, hz => exact hz
      | 7, _, hz => exact hz
      | 8, _, hz => exact hz
      | 9, _, hz => exact hz
      | 10, _, hz => exact hz
      | 11, _, hz => exact hz
      | 12, hj, _ => exact absurd rfl hj
      | 13, _, hz => exact hz
      | 14, _, hz => exact hz
      | 15, _, hz => exact hz
      | 16, _, hz => exact hz
      | 17, _, hz => exact hz
      | 18, _, hz => exact hz
      | n + 19, _, hz => exact hz
    · intro vs Wx A hA hB hpre
      have eg := ((hA 29).trans (show _ = vs 5 by kernel_rfl)).trans (by first | exact hpre.1 rfl | exact hpre.2.1 rfl | exact hpre.2.2.1 rfl | exact hpre.2.2.2.1 rfl | exact hpre.2.2.2.2.1 rfl | exact hpre.2.2.2.2.2.1 rfl | exact hpre.2.2.2.2.2.2.1 rfl | exact hpre.2.2.2.2.2.2.2.1 rfl | exact hpre.2.2.2.2.2.2.2.2.1 rfl | exact hpre.2.2.2.2.2.2.2.2.2.1 rfl)
      refine ⟨true, eg, fun _ K hK => ?_, fun h => absurd rfl h⟩
      have e33 := ((hA 33).trans (show _ = vs 9 by kernel_rfl)).trans (by first | exact hpre.1 rfl | exact hpre.2.1 rfl | exact hpre.2.2.1 rfl | exact hpre.2.2.2.1 rfl | exact hpre.2.2.2.2.1 rfl | exact hpre.2.2.2.2.2.1 rfl | exact hpre.2.2.2.2.2.2.1 rfl | exact hpre.2.2.2.2.2.2.2.1 rfl | exact hpre.2.2.2.2.2.2.2.2.1 rfl | exact hpre.2.2.2.2.2.2.2.2.2.1 rfl)
      have hx12 : ∃ gx : Nat, vs 12 = .slice (some ⟨gx, 0, none⟩) l0.length l0.length ∧ BlAt Wx (.slice (some ⟨gx, 0, none⟩) l0.length l0.length) (marksV l1 l0) := by first | exact hpre.1 rfl | exact hpre.2.1 rfl | exact hpre.2.2.1 rfl | exact hpre.2.2.2.1 rfl | exact hpre.2.2.2.2.1 rfl | exact hpre.2.2.2.2.2.1 rfl | exact hpre.2.2.2.2.2.2.1 rfl | exact hpre.2.2.2.2.2.2.2.1 rfl | exact hpre.2.2.2.2.2.2.2.2.1 rfl | exact hpre.2.2.2.2.2.2.2.2.2.1 rfl
      obtain ⟨gx12, hv12, hh12⟩ := hx12
      have e36 := ((hA 36).trans (show _ = vs 12 by kernel_rfl)).trans hv12
      clear hA hpre
      go_simp
      go_at_call 13
      refine (same_eq _ _ _ Wx (HV.out.far hB) hh12).mono ?_
      rintro e w3 ⟨rfl, hb3⟩
      refine hK _ _ (below_trans hB hb3) rfl (fun jz hj hz => ?_)
      match jz, hj, hz with
      | 0, _, hz => exact hz
      | 1, _, hz => exact hz
      | 2, _, hz => exact hz
      | 3, _, hz => exact hz
      | 4, _, hz => exact hz
      | 5, _, hz => exact hz
      | 6, _, hz => exact hz
      | 7, _, hz => exact hz
      | 8, _, hz => exact hz
      | 9, _, hz => exact hz
      | 10, _, hz => exact hz
      | 11, _, hz => exact hz
      | 12, _, hz => exact hz.elim fun gz hq => ⟨gz, hq.1, BlAt.far hq.2 hb3⟩
      | 13, _, hz => exact hz
      | 14, _, hz => exact hz
      | 15, _, hz => exact hz
      | 16, _, hz => exact hz
      | 17, _, hz => exact hz
      | 18, _, hz => exact hz
      | n + 19, _, hz => exact hz
    · intro vs Wx A hA hB hpre K hK
      have e29 := ((hA 29).trans (show _ = vs 5 by kernel_rfl)).trans (by first | exact hpre.1 rfl | exact hpre.2.1 rfl | exact hpre.2.2.1 rfl | exact hpre.2.2.2.1 rfl | exact hpre.2.2.2.2.1 rfl | exact hpre.2.2.2.2.2.1 rfl | exact hpre.2.2.2.2.2.2.1 rfl | exact hpre.2.2.2.2.2.2.2.1 rfl | exact hpre.2.2.2.2.2.2.2.2.1 rfl | exact hpre.2.2.2.2.2.2.2.2.2.1 rfl)
      have e37 := ((hA 37).trans (show _ = vs 13 by kernel_rfl)).trans (by first | exact hpre.1 rfl | exact hpre.2.1 rfl | exact hpre.2.2.1 rfl | exact hpre.2.2.2.1 rfl | exact hpre.2.2.2.2.1 rfl | exact hpre.2.2.2.2.2.1 rfl | exact hpre.2.2.2.2.2.2.1 rfl | exact hpre.2.2.2.2.2.2.2.1 rfl | exact hpre.2.2.2.2.2.2.2.2.1 rfl | exact hpre.2.2.2.2.2.2.2.2.2.1 rfl)
      clear hA hpre
      go_simp
      first | exact hK _ _ hB rfl (fun _ _ h => h) | exact hK _ _ hB trivial (fun _ _ h => h) | (rw [if_neg (by omega)]; go_simp; exact hK _ _ hB rfl (fun _ _ h => h))
    · intro vs Wx A hA hB hpre K hK
      have e38 := ((hA 38).trans (show _ = vs 14 by kernel_rfl)).trans (by first | exact hpre.1 rfl | exact hpre.2.1 rfl | exact hpre.2.2.1 rfl | exact hpre.2.2.2.1 rfl | exact hpre.2.2.2.2.1 rfl | exact hpre.2.2.2.2.2.1 rfl | exact hpre.2.2.2.2.2.2.1 rfl | exact hpre.2.2.2.2.2.2.2.1 rfl | exact hpre.2.2.2.2.2.2.2.2.1 rfl | exact hpre.2.2.2.2.2.2.2.2.2.1 rfl)
      clear hA hpre
      go_simp
      first | exact hK _ _ hB rfl (fun _ _ h => h) | exact hK _ _ hB trivial (fun _ _ h => h) | (rw [if_neg (by omega)]; go_simp; exact hK _ _ hB rfl (fun _ _ h => h))
    · intro vs Wx A hA hB hpre
      have eg := ((hA 39).trans (show _ = vs 15 by kernel_rfl)).trans (by first | exact hpre.1 rfl | exact hpre.2.1 rfl | exact hpre.2.2.1 rfl | exact hpre.2.2.2.1 rfl | exact hpre.2.2.2.2.1 rfl | exact hpre.2.2.2.2.2.1 rfl | exact hpre.2.2.2.2.2.2.1 rfl | exact hpre.2.2.2.2.2.2.2.1 rfl | exact hpre.2.2.2.2.2.2.2.2.1 rfl | exact hpre.2.2.2.2.2.2.2.2.2.1 rfl)
      refine ⟨true, eg, fun _ K hK => ?_, fun h => absurd rfl h⟩
      clear hA hpre
      go_simp
      go_at_call 10
      refine (works_any _).mono ?_
      rintro e w3 ⟨rfl, hb3⟩
      refine hK _ _ (below_trans hB hb3) rfl (fun jz hj hz => ?_)
      match jz, hj, hz with
      | 0, _, hz => exact hz
      | 1, _, hz => exact hz
      | 2, _, hz => exact hz
      | 3, _, hz => exact hz
      | 4, _, hz => exact hz
      | 5, _, hz => exact hz
      | 6, _, hz => exact hz
      | 7, _, hz => exact hz
      | 8, _, hz => exact hz
      | 9, _, hz => exact hz
      | 10, _, hz => exact hz
      | 11, _, hz => exact hz
      | 12, _, hz => exact hz.elim fun gz hq => ⟨gz, hq.1, BlAt.far hq.2 hb3⟩
      | 13, _, hz => exact hz
      | 14, _, hz => exact hz
      | 15, _, hz => exact hz
      | 16, _, hz => exact hz
      | 17, _, hz => exact hz
      | 18, _, hz => exact hz
      | n + 19, _, hz => exact hz
    · intro vs Wx A hA hB hpre K hK
      have e39 := ((hA 39).trans (show _ = vs 15 by kernel_rfl)).trans (by first | exact hpre.1 rfl | exact hpre.2.1 rfl | exact hpre.2.2.1 rfl | exact hpre.2.2.2.1 rfl | exact hpre.2.2.2.2.1 rfl | exact hpre.2.2.2.2.2.1 rfl | exact hpre.2.2.2.2.2.2.1 rfl | exact hpre.2.2.2.2.2.2.2.1 rfl | exact hpre.2.2.2.2.2.2.2.2.1 rfl | exact hpre.2.2.2.2.2.2.2.2.2.1 rfl)
      have e40 := ((hA 40).trans (show _ = vs 16 by kernel_rfl)).trans (by first | exact hpre.1 rfl | exact hpre.2.1 rfl | exact hpre.2.2.1 rfl | exact hpre.2.2.2.1 rfl | exact hpre.2.2.2.2.1 rfl | exact hpre.2.2.2.2.2.1 rfl | exact hpre.2.2.2.2.2.2.1 rfl | exact hpre.2.2.2.2.2.2.2.1 rfl | exact hpre.2.2.2.2.2.2.2.2.1 rfl | exact hpre.2.2.2.2.2.2.2.2.2.1 rfl)
      clear hA hpre
      go_simp
      first | exact hK _ _ hB rfl (fun _ _ h => h) | exact hK _ _ hB trivial (fun _ _ h => h) | (rw [if_neg (by omega)]; go_simp; exact hK _ _ hB rfl (fun _ _ h => h))
    · intro vs Wx A hA hB hpre K hK
      have e41 := ((hA 41).trans (show _ = vs 17 by kernel_rfl)).trans (by first | exact hpre.1 rfl | exact hpre.2.1 rfl | exact hpre.2.2.1 rfl | exact hpre.2.2.2.1 rfl | exact hpre.2.2.2.2.1 rfl | exact hpre.2.2.2.2.2.1 rfl | exact hpre.2.2.2.2.2.2.1 rfl | exact hpre.2.2.2.2.2.2.2.1 rfl | exact hpre.2.2.2.2.2.2.2.2.1 rfl | exact hpre.2.2.2.2.2.2.2.2.2.1 rfl)
      clear hA hpre
      go_simp
      first | exact hK _ _ hB rfl (fun _ _ h => h) | exact hK _ _ hB trivial (fun _ _ h => h) | (rw [if_neg (by omega)]; go_simp; exact hK _ _ hB rfl (fun _ _ h => h))
    · intro vs Wx hB hF
      have hL : vs 18 = .bool true := hF 18 (by decide)
      have HBW := Lib.hid (below_trans HB5.out hB)
      clear hF hB
      simp only [Ri.puts]
      go_simp
      go_wp2_with fail
      go_ret
      exact ⟨by first | rfl | (rw [hL]; rfl) | simp [hL], HBW.out⟩

/-! ### the row's step -/
theorem laidOut : laidOutB Try.prog = true := by kernel_rfl
theorem lifted (os : Os) (started : os.Started) (H : Type) (enc : TypeId × Value → H) :
    ReturnsInHanded {} Try.checked os 6 .any (Rows.twicePartsSpec.pre6 enc Try.prog Try.f6 Rows.twicePartsRow.domain false) (Rows.twicePartsSpec.post enc Try.prog Try.f6 false true false false) := by
  refine returnsInHanded_of_change_shaped (C := Try.checked) own started (by kernel_rfl) Try.func6
    (ChangeSpec.witness6 (enc := enc) (C := Try.checked) false ⟨#[], #[.slice none 0 0, .slice none 0 0], []⟩ 8 (by kernel_rfl) (by kernel_rfl) (by kernel_rfl) (by kernel_rfl)) ?_
  intro W base args ds gs before hval0 hW hcnd hwt _ _
  have hval : ∀ (j : Nat) t v, Try.f6.params[j]? = some t → args[j]? = some v → Value.okWide Try.prog W .any base t v := hval0
  have hW' := hW
  obtain ⟨p, q, hA0, hV, rfl, hfz, hnd⟩ := hW
  have hA : DataW.TrodAll enc Try.prog W 0 (fun _ => true) true Try.f6.params.toList args.toList ds p := hA0
  rw [Try.params6] at hA hval hwt
  obtain ⟨v0, vs0, d0, ds0, p0, q0, hargs, rfl, rfl, h0, r0⟩ := trodAll_cons hA
  obtain ⟨v1, vs1, d1, ds1, p1, q1, rfl, rfl, rfl, h1, r1⟩ := trodAll_cons r0
  obtain ⟨rfl, rfl, rfl⟩ := trodAll_nil r1
  obtain rfl : args = #[v0, v1] := by cases args; simp_all
  obtain ⟨rfl, rfl⟩ := trodVars_none hV
  have hwl : ∀ z, (z ∈ d0.weights Try.prog 26 → z ≤ reachBytes) ∧ (z ∈ d1.weights Try.prog 26 → z ≤ reachBytes) := fun z => by
    have h := List.all_eq_true.1 hwt z
    simp only [decide_eq_true_eq] at h
    refine ⟨fun hz => h ?_, fun hz => h ?_⟩
    all_goals
      simp only [List.cons_append, List.nil_append, List.toList_toArray, List.append_nil, DataW.weightsEach, List.mem_append]
      first | exact Or.inl hz | exact Or.inr (Or.inl hz) | exact Or.inr (Or.inr (Or.inl hz)) | exact Or.inr (Or.inr (Or.inr (Or.inl hz))) | simp [hz]
  have k0 := h0
  have lt0 : ∀ x ∈ p0, x.block < W.heap.size := by obtain ⟨m, hm⟩ := k0; exact DataW.trod_lt m _ _ _ hm
  obtain ⟨l0, g0, n0, z0⟩ := open_lns (okWide_slice Try.underlying26 (hval 0 26 v0 rfl rfl)) h0 (fun z hz => (hwl z).1 hz)
  have k1 := h1
  have lt1 : ∀ x ∈ p1, x.block < W.heap.size := by obtain ⟨m, hm⟩ := k1; exact DataW.trod_lt m _ _ _ hm
  obtain ⟨l1, g1, n1, z1⟩ := open_lns (okWide_slice Try.underlying26 (hval 1 26 v1 rfl rfl)) h1 (fun z hz => (hwl z).2 hz)
  clear hA0 hval0
  refine (walk W v0 l0 g0 n0 z0 v1 l1 g1 n1 z1).mono fun e W' ⟨he, bel⟩ => ?_
  subst he
  exact ⟨_, rfl, _, _, _, [], _, [], hW', (trodAll_cons_mk (shut_bool Try.underlying4 _) trodAll_mk0), (trodAll_cons_mk (Below.trod laidOut (by kernel_rfl) (of_decide_eq_true (by kernel_rfl)) k0 bel lt0) (trodAll_cons_mk (Below.trod laidOut (by kernel_rfl) (of_decide_eq_true (by kernel_rfl)) k1 bel lt1) trodAll_mk0)), rfl, bel.frame _, fun h => by cases h⟩

theorem over : Rows.twicePartsRow.holds Try.pinned (OpenSpec.ofChange Rows.twicePartsSpec) :=
  OpenClaim.holds_of_wide 6 Try.f6 rfl rfl rfl rfl rfl rfl rfl ⟨rfl, rfl, rfl, rfl, rfl⟩ rfl rfl rfl rfl rfl (by kernel_rfl) Try.func6 (by kernel_rfl)
    (of_decide_eq_true (by kernel_rfl)) (by unfold Func.isWrapper; first | (rw [if_pos (by decide +kernel)]; kernel_rfl) | (rw [if_neg (by decide +kernel)]; exact ⟨rfl, rfl⟩))
    (fun os started H enc _ => lifted os started H enc)

/-- The statement. -/
theorem proved : Rows.TwicePartsSaid := over
end Go.Proofs.Ytmgjnjbiljpneaa.twiceParts
namespace Go.Proofs.Ytmgjnjbiljpneaa
theorem twiceParts_holds : Rows.TwicePartsSaid := twiceParts.proved
#print axioms twiceParts_holds
end Go.Proofs.Ytmgjnjbiljpneaa
