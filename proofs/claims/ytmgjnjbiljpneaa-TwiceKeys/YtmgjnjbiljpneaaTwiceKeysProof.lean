/-
  TwiceKeys holds for every service: what makes it the same one is what the chapter says.
-/
import Derived.Test.YtmgjnjbiljpneaaRows
import Derived.WalkKit
import Derived.ProofKit
import Derived.OpenShut
import Derived.ShutString
import Derived.Below
import Derived.Carry
import Derived.Laws.Cover2
import Derived.HandedShaped
import Derived.Test.YtmgjnjbiljpneaaIWorks
import Derived.Test.YtmgjnjbiljpneaaIRMarks
import Derived.Test.YtmgjnjbiljpneaaIRow
import Derived.Test.YtmgjnjbiljpneaaRInv
import Derived.Test.YtmgjnjbiljpneaaIOpen
namespace Go.Proofs.Ytmgjnjbiljpneaa.twiceKeys
open Go.ChangeShapes Go.WideShapes Go.ChangeAt Go.RowKit
open Io
open Cm (Ln LnsAt lnv LnOk below_alloc below_trans)
open Tw
set_option linter.unusedVariables false
set_option linter.unusedSimpArgs false
set_option maxRecDepth 100000

theorem own : ownKnob Try.prog.godebug = none := by kernel_rfl

/-! ### the walk: the law returns true -/
set_option maxHeartbeats 16000000 in
theorem walk (w : World) (x0 : Ln) (m0 : Value) (h0 : TxAt All w m0 x0.mods) (z0 : LnOk x0) :
    Calls Try.prog 3 #[lnv x0 m0] w fun e w' => e = .returned (.bool true) ∧ Below w.heap.size w w' := by
  obtain ⟨la0, lk0, rfl, f1, f2⟩ := Cm.TxAt.form h0
  have HB := Lib.hid (below_alloc w (.cells #[.string (mk x0.proc), .slice la0 x0.mods.length lk0, .int .i64 x0.date, .int .i64 x0.units, .int .i64 x0.billed, .int .i64 x0.prior] 24))
  have HX := Lib.hid (Cm.LnBox.new w x0 (.slice la0 x0.mods.length lk0) 24)
  have HM := Lib.hid (TxAt.move h0 (Below.moves (below_alloc w (.cells #[.string (mk x0.proc), .slice la0 x0.mods.length lk0, .int .i64 x0.date, .int .i64 x0.units, .int .i64 x0.billed, .int .i64 x0.prior] 24))))
  clear h0
  go_enter Try.func3, Try.ntmps3
  go_upto_region 1 with fail
  generalize w.alloc (.cells #[.string (mk x0.proc), .slice la0 x0.mods.length lk0, .int .i64 x0.date, .int .i64 x0.units, .int .i64 x0.billed, .int .i64 x0.prior] 24) = W at *
  obtain ⟨c0, c1, c2, c3, c4, c5⟩ := HX.out
  have HBa := Lib.hid (below_alloc W (.cells #[.string (mk x0.proc), .slice la0 x0.mods.length lk0, .int .i64 x0.date, .int .i64 x0.units, .int .i64 x0.billed, .int .i64 x0.prior] 24))
  have HLt := Lib.hid (light_any (.slice (some ⟨W.heap.size, 0, none⟩) 1 1) [x0] (W.alloc (.cells #[.string (mk x0.proc), .slice la0 x0.mods.length lk0, .int .i64 x0.date, .int .i64 x0.units, .int .i64 x0.billed, .int .i64 x0.prior] 24)) (lns_of (L := [(x0, .slice la0 x0.mods.length lk0)]) (cs_one (alloc_new W #[.string (mk x0.proc), .slice la0 x0.mods.length lk0, .int .i64 x0.date, .int .i64 x0.units, .int .i64 x0.billed, .int .i64 x0.prior] 24)) (fun t ht => by simp at ht; rw [ht]; exact TxAt.move HM.out (Below.moves HBa.out)) rfl (by simp)) (by simpa using z0) (by simp))
  go_wp2_with fail
  go_at_call 9
  refine HLt.out.mono ?_
  rintro e w1 ⟨⟨bl, rfl, hbl⟩, hb1⟩
  have HB1 := Lib.hid (below_trans HB.out (below_trans HBa.out hb1))
  have HX1 := Lib.hid (Cm.LnBox.grw HX.out (below_trans HBa.out hb1))
  have HM1 := Lib.hid (TxAt.move HM.out (Below.moves (below_trans HBa.out hb1)))
  clear hb1 HB HX HM HLt HBa c0 c1 c2 c3 c4 c5
  cases bl with
  | false =>
    clear hbl
    go_wp2_with (go_at_call 10; refine (works_any _).mono ?_; rintro e w9 ⟨rfl, hb9⟩; have HB9 := Lib.hid (below_trans HB1.out hb9); clear hb9)
    go_ret
    exact ⟨rfl, HB9.out⟩
  | true =>
  have hky := (hbl rfl).2 x0 (by simp)
  clear hbl
  have HK1 := Lib.hid fun W' (hW : Below w1.heap.size w1 W') => key_any x0 _ W' (TxAt.move HM1.out (Below.moves hW)) hky
  have HK2 := Lib.hid fun W' (hW : Below w1.heap.size w1 W') => rkey_any x0 _ W' (TxAt.move HM1.out (Below.moves hW)) hky
  have HXK := Lib.hid fun W' (hW : Below w1.heap.size w1 W') => Cm.LnBox.grw HX1.out hW
  have HD := Lib.hid (Below.drew (Below.refl w1.heap.size w1))
  clear hky HX1 HM1 z0
  generalize keyV x0 = K at *
  go_upto_region 3 with fail
  refine Ri.wp_region_lasting_g (by kernel_rfl) (by kernel_rfl) (by kernel_rfl) (fun Wx => Below w1.heap.size w1 Wx) (fun kz vs wz => (fun kx vx wx => match kx with | 0 => vx = lnv x0 (.slice la0 x0.mods.length lk0) | 1 => vx = .string (mk K) | 2 => vx = lnv x0 (.slice la0 x0.mods.length lk0) | 3 => vx = .string (mk K) | 4 => vx = .bool true | 5 => vx = .bool true | 6 => vx = .bool true | 7 => vx = .bool true | 8 => vx = .bool true | _ => True : Nat → Value → World → Prop) kz (vs kz) wz) (fun kz => [kz]) (by kernel_rfl) (fun jz vs iz vz wz hiz hz => Ri.loc_own (F := (fun kx vx wx => match kx with | 0 => vx = lnv x0 (.slice la0 x0.mods.length lk0) | 1 => vx = .string (mk K) | 2 => vx = lnv x0 (.slice la0 x0.mods.length lk0) | 3 => vx = .string (mk K) | 4 => vx = .bool true | 5 => vx = .bool true | 6 => vx = .bool true | 7 => vx = .bool true | 8 => vx = .bool true | _ => True : Nat → Value → World → Prop)) jz vs iz vz wz hiz hz) HD.out ⟨Or.inl ⟨rfl, ?_⟩, Or.inl ⟨rfl, ?_⟩, Or.inl ⟨rfl, ?_⟩, Or.inl ⟨rfl, ?_⟩, Or.inl ⟨rfl, ?_⟩, Or.inl ⟨rfl, ?_⟩, Or.inr ⟨5, true, 13, rfl, rfl, ?_⟩, Or.inl ⟨rfl, ?_⟩, Or.inl ⟨rfl, ?_⟩, trivial⟩ ?_
  · intro vs Wx A hA hB hpre K hK
    have e1 := (hA 1).trans (show _ = Value.pointer (some ⟨w.heap.size, 0, none⟩) by kernel_rfl)
    obtain ⟨c0, c1, c2, c3, c4, c5⟩ := HXK.out Wx hB
    clear hA hpre
    go_simp
    first | exact hK _ _ hB rfl (fun _ _ h => h) | exact hK _ _ hB trivial (fun _ _ h => h) | (rw [if_neg (by omega)]; go_simp; exact hK _ _ hB rfl (fun _ _ h => h))
  · intro vs Wx A hA hB hpre K hK
    have e8 := ((hA 8).trans (show _ = vs 0 by kernel_rfl)).trans (by first | exact hpre.1 rfl | exact hpre.2.1 rfl | exact hpre.2.2.1 rfl | exact hpre.2.2.2.1 rfl | exact hpre.2.2.2.2.1 rfl | exact hpre.2.2.2.2.2.1 rfl | exact hpre.2.2.2.2.2.2.1 rfl | exact hpre.2.2.2.2.2.2.2.1 rfl | exact hpre.2.2.2.2.2.2.2.2.1 rfl | exact hpre.2.2.2.2.2.2.2.2.2.1 rfl)
    clear hA hpre
    go_simp
    go_at_call 11
    refine (HK1.out _ hB).mono ?_
    rintro e w3 ⟨rfl, hb3⟩
    exact hK _ _ (below_trans hB hb3) rfl (fun _ _ h => h)
  · intro vs Wx A hA hB hpre K hK
    have e1 := (hA 1).trans (show _ = Value.pointer (some ⟨w.heap.size, 0, none⟩) by kernel_rfl)
    obtain ⟨c0, c1, c2, c3, c4, c5⟩ := HXK.out Wx hB
    clear hA hpre
    go_simp
    first | exact hK _ _ hB rfl (fun _ _ h => h) | exact hK _ _ hB trivial (fun _ _ h => h) | (rw [if_neg (by omega)]; go_simp; exact hK _ _ hB rfl (fun _ _ h => h))
  · intro vs Wx A hA hB hpre K hK
    have e10 := ((hA 10).trans (show _ = vs 2 by kernel_rfl)).trans (by first | exact hpre.1 rfl | exact hpre.2.1 rfl | exact hpre.2.2.1 rfl | exact hpre.2.2.2.1 rfl | exact hpre.2.2.2.2.1 rfl | exact hpre.2.2.2.2.2.1 rfl | exact hpre.2.2.2.2.2.2.1 rfl | exact hpre.2.2.2.2.2.2.2.1 rfl | exact hpre.2.2.2.2.2.2.2.2.1 rfl | exact hpre.2.2.2.2.2.2.2.2.2.1 rfl)
    clear hA hpre
    go_simp
    go_at_call 12
    refine (HK2.out _ hB).mono ?_
    rintro e w3 ⟨rfl, hb3⟩
    exact hK _ _ (below_trans hB hb3) rfl (fun _ _ h => h)
  · intro vs Wx A hA hB hpre K hK
    have e9 := ((hA 9).trans (show _ = vs 1 by kernel_rfl)).trans (by first | exact hpre.1 rfl | exact hpre.2.1 rfl | exact hpre.2.2.1 rfl | exact hpre.2.2.2.1 rfl | exact hpre.2.2.2.2.1 rfl | exact hpre.2.2.2.2.2.1 rfl | exact hpre.2.2.2.2.2.2.1 rfl | exact hpre.2.2.2.2.2.2.2.1 rfl | exact hpre.2.2.2.2.2.2.2.2.1 rfl | exact hpre.2.2.2.2.2.2.2.2.2.1 rfl)
    have e11 := ((hA 11).trans (show _ = vs 3 by kernel_rfl)).trans (by first | exact hpre.1 rfl | exact hpre.2.1 rfl | exact hpre.2.2.1 rfl | exact hpre.2.2.2.1 rfl | exact hpre.2.2.2.2.1 rfl | exact hpre.2.2.2.2.2.1 rfl | exact hpre.2.2.2.2.2.2.1 rfl | exact hpre.2.2.2.2.2.2.2.1 rfl | exact hpre.2.2.2.2.2.2.2.2.1 rfl | exact hpre.2.2.2.2.2.2.2.2.2.1 rfl)
    clear hA hpre
    go_simp
    first | exact hK _ _ hB rfl (fun _ _ h => h) | exact hK _ _ hB trivial (fun _ _ h => h) | (rw [if_neg (by omega)]; go_simp; exact hK _ _ hB rfl (fun _ _ h => h))
  · intro vs Wx A hA hB hpre K hK
    have e12 := ((hA 12).trans (show _ = vs 4 by kernel_rfl)).trans (by first | exact hpre.1 rfl | exact hpre.2.1 rfl | exact hpre.2.2.1 rfl | exact hpre.2.2.2.1 rfl | exact hpre.2.2.2.2.1 rfl | exact hpre.2.2.2.2.2.1 rfl | exact hpre.2.2.2.2.2.2.1 rfl | exact hpre.2.2.2.2.2.2.2.1 rfl | exact hpre.2.2.2.2.2.2.2.2.1 rfl | exact hpre.2.2.2.2.2.2.2.2.2.1 rfl)
    clear hA hpre
    go_simp
    first | exact hK _ _ hB rfl (fun _ _ h => h) | exact hK _ _ hB trivial (fun _ _ h => h) | (rw [if_neg (by omega)]; go_simp; exact hK _ _ hB rfl (fun _ _ h => h))
  · intro vs Wx A hA hB hpre
    have eg := ((hA 13).trans (show _ = vs 5 by kernel_rfl)).trans (by first | exact hpre.1 rfl | exact hpre.2.1 rfl | exact hpre.2.2.1 rfl | exact hpre.2.2.2.1 rfl | exact hpre.2.2.2.2.1 rfl | exact hpre.2.2.2.2.2.1 rfl | exact hpre.2.2.2.2.2.2.1 rfl | exact hpre.2.2.2.2.2.2.2.1 rfl | exact hpre.2.2.2.2.2.2.2.2.1 rfl | exact hpre.2.2.2.2.2.2.2.2.2.1 rfl)
    refine ⟨true, eg, fun _ K hK => ?_, fun h => absurd rfl h⟩
    clear hA hpre
    go_simp
    go_at_call 10
    refine (works_any _).mono ?_
    rintro e w3 ⟨rfl, hb3⟩
    exact hK _ _ (below_trans hB hb3) rfl (fun _ _ h => h)
  · intro vs Wx A hA hB hpre K hK
    have e13 := ((hA 13).trans (show _ = vs 5 by kernel_rfl)).trans (by first | exact hpre.1 rfl | exact hpre.2.1 rfl | exact hpre.2.2.1 rfl | exact hpre.2.2.2.1 rfl | exact hpre.2.2.2.2.1 rfl | exact hpre.2.2.2.2.2.1 rfl | exact hpre.2.2.2.2.2.2.1 rfl | exact hpre.2.2.2.2.2.2.2.1 rfl | exact hpre.2.2.2.2.2.2.2.2.1 rfl | exact hpre.2.2.2.2.2.2.2.2.2.1 rfl)
    have e14 := ((hA 14).trans (show _ = vs 6 by kernel_rfl)).trans (by first | exact hpre.1 rfl | exact hpre.2.1 rfl | exact hpre.2.2.1 rfl | exact hpre.2.2.2.1 rfl | exact hpre.2.2.2.2.1 rfl | exact hpre.2.2.2.2.2.1 rfl | exact hpre.2.2.2.2.2.2.1 rfl | exact hpre.2.2.2.2.2.2.2.1 rfl | exact hpre.2.2.2.2.2.2.2.2.1 rfl | exact hpre.2.2.2.2.2.2.2.2.2.1 rfl)
    clear hA hpre
    go_simp
    first | exact hK _ _ hB rfl (fun _ _ h => h) | exact hK _ _ hB trivial (fun _ _ h => h) | (rw [if_neg (by omega)]; go_simp; exact hK _ _ hB rfl (fun _ _ h => h))
  · intro vs Wx A hA hB hpre K hK
    have e15 := ((hA 15).trans (show _ = vs 7 by kernel_rfl)).trans (by first | exact hpre.1 rfl | exact hpre.2.1 rfl | exact hpre.2.2.1 rfl | exact hpre.2.2.2.1 rfl | exact hpre.2.2.2.2.1 rfl | exact hpre.2.2.2.2.2.1 rfl | exact hpre.2.2.2.2.2.2.1 rfl | exact hpre.2.2.2.2.2.2.2.1 rfl | exact hpre.2.2.2.2.2.2.2.2.1 rfl | exact hpre.2.2.2.2.2.2.2.2.2.1 rfl)
    clear hA hpre
    go_simp
    first | exact hK _ _ hB rfl (fun _ _ h => h) | exact hK _ _ hB trivial (fun _ _ h => h) | (rw [if_neg (by omega)]; go_simp; exact hK _ _ hB rfl (fun _ _ h => h))
  · intro vs Wx hB hF
    have hL : vs 8 = .bool true := hF 8 (by decide)
    have HBW := Lib.hid (below_trans HB1.out hB)
    clear hF hB
    simp only [Ri.puts]
    go_simp
    go_wp2_with fail
    go_ret
    exact ⟨by first | rfl | (rw [hL]; rfl) | simp [hL], HBW.out⟩

/-! ### the row's step -/
theorem laidOut : laidOutB Try.prog = true := by kernel_rfl
theorem lifted (os : Os) (started : os.Started) (H : Type) (enc : TypeId × Value → H) :
    ReturnsInHanded {} Try.checked os 3 .any (Rows.twiceKeysSpec.pre6 enc Try.prog Try.f3 Rows.twiceKeysRow.domain false) (Rows.twiceKeysSpec.post enc Try.prog Try.f3 false true false false) := by
  refine returnsInHanded_of_change_shaped (C := Try.checked) own started (by kernel_rfl) Try.func3
    (ChangeSpec.witness6 (enc := enc) (C := Try.checked) false ⟨#[], #[.agg #[.string ByteArray.empty, .slice none 0 0, .int .i64 0, .int .i64 0, .int .i64 0, .int .i64 0]], []⟩ 8 (by kernel_rfl) (by kernel_rfl) (by kernel_rfl) (by kernel_rfl)) ?_
  intro W base args ds gs before hval0 hW hcnd hwt _ _
  have hval : ∀ (j : Nat) t v, Try.f3.params[j]? = some t → args[j]? = some v → Value.okWide Try.prog W .any base t v := hval0
  have hW' := hW
  obtain ⟨p, q, hA0, hV, rfl, hfz, hnd⟩ := hW
  have hA : DataW.TrodAll enc Try.prog W 0 (fun _ => true) true Try.f3.params.toList args.toList ds p := hA0
  rw [Try.params3] at hA hval hwt
  obtain ⟨v0, vs0, d0, ds0, p0, q0, hargs, rfl, rfl, h0, r0⟩ := trodAll_cons hA
  obtain ⟨rfl, rfl, rfl⟩ := trodAll_nil r0
  obtain rfl : args = #[v0] := by cases args; simp_all
  obtain ⟨rfl, rfl⟩ := trodVars_none hV
  have hwl : ∀ z, (z ∈ d0.weights Try.prog 24 → z ≤ reachBytes) := fun z => by
    have h := List.all_eq_true.1 hwt z
    simp only [decide_eq_true_eq] at h
    refine fun hz => h ?_
    all_goals
      simp only [List.cons_append, List.nil_append, List.toList_toArray, List.append_nil, DataW.weightsEach, List.mem_append]
      first | exact Or.inl hz | exact Or.inr (Or.inl hz) | exact Or.inr (Or.inr (Or.inl hz)) | exact Or.inr (Or.inr (Or.inr (Or.inl hz))) | simp [hz]
  have k0 := h0
  have lt0 : ∀ x ∈ p0, x.block < W.heap.size := by obtain ⟨m, hm⟩ := k0; exact DataW.trod_lt m _ _ _ hm
  obtain ⟨x0, m0, rfl, g0, z0⟩ := open_line (hval 0 24 v0 rfl rfl) h0 (fun z hz => hwl z hz)
  clear hA0 hval0
  refine (walk W x0 m0 g0 z0).mono fun e W' ⟨he, bel⟩ => ?_
  subst he
  exact ⟨_, rfl, _, _, _, [], _, [], hW', (trodAll_cons_mk (shut_bool Try.underlying4 _) trodAll_mk0), (trodAll_cons_mk (Below.trod laidOut (by kernel_rfl) (of_decide_eq_true (by kernel_rfl)) k0 bel lt0) trodAll_mk0), rfl, bel.frame _, fun h => by cases h⟩

theorem over : Rows.twiceKeysRow.holds Try.pinned (OpenSpec.ofChange Rows.twiceKeysSpec) :=
  OpenClaim.holds_of_wide 3 Try.f3 rfl rfl rfl rfl rfl rfl rfl ⟨rfl, rfl, rfl, rfl, rfl⟩ rfl rfl rfl rfl rfl (by kernel_rfl) Try.func3 (by kernel_rfl)
    (of_decide_eq_true (by kernel_rfl)) (by unfold Func.isWrapper; first | (rw [if_pos (by decide +kernel)]; kernel_rfl) | (rw [if_neg (by decide +kernel)]; exact ⟨rfl, rfl⟩))
    (fun os started H enc _ => lifted os started H enc)

/-- The statement. -/
theorem proved : Rows.TwiceKeysSaid := over
end Go.Proofs.Ytmgjnjbiljpneaa.twiceKeys
namespace Go.Proofs.Ytmgjnjbiljpneaa
theorem twiceKeys_holds : Rows.TwiceKeysSaid := twiceKeys.proved
#print axioms twiceKeys_holds
end Go.Proofs.Ytmgjnjbiljpneaa
