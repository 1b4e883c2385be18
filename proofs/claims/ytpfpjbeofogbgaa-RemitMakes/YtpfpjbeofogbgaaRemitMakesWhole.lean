/-
  The statement RemitMakes (21.1, 21.2): what is paid now, and taken back, of any entries, is what the chapter says; for all that was told, all entries, all that is held.
-/
import Derived.WalkKit
import Derived.ProofKit
import Derived.OpenShut
import Derived.ShutString
import Derived.Below
import Derived.Carry
import Derived.Laws.Cover2
import Derived.HandedShaped
import Derived.Test.YtpfpjbeofogbgaaRows
import Derived.Test.YtpfpjbeofogbgaaMm20
import Derived.Test.YtpfpjbeofogbgaaMm27
import Derived.Test.YtpfpjbeofogbgaaMm28
import Derived.Test.YtpfpjbeofogbgaaMm21
namespace Go.Proofs.Ytpfpjbeofogbgaa.remitMakes
open Go.ChangeShapes Go.WideShapes Go.ChangeAt Go.RowKit
open Sv (Ca Sr Cp SvsAt CasAt CpsAt CpCells cpv cpe cp0 four six CpOk checkE Bd Sm I64)
open Re
open Bk (keepB below_alloc below_trans alloc_new)
open Go.ChangeMaps (open_string)
set_option linter.unusedVariables false
set_option linter.unusedSimpArgs false
set_option maxRecDepth 100000
theorem own : ownKnob Try.prog.godebug = none := by kernel_rfl
set_option maxHeartbeats 16000000 in
theorem walk (w : World) (a0 : Int) (z0 : Sv.I64 a0) (v1 : Value) (l1 : List Cp) (h1 : CpsAt All w v1 l1) (y1 : l1.length ≤ 281474976710656) (z1 : ∀ x ∈ l1, So.OpC x) (v2 : Value) (l2 : List Bk.En) (h2 : Bk.EnsAt All w v2 l2) (z2 : ∀ x ∈ l2, Bk.EnOk x) (a3 : Int) (z3 : Sv.I64 a3) :
  Calls Try.prog 3 #[.int .i64 a0, v1, v2, .int .i64 a3] w fun e w' => e = .returned (.bool true) ∧ Below w.heap.size w w' := by
 have HW := Lib.hid works_any
 obtain ⟨ta, tc, rfl, t1, t2⟩ := h1.form
 obtain ⟨a, cap, rfl, f1, f2⟩ := h2.form
 have HT : Hid (∀ w', Below w.heap.size w w' → CpsAt All w' (.slice ta l1.length tc) l1) := fun w' hb => h1.grw hb
 have HE : Hid (∀ w', Below w.heap.size w w' → Bk.EnsAt All w' (.slice a l2.length cap) l2) := fun w' hb => h2.grw hb
 have HZT : Hid (∀ x ∈ l1, CpOk x) := fun x hx => (z1 x hx).1
 have HZ := Lib.hid z2
 have HI3 := Lib.hid z3
 have HLI := Lib.hid (light_any l1 l2 _ _ w h1 h2 (fun x hx => (z1 x hx).2) z2)
 clear h1 h2 z1 z2 z3
 go_enter Try.func3, Try.ntmps3
 go_wp2_with fail
 try (go_at_call 9)
 refine HLI.out.mono ?_
 rintro e w1 ⟨⟨b, rfl, hb⟩, hbw⟩
 have HB1 := Lib.hid hbw
 have HLP := Lib.hid hb
 clear hbw hb HLI
 cases b with
 | false =>
  go_wp2_with (first | (go_at_call 10; refine (HW.out _).mono ?_; rintro e w2 ⟨rfl, hb⟩; have HB2 : Hid (Below w.heap.size w w2) := below_trans HB1.out hb; clear hb))
  go_ret
  exact ⟨rfl, HB2.out⟩
 | true =>
 obtain ⟨hl1, hl2, hl3⟩ := HLP.out rfl
 have HMK := Lib.hid (make_any a0 l1 l2 a3 _ _ w1 (HT.out w1 HB1.out) (HE.out w1 HB1.out) HZT.out HZ.out (fun y hy => (hl3 y hy).1) (by omega) (by omega) HI3.out)
 have HRM : Hid (∀ W, Below w.heap.size w W → Calls Try.prog 12 #[.int .i64 a0, .slice ta l1.length tc, .slice a l2.length cap, .int .i64 a3] W fun e w' => MkV a0 l1 l2 a3 W e w') := fun W hb => rmake_any a0 l1 l2 a3 _ _ W (HT.out W hb) (HE.out W hb) HZT.out HZ.out (fun y hy => (hl3 y hy).1) (fun y hy => by have := (hl3 y hy).2; omega) (by omega) (by omega) HI3.out
 clear HLP hl3 HZ HZT HT HE
 unfold MkV at HMK HRM
 generalize makeR a0 l1 l2 a3 = R at *
 generalize makeN a0 l1 l2 a3 = N at *
 generalize makeK a0 l1 l2 a3 = KK at *
 generalize makeE a0 l1 l2 a3 = EE at *
 have HF2 : Hid (∀ (w2 : World) (m v : Value), Below w1.heap.size w1 w2 → CpsAt (fun b => w1.heap.size ≤ b) w2 m R.cs → CpsAt (fun b => w1.heap.size ≤ b) w2 v N → (w2.alloc (.cells (rme R m) 27)).heap[w2.heap.size]? = some (.cells (rme R m) 27 (0, 0)) ∧ CpsAt All (w2.alloc (.cells (rme R m) 27)) m R.cs ∧ CpsAt All (w2.alloc (.cells (rme R m) 27)) v N ∧ Below w.heap.size w (w2.alloc (.cells (rme R m) 27))) := fun w2 m v hb hm hv =>
  ⟨alloc_new w2 _ _, (CpsAt.all hm).grw (below_alloc w2 _), (CpsAt.all hv).grw (below_alloc w2 _), below_trans HB1.out (below_trans hb (below_alloc w2 _))⟩
 go_upto_region 4 with (first | (go_at_call 11; refine HMK.out.mono ?_; rintro e w2 ⟨⟨mm, vv, rfl, hm1, hm2⟩, hb2⟩; obtain ⟨am, km, rfl, -, -⟩ := hm1.form; obtain ⟨av, kv, rfl, -, -⟩ := hm2.form; have HG2 := Lib.hid (HF2.out w2 _ _ hb2 hm1 hm2); clear hm1 hm2 hb2))
 clear HMK HF2
 generalize w2.alloc (.cells (rme R (.slice am R.cs.length km)) 27) = W2 at *
 generalize hq2 : w2.heap.size = q2 at *
 have HRM2 := Lib.hid (HRM.out W2 HG2.out.2.2.2)
 have HF3 : Hid (∀ (w3 : World) (m v : Value), Below W2.heap.size W2 w3 → CpsAt (fun b => W2.heap.size ≤ b) w3 m R.cs → CpsAt (fun b => W2.heap.size ≤ b) w3 v N → (w3.alloc (.cells (rme R m) 27)).heap[q2]? = some (.cells (rme R (.slice am R.cs.length km)) 27 (0, 0)) ∧ (w3.alloc (.cells (rme R m) 27)).heap[w3.heap.size]? = some (.cells (rme R m) 27 (0, 0)) ∧ Calls Try.prog 13 #[rmv R (.slice am R.cs.length km), rmv R m] (w3.alloc (.cells (rme R m) 27)) (fun e w' => e = .returned (.bool true) ∧ Below (w3.alloc (.cells (rme R m) 27)).heap.size (w3.alloc (.cells (rme R m) 27)) w') ∧ (∀ w4, Below (w3.alloc (.cells (rme R m) 27)).heap.size (w3.alloc (.cells (rme R m) 27)) w4 → Calls Try.prog 14 #[.slice av N.length kv, v] w4 fun e w' => e = .returned (.bool true) ∧ Below w4.heap.size w4 w') ∧ Below w.heap.size w (w3.alloc (.cells (rme R m) 27))) := fun w3 m v hb hm hv => by
  have hba := below_alloc w3 (.cells (rme R m) 27)
  have hb3 := below_trans hb hba
  obtain ⟨g1, g2, g3, g4⟩ := HG2.out
  exact ⟨keepB g1 hb3, alloc_new w3 _ _, same_eq R _ _ _ (g2.grw hb3) ((CpsAt.all hm).grw hba), fun w4 hb4 => sameall_eq N _ _ w4 ((g3.grw hb3).grw hb4) (((CpsAt.all hv).grw hba).grw hb4), below_trans g4 hb3⟩
 clear HRM HG2
 go_upto_region 5 with (first | (go_at_call 12; refine HRM2.out.mono ?_; rintro e w3 ⟨⟨mm, vv, rfl, hm1, hm2⟩, hb3⟩; obtain ⟨am', km', rfl, -, -⟩ := hm1.form; obtain ⟨av', kv', rfl, -, -⟩ := hm2.form; have HG3 := Lib.hid (HF3.out w3 _ _ hb3 hm1 hm2); clear hm1 hm2 hb3))
 clear HRM2 HF3
 generalize w3.alloc (.cells (rme R (.slice am' R.cs.length km')) 27) = W3 at *
 generalize hq3 : w3.heap.size = q3 at *
 obtain ⟨hx2, hx3, hsm, hsa, hb3⟩ := HG3.out
 have HSM := Lib.hid hsm
 have HSA := Lib.hid hsa
 have HB3 := Lib.hid hb3
 obtain ⟨x0, x1, x2, x3⟩ := four hx2
 obtain ⟨y0, y1, y2, y3⟩ := four hx3
 clear hx2 hx3 hsm hsa hb3 HG3 hq2 hq3
 go_wp2_with (first
  | (go_at_call 13; refine HSM.out.mono ?_; rintro e w4 ⟨rfl, hb4⟩; have HSA4 := Lib.hid (HSA.out w4 hb4); have HB4 : Hid (Below w.heap.size w w4) := below_trans HB3.out hb4; clear hb4)
  | (go_at_call 14; refine HSA4.out.mono ?_; rintro e w5 ⟨rfl, hb5⟩; have HB5 : Hid (Below w.heap.size w w5) := below_trans HB4.out hb5; clear hb5)
  | (go_at_call 10; refine (HW.out _).mono ?_; rintro e w6 ⟨rfl, hb6⟩; have HB6 : Hid (Below w.heap.size w w6) := below_trans HB5.out hb6; clear hb6))
 go_ret
 exact ⟨rfl, HB6.out⟩
theorem laidOut : laidOutB Try.prog = true := by kernel_rfl
theorem lifted (os : Os) (started : os.Started) (H : Type) (enc : TypeId × Value → H) :
  ReturnsInHanded {} Try.checked os 3 .any (Rows.remitMakesSpec.pre6 enc Try.prog Try.f3 Rows.remitMakesRow.domain false) (Rows.remitMakesSpec.post enc Try.prog Try.f3 false true false false) := by
 refine returnsInHanded_of_change_shaped (C := Try.checked) own started (by kernel_rfl) Try.func3
  (ChangeSpec.witness6 (enc := enc) (C := Try.checked) false ⟨#[], #[.int .i64 0, .slice none 0 0, .slice none 0 0, .int .i64 0], []⟩ 8 (by kernel_rfl) (by kernel_rfl) (by kernel_rfl) (by kernel_rfl)) ?_
 intro W base args ds gs before hval0 hW hcnd hwt _ _
 have hval : ∀ (j : Nat) t v, Try.f3.params[j]? = some t → args[j]? = some v → Value.okWide Try.prog W .any base t v := hval0
 have hW' := hW
 obtain ⟨p, q, hA0, hV, rfl, hfz, hnd⟩ := hW
 have hA : DataW.TrodAll enc Try.prog W 0 (fun _ => true) true Try.f3.params.toList args.toList ds p := hA0
 rw [Try.params3] at hA hval hwt
 obtain ⟨v0, vs0, d0, ds0, p0, q0, hargs, rfl, rfl, h0, r0⟩ := trodAll_cons hA
 obtain ⟨v1, vs1, d1, ds1, p1, q1, rfl, rfl, rfl, h1, r1⟩ := trodAll_cons r0
 obtain ⟨v2, vs2, d2, ds2, p2, q2, rfl, rfl, rfl, h2, r2⟩ := trodAll_cons r1
 obtain ⟨v3, vs3, d3, ds3, p3, q3, rfl, rfl, rfl, h3, r3⟩ := trodAll_cons r2
 obtain ⟨rfl, rfl, rfl⟩ := trodAll_nil r3
 obtain rfl : args = #[v0, v1, v2, v3] := by cases args; simp_all
 obtain ⟨rfl, rfl⟩ := trodVars_none hV
 have hwl : ∀ z, (z ∈ d0.weights Try.prog 3 → z ≤ reachBytes) ∧ (z ∈ d1.weights Try.prog 22 → z ≤ reachBytes) ∧ (z ∈ d2.weights Try.prog 23 → z ≤ reachBytes) ∧ (z ∈ d3.weights Try.prog 2 → z ≤ reachBytes) := fun z => by
  have h := List.all_eq_true.1 hwt z
  simp only [decide_eq_true_eq] at h
  refine ⟨fun hz => h ?_, fun hz => h ?_, fun hz => h ?_, fun hz => h ?_⟩
  all_goals
   simp only [List.cons_append, List.nil_append, List.toList_toArray, List.append_nil, DataW.weightsEach, List.mem_append]
   first | exact Or.inl hz | exact Or.inr (Or.inl hz) | exact Or.inr (Or.inr (Or.inl hz)) | exact Or.inr (Or.inr (Or.inr (Or.inl hz))) | exact Or.inr (Or.inr (Or.inr (Or.inr (Or.inl hz)))) | exact Or.inr (Or.inr (Or.inr (Or.inr (Or.inr (Or.inl hz))))) | exact Or.inr (Or.inr (Or.inr (Or.inr (Or.inr (Or.inr (Or.inl hz)))))) | simp [hz]
 have k0 := h0
 have lt0 : ∀ x ∈ p0, x.block < W.heap.size := by obtain ⟨m, hm⟩ := k0; exact DataW.trod_lt m _ _ _ hm
 obtain ⟨a0, rfl, _, _, w0⟩ := open_int Try.underlying3 (hval 0 3 v0 rfl rfl) h0
 have k1 := h1
 have lt1 : ∀ x ∈ p1, x.block < W.heap.size := by obtain ⟨m, hm⟩ := k1; exact DataW.trod_lt m _ _ _ hm
 obtain ⟨l1, g1, y1, z1⟩ := So.open_cps (okWide_slice Try.underlying22 (hval 1 22 v1 rfl rfl)) h1 (fun z hz => (hwl z).2.1 hz)
 have k2 := h2
 have lt2 : ∀ x ∈ p2, x.block < W.heap.size := by obtain ⟨m, hm⟩ := k2; exact DataW.trod_lt m _ _ _ hm
 obtain ⟨l2, g2, z2⟩ := So.open_ens (okWide_slice Try.underlying23 (hval 2 23 v2 rfl rfl)) h2 (fun z hz => (hwl z).2.2.1 hz)
 have k3 := h3
 have lt3 : ∀ x ∈ p3, x.block < W.heap.size := by obtain ⟨m, hm⟩ := k3; exact DataW.trod_lt m _ _ _ hm
 obtain ⟨a3, rfl, _, _, w3⟩ := open_int Try.underlying2 (hval 3 2 v3 rfl rfl) h3
 clear hA0 hval0
 refine (walk W a0 (i64_wf w0) v1 l1 g1 y1 z1 v2 l2 g2 z2 a3 (i64_wf w3)).mono fun e W' ⟨he, bel⟩ => ?_
 subst he
 exact ⟨_, rfl, _, _, _, [], _, [], hW', (trodAll_cons_mk (shut_bool Try.underlying4 _) trodAll_mk0), (trodAll_cons_mk (Below.trod laidOut (by kernel_rfl) (of_decide_eq_true (by kernel_rfl)) k0 bel lt0) (trodAll_cons_mk (Below.trod laidOut (by kernel_rfl) (of_decide_eq_true (by kernel_rfl)) k1 bel lt1) (trodAll_cons_mk (Below.trod laidOut (by kernel_rfl) (of_decide_eq_true (by kernel_rfl)) k2 bel lt2) (trodAll_cons_mk (Below.trod laidOut (by kernel_rfl) (of_decide_eq_true (by kernel_rfl)) k3 bel lt3) trodAll_mk0)))), rfl, bel.frame _, fun h => by cases h⟩
theorem over : Rows.remitMakesRow.holds Try.pinned (OpenSpec.ofChange Rows.remitMakesSpec) :=
 OpenClaim.holds_of_wide 3 Try.f3 rfl rfl rfl rfl rfl rfl rfl ⟨rfl, rfl, rfl, rfl, rfl⟩ rfl rfl rfl rfl rfl (by kernel_rfl) Try.func3 (by kernel_rfl)
  (of_decide_eq_true (by kernel_rfl)) (by unfold Func.isWrapper; first | (rw [if_pos (by decide +kernel)]; kernel_rfl) | (rw [if_neg (by decide +kernel)]; exact ⟨rfl, rfl⟩))
  (fun os started H enc _ => lifted os started H enc)
theorem proved : Rows.RemitMakesSaid := over
end Go.Proofs.Ytpfpjbeofogbgaa.remitMakes
namespace Go.Proofs.Ytpfpjbeofogbgaa
theorem remitMakes_holds : Rows.RemitMakesSaid := remitMakes.proved
#print axioms remitMakes_holds
end Go.Proofs.Ytpfpjbeofogbgaa
