/-
  Texts put together (merge.py): MWorks, MWt, MLight.
-/
import Derived.Test.YtpfpjbeofogbgaaMm4
import Derived.Test.YtpfpjbeofogbgaaMm19
import Derived.Test.YtpfpjbeofogbgaaMm2
import Derived.Test.YtpfpjbeofogbgaaMm11
set_option linter.unusedSimpArgs false
set_option linter.unusedVariables false
section
set_option maxRecDepth 100000
namespace Go.Proofs.Ytpfpjbeofogbgaa.Re
open Go.RowKit
open Sv (Ca Sr Cp SvsAt CasAt CpsAt CpCells cpv cpe six four CpOk checkE Sm Bd)
open Bk (En Ev EnsAt EnCells Cont EnOk OtsAt OtCells keepB heap_far below_alloc below_trans alloc_new heap_set add_lit ten)
open Cm (Ln Cl LnsAt LnOk ClOk)
open Sh (Ot)
theorem pE_ok (id : Tx) (st n : Int) (h : id.length ≤ 100) (hn : -1000 ≤ n ∧ n ≤ 1000) : EnOk (pE id st n) := by
 refine ⟨⟨⟨by show _ ≤ (0 : Int); decide, by show (0 : Int) ≤ _; decide⟩, ⟨by show _ ≤ (0 : Int); decide, by show (0 : Int) ≤ _; decide⟩, by show id.length ≤ _; omega, Nat.zero_le _, Nat.zero_le _, Nat.zero_le _, by show 1 ≤ _; omega, fun x hx => ?_⟩, by show 1 ≤ _; omega⟩
 obtain rfl : x = pLn n := by simpa [pE] using hx
 refine ⟨⟨by show _ ≤ (0 : Int); decide, by show (0 : Int) ≤ _; decide⟩, ⟨by show _ ≤ (0 : Int); decide, by show (0 : Int) ≤ _; decide⟩, ⟨by show _ ≤ n; omega, by show n ≤ _; omega⟩, ⟨by show _ ≤ (0 : Int); decide, by show (0 : Int) ≤ _; decide⟩, by show (5 : Nat) ≤ _; omega, by show (0 : Nat) ≤ _; omega, fun t ht => by simp [pLn] at ht⟩
theorem pE_sm (id : Tx) (st n : Int) (hn : -1000 ≤ n ∧ n ≤ 1000) : Sm (pE id st n).cl (pE id st n).outs := by
 have hb : Bd n := ⟨by omega, by omega⟩
 have h0 : Bd 0 := ⟨by decide, by decide⟩
 refine ⟨fun l hl => ?_, fun o ho => ?_⟩
 ·obtain rfl : l = pLn n := by simpa [pE] using hl
  exact hb
 ·obtain rfl : o = pOt n := by simpa [pE] using ho
  exact ⟨hb, h0, h0, h0, h0, h0⟩
def wN1 : List Cp := makeN 1 [] [pE [67, 49] 0 100] 0
def wN2 : List Cp := makeN 2 wN1 [pE [67, 49] 1 100, pE [67, 50] 0 30] 0
def wR3 : Rm := makeR 3 wN2 [pE [67, 49] 1 100, pE [67, 50] 0 30, pE [67, 51] 0 90] 70
theorem w_e1 : makeE 1 [] [pE [67, 49] 0 100] 0 = 0 := by kernel_rfl
theorem w_e2 : makeE 2 wN1 [pE [67, 49] 1 100, pE [67, 50] 0 30] 0 = 0 := by kernel_rfl
theorem w_e3 : makeE 3 wN2 [pE [67, 49] 1 100, pE [67, 50] 0 30, pE [67, 51] 0 90] 70 = 0 := by kernel_rfl
theorem w_n1 : wN1.length = 1 := by kernel_rfl
theorem w_p1 : (makeR 1 [] [pE [67, 49] 0 100] 0).paid = 100 := by kernel_rfl
theorem w_k1 : makeK 1 [] [pE [67, 49] 0 100] 0 = 0 := by kernel_rfl
theorem w_p2 : (makeR 2 wN1 [pE [67, 49] 1 100, pE [67, 50] 0 30] 0).paid = 0 := by kernel_rfl
theorem w_l2 : (makeR 2 wN1 [pE [67, 49] 1 100, pE [67, 50] 0 30] 0).cs.length = 2 := by kernel_rfl
theorem w_k2 : makeK 2 wN1 [pE [67, 49] 1 100, pE [67, 50] 0 30] 0 = 70 := by kernel_rfl
theorem w_p3 : wR3.paid = 20 := by kernel_rfl
theorem w_h3 : wR3.held = 70 := by kernel_rfl
theorem w_k3 : makeK 3 wN2 [pE [67, 49] 1 100, pE [67, 50] 0 30, pE [67, 51] 0 90] 70 = 0 := by kernel_rfl
theorem w_c3 : chkE wR3 = 0 := by kernel_rfl
theorem w_cs3 : csE wR3.cs = 0 := by kernel_rfl
theorem w_l3 : wR3.cs.length ≤ 10 := by
 have : (decide (wR3.cs.length ≤ 10)) = true := by kernel_rfl
 simpa using this
theorem w_s3 : sum wR3.cs = 90 := by kernel_rfl
theorem w_t1 : toldE [] wN1 = 0 := by kernel_rfl
theorem w_t2 : toldE [] wN2 = 0 := by kernel_rfl
theorem w_n2 : wN2.length = 1 := by kernel_rfl
theorem ok_told {l : List Cp} (h : toldE [] l = 0) : ∀ x ∈ l, CpOk x := fun x hx => cpOk_of ((told_of h).2 x hx).2
theorem es_ok {l : List En} (h : ∀ y ∈ l, ∃ id st n, y = pE id st n ∧ id.length ≤ 100 ∧ (-1000 ≤ n ∧ n ≤ 1000)) : (∀ y ∈ l, EnOk y) ∧ ∀ y ∈ l, Sm y.cl y.outs := by
 refine ⟨fun y hy => ?_, fun y hy => ?_⟩ <;> (obtain ⟨id, st, n, rfl, h1, h2⟩ := h y hy)
 ·exact pE_ok id st n h1 h2
 ·exact pE_sm id st n h2
theorem wk1 (W : World) (vt : Value) (g : Nat) (a1 b1 : Addr) (ht : CpsAt All W vt []) (hg : W.heap[g]? = some (.cells (#[.string (mk (pE [67, 49] 0 100).cl.id), .string (mk (pE [67, 49] 0 100).cl.mem), .string (mk (pE [67, 49] 0 100).cl.fam), .int .i64 (pE [67, 49] 0 100).cl.net, .int .i64 (pE [67, 49] 0 100).cl.does, .string (mk (pE [67, 49] 0 100).cl.ref), .slice (some a1) 1 1, .int .i64 (pE [67, 49] 0 100).tb, .int .i64 (pE [67, 49] 0 100).st, .slice (some b1) 1 1] : Array Value) 48 (0, 0))) (h0 : Cont All W ⟨pE [67, 49] 0 100, (.slice (some a1) 1 1), (.slice (some b1) 1 1)⟩) :
  Calls Try.prog 11 #[.int .i64 1, vt, .slice (some ⟨g, 0, none⟩) 1 1, .int .i64 0] W fun e w' => (∃ m v, e = .returned (.tuple #[rmv (makeR 1 [] [pE [67, 49] 0 100] 0) m, v, .int .i64 (makeK 1 [] [pE [67, 49] 0 100] 0), .int .i64 0]) ∧ CpsAt All w' m (makeR 1 [] [pE [67, 49] 0 100] 0).cs ∧ CpsAt All w' v (makeN 1 [] [pE [67, 49] 0 100] 0)) ∧ Below W.heap.size W w' := by
 have hl := ens_of (L := [(⟨pE [67, 49] 0 100, (.slice (some a1) 1 1), (.slice (some b1) 1 1)⟩ : Bk.Ev)]) hg rfl (fun x hx => by
  simp only [List.mem_cons, List.not_mem_nil, or_false] at hx
  subst hx; exact h0) (by show 1 ≤ _; omega)
 obtain ⟨z1, z2⟩ := es_ok (l := [pE [67, 49] 0 100]) (fun y hy => by
  simp only [List.mem_cons, List.not_mem_nil, or_false] at hy
  subst hy; exact ⟨_, _, _, rfl, by decide, by decide⟩)
 refine (make_any 1 [] [pE [67, 49] 0 100] 0 vt _ W ht hl (fun x hx => by cases hx) z1 z2 (by decide) (by show 1 ≤ _; omega) ⟨by decide, by decide⟩).mono ?_
 rintro e w' ⟨⟨m, v, rfl, h1, h2⟩, hb⟩
 rw [w_e1]
 exact ⟨⟨m, v, rfl, CpsAt.all h1, CpsAt.all h2⟩, hb⟩
theorem wk2 (W : World) (vt : Value) (g : Nat) (a2 b2 a3 b3 : Addr) (ht : CpsAt All W vt wN1) (hg : W.heap[g]? = some (.cells (#[.string (mk (pE [67, 49] 1 100).cl.id), .string (mk (pE [67, 49] 1 100).cl.mem), .string (mk (pE [67, 49] 1 100).cl.fam), .int .i64 (pE [67, 49] 1 100).cl.net, .int .i64 (pE [67, 49] 1 100).cl.does, .string (mk (pE [67, 49] 1 100).cl.ref), .slice (some a2) 1 1, .int .i64 (pE [67, 49] 1 100).tb, .int .i64 (pE [67, 49] 1 100).st, .slice (some b2) 1 1, .string (mk (pE [67, 50] 0 30).cl.id), .string (mk (pE [67, 50] 0 30).cl.mem), .string (mk (pE [67, 50] 0 30).cl.fam), .int .i64 (pE [67, 50] 0 30).cl.net, .int .i64 (pE [67, 50] 0 30).cl.does, .string (mk (pE [67, 50] 0 30).cl.ref), .slice (some a3) 1 1, .int .i64 (pE [67, 50] 0 30).tb, .int .i64 (pE [67, 50] 0 30).st, .slice (some b3) 1 1] : Array Value) 48 (0, 0))) (h0 : Cont All W ⟨pE [67, 49] 1 100, (.slice (some a2) 1 1), (.slice (some b2) 1 1)⟩) (h1 : Cont All W ⟨pE [67, 50] 0 30, (.slice (some a3) 1 1), (.slice (some b3) 1 1)⟩) :
  Calls Try.prog 11 #[.int .i64 2, vt, .slice (some ⟨g, 0, none⟩) 2 2, .int .i64 0] W fun e w' => (∃ m v, e = .returned (.tuple #[rmv (makeR 2 wN1 [pE [67, 49] 1 100, pE [67, 50] 0 30] 0) m, v, .int .i64 (makeK 2 wN1 [pE [67, 49] 1 100, pE [67, 50] 0 30] 0), .int .i64 0]) ∧ CpsAt All w' m (makeR 2 wN1 [pE [67, 49] 1 100, pE [67, 50] 0 30] 0).cs ∧ CpsAt All w' v (makeN 2 wN1 [pE [67, 49] 1 100, pE [67, 50] 0 30] 0)) ∧ Below W.heap.size W w' := by
 have hl := ens_of (L := [(⟨pE [67, 49] 1 100, (.slice (some a2) 1 1), (.slice (some b2) 1 1)⟩ : Bk.Ev), (⟨pE [67, 50] 0 30, (.slice (some a3) 1 1), (.slice (some b3) 1 1)⟩ : Bk.Ev)]) hg rfl (fun x hx => by
  simp only [List.mem_cons, List.not_mem_nil, or_false] at hx
  rcases hx with rfl | rfl
  ·exact h0
  ·exact h1) (by show 2 ≤ _; omega)
 obtain ⟨z1, z2⟩ := es_ok (l := [pE [67, 49] 1 100, pE [67, 50] 0 30]) (fun y hy => by
  simp only [List.mem_cons, List.not_mem_nil, or_false] at hy
  rcases hy with rfl | rfl <;> exact ⟨_, _, _, rfl, by decide, by decide⟩)
 refine (make_any 2 wN1 [pE [67, 49] 1 100, pE [67, 50] 0 30] 0 vt _ W ht hl (ok_told w_t1) z1 z2 (by rw [w_n1]; decide) (by show 2 ≤ _; omega) ⟨by decide, by decide⟩).mono ?_
 rintro e w' ⟨⟨m, v, rfl, h1, h2⟩, hb⟩
 rw [w_e2]
 exact ⟨⟨m, v, rfl, CpsAt.all h1, CpsAt.all h2⟩, hb⟩
theorem wk3 (W : World) (vt : Value) (g : Nat) (a4 b4 a5 b5 a6 b6 : Addr) (ht : CpsAt All W vt wN2) (hg : W.heap[g]? = some (.cells (#[.string (mk (pE [67, 49] 1 100).cl.id), .string (mk (pE [67, 49] 1 100).cl.mem), .string (mk (pE [67, 49] 1 100).cl.fam), .int .i64 (pE [67, 49] 1 100).cl.net, .int .i64 (pE [67, 49] 1 100).cl.does, .string (mk (pE [67, 49] 1 100).cl.ref), .slice (some a4) 1 1, .int .i64 (pE [67, 49] 1 100).tb, .int .i64 (pE [67, 49] 1 100).st, .slice (some b4) 1 1, .string (mk (pE [67, 50] 0 30).cl.id), .string (mk (pE [67, 50] 0 30).cl.mem), .string (mk (pE [67, 50] 0 30).cl.fam), .int .i64 (pE [67, 50] 0 30).cl.net, .int .i64 (pE [67, 50] 0 30).cl.does, .string (mk (pE [67, 50] 0 30).cl.ref), .slice (some a5) 1 1, .int .i64 (pE [67, 50] 0 30).tb, .int .i64 (pE [67, 50] 0 30).st, .slice (some b5) 1 1, .string (mk (pE [67, 51] 0 90).cl.id), .string (mk (pE [67, 51] 0 90).cl.mem), .string (mk (pE [67, 51] 0 90).cl.fam), .int .i64 (pE [67, 51] 0 90).cl.net, .int .i64 (pE [67, 51] 0 90).cl.does, .string (mk (pE [67, 51] 0 90).cl.ref), .slice (some a6) 1 1, .int .i64 (pE [67, 51] 0 90).tb, .int .i64 (pE [67, 51] 0 90).st, .slice (some b6) 1 1] : Array Value) 48 (0, 0))) (h0 : Cont All W ⟨pE [67, 49] 1 100, (.slice (some a4) 1 1), (.slice (some b4) 1 1)⟩) (h1 : Cont All W ⟨pE [67, 50] 0 30, (.slice (some a5) 1 1), (.slice (some b5) 1 1)⟩) (h2 : Cont All W ⟨pE [67, 51] 0 90, (.slice (some a6) 1 1), (.slice (some b6) 1 1)⟩) :
  Calls Try.prog 11 #[.int .i64 3, vt, .slice (some ⟨g, 0, none⟩) 3 3, .int .i64 70] W fun e w' => (∃ m v, e = .returned (.tuple #[rmv (makeR 3 wN2 [pE [67, 49] 1 100, pE [67, 50] 0 30, pE [67, 51] 0 90] 70) m, v, .int .i64 (makeK 3 wN2 [pE [67, 49] 1 100, pE [67, 50] 0 30, pE [67, 51] 0 90] 70), .int .i64 0]) ∧ CpsAt All w' m (makeR 3 wN2 [pE [67, 49] 1 100, pE [67, 50] 0 30, pE [67, 51] 0 90] 70).cs ∧ CpsAt All w' v (makeN 3 wN2 [pE [67, 49] 1 100, pE [67, 50] 0 30, pE [67, 51] 0 90] 70)) ∧ Below W.heap.size W w' := by
 have hl := ens_of (L := [(⟨pE [67, 49] 1 100, (.slice (some a4) 1 1), (.slice (some b4) 1 1)⟩ : Bk.Ev), (⟨pE [67, 50] 0 30, (.slice (some a5) 1 1), (.slice (some b5) 1 1)⟩ : Bk.Ev), (⟨pE [67, 51] 0 90, (.slice (some a6) 1 1), (.slice (some b6) 1 1)⟩ : Bk.Ev)]) hg rfl (fun x hx => by
  simp only [List.mem_cons, List.not_mem_nil, or_false] at hx
  rcases hx with rfl | rfl | rfl
  ·exact h0
  ·exact h1
  ·exact h2) (by show 3 ≤ _; omega)
 obtain ⟨z1, z2⟩ := es_ok (l := [pE [67, 49] 1 100, pE [67, 50] 0 30, pE [67, 51] 0 90]) (fun y hy => by
  simp only [List.mem_cons, List.not_mem_nil, or_false] at hy
  rcases hy with rfl | rfl | rfl <;> exact ⟨_, _, _, rfl, by decide, by decide⟩)
 refine (make_any 3 wN2 [pE [67, 49] 1 100, pE [67, 50] 0 30, pE [67, 51] 0 90] 70 vt _ W ht hl (ok_told w_t2) z1 z2 (by rw [w_n2]; decide) (by show 3 ≤ _; omega) ⟨by decide, by decide⟩).mono ?_
 rintro e w' ⟨⟨m, v, rfl, h1, h2⟩, hb⟩
 rw [w_e3]
 exact ⟨⟨m, v, rfl, CpsAt.all h1, CpsAt.all h2⟩, hb⟩
set_option maxHeartbeats 16000000 in
theorem works_any (w : World) : Calls Try.prog 10 #[] w fun e w' => e = .returned (.bool true) ∧ Below w.heap.size w w' := by
 have HP := Lib.hid paid_any
 have HRF := Lib.hid (Below.refl w.heap.size w)
 go_enter Try.func10, Try.ntmps10
 go_wp2_with fail
 try (go_at_call 23)
 refine (HP.out [67, 49] 0 100 _).mono ?_
 rintro e w1 ⟨⟨a1, b1, rfl, hc1⟩, hb1⟩
 have HB1 := Lib.hid hb1
 have HC1 := Lib.hid hc1
 clear hc1 hb1
 have HM1 := Lib.hid (wk1 (w1.alloc (.cells (#[.string (mk (pE [67, 49] 0 100).cl.id), .string (mk (pE [67, 49] 0 100).cl.mem), .string (mk (pE [67, 49] 0 100).cl.fam), .int .i64 (pE [67, 49] 0 100).cl.net, .int .i64 (pE [67, 49] 0 100).cl.does, .string (mk (pE [67, 49] 0 100).cl.ref), .slice (some a1) 1 1, .int .i64 (pE [67, 49] 0 100).tb, .int .i64 (pE [67, 49] 0 100).st, .slice (some b1) 1 1] : Array Value) 48)) (.slice none 0 0) w1.heap.size a1 b1 (cps_nil _ _) (alloc_new w1 _ _) (HC1.out.grw (below_alloc w1 _)))
 go_wp2_with fail
 try (go_at_call 11)
 refine HM1.out.mono ?_
 rintro e w2 ⟨⟨m1, v1, rfl, hm1, hv1⟩, hb2⟩
 have HB2 : Hid (Below w.heap.size w w2) := below_trans HB1.out (below_trans (below_alloc w1 _) hb2)
 obtain ⟨m1, k1, rfl, -, -⟩ := hm1.form
 obtain ⟨v1, j1, rfl, -, -⟩ := hv1.form
 have HV1 : Hid (CpsAt All w2 (.slice v1 wN1.length j1) wN1) := hv1
 have HX1 := Lib.hid (alloc_new w2 (rme (makeR 1 [] [pE [67, 49] 0 100] 0) (.slice m1 (makeR 1 [] [pE [67, 49] 0 100] 0).cs.length k1)) 27)
 have HB3 : Hid (Below w.heap.size w (w2.alloc (.cells (rme (makeR 1 [] [pE [67, 49] 0 100] 0) (.slice m1 (makeR 1 [] [pE [67, 49] 0 100] 0).cs.length k1)) 27))) := below_trans HB2.out (below_alloc w2 _)
 clear hm1 hv1 hb2 HM1 HC1 HB1
 go_upto_region 2 with fail
 generalize hg2 : w2.heap.size = g2 at *
 obtain ⟨W3, hW3⟩ : ∃ z, z = w2.alloc (.cells (rme (makeR 1 [] [pE [67, 49] 0 100] 0) (.slice m1 (makeR 1 [] [pE [67, 49] 0 100] 0).cs.length k1)) 27) := ⟨_, rfl⟩
 rw [← hW3] at HX1 HB3 ⊢
 have HV3 : Hid (CpsAt All W3 (.slice v1 wN1.length j1) wN1) := by rw [hW3]; exact HV1.out.grw (below_alloc w2 _)
 clear hW3 HV1 HB2
 rw [w_k1]
 go_wp2_with fail
 try (go_at_call 23)
 refine (HP.out [67, 49] 1 100 _).mono ?_
 rintro e w4 ⟨⟨a2, b2, rfl, hc2⟩, hb4⟩
 have HC2 := Lib.hid hc2
 have HB4 := Lib.hid hb4
 clear hc2 hb4
 go_wp2_with fail
 try (go_at_call 23)
 refine (HP.out [67, 50] 0 30 _).mono ?_
 rintro e w5 ⟨⟨a3, b3, rfl, hc3⟩, hb5⟩
 have HC3 := Lib.hid hc3
 have HC2' := Lib.hid (HC2.out.grw hb5)
 have HB5 : Hid (Below W3.heap.size W3 w5) := below_trans HB4.out hb5
 clear hc3 hb5 HB4 HC2
 have HM2 := Lib.hid (wk2 (w5.alloc (.cells (#[.string (mk (pE [67, 49] 1 100).cl.id), .string (mk (pE [67, 49] 1 100).cl.mem), .string (mk (pE [67, 49] 1 100).cl.fam), .int .i64 (pE [67, 49] 1 100).cl.net, .int .i64 (pE [67, 49] 1 100).cl.does, .string (mk (pE [67, 49] 1 100).cl.ref), .slice (some a2) 1 1, .int .i64 (pE [67, 49] 1 100).tb, .int .i64 (pE [67, 49] 1 100).st, .slice (some b2) 1 1, .string (mk (pE [67, 50] 0 30).cl.id), .string (mk (pE [67, 50] 0 30).cl.mem), .string (mk (pE [67, 50] 0 30).cl.fam), .int .i64 (pE [67, 50] 0 30).cl.net, .int .i64 (pE [67, 50] 0 30).cl.does, .string (mk (pE [67, 50] 0 30).cl.ref), .slice (some a3) 1 1, .int .i64 (pE [67, 50] 0 30).tb, .int .i64 (pE [67, 50] 0 30).st, .slice (some b3) 1 1] : Array Value) 48)) (.slice v1 wN1.length j1) w5.heap.size a2 b2 a3 b3 (HV3.out.grw (below_trans HB5.out (below_alloc w5 _))) (alloc_new w5 _ _) (HC2'.out.grw (below_alloc w5 _)) (HC3.out.grw (below_alloc w5 _)))
 go_wp2_with fail
 try (go_at_call 11)
 refine HM2.out.mono ?_
 rintro e w6 ⟨⟨m2, v2, rfl, hm2, hv2⟩, hb6⟩
 obtain ⟨m2, k2, rfl, -, -⟩ := hm2.form
 obtain ⟨v2, j2, rfl, -, -⟩ := hv2.form
 have HV2 : Hid (CpsAt All w6 (.slice v2 wN2.length j2) wN2) := hv2
 have HX2 := Lib.hid (alloc_new w6 (rme (makeR 2 wN1 [pE [67, 49] 1 100, pE [67, 50] 0 30] 0) (.slice m2 (makeR 2 wN1 [pE [67, 49] 1 100, pE [67, 50] 0 30] 0).cs.length k2)) 27)
 have HB6 : Hid (Below W3.heap.size W3 (w6.alloc (.cells (rme (makeR 2 wN1 [pE [67, 49] 1 100, pE [67, 50] 0 30] 0) (.slice m2 (makeR 2 wN1 [pE [67, 49] 1 100, pE [67, 50] 0 30] 0).cs.length k2)) 27))) := below_trans HB5.out (below_trans (below_alloc w5 _) (below_trans hb6 (below_alloc w6 _)))
 have HX16 := Lib.hid (keepB HX1.out HB6.out)
 have HB66 : Hid (Below w.heap.size w (w6.alloc (.cells (rme (makeR 2 wN1 [pE [67, 49] 1 100, pE [67, 50] 0 30] 0) (.slice m2 (makeR 2 wN1 [pE [67, 49] 1 100, pE [67, 50] 0 30] 0).cs.length k2)) 27))) := below_trans HB3.out HB6.out
 clear hm2 hv2 hb6 HM2 HC2' HC3 HB5 HX1 HB3 HV3
 go_upto_region 3 with fail
 generalize hg6 : w6.heap.size = g6 at *
 obtain ⟨W7, hW7⟩ : ∃ z, z = w6.alloc (.cells (rme (makeR 2 wN1 [pE [67, 49] 1 100, pE [67, 50] 0 30] 0) (.slice m2 (makeR 2 wN1 [pE [67, 49] 1 100, pE [67, 50] 0 30] 0).cs.length k2)) 27) := ⟨_, rfl⟩
 rw [← hW7] at HX2 HB66 HX16 ⊢
 have HV7 : Hid (CpsAt All W7 (.slice v2 wN2.length j2) wN2) := by rw [hW7]; exact HV2.out.grw (below_alloc w6 _)
 clear hW7 HV2 HB6
 rw [w_k2]
 go_wp2_with fail
 try (go_at_call 23)
 refine (HP.out [67, 49] 1 100 _).mono ?_
 rintro e w8 ⟨⟨a4, b4, rfl, hc4⟩, hb8⟩
 have HC4 := Lib.hid hc4
 have HB8 := Lib.hid hb8
 clear hc4 hb8
 go_wp2_with fail
 try (go_at_call 23)
 refine (HP.out [67, 50] 0 30 _).mono ?_
 rintro e w9 ⟨⟨a5, b5, rfl, hc5⟩, hb9⟩
 have HC5 := Lib.hid hc5
 have HC4' := Lib.hid (HC4.out.grw hb9)
 have HB9 : Hid (Below W7.heap.size W7 w9) := below_trans HB8.out hb9
 clear hc5 hb9 HB8 HC4
 go_wp2_with fail
 try (go_at_call 23)
 refine (HP.out [67, 51] 0 90 _).mono ?_
 rintro e w10 ⟨⟨a6, b6, rfl, hc6⟩, hb10⟩
 have HC6 := Lib.hid hc6
 have HC4'' := Lib.hid (HC4'.out.grw hb10)
 have HC5' := Lib.hid (HC5.out.grw hb10)
 have HB10 : Hid (Below W7.heap.size W7 w10) := below_trans HB9.out hb10
 clear hc6 hb10 HB9 HC4' HC5
 have HM3 := Lib.hid (wk3 (w10.alloc (.cells (#[.string (mk (pE [67, 49] 1 100).cl.id), .string (mk (pE [67, 49] 1 100).cl.mem), .string (mk (pE [67, 49] 1 100).cl.fam), .int .i64 (pE [67, 49] 1 100).cl.net, .int .i64 (pE [67, 49] 1 100).cl.does, .string (mk (pE [67, 49] 1 100).cl.ref), .slice (some a4) 1 1, .int .i64 (pE [67, 49] 1 100).tb, .int .i64 (pE [67, 49] 1 100).st, .slice (some b4) 1 1, .string (mk (pE [67, 50] 0 30).cl.id), .string (mk (pE [67, 50] 0 30).cl.mem), .string (mk (pE [67, 50] 0 30).cl.fam), .int .i64 (pE [67, 50] 0 30).cl.net, .int .i64 (pE [67, 50] 0 30).cl.does, .string (mk (pE [67, 50] 0 30).cl.ref), .slice (some a5) 1 1, .int .i64 (pE [67, 50] 0 30).tb, .int .i64 (pE [67, 50] 0 30).st, .slice (some b5) 1 1, .string (mk (pE [67, 51] 0 90).cl.id), .string (mk (pE [67, 51] 0 90).cl.mem), .string (mk (pE [67, 51] 0 90).cl.fam), .int .i64 (pE [67, 51] 0 90).cl.net, .int .i64 (pE [67, 51] 0 90).cl.does, .string (mk (pE [67, 51] 0 90).cl.ref), .slice (some a6) 1 1, .int .i64 (pE [67, 51] 0 90).tb, .int .i64 (pE [67, 51] 0 90).st, .slice (some b6) 1 1] : Array Value) 48)) (.slice v2 wN2.length j2) w10.heap.size a4 b4 a5 b5 a6 b6 (HV7.out.grw (below_trans HB10.out (below_alloc w10 _))) (alloc_new w10 _ _) (HC4''.out.grw (below_alloc w10 _)) (HC5'.out.grw (below_alloc w10 _)) (HC6.out.grw (below_alloc w10 _)))
 go_wp2_with fail
 try (go_at_call 11)
 refine HM3.out.mono ?_
 rintro e w11 ⟨⟨m3, v3, rfl, hm3, hv3⟩, hb11⟩
 obtain ⟨m3, k3, rfl, -, -⟩ := hm3.form
 obtain ⟨v3, j3, rfl, -, -⟩ := hv3.form
 have HM3r : Hid (CpsAt All w11 (.slice m3 wR3.cs.length k3) wR3.cs) := hm3
 have HX3 : Hid ((w11.alloc (.cells (rme wR3 (.slice m3 wR3.cs.length k3)) 27)).heap[w11.heap.size]? = some (.cells (rme wR3 (.slice m3 wR3.cs.length k3)) 27 (0, 0))) := alloc_new w11 (rme wR3 (.slice m3 wR3.cs.length k3)) 27
 have HB11 : Hid (Below W7.heap.size W7 (w11.alloc (.cells (rme wR3 (.slice m3 wR3.cs.length k3)) 27))) := below_trans HB10.out (below_trans (below_alloc w10 _) (below_trans hb11 (below_alloc w11 _)))
 have HX111 := Lib.hid (keepB HX16.out HB11.out)
 have HX211 := Lib.hid (keepB HX2.out HB11.out)
 have HBF : Hid (Below w.heap.size w (w11.alloc (.cells (rme wR3 (.slice m3 wR3.cs.length k3)) 27))) := below_trans HB66.out HB11.out
 clear hm3 hv3 hb11 HM3 HC4'' HC5' HC6 HB10 HX16 HX2 HB66 HV7
 go_upto_region 4 with fail
 generalize hg11 : w11.heap.size = g11 at *
 rw [w_k3]
 obtain ⟨W12, hW12⟩ : ∃ z, z = w11.alloc (.cells (rme wR3 (.slice m3 wR3.cs.length k3)) 27) := ⟨_, rfl⟩
 have HM12 : Hid (CpsAt All W12 (.slice m3 wR3.cs.length k3) wR3.cs) := by rw [hW12]; exact HM3r.out.grw (below_alloc w11 _)
 rw [← hW12] at HX3 HX111 HX211 HBF
 rw [show (w11.alloc (.cells (rme (makeR 3 wN2 [pE [67, 49] 1 100, pE [67, 50] 0 30, pE [67, 51] 0 90] 70) (.slice m3 (makeR 3 wN2 [pE [67, 49] 1 100, pE [67, 50] 0 30, pE [67, 51] 0 90] 70).cs.length k3)) 27)) = W12 from hW12.symm]
 clear hW12 HM3r HB11
 have HOK : Hid (∀ x ∈ wR3.cs, checkE x = 0) := (cs_iff wR3.cs).1 w_cs3
 have hag : rmv wR3 (.slice m3 wR3.cs.length k3) = (.agg #[.int .i64 wR3.n, .int .i64 20, .int .i64 wR3.held, .slice m3 wR3.cs.length k3]) := by show Value.agg #[_, .int .i64 wR3.paid, _, _] = _; rw [w_p3]
 have HCK : Hid (∀ W, Below W12.heap.size W12 W → Calls Try.prog 17 #[(.agg #[.int .i64 wR3.n, .int .i64 20, .int .i64 wR3.held, .slice m3 wR3.cs.length k3])] W fun e w' => e = .returned (.int .i64 0) ∧ Below W.heap.size W w') := fun W hb => by
  have h := check_any wR3 (.slice m3 wR3.cs.length k3) W (HM12.out.grw hb) (by have := w_l3; omega) (fun x hx => by have := (paid_bd (HOK.out x hx)).1; unfold Bd; omega) (fun x hx => cpOk_of (HOK.out x hx)) (by rw [w_h3]; exact ⟨by decide, by decide⟩) (by rw [w_p3]; exact ⟨by decide, by decide⟩)
  rw [w_c3] at h
  rwa [hag] at h
 have HSU : Hid (∀ W, Below W12.heap.size W12 W → Calls Try.prog 19 #[(.agg #[.int .i64 wR3.n, .int .i64 20, .int .i64 wR3.held, .slice m3 wR3.cs.length k3])] W fun e w' => e = .returned (.int .i64 90) ∧ Below W.heap.size W w') := fun W hb => by
  have h := sum_any wR3 (.slice m3 wR3.cs.length k3) W (HM12.out.grw hb) (by have := w_l3; omega) (fun x hx => by have := (paid_bd (HOK.out x hx)).1; unfold Bd; omega)
  rw [w_s3] at h
  rwa [hag] at h
 have HXK : Hid (∀ W, Below W12.heap.size W12 W → W.heap[g2]? = some (.cells (rme (makeR 1 [] [pE [67, 49] 0 100] 0) (.slice m1 (makeR 1 [] [pE [67, 49] 0 100] 0).cs.length k1)) 27 (0, 0)) ∧ W.heap[g6]? = some (.cells (rme (makeR 2 wN1 [pE [67, 49] 1 100, pE [67, 50] 0 30] 0) (.slice m2 (makeR 2 wN1 [pE [67, 49] 1 100, pE [67, 50] 0 30] 0).cs.length k2)) 27 (0, 0)) ∧ W.heap[g11]? = some (.cells (rme wR3 (.slice m3 wR3.cs.length k3)) 27 (0, 0)) ∧ Below w.heap.size w W) := fun W hb => ⟨keepB HX111.out hb, keepB HX211.out hb, keepB HX3.out hb, below_trans HBF.out hb⟩
 have HR12 := Lib.hid (Below.refl W12.heap.size W12)
 obtain ⟨h1, h2, h3, -⟩ := HXK.out W12 HR12.out
 obtain ⟨x0, x1, x2, x3⟩ := four h1
 obtain ⟨y0, y1, y2, y3⟩ := four h2
 obtain ⟨z0, z1, z2, z3⟩ := four h3
 have e1 : (makeR 1 [] [pE [67, 49] 0 100] 0).paid = 100 := w_p1
 have e2 : (makeR 2 wN1 [pE [67, 49] 1 100, pE [67, 50] 0 30] 0).paid = 0 := w_p2
 have e3 : wR3.paid = 20 := w_p3
 have e4 : (makeN 1 [] [pE [67, 49] 0 100] 0).length = 1 := w_n1
 have e5 : (makeR 2 wN1 [pE [67, 49] 1 100, pE [67, 50] 0 30] 0).cs.length = 2 := w_l2
 rw [e1] at x1
 rw [e2] at y1
 rw [e3] at z1
 clear h1 h2 h3 HX111 HX211 HX3 HBF HM12
 clear hag
 go_wp2_with fail
 try (go_at_call 17)
 refine (HCK.out W12 HR12.out).mono ?_
 rintro e w13 ⟨rfl, hb13⟩
 have HB13 := Lib.hid hb13
 obtain ⟨h1, h2, h3, hbf⟩ := HXK.out w13 hb13
 clear x0 x1 x2 x3 y0 y1 y2 y3 z0 z1 z2 z3
 obtain ⟨x0, x1, x2, x3⟩ := four h1
 obtain ⟨y0, y1, y2, y3⟩ := four h2
 obtain ⟨z0, z1, z2, z3⟩ := four h3
 rw [e3] at z1
 clear h1 h2 h3 hb13 hbf
 go_wp2_with fail
 try (go_at_call 19)
 refine (HSU.out w13 HB13.out).mono ?_
 rintro e w14 ⟨rfl, hb14⟩
 have HB14 := Lib.hid (HXK.out w14 (below_trans HB13.out hb14)).2.2.2
 clear hb14
 go_wp2
 go_ret
 exact ⟨rfl, HB14.out⟩
end Go.Proofs.Ytpfpjbeofogbgaa.Re
end
section
set_option maxRecDepth 100000
namespace Go.Proofs.Ytpfpjbeofogbgaa.Re
open Go.RowKit
open Sv (Ca Sr Cp SvsAt CasAt CpsAt CpCells SrCells CaCells LenC LenS)
open Bk (keepB below_alloc below_trans alloc_new)
set_option maxHeartbeats 8000000 in
theorem weightL_any (M : Int) (hM0 : 0 ≤ M) (hM : M ≤ 3000) (v : Value) (l : List Cp) (w : World) (h : CpsAt All w v l) (hz : ∀ x ∈ l, LenC x) :
  Calls Try.prog 15 #[v, .int .i64 M] w fun e w' => (∃ n : Int, e = .returned (.int .i64 n) ∧ (n ≤ M → (l.length : Int) ≤ M)) ∧ Below w.heap.size w w' := by
 have HV : Hid (∀ W, Below w.heap.size w W → CpsAt All W v l) := fun W hW => h.grw hW
 have HZ := Lib.hid hz
 obtain ⟨a, cap, rfl, h1, h2⟩ := CpsAt.form h
 clear h hz
 go_enter Try.func15, Try.ntmps15
 go_wp2
 go_loopg [5, 6] (l.length) (fun gg n i wr => ∃ (k : Nat) (m : Int), k ≤ l.length ∧ gg = l.length - k ∧ i = .int .i64 k ∧ n = .int .i64 m ∧ 0 ≤ m ∧ m ≤ 4611686018427387904 ∧ (k : Int) ≤ m ∧ Hid (Below w.heap.size w wr))
 case atStart => exact ⟨0, 0, Nat.zero_le _, rfl, rfl, rfl, by omega, by omega, by omega, Below.refl _ _⟩
 case round =>
  obtain ⟨k, m, hk, hg, rfl, rfl, hm0, hm1, hkm, HBn⟩ := hrel
  by_cases hlt : k < l.length
  case neg =>
   have hlt' : ¬ (k : Int) < (l.length : Int) := by omega
   go_wp2
   go_ret
   exact ⟨⟨m, rfl, fun h => by omega⟩, HBn.out⟩
  by_cases hm3 : m ≤ M
  case neg =>
   have d1 : decide (m ≤ M) = false := decide_eq_false hm3
   go_wp2
   go_ret
   exact ⟨⟨m, rfl, fun h => absurd h (by omega)⟩, HBn.out⟩
  obtain ⟨b, o, mv, rfl, -, hx, hc, hr⟩ := CpsAt.get (HV.out _ HBn.out) k hlt
  obtain ⟨z1, z2, z3⟩ := HZ.out _ (List.mem_of_getElem? hx)
  have HZL := Lib.hid z3
  obtain ⟨ar, cr, rfl, g1, g2⟩ := SvsAt.form hr
  have hi1 : k < l.length := hlt
  generalize l[k] = x at *
  obtain ⟨wo, rfl⟩ : ∃ z, z = wr := ⟨_, rfl⟩
  have HBo := Lib.hid HBn.out
  obtain ⟨c0, c1, c2, c3, c4, c5⟩ := id hc
  have hbb := World.block_lt_of_cell? wo _ c0
  have HXK : Hid (∀ W, Below wo.heap.size wo W → CpCells W b (o + k * 6) x (.slice ar x.svs.length cr) ∧ SvsAt All W (.slice ar x.svs.length cr) x.svs) := fun W hW => ⟨hc.of (hW.block b hbb), hr.grw hW⟩
  have s0 := mk_size x.id
  rw [← s0] at z1
  clear hx hc hr z3 s0 hbb
  have d1 : decide (m ≤ M) = true := decide_eq_true hm3
  go_wp2
  go_loopg [5, 7] (x.svs.length) (fun gg n i wr => ∃ (j : Nat) (m2 : Int), j ≤ x.svs.length ∧ gg = x.svs.length - j ∧ i = .int .i64 j ∧ n = .int .i64 m2 ∧ 0 ≤ m2 ∧ m2 ≤ 4611686018427387904 ∧ (k : Int) + 1 ≤ m2 ∧ Hid (Below wo.heap.size wo wr))
  case atStart => exact ⟨0, _, Nat.zero_le _, rfl, rfl, rfl, by omega, by omega, by omega, Below.refl _ _⟩
  case round =>
   obtain ⟨j, m2, hj, hgj, rfl, rfl, hm20, hm21, hkm2, HB2⟩ := hrel
   have HBw : Hid (Below w.heap.size w wr) := HBo.out.trans (HB2.out.mono HBo.out.size)
   obtain ⟨⟨x0, x1, x2, x3, x4, x5⟩, hr⟩ := HXK.out wr HB2.out
   by_cases hltj : j < x.svs.length
   case neg =>
    have hltj' : ¬ (j : Int) < (x.svs.length : Int) := by omega
    clear hr
    go_wp2
    go_roundg (l.length - (k + 1))
    case rel => exact ⟨k + 1, m2, by omega, rfl, by go_num, rfl, hm20, hm21, by omega, HBw.out⟩
    case measure => omega
   by_cases hm23 : m2 ≤ M
   case neg =>
    have d2 : decide (m2 ≤ M) = false := decide_eq_false hm23
    clear hr
    go_wp2
    go_roundg (l.length - (k + 1))
    case rel => exact ⟨k + 1, m2, by omega, rfl, by go_num, rfl, hm20, hm21, by omega, HBw.out⟩
    case measure => omega
   obtain ⟨b2, o2, mc, rfl, -, hb2, hy, hcy, hcas⟩ := SvsAt.get hr j hltj
   obtain ⟨y1, y2, y3⟩ := HZL.out _ (List.mem_of_getElem? hy)
   have HZC := Lib.hid y3
   obtain ⟨ac, cc, rfl, p1, p2⟩ := hcas.form
   have hi2 : j < x.svs.length := hltj
   generalize x.svs[j] = s at *
   obtain ⟨wi, rfl⟩ : ∃ z, z = wr := ⟨_, rfl⟩
   obtain ⟨e0, e1, e2, e3⟩ := id hcy
   have HYK : Hid (∀ W, Below wi.heap.size wi W → SrCells W b2 (o2 + j * 4) s (.slice ac s.cas.length cc) ∧ CasAt All W (.slice ac s.cas.length cc) s.cas ∧ CpCells W b (o + k * 6) x (.slice (some ⟨b2, o2, none⟩) x.svs.length cr)) := fun W hW => ⟨hcy.of (hW.block b2 hb2), hcas.grw hW, (HXK.out W (HB2.out.trans (hW.mono HB2.out.size))).1⟩
   have HBi := Lib.hid HB2.out
   have t0 := mk_size s.proc
   rw [← t0] at y1
   clear hy hcy hcas hr y3 t0 hb2
   have d2 : decide (m2 ≤ M) = true := decide_eq_true hm23
   have HD := Lib.hid fun q => (⟨rfl, rfl, rfl, Nat.le_refl _, fun _ _ => rfl⟩ : Below wi.heap.size wi (wi.drewN q))
   go_wp2_with fail
   go_quiet (fail)
   have HB3 := Lib.hid (HD.out nq)
   generalize wi.drewN nq = wj at *
   obtain ⟨⟨e0, e1, e2, e3⟩, -, ⟨x0, x1, x2, x3, x4, x5⟩⟩ := HYK.out wj HB3.out
   go_wp2
   go_loopg [5, 8] (s.cas.length) (fun gg n i wr => ∃ (i3 : Nat) (m3 : Int), i3 ≤ s.cas.length ∧ gg = s.cas.length - i3 ∧ i = .int .i64 i3 ∧ n = .int .i64 m3 ∧ 0 ≤ m3 ∧ m3 ≤ 4611686018427387904 ∧ (k : Int) + 1 ≤ m3 ∧ Hid (Below wi.heap.size wi wr))
   case atStart => exact ⟨0, _, Nat.zero_le _, rfl, rfl, rfl, by omega, by omega, by omega, HB3.out⟩
   case round =>
    obtain ⟨i3, m3, hi, hgi, rfl, rfl, hm30, hm31, hkm3, HB4⟩ := hrel
    have HBo4 : Hid (Below wo.heap.size wo wr) := HBi.out.trans (HB4.out.mono HBi.out.size)
    obtain ⟨⟨e0, e1, e2, e3⟩, hcas, ⟨x0, x1, x2, x3, x4, x5⟩⟩ := HYK.out wr HB4.out
    by_cases hlti : i3 < s.cas.length
    case neg =>
     have hlti' : ¬ (i3 : Int) < (s.cas.length : Int) := by omega
     clear hcas
     go_wp2
     go_roundg (x.svs.length - (j + 1))
     case rel => exact ⟨j + 1, m3, by omega, rfl, by go_num, rfl, hm30, hm31, hkm3, HBo4.out⟩
     case measure => omega
    by_cases hm33 : m3 ≤ M
    case neg =>
     have d3 : decide (m3 ≤ M) = false := decide_eq_false hm33
     clear hcas
     go_wp2
     go_roundg (x.svs.length - (j + 1))
     case rel => exact ⟨j + 1, m3, by omega, rfl, by go_num, rfl, hm30, hm31, hkm3, HBo4.out⟩
     case measure => omega
    obtain ⟨b3, o3, rfl, -, -, hu, hcu⟩ := CasAt.get hcas i3 hlti
    have hgl := HZC.out _ (List.mem_of_getElem? hu)
    have hi3 : i3 < s.cas.length := hlti
    generalize s.cas[i3] = u at *
    obtain ⟨f0, f1, f2⟩ := hcu
    have t1 := mk_size u.grp
    rw [← t1] at hgl
    clear hu hcas t1
    have d3 : decide (m3 ≤ M) = true := decide_eq_true hm33
    go_wp2
    go_roundg (s.cas.length - (i3 + 1))
    case rel => exact ⟨i3 + 1, _, by omega, rfl, by go_num, rfl, by omega, by omega, by omega, HB4.out⟩
    case measure => omega
end Go.Proofs.Ytpfpjbeofogbgaa.Re
end
section
set_option maxRecDepth 100000
namespace Go.Proofs.Ytpfpjbeofogbgaa.Re
open Go.RowKit
open Sv (Ca Sr Cp SvsAt CasAt CpsAt CpCells LenC Bd Sm)
open Bk (En EnsAt EnCells Cont EnOk OtsAt OtCells keepB below_alloc below_trans alloc_new)
open Sh (Ot)
open Cm (Ln Cl LnsAt)
theorem i64_wf {a : Int} (h : (Lit.int .i64 a).wf = true) : Sv.I64 a := by
 simpa [Sv.I64, Lit.wf, IntKind.min, IntKind.max, IntKind.signed, IntKind.bits] using h
def bigB (n : Int) : Bool := decide (1125899906842624 < n) || decide (n < -1125899906842624)
theorem big_no {n : Int} (h : bigB n = false) : Bd n := by
 simp only [bigB, Bool.or_eq_false_iff, decide_eq_false_iff_not] at h
 exact ⟨by omega, by omega⟩
theorem big_any (n : Int) (w : World) : Calls Try.prog 16 #[.int .i64 n] w fun e w' => e = .returned (.bool (bigB n)) ∧ w' = w := by
 by_cases h : 1125899906842624 < n
 ·rw [show bigB n = true by simp [bigB, h]]
  go_enter Try.func16, Try.ntmps16
  go_wp2
  go_ret
  exact ⟨rfl, rfl⟩
 by_cases h2 : n < -1125899906842624
 ·rw [show bigB n = true by simp [bigB, h2]]
  go_enter Try.func16, Try.ntmps16
  go_wp2
  go_ret
  exact ⟨rfl, rfl⟩
 rw [show bigB n = false by simp [bigB, h, h2]]
 go_enter Try.func16, Try.ntmps16
 go_wp2
 go_ret
 exact ⟨rfl, rfl⟩
theorem take_snoc {α : Type} {p : α → Prop} {l : List α} {k : Nat} {x : α} (hx : l[k]? = some x) (h : ∀ y ∈ l.take k, p y) (hp : p x) : ∀ y ∈ l.take (k + 1), p y := by
 intro y hy
 rw [List.take_add_one, hx] at hy
 rcases List.mem_append.1 hy with h1 | h1
 ·exact h y h1
 ·simp at h1; rw [h1]; exact hp
theorem take_full {α : Type} {p : α → Prop} {l : List α} {k : Nat} (hk : l.length ≤ k) (h : ∀ y ∈ l.take k, p y) : ∀ y ∈ l, p y := by
 rwa [List.take_of_length_le hk] at h
def EntL (y : En) : Prop := Sm y.cl y.outs ∧ y.outs.length ≤ 200
def LiP (told : List Cp) (l : List En) : Prop := told.length ≤ 200 ∧ l.length ≤ 200 ∧ ∀ y ∈ l, EntL y
def LiV (told : List Cp) (l : List En) (w : World) (e : Ending) (w' : World) : Prop := (∃ b, e = .returned (.bool b) ∧ (b = true → LiP told l)) ∧ Below w.heap.size w w'
theorem li_no {told : List Cp} {l : List En} {w w' : World} (h : Below w.heap.size w w') : LiV told l w (.returned (.bool false)) w' := ⟨⟨false, rfl, fun h => by cases h⟩, h⟩
set_option maxHeartbeats 16000000 in
theorem light_any (told : List Cp) (l : List En) (vt v : Value) (w : World) (ht : CpsAt All w vt told) (h : EnsAt All w v l) (hzt : ∀ x ∈ told, LenC x) (hz : ∀ y ∈ l, EnOk y) :
  Calls Try.prog 9 #[vt, v] w fun e w' => LiV told l w e w' := by
 obtain ⟨ta, tc, rfl, t1, t2⟩ := ht.form
 obtain ⟨a, cap, rfl, f1, f2⟩ := h.form
 have HM : Hid (∀ w', Below w.heap.size w w' → EnsAt All w' (.slice a l.length cap) l) := fun w' hb => h.grw hb
 have HNO : Hid (∀ w', Below w.heap.size w w' → LiV told l w (.returned (.bool false)) w') := fun w' h => li_no h
 have HW1 := Lib.hid (weightL_any 200 (by decide) (by decide) _ told w ht hzt)
 have HW2 : Hid (∀ w', Below w.heap.size w w' → _) := fun w' hb => Bk.bweight_any 200 (by decide) (by decide) l _ w' (h.grw hb) hz
 have HRF := Lib.hid (Below.refl w.heap.size w)
 have HOB : Hid (∀ y ∈ l, y.outs.length ≤ 281474976710656) := fun y hy => (hz y hy).2
 clear ht h hzt hz
 go_enter Try.func9, Try.ntmps9
 go_wp2_with fail
 try (go_at_call 15)
 refine HW1.out.mono ?_
 rintro e w1 ⟨⟨n, rfl, hn⟩, hb⟩
 have HB1 := Lib.hid hb
 have HN1 := Lib.hid hn
 clear hb hn HW1
 by_cases h200 : 200 < n
 ·go_wp2
  go_ret
  exact HNO.out _ HB1.out
 have HT := Lib.hid (HN1.out (by omega))
 clear HN1
 go_wp2_with fail
 try (go_at_call 22)
 refine (HW2.out w1 HB1.out).mono ?_
 rintro e w2 ⟨⟨n2, rfl, hn⟩, hb⟩
 have HB2 : Hid (Below w.heap.size w w2) := below_trans HB1.out hb
 have HN2 := Lib.hid hn
 clear hb hn HW2
 by_cases h201 : 200 < n2
 ·go_wp2
  go_ret
  exact HNO.out _ HB2.out
 have HL := Lib.hid (HN2.out (by omega))
 clear HN2
 have HYS : Hid (∀ w', Below w.heap.size w w' → (∀ y ∈ l, Sm y.cl y.outs) → LiV told l w (.returned (.bool true)) w') := fun w' hb hs => ⟨⟨true, rfl, fun _ => ⟨by have := HT.out; omega, by have := HL.out.1; omega, fun y hy => ⟨hs y hy, by have := (HL.out.2 y hy).2; omega⟩⟩⟩, hb⟩
 have HLL : Hid (∀ y ∈ l, y.cl.lines.length ≤ 3000 ∧ y.outs.length ≤ 200) := fun y hy => ⟨(HL.out.2 y hy).1.1, by have := (HL.out.2 y hy).2; omega⟩
 have HLN : Hid (l.length ≤ 200) := by have := HL.out.1; show _ ≤ _; omega
 clear HT HL
 have HBG := Lib.hid big_any
 go_wp2
 go_loopg [5] (l.length) (fun gg t5 wr => ∃ (k : Nat), k ≤ l.length ∧ gg = l.length - k ∧ t5 = .int .i64 k ∧ Hid (∀ y ∈ l.take k, Sm y.cl y.outs) ∧ Hid (Below w.heap.size w wr))
 case atStart => exact ⟨0, Nat.zero_le _, rfl, rfl, by simp [Hid], HB2.out⟩
 case round =>
  obtain ⟨k, hk, hg, rfl, HA, HBn⟩ := hrel
  have hl2 : l.length ≤ 200 := HLN.out
  by_cases hlt : k < l.length
  case neg =>
   have hltz : ¬ (k : Int) < (l.length : Int) := by omega
   have HF := Lib.hid (take_full (p := fun y : En => Sm y.cl y.outs) (by omega) HA.out)
   go_wp2
   go_ret
   exact HYS.out _ HBn.out HF.out
  have hltz : (k : Int) < (l.length : Int) := by omega
  obtain ⟨b, o, m, mo, rfl, hbl, hx, hcell, hcl, hco⟩ := EnsAt.get (HM.out _ HBn.out) k hlt
  have HSN := Lib.hid fun h => take_snoc (p := fun y : En => Sm y.cl y.outs) hx HA.out h
  obtain ⟨zl, zo⟩ := HLL.out _ (List.mem_of_getElem? hx)
  have hi1 : k < l.length := hlt
  generalize l[k] = y at *
  obtain ⟨wo, rfl⟩ : ∃ z, z = wr := ⟨_, rfl⟩
  replace hcl : LnsAt All wo m y.cl.lines := hcl
  replace hco : OtsAt All wo mo y.outs := hco
  obtain ⟨al, nl, rfl, g1, g2⟩ := Cm.LnsAt.form hcl
  obtain ⟨ao, no, rfl, g3, g4⟩ := hco.form
  have HXK : Hid (∀ W, Below wo.heap.size wo W → EnCells W b (o + k * 10) y (.slice al y.cl.lines.length nl) (.slice ao y.outs.length no) ∧ LnsAt All W (.slice al y.cl.lines.length nl) y.cl.lines ∧ OtsAt All W (.slice ao y.outs.length no) y.outs) := fun W hW => ⟨hcell.of (hW.block b hbl), hcl.move (Below.moves hW), hco.grw hW⟩
  have HBo := Lib.hid HBn.out
  clear hx hcell hcl hco hbl
  go_wp2
  go_loopg [6] (y.cl.lines.length) (fun gg t6 wr => ∃ (j : Nat), j ≤ y.cl.lines.length ∧ gg = y.cl.lines.length - j ∧ t6 = .int .i64 j ∧ Hid (∀ x ∈ y.cl.lines.take j, Bd x.billed) ∧ Hid (Below wo.heap.size wo wr))
  case atStart => exact ⟨0, Nat.zero_le _, rfl, rfl, by simp [Hid], Below.refl _ _⟩
  case round =>
   obtain ⟨j, hj, hgj, rfl, HC, HBj⟩ := hrel
   have HBw : Hid (Below w.heap.size w wr) := HBo.out.trans (HBj.out.mono HBo.out.size)
   obtain ⟨⟨c0, c1, c2, c3, c4, c5, c6, c7, c8, c9⟩, hcl, -⟩ := HXK.out wr HBj.out
   by_cases hltj : j < y.cl.lines.length
   ·have hltz2 : (j : Int) < (y.cl.lines.length : Int) := by omega
    obtain ⟨b2, o2, m2, rfl, hx2, hcell2, -⟩ := Cm.LnsAt.get hcl j hltj
    have HSJ := Lib.hid fun h => take_snoc (p := fun x : Ln => Bd x.billed) hx2 HC.out h
    have hi2 : j < y.cl.lines.length := hltj
    generalize y.cl.lines[j] = x at *
    obtain ⟨d0, d1, d2, d3, d4, d5⟩ := hcell2
    clear hx2 hcl
    cases hB : bigB x.billed
    ·have HSJ2 := Lib.hid (HSJ.out (big_no hB))
     go_wp2_with (first | (go_at_call 16; refine (HBG.out _ _).mono ?_; rintro e w9 ⟨rfl, hw⟩; rw [hw, hB]; clear hw w9))
     go_roundg (y.cl.lines.length - (j + 1))
     case measure => omega
     case rel => exact ⟨j + 1, by omega, rfl, by go_num, HSJ2.out, HBj.out⟩
    ·go_wp2_with (first | (go_at_call 16; refine (HBG.out _ _).mono ?_; rintro e w9 ⟨rfl, hw⟩; rw [hw, hB]; clear hw w9))
     go_ret
     exact HNO.out _ HBw.out
   have hltz2 : ¬ (j : Int) < (y.cl.lines.length : Int) := by omega
   have HFJ := Lib.hid (take_full (p := fun x : Ln => Bd x.billed) (by omega) HC.out)
   clear hcl
   have HBj2 := Lib.hid HBj.out
   go_wp2
   clear c0 c1 c2 c3 c4 c5 c6 c7 c8 c9
   go_loopg [7] (y.outs.length) (fun gg t7 wr => ∃ (i : Nat), i ≤ y.outs.length ∧ gg = y.outs.length - i ∧ t7 = .int .i64 i ∧ Hid (∀ u ∈ y.outs.take i, Bd u.plan ∧ Bd u.wr ∧ Bd u.pr ∧ Bd u.de ∧ Bd u.cp ∧ Bd u.cn) ∧ Hid (Below wo.heap.size wo wr))
   case atStart => exact ⟨0, Nat.zero_le _, rfl, rfl, by simp [Hid], HBj2.out⟩
   case round =>
    obtain ⟨i, hi, hgi, rfl, HD, HBi⟩ := hrel
    have HBw2 : Hid (Below w.heap.size w wr) := HBo.out.trans (HBi.out.mono HBo.out.size)
    obtain ⟨⟨c0, c1, c2, c3, c4, c5, c6, c7, c8, c9⟩, -, hco⟩ := HXK.out wr HBi.out
    by_cases hlti : i < y.outs.length
    case neg =>
     have hltz3 : ¬ (i : Int) < (y.outs.length : Int) := by omega
     have HFI := Lib.hid (take_full (p := fun u : Ot => Bd u.plan ∧ Bd u.wr ∧ Bd u.pr ∧ Bd u.de ∧ Bd u.cp ∧ Bd u.cn) (by omega) HD.out)
     have HSN2 := Lib.hid (HSN.out ⟨HFJ.out, HFI.out⟩)
     clear hco
     go_wp2
     go_roundg (l.length - (k + 1))
     case measure => omega
     case rel => exact ⟨k + 1, by omega, rfl, by go_num, HSN2.out, HBw2.out⟩
    have hltz3 : (i : Int) < (y.outs.length : Int) := by omega
    obtain ⟨b3, o3, rfl, -, hx3, hcell3⟩ := OtsAt.get hco i hlti
    have HSI := Lib.hid fun h => take_snoc (p := fun u : Ot => Bd u.plan ∧ Bd u.wr ∧ Bd u.pr ∧ Bd u.de ∧ Bd u.cp ∧ Bd u.cn) hx3 HD.out h
    have hi3 : i < y.outs.length := hlti
    generalize y.outs[i] = u at *
    obtain ⟨e0, e1, e2, e3, e4, e5, e6, e7⟩ := hcell3
    have HXn := Lib.hid (alloc_new wr (#[.int .i64 u.al, .int .i64 u.de, .int .i64 u.cp, .int .i64 u.cn, .int .i64 u.plan, .int .i64 u.wr, .int .i64 u.pr, .int .i64 u.deny] : Array Value) 50)
    have HB3 : Hid (Below wo.heap.size wo (wr.alloc (.cells (#[.int .i64 u.al, .int .i64 u.de, .int .i64 u.cp, .int .i64 u.cn, .int .i64 u.plan, .int .i64 u.wr, .int .i64 u.pr, .int .i64 u.deny] : Array Value) 50))) := HBi.out.trans ((below_alloc wr _).mono HBi.out.size)
    have HB4 : Hid (Below w.heap.size w (wr.alloc (.cells (#[.int .i64 u.al, .int .i64 u.de, .int .i64 u.cp, .int .i64 u.cn, .int .i64 u.plan, .int .i64 u.wr, .int .i64 u.pr, .int .i64 u.deny] : Array Value) 50))) := HBw2.out.trans ((below_alloc wr _).mono HBw2.out.size)
    clear hx3 hco
    cases q0 : bigB u.plan
    case true =>
     go_wp2_with (first | (go_at_call 16; refine (HBG.out _ _).mono ?_; rintro e w9 ⟨rfl, hw⟩; rw [hw]; clear hw w9; first | rw [q0]))
     go_ret
     exact HNO.out _ HB4.out
    cases q1 : bigB u.wr
    case true =>
     go_wp2_with (first | (go_at_call 16; refine (HBG.out _ _).mono ?_; rintro e w9 ⟨rfl, hw⟩; rw [hw]; clear hw w9; first | rw [q0] | rw [q1]))
     go_ret
     exact HNO.out _ HB4.out
    cases q2 : bigB u.pr
    case true =>
     go_wp2_with (first | (go_at_call 16; refine (HBG.out _ _).mono ?_; rintro e w9 ⟨rfl, hw⟩; rw [hw]; clear hw w9; first | rw [q0] | rw [q1] | rw [q2]))
     go_ret
     exact HNO.out _ HB4.out
    cases q3 : bigB u.de
    case true =>
     go_wp2_with (first | (go_at_call 16; refine (HBG.out _ _).mono ?_; rintro e w9 ⟨rfl, hw⟩; rw [hw]; clear hw w9; first | rw [q0] | rw [q1] | rw [q2] | rw [q3]))
     go_ret
     exact HNO.out _ HB4.out
    cases q4 : bigB u.cp
    case true =>
     go_wp2_with (first | (go_at_call 16; refine (HBG.out _ _).mono ?_; rintro e w9 ⟨rfl, hw⟩; rw [hw]; clear hw w9; first | rw [q0] | rw [q1] | rw [q2] | rw [q3] | rw [q4]))
     go_ret
     exact HNO.out _ HB4.out
    cases q5 : bigB u.cn
    case true =>
     go_wp2_with (first | (go_at_call 16; refine (HBG.out _ _).mono ?_; rintro e w9 ⟨rfl, hw⟩; rw [hw]; clear hw w9; first | rw [q0] | rw [q1] | rw [q2] | rw [q3] | rw [q4] | rw [q5]))
     go_ret
     exact HNO.out _ HB4.out
    have HSI2 := Lib.hid (HSI.out ⟨big_no q0, big_no q1, big_no q2, big_no q3, big_no q4, big_no q5⟩)
    go_wp2_with (first | (go_at_call 16; refine (HBG.out _ _).mono ?_; rintro e w9 ⟨rfl, hw⟩; rw [hw]; clear hw w9; first | rw [q0] | rw [q1] | rw [q2] | rw [q3] | rw [q4] | rw [q5]))
    go_roundg (y.outs.length - (i + 1))
    case measure => omega
    case rel => exact ⟨i + 1, by omega, rfl, by go_num, HSI2.out, HB3.out⟩
end Go.Proofs.Ytpfpjbeofogbgaa.Re
end
