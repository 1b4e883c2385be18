/-
  Texts put together (merge.py): PWh, PPrint.
-/
import Derived.Test.YtoibhgoaibjopaaGreatDoorMj22
import Derived.Test.YtoibhgoaibjopaaGreatDoorMj23
/-
  What the writer's head does, as a contract.
-/
section
set_option linter.unusedSimpArgs false
set_option linter.unusedVariables false
set_option maxRecDepth 100000
namespace Go.Proofs.YtoibhgoaibjopaaGreatDoor.Pl
open Go.RowKit
open Wo (Wd WdsAt box_cell box_two keepB heap_far)

set_option maxHeartbeats 16000000 in
theorem wr_head (q : Nat) (ws : List Tx) (p : Pn) (m : Value) (w : World) (h : WrAt q ws w) (hT : TabQ q w) (hl : limB p = true) (hm : p.mode = 0 ∨ p.mode = 1) (hsz : szW ws + szW (headW p) ≤ 65537) :
    Calls Tryz.prog 15 #[.pointer (some ⟨q, 0, none⟩), pnv p m] w fun e w' => DN q (ws ++ headW p) w e w' := by
  obtain ⟨l1, l3, l2, l4⟩ := lim_good hl
  have hs : szW (headW p) = szW [tPlan, if p.mode = 1 then tAgg else tEmb] + (szW [tMem, Nu.moneyL p.indDed, Nu.moneyL p.indOop] + szW [tFam, Nu.moneyL p.famDed, Nu.moneyL p.famOop]) := by
    unfold headW
    simp only [sz_cons, sz_nil]; omega
  have hw : headW p = [tPlan, if p.mode = 1 then tAgg else tEmb] ++ ([tMem, Nu.moneyL p.indDed, Nu.moneyL p.indOop] ++ [tFam, Nu.moneyL p.famDed, Nu.moneyL p.famOop]) := rfl
  rw [hs] at hsz
  rw [hw]
  clear hs hw hl
  obtain ⟨md, x1, x2, x3, x4, rs⟩ := p
  simp only at *
  simp only [goodB, Bool.and_eq_true, decide_eq_true_eq] at l1 l2 l3 l4
  have HM1 : Hid (∀ W, Nu.Tab W → Calls Tryz.prog 30 #[.int .i64 x1] W fun e w' => e = .returned (.string (mk (Nu.moneyL x1))) ∧ Below W.heap.size W w') := fun W hW => Nu.money_any x1 (by omega) (by omega) W hW
  have HM2 : Hid (∀ W, Nu.Tab W → Calls Tryz.prog 30 #[.int .i64 x2] W fun e w' => e = .returned (.string (mk (Nu.moneyL x2))) ∧ Below W.heap.size W w') := fun W hW => Nu.money_any x2 (by omega) (by omega) W hW
  have HM3 : Hid (∀ W, Nu.Tab W → Calls Tryz.prog 30 #[.int .i64 x3] W fun e w' => e = .returned (.string (mk (Nu.moneyL x3))) ∧ Below W.heap.size W w') := fun W hW => Nu.money_any x3 (by omega) (by omega) W hW
  have HM4 : Hid (∀ W, Nu.Tab W → Calls Tryz.prog 30 #[.int .i64 x4] W fun e w' => e = .returned (.string (mk (Nu.moneyL x4))) ∧ Below W.heap.size W w') := fun W hW => Nu.money_any x4 (by omega) (by omega) W hW
  generalize Nu.moneyL x1 = t1 at *
  generalize Nu.moneyL x2 = t2 at *
  generalize Nu.moneyL x3 = t3 at *
  generalize Nu.moneyL x4 = t4 at *
  have hq := h.lt
  have hb0 := below_alloc w (.cells #[.int .i64 md, .int .i64 x1, .int .i64 x2, .int .i64 x3, .int .i64 x4, m] 24)
  have HW0 := Lib.hid (h.grw hb0)
  have HK0 := Lib.hid (KeptW.of hb0 hq)
  have HT0 := Lib.hid (hT.kept (hb0.mono (Nat.le_of_lt hq)))
  have HB0 := Lib.hid (heap_alloc_new w (.cells #[.int .i64 md, .int .i64 x1, .int .i64 x2, .int .i64 x3, .int .i64 x4, m] 24))
  obtain ⟨x0', x1', x2', x3', x4', x5'⟩ := bsix HB0.out
  clear h hb0 hT l1 l2 l3 l4
  rcases hm with hm | hm
  · rw [if_neg (show ¬ md = 1 by omega)] at hsz ⊢
    have e1 : (md == 1) = false := by rw [hm]; rfl
    clear hm
    go_enter Tryz.func15, Tryz.ntmps15
    go_upto_region 1 with fail
    generalize w.alloc (.cells #[.int .i64 md, .int .i64 x1, .int .i64 x2, .int .i64 x3, .int .i64 x4, m] 24) = W0 at *
    generalize w.heap.size = p0 at *
    go_wp2_with fail
    go_at_call 29
    refine (add2 q ws tPlan tEmb W0 HW0.out (by omega)).mono ?_
    rintro e W1 ⟨rfl, h1, h2⟩
    have HW1 := Lib.hid h1
    have HK1 := Lib.hid (HK0.out.trans h2)
    have HT1 := Lib.hid (HT0.out.kept h2.1)
    have HB1 := Lib.hid (box_kept HB0.out h2 hq (by decide))
    clear h1 h2 HW0 HK0 HT0 HB0 x0' x1' x2' x3' x4' x5'
    go_upto_region 5 with fail
    have HBd1 := Lib.hid (Below.drew (Below.refl W1.heap.size W1))
    have HMa1 := Lib.hid fun W' (hW : Below W1.heap.size W1 W') => HM1.out W' (HT1.out.kept (hW.mono (Nat.le_of_lt HW1.out.lt))).1
    have HMb1 := Lib.hid fun W' (hW : Below W1.heap.size W1 W') => HM3.out W' (HT1.out.kept (hW.mono (Nat.le_of_lt HW1.out.lt))).1
    obtain ⟨y0, y1, y2, y3, y4, y5⟩ := bsix HB1.out
    go_cut [20] (fun s wx => s = .tuple #[] ∧ Hid (WrAt q ((ws ++ [tPlan, tEmb]) ++ [tMem, t1, t3]) wx) ∧ Hid (KeptW q W1 wx))
    case first =>
      (go_region_with (first | (go_at_call_of 30 (Value.int IntKind.i64 x1); refine (HMa1.out _ HBd1.out).mono ?_; rintro x w1 ⟨rfl, hb1⟩; have HBa := Lib.hid (below_trans HBd1.out hb1); clear hb1; obtain ⟨z0, z1, z2, z3, z4, z5⟩ := bsix (keepB HB1.out HBa.out)) | (go_at_call_of 30 (Value.int IntKind.i64 x3); refine (HMb1.out _ HBa.out).mono ?_; rintro x w2 ⟨rfl, hb2⟩; have HBb := Lib.hid (below_trans HBa.out hb2); clear hb2) | (go_at_call 29; refine (add3 q _ tMem t1 t3 w2 (HW1.out.grw HBb.out) (by simp only [sz_app]; omega)).mono ?_; rintro x w3 ⟨rfl, h1, h2⟩; have H1 := Lib.hid h1; have H2 := Lib.hid ((KeptW.of HBb.out HW1.out.lt).trans h2); clear h1 h2)))
      all_goals
        go_wp2_with fail
        go_meet
        exact ⟨rfl, H1.out, H2.out⟩
    case rest =>
      obtain ⟨-, HW2, h2⟩ := hcut
      have HK2 := Lib.hid (HK1.out.trans h2.out)
      have HT2 := Lib.hid (HT1.out.kept h2.out.1)
      have HB2 := Lib.hid (box_kept HB1.out h2.out hq (by decide))
      clear h2 HW1 HK1 HT1 HB1 HBd1 HMa1 HMb1 y0 y1 y2 y3 y4 y5
      generalize hW2 : wc = W2 at *
      clear hW2
      have HBd2 := Lib.hid (Below.drew (Below.refl W2.heap.size W2))
      have HMa2 := Lib.hid fun W' (hW : Below W2.heap.size W2 W') => HM2.out W' (HT2.out.kept (hW.mono (Nat.le_of_lt HW2.out.lt))).1
      have HMb2 := Lib.hid fun W' (hW : Below W2.heap.size W2 W') => HM4.out W' (HT2.out.kept (hW.mono (Nat.le_of_lt HW2.out.lt))).1
      obtain ⟨y0, y1, y2, y3, y4, y5⟩ := bsix HB2.out
      go_upto_region 6 with fail
      (go_region_with (first | (go_at_call_of 30 (Value.int IntKind.i64 x2); refine (HMa2.out _ HBd2.out).mono ?_; rintro x w1 ⟨rfl, hb1⟩; have HBa := Lib.hid (below_trans HBd2.out hb1); clear hb1; obtain ⟨z0, z1, z2, z3, z4, z5⟩ := bsix (keepB HB2.out HBa.out)) | (go_at_call_of 30 (Value.int IntKind.i64 x4); refine (HMb2.out _ HBa.out).mono ?_; rintro x w2 ⟨rfl, hb2⟩; have HBb := Lib.hid (below_trans HBa.out hb2); clear hb2) | (go_at_call 29; refine (add3 q _ tFam t2 t4 w2 (HW2.out.grw HBb.out) (by simp only [sz_app]; omega)).mono ?_; rintro x w3 ⟨rfl, h1, h2⟩; have H1 := Lib.hid h1; have H2 := Lib.hid ((KeptW.of HBb.out HW2.out.lt).trans h2); clear h1 h2)))
      all_goals
        go_wp2
        go_end0
        exact ⟨rfl, by have := H1.out; simpa [List.append_assoc] using this, HK2.out.trans H2.out⟩
  · rw [if_pos hm] at hsz ⊢
    have e1 : (md == 1) = true := by rw [hm]; rfl
    clear hm
    go_enter Tryz.func15, Tryz.ntmps15
    go_upto_region 1 with fail
    generalize w.alloc (.cells #[.int .i64 md, .int .i64 x1, .int .i64 x2, .int .i64 x3, .int .i64 x4, m] 24) = W0 at *
    generalize w.heap.size = p0 at *
    go_wp2_with fail
    go_at_call 29
    refine (add2 q ws tPlan tAgg W0 HW0.out (by omega)).mono ?_
    rintro e W1 ⟨rfl, h1, h2⟩
    have HW1 := Lib.hid h1
    have HK1 := Lib.hid (HK0.out.trans h2)
    have HT1 := Lib.hid (HT0.out.kept h2.1)
    have HB1 := Lib.hid (box_kept HB0.out h2 hq (by decide))
    clear h1 h2 HW0 HK0 HT0 HB0 x0' x1' x2' x3' x4' x5'
    go_upto_region 5 with fail
    have HBd1 := Lib.hid (Below.drew (Below.refl W1.heap.size W1))
    have HMa1 := Lib.hid fun W' (hW : Below W1.heap.size W1 W') => HM1.out W' (HT1.out.kept (hW.mono (Nat.le_of_lt HW1.out.lt))).1
    have HMb1 := Lib.hid fun W' (hW : Below W1.heap.size W1 W') => HM3.out W' (HT1.out.kept (hW.mono (Nat.le_of_lt HW1.out.lt))).1
    obtain ⟨y0, y1, y2, y3, y4, y5⟩ := bsix HB1.out
    go_cut [20] (fun s wx => s = .tuple #[] ∧ Hid (WrAt q ((ws ++ [tPlan, tAgg]) ++ [tMem, t1, t3]) wx) ∧ Hid (KeptW q W1 wx))
    case first =>
      (go_region_with (first | (go_at_call_of 30 (Value.int IntKind.i64 x1); refine (HMa1.out _ HBd1.out).mono ?_; rintro x w1 ⟨rfl, hb1⟩; have HBa := Lib.hid (below_trans HBd1.out hb1); clear hb1; obtain ⟨z0, z1, z2, z3, z4, z5⟩ := bsix (keepB HB1.out HBa.out)) | (go_at_call_of 30 (Value.int IntKind.i64 x3); refine (HMb1.out _ HBa.out).mono ?_; rintro x w2 ⟨rfl, hb2⟩; have HBb := Lib.hid (below_trans HBa.out hb2); clear hb2) | (go_at_call 29; refine (add3 q _ tMem t1 t3 w2 (HW1.out.grw HBb.out) (by simp only [sz_app]; omega)).mono ?_; rintro x w3 ⟨rfl, h1, h2⟩; have H1 := Lib.hid h1; have H2 := Lib.hid ((KeptW.of HBb.out HW1.out.lt).trans h2); clear h1 h2)))
      all_goals
        go_wp2_with fail
        go_meet
        exact ⟨rfl, H1.out, H2.out⟩
    case rest =>
      obtain ⟨-, HW2, h2⟩ := hcut
      have HK2 := Lib.hid (HK1.out.trans h2.out)
      have HT2 := Lib.hid (HT1.out.kept h2.out.1)
      have HB2 := Lib.hid (box_kept HB1.out h2.out hq (by decide))
      clear h2 HW1 HK1 HT1 HB1 HBd1 HMa1 HMb1 y0 y1 y2 y3 y4 y5
      generalize hW2 : wc = W2 at *
      clear hW2
      have HBd2 := Lib.hid (Below.drew (Below.refl W2.heap.size W2))
      have HMa2 := Lib.hid fun W' (hW : Below W2.heap.size W2 W') => HM2.out W' (HT2.out.kept (hW.mono (Nat.le_of_lt HW2.out.lt))).1
      have HMb2 := Lib.hid fun W' (hW : Below W2.heap.size W2 W') => HM4.out W' (HT2.out.kept (hW.mono (Nat.le_of_lt HW2.out.lt))).1
      obtain ⟨y0, y1, y2, y3, y4, y5⟩ := bsix HB2.out
      go_upto_region 6 with fail
      (go_region_with (first | (go_at_call_of 30 (Value.int IntKind.i64 x2); refine (HMa2.out _ HBd2.out).mono ?_; rintro x w1 ⟨rfl, hb1⟩; have HBa := Lib.hid (below_trans HBd2.out hb1); clear hb1; obtain ⟨z0, z1, z2, z3, z4, z5⟩ := bsix (keepB HB2.out HBa.out)) | (go_at_call_of 30 (Value.int IntKind.i64 x4); refine (HMb2.out _ HBa.out).mono ?_; rintro x w2 ⟨rfl, hb2⟩; have HBb := Lib.hid (below_trans HBa.out hb2); clear hb2) | (go_at_call 29; refine (add3 q _ tFam t2 t4 w2 (HW2.out.grw HBb.out) (by simp only [sz_app]; omega)).mono ?_; rintro x w3 ⟨rfl, h1, h2⟩; have H1 := Lib.hid h1; have H2 := Lib.hid ((KeptW.of HBb.out HW2.out.lt).trans h2); clear h1 h2)))
      all_goals
        go_wp2
        go_end0
        exact ⟨rfl, by have := H1.out; simpa [List.append_assoc] using this, HK2.out.trans H2.out⟩
end Go.Proofs.YtoibhgoaibjopaaGreatDoor.Pl
end

/-
  What plan.Print answers, as a contract: where the text is not too long.
-/
section
set_option linter.unusedSimpArgs false
set_option linter.unusedVariables false
set_option maxRecDepth 100000
namespace Go.Proofs.YtoibhgoaibjopaaGreatDoor.Pl
open Go.RowKit
open Wo (Wd WdsAt box_cell box_two keepB heap_far)

theorem keepQ {q k : Nat} {w w' : World} {o : Obj} (h : w.heap[k]? = some o) (hb : Below q w w') (hk : k < q) : w'.heap[k]? = some o := by rw [hb.block k hk]; exact h
theorem rw_take (l : List Ru) (n : Nat) (c : Ru) (h : l[n]? = some c) : (l.take (n + 1)).flatMap ruleW = (l.take n).flatMap ruleW ++ ruleW c := by
  rw [List.take_add_one, h]; simp
theorem rw_le (l : List Ru) (n : Nat) : szW ((l.take n).flatMap ruleW) ≤ szW (l.flatMap ruleW) := by
  conv => rhs; rw [← List.take_append_drop n l]
  simp only [List.flatMap_append, sz_app]; omega
set_option maxHeartbeats 16000000 in
theorem print_good (p : Pn) (m : Value) (w : World) (h : RusAt All w m p.rules) (hT : Nu.Tab w) (hp : planB p = true) (hsz : szW (planW p) ≤ 65536) :
    Calls Tryz.prog 7 #[pnv p m] w fun e w' => e = .returned (.tuple #[.string (mk (prT p)), .int .i64 0]) ∧ Below w.heap.size w w' := by
  have he : checkE p = 0 := by unfold checkE; rw [if_pos hp]
  have HCK := Lib.hid fun W (hW : Below w.heap.size w W) => check_any p m W (h.grw hW)
  rw [he] at HCK
  simp only [planB, Bool.and_eq_true, Bool.or_eq_true, decide_eq_true_eq, List.all_eq_true] at hp
  obtain ⟨hm, h64, hl, hr⟩ := hp
  have HRB := Lib.hid hr
  have HL := Lib.hid hl
  have HM := Lib.hid hm
  have hpw : planW p = headW p ++ p.rules.flatMap ruleW := rfl
  have HPW := Lib.hid hpw
  rw [hpw, sz_app] at hsz
  have HRu := Lib.hid h
  have HTb := Lib.hid hT
  obtain ⟨ma, mc, rfl, hm1, hm2, hm3⟩ := h.form
  have hm3 : p.rules.length ≤ 281474976710656 := hm3
  have hb0 := below_trans (below_trans (below_alloc w (.cells #[.int .i64 p.mode, .int .i64 p.indDed, .int .i64 p.famDed, .int .i64 p.indOop, .int .i64 p.famOop, .slice ma p.rules.length mc] 24)) (below_alloc _ (.cells #[.string ⟨#[]⟩] 9))) (below_alloc _ (.cells #[.int .i64 0] 27))
  have HB0 := Lib.hid hb0
  have h0 := keepB (heap_alloc_new w (.cells #[.int .i64 p.mode, .int .i64 p.indDed, .int .i64 p.famDed, .int .i64 p.indOop, .int .i64 p.famOop, .slice ma p.rules.length mc] 24)) (below_trans (below_alloc _ (.cells #[.string ⟨#[]⟩] 9)) (below_alloc _ (.cells #[.int .i64 0] 27)))
  have h1 := heap_alloc_new (w.alloc (.cells #[.int .i64 p.mode, .int .i64 p.indDed, .int .i64 p.famDed, .int .i64 p.indOop, .int .i64 p.famOop, .slice ma p.rules.length mc] 24)) (.cells #[.string ⟨#[]⟩] 9)
  have h2 := heap_alloc_new ((w.alloc (.cells #[.int .i64 p.mode, .int .i64 p.indDed, .int .i64 p.famDed, .int .i64 p.indOop, .int .i64 p.famOop, .slice ma p.rules.length mc] 24)).alloc (.cells #[.string ⟨#[]⟩] 9)) (.cells #[.int .i64 0] 27)
  rw [show (w.alloc (.cells #[.int .i64 p.mode, .int .i64 p.indDed, .int .i64 p.famDed, .int .i64 p.indOop, .int .i64 p.famOop, .slice ma p.rules.length mc] 24)).heap.size = w.heap.size + 1 by simp] at h1
  rw [show ((w.alloc (.cells #[.int .i64 p.mode, .int .i64 p.indDed, .int .i64 p.famDed, .int .i64 p.indOop, .int .i64 p.famOop, .slice ma p.rules.length mc] 24)).alloc (.cells #[.string ⟨#[]⟩] 9)).heap.size = w.heap.size + 2 by simp] at h2
  have HP0 := Lib.hid h0
  have HS0 := Lib.hid (keepB h1 (below_alloc _ (.cells #[.int .i64 0] 27)))
  have HE0 := Lib.hid h2
  have hz0 : (((w.alloc (.cells #[.int .i64 p.mode, .int .i64 p.indDed, .int .i64 p.famDed, .int .i64 p.indOop, .int .i64 p.famOop, .slice ma p.rules.length mc] 24)).alloc (.cells #[.string ⟨#[]⟩] 9)).alloc (.cells #[.int .i64 0] 27)).heap.size = w.heap.size + 3 := by simp
  have HZ0 := Lib.hid hz0
  have hmf : ∀ (fn : Fn) (first cap : Array Value) (w : World), (Instr.makeFunc fn first cap).run Tryz.prog w = .ok (.func fn first cap) w := fun _ _ _ _ => rfl
  clear h0 h1 h2 he hb0 h hT hm hl hr hz0 hpw
  go_enter_defers Tryz.func7, Tryz.ntmps7
  go_upto_region 1 with fail
  generalize ((w.alloc (.cells #[.int .i64 p.mode, .int .i64 p.indDed, .int .i64 p.famDed, .int .i64 p.indOop, .int .i64 p.famOop, .slice ma p.rules.length mc] 24)).alloc (.cells #[.string ⟨#[]⟩] 9)).alloc (.cells #[.int .i64 0] 27) = W0 at *
  obtain ⟨p0, p1, p2, p3, p4, p5⟩ := bsix HP0.out
  go_wp2_with fail
  go_at_call 13
  refine (HCK.out _ HB0.out).mono ?_
  rintro e w1 ⟨rfl, hb1⟩
  have hs1 := hb1.size
  rw [HZ0.out] at hs1
  have HP1 := Lib.hid (keepB HP0.out hb1)
  have HS1 := Lib.hid (keepB HS0.out hb1)
  have HE1 := Lib.hid (keepB HE0.out hb1)
  have HB1 := Lib.hid (below_trans HB0.out hb1)
  clear hb1 HP0 HS0 HE0 HB0 HCK HZ0 p0 p1 p2 p3 p4 p5
  have hb2 := below_alloc w1 (.cells #[.slice none 0 0, .int .i64 0] 46)
  have HP2 := Lib.hid (keepB HP1.out hb2)
  have HS2 := Lib.hid (keepB HS1.out hb2)
  have HE2 := Lib.hid (keepB HE1.out hb2)
  have HB2 := Lib.hid (below_trans HB1.out hb2)
  have HW2 : Hid (WrAt w1.heap.size [] (w1.alloc (.cells #[.slice none 0 0, .int .i64 0] 46))) := ⟨_, heap_alloc_new w1 _, World.ownsRow_nil _ _ _ _⟩
  have HT2 : Hid (TabQ w1.heap.size (w1.alloc (.cells #[.slice none 0 0, .int .i64 0] 46))) := ⟨Nu.tab_grw HTb.out HB2.out, fun g hg => by have := tab_lt HTb.out g hg; have := HB1.out.size; omega⟩
  have HR2 : Hid (RusAt (fun b => b < w1.heap.size) (w1.alloc (.cells #[.slice none 0 0, .int .i64 0] 46)) (.slice ma p.rules.length mc) p.rules) := ((HRu.out.grw HB1.out).move (moves_weak _ fun b hb _ => hb)).move (moves_new hb2)
  clear hb2 HP1 HS1 HE1 HRu HTb HB1
  go_upto_region 6 with fail
  generalize w1.alloc (.cells #[.slice none 0 0, .int .i64 0] 46) = W2 at *
  generalize w1.heap.size = q at *
  obtain ⟨p0, p1, p2, p3, p4, p5⟩ := bsix HP2.out
  go_wp2_with fail
  go_at_call 15
  refine (wr_head q [] p _ W2 HW2.out HT2.out HL.out HM.out (by rw [sz_nil]; omega)).mono ?_
  rintro e w3 ⟨rfl, h1, h2⟩
  have HW3 : Hid (WrAt q (headW p) w3) := h1
  have HP3 := Lib.hid (keepQ HP2.out h2.1 (by omega))
  have HS3 := Lib.hid (keepQ HS2.out h2.1 (by omega))
  have HE3 := Lib.hid (keepQ HE2.out h2.1 (by omega))
  have HT3 := Lib.hid (HT2.out.kept h2.1)
  have HR3 := Lib.hid (HR2.out.lowq h2.1)
  have HB3 : Hid (Below w.heap.size w w3) := HB2.out.trans (h2.1.mono (by omega))
  clear h1 h2 HP2 HS2 HE2 HT2 HR2 HB2 HW2 p0 p1 p2 p3 p4 p5
  obtain ⟨p0, p1, p2, p3, p4, p5⟩ := bsix HP3.out
  have HKr := Lib.hid (KeptW.refl q w3)
  have HW30 : Hid (WrAt q (headW p ++ (p.rules.take 0).flatMap ruleW) w3) := by show WrAt _ _ _; simpa using HW3.out
  go_wp2
  go_loopg [19] (p.rules.length) (fun g i wr => ∃ n : Nat, n ≤ p.rules.length ∧ g = p.rules.length - n ∧ i = .int .i64 n ∧ Hid (KeptW q w3 wr) ∧ Hid (WrAt q (headW p ++ (p.rules.take n).flatMap ruleW) wr))
  case atStart => exact ⟨0, Nat.zero_le _, rfl, rfl, HKr.out, HW30.out⟩
  case round =>
    clear HKr HW30 p0 p1 p2 p3 p4 p5
    obtain ⟨n, hn, hgk, rfl, HKn, HWn⟩ := hrel
    by_cases hlt : n < p.rules.length
    · obtain ⟨b, o, kv, uv, sv, rfl, hbs, hx, hcc, hin⟩ := RusAt.get (HR3.out.lowq HKn.out.1) n hlt
      obtain ⟨y0, y1, y2, y3, y4, y5, y6, y7⟩ := hcc
      obtain ⟨-, -, -, hk1, hk2, hk3⟩ := id hin
      obtain ⟨ka, kc, rfl, -, -⟩ := hk1.form
      obtain ⟨ua, uc, rfl, -, -⟩ := hk2.form
      obtain ⟨sa, sc, rfl, -, -, -⟩ := hk3.form
      have HUT := Lib.hid (rw_take p.rules n _ hx)
      have hle := rw_le p.rules (n + 1)
      have hcB : ruleB p.rules[n] = true := HRB.out _ (List.getElem_mem hlt)
      have hbz := below_alloc wr (.cells #[.int .i64 p.rules[n].rank, .int .i64 p.rules[n].cif.kind, .string (mk p.rules[n].cif.lo), .string (mk p.rules[n].cif.hi), .int .i64 p.rules[n].cif.n, .slice ka p.rules[n].cif.kids.length kc, .slice ua p.rules[n].unl.length uc, .slice sa p.rules[n].sets.length sc] 35)
      have HWz := Lib.hid (HWn.out.grw hbz)
      have hkz := KeptW.of hbz HWn.out.lt
      have HKz := Lib.hid (HKn.out.trans hkz)
      have HTz := Lib.hid (HT3.out.kept (HKn.out.trans hkz).1)
      have HIn := Lib.hid (hin.move (Below.moves_lo hkz.1))
      rw [HUT.out, sz_app] at hle
      have HCB := Lib.hid hcB
      clear hx hbz hkz HWn hcB hin hk1 hk2 hk3
      generalize p.rules[n] = ru at *
      have HC := Lib.hid (wr_rule q _ ru _ _ _ _ HWz.out HTz.out HCB.out HIn.out (by rw [sz_app]; omega))
      clear HWz HTz
      go_wp2_with fail
      go_at_call 16
      refine HC.out.mono ?_
      rintro e w7 ⟨rfl, h1, h2⟩
      have HW7 := Lib.hid h1
      have HK7 := Lib.hid (HKz.out.trans h2)
      clear h1 h2 HC
      go_wp2
      go_roundg (p.rules.length - (n + 1))
      case rel => exact ⟨n + 1, by omega, rfl, by go_num, HK7.out, by rw [HUT.out]; show WrAt _ _ _; simpa [List.append_assoc] using HW7.out⟩
      case measure => omega
    · have hall : p.rules.take n = p.rules := List.take_of_length_le (by omega)
      rw [hall, ← HPW.out] at HWn
      clear hall
      obtain ⟨lv, hbq, hown⟩ := HWn.out
      have hwl := sz_len (planW p)
      have hszp : szW (planW p) ≤ 65536 := by rw [HPW.out, sz_app]; exact hsz
      obtain ⟨la, lc, rfl, -, -⟩ := own_form hown
      have hTx : TxAt All wr (.slice la (planW p).length lc) (planW p) := row_of_own hown (fun _ _ => trivial) fun j u y hu hy => by
        rw [List.getElem?_map, hy] at hu
        exact (Option.some.inj hu).symm
      have HJ := Lib.hid (Wo.join_any _ (planW p) wr hTx (by have := join_size (planW p); omega))
      obtain ⟨c0, c1, -, -⟩ := box_two hbq
      have HS4 := Lib.hid (keepQ HS3.out HKn.out.1 (by omega))
      have HE4 := Lib.hid (keepQ HE3.out HKn.out.1 (by omega))
      have HB4 : Hid (Below w.heap.size w wr) := HB3.out.trans (HKn.out.1.mono (by omega))
      have HPT : Hid (joinC 32 (planW p) = prT p) := rfl
      rw [HPT.out] at HJ
      clear hbq hown hTx HS3 HE3 HB3 HKn HWn HW3 HP3 HT3 HR3 hwl HPT
      go_wp2_with fail
      go_at_call 17
      refine HJ.out.mono ?_
      rintro e w5 ⟨rfl, hb5⟩
      obtain ⟨s0, s1⟩ := box_cell (keepB HS4.out hb5)
      obtain ⟨e0, e1⟩ := box_cell (keepB HE4.out hb5)
      have HB5 := Lib.hid (below_trans HB4.out hb5)
      clear hb5 HS4 HE4 HB4 HJ
      go_wp2
      refine leaves_cons (f := 14) (args := #[.pointer (some ⟨w.heap.size + 1, 0, none⟩), .pointer (some ⟨w.heap.size + 2, 0, none⟩)]) (by simp) (by simp [go_sem]) ?_
      refine (pr_idle ⟨w.heap.size + 1, 0, none⟩ ⟨w.heap.size + 2, 0, none⟩ _).mono ?_
      rintro e u' w7 ⟨rfl, rfl, rfl⟩
      refine ⟨.tuple #[.string (mk (prT p)), .int .i64 0], by simp [results, Tryz.results7, go_sem, s0, e0], rfl, ?_⟩
      exact (HB5.out.setCell (p := ⟨w.heap.size + 1, 0, none⟩) (by show w.heap.size ≤ w.heap.size + 1; omega) _).setCell (p := ⟨w.heap.size + 2, 0, none⟩) (by show w.heap.size ≤ w.heap.size + 2; omega) _
/-- What Print answers, where the text of a plan that may be is not too long. -/
theorem print_any (p : Pn) (m : Value) (w : World) (h : RusAt All w m p.rules) (hT : Nu.Tab w) (hsz : planB p = true → szW (planW p) ≤ 65536) :
    Calls Tryz.prog 7 #[pnv p m] w fun e w' => e = .returned (.tuple #[.string (mk (prV p)), .int .i64 (prE p)]) ∧ Below w.heap.size w w' := by
  by_cases hp : planB p = true
  · have hs := hsz hp
    have he : prE p = 0 := by
      unfold prE prT
      rw [if_pos hp, if_neg (by have := join_size (planW p); omega)]
    have hv : prV p = prT p := by unfold prV; rw [if_pos he]
    rw [he, hv]
    exact print_good p m w h hT hp hs
  · have he : prE p = 15 := by unfold prE; rw [if_neg hp]
    have hv : prV p = [] := by unfold prV; rw [if_neg (by rw [he]; decide)]
    rw [he, hv]
    exact print_bad p m w h hp
end Go.Proofs.YtoibhgoaibjopaaGreatDoor.Pl
end
