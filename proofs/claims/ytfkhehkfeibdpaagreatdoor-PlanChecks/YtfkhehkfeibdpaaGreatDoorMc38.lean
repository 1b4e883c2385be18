/-
  Texts put together (merge.py): PPrint.
-/
import Derived.Test.YtfkhehkfeibdpaaGreatDoorMc37
/-
  What plan.Print answers, as a contract: where the text is not too long.
-/
section
set_option linter.unusedSimpArgs false
set_option linter.unusedVariables false
set_option maxRecDepth 100000
namespace Go.Proofs.YtfkhehkfeibdpaaGreatDoor.Pl
open Go.RowKit
open Wo (Wd WdsAt box_cell box_two keepB heap_far)

theorem keepQ {q k : Nat} {w w' : World} {o : Obj} (h : w.heap[k]? = some o) (hb : Below q w w') (hk : k < q) : w'.heap[k]? = some o := by rw [hb.block k hk]; exact h
theorem rw_take (l : List Ru) (n : Nat) (c : Ru) (h : l[n]? = some c) : (l.take (n + 1)).flatMap ruleW = (l.take n).flatMap ruleW ++ ruleW c := by
  rw [List.take_add_one, h]; simp
theorem rw_le (l : List Ru) (n : Nat) : szW ((l.take n).flatMap ruleW) ≤ szW (l.flatMap ruleW) := by
  conv => rhs; rw [← List.take_append_drop n l]
  simp only [List.flatMap_append, sz_app]; omega
set_option maxHeartbeats 16000000 in
theorem print_good (p : Pn) (m : Value) (w : World) (h : RusAt All w m p.rules) (hT : Nu.Tab w) (hp : planB p = true) (hsz : szW (planW p) ≤ 65536) :
    Calls Tryz.prog 11 #[pnv p m] w fun e w' => e = .returned (.tuple #[.string (mk (prT p)), .int .i64 0]) ∧ Below w.heap.size w w' := by
  have he : checkE p = 0 := by unfold checkE; rw [if_pos hp]
  have HCK := Lib.hid fun W (hW : Below w.heap.size w W) => check_any p m W (h.grw hW)
  rw [he] at HCK
  simp only [planB, Bool.and_eq_true, Bool.or_eq_true, decide_eq_true_eq, List.all_eq_true] at hp
  obtain ⟨hm, h64, hl, hr⟩ := hp
  have HRB := Lib.hid hr
  have HL := Lib.hid hl
  have HM := Lib.hid hm
  have hpw : planW p = headW p ++ p.rules.flatMap ruleW := rfl
  have HPW := Lib.hid hpw
  rw [hpw, sz_app] at hsz
  have HRu := Lib.hid h
  have HTb := Lib.hid hT
  obtain ⟨ma, mc, rfl, hm1, hm2, hm3⟩ := h.form
  have hm3 : p.rules.length ≤ 281474976710656 := hm3
  have hb0 := below_trans (below_trans (below_alloc w (.cells #[.int .i64 p.mode, .int .i64 p.indDed, .int .i64 p.famDed, .int .i64 p.indOop, .int .i64 p.famOop, .slice ma p.rules.length mc] 24)) (below_alloc _ (.cells #[.string ⟨#[]⟩] 9))) (below_alloc _ (.cells #[.int .i64 0] 27))
  have HB0 := Lib.hid hb0
  have h0 := keepB (heap_alloc_new w (.cells #[.int .i64 p.mode, .int .i64 p.indDed, .int .i64 p.famDed, .int .i64 p.indOop, .int .i64 p.famOop, .slice ma p.rules.length mc] 24)) (below_trans (below_alloc _ (.cells #[.string ⟨#[]⟩] 9)) (below_alloc _ (.cells #[.int .i64 0] 27)))
  have h1 := heap_alloc_new (w.alloc (.cells #[.int .i64 p.mode, .int .i64 p.indDed, .int .i64 p.famDed, .int .i64 p.indOop, .int .i64 p.famOop, .slice ma p.rules.length mc] 24)) (.cells #[.string ⟨#[]⟩] 9)
  have h2 := heap_alloc_new ((w.alloc (.cells #[.int .i64 p.mode, .int .i64 p.indDed, .int .i64 p.famDed, .int .i64 p.indOop, .int .i64 p.famOop, .slice ma p.rules.length mc] 24)).alloc (.cells #[.string ⟨#[]⟩] 9)) (.cells #[.int .i64 0] 27)
  rw [show (w.alloc (.cells #[.int .i64 p.mode, .int .i64 p.indDed, .int .i64 p.famDed, .int .i64 p.indOop, .int .i64 p.famOop, .slice ma p.rules.length mc] 24)).heap.size = w.heap.size + 1 by simp] at h1
  rw [show ((w.alloc (.cells #[.int .i64 p.mode, .int .i64 p.indDed, .int .i64 p.famDed, .int .i64 p.indOop, .int .i64 p.famOop, .slice ma p.rules.length mc] 24)).alloc (.cells #[.string ⟨#[]⟩] 9)).heap.size = w.heap.size + 2 by simp] at h2
  have HP0 := Lib.hid h0
  have HS0 := Lib.hid (keepB h1 (below_alloc _ (.cells #[.int .i64 0] 27)))
  have HE0 := Lib.hid h2
  have hz0 : (((w.alloc (.cells #[.int .i64 p.mode, .int .i64 p.indDed, .int .i64 p.famDed, .int .i64 p.indOop, .int .i64 p.famOop, .slice ma p.rules.length mc] 24)).alloc (.cells #[.string ⟨#[]⟩] 9)).alloc (.cells #[.int .i64 0] 27)).heap.size = w.heap.size + 3 := by simp
  have HZ0 := Lib.hid hz0
  have hmf : ∀ (fn : Fn) (first cap : Array Value) (w : World), (Instr.makeFunc fn first cap).run Tryz.prog w = .ok (.func fn first cap) w := fun _ _ _ _ => rfl
  clear h0 h1 h2 he hb0 h hT hm hl hr hz0 hpw
  go_enter_defers Tryz.func11, Tryz.ntmps11
  go_upto_region 1 with fail
  generalize ((w.alloc (.cells #[.int .i64 p.mode, .int .i64 p.indDed, .int .i64 p.famDed, .int .i64 p.indOop, .int .i64 p.famOop, .slice ma p.rules.length mc] 24)).alloc (.cells #[.string ⟨#[]⟩] 9)).alloc (.cells #[.int .i64 0] 27) = W0 at *
  obtain ⟨p0, p1, p2, p3, p4, p5⟩ := bsix HP0.out
  go_wp2_with fail
  go_at_call 9
  refine (HCK.out _ HB0.out).mono ?_
  rintro e w1 ⟨rfl, hb1⟩
  have hs1 := hb1.size
  rw [HZ0.out] at hs1
  have HP1 := Lib.hid (keepB HP0.out hb1)
  have HS1 := Lib.hid (keepB HS0.out hb1)
  have HE1 := Lib.hid (keepB HE0.out hb1)
  have HB1 := Lib.hid (below_trans HB0.out hb1)
  clear hb1 HP0 HS0 HE0 HB0 HCK HZ0 p0 p1 p2 p3 p4 p5
  have hb2 := below_alloc w1 (.cells #[.slice none 0 0, .int .i64 0] 49)
  have HP2 := Lib.hid (keepB HP1.out hb2)
  have HS2 := Lib.hid (keepB HS1.out hb2)
  have HE2 := Lib.hid (keepB HE1.out hb2)
  have HB2 := Lib.hid (below_trans HB1.out hb2)
  have HW2 : Hid (WrAt w1.heap.size [] (w1.alloc (.cells #[.slice none 0 0, .int .i64 0] 49))) := ⟨_, heap_alloc_new w1 _, World.ownsRow_nil _ _ _ _⟩
  have HT2 : Hid (TabQ w1.heap.size (w1.alloc (.cells #[.slice none 0 0, .int .i64 0] 49))) := ⟨Nu.tab_grw HTb.out HB2.out, fun g hg => by have := tab_lt HTb.out g hg; have := HB1.out.size; omega⟩
  have HR2 : Hid (RusAt (fun b => b < w1.heap.size) (w1.alloc (.cells #[.slice none 0 0, .int .i64 0] 49)) (.slice ma p.rules.length mc) p.rules) := ((HRu.out.grw HB1.out).move (moves_weak _ fun b hb _ => hb)).move (moves_new hb2)
  clear hb2 HP1 HS1 HE1 HRu HTb HB1
  go_upto_region 6 with fail
  generalize w1.alloc (.cells #[.slice none 0 0, .int .i64 0] 49) = W2 at *
  generalize w1.heap.size = q at *
  obtain ⟨p0, p1, p2, p3, p4, p5⟩ := bsix HP2.out
  go_wp2_with fail
  go_at_call 21
  refine (wr_head q [] p _ W2 HW2.out HT2.out HL.out HM.out (by rw [sz_nil]; omega)).mono ?_
  rintro e w3 ⟨rfl, h1, h2⟩
  have HW3 : Hid (WrAt q (headW p) w3) := h1
  have HP3 := Lib.hid (keepQ HP2.out h2.1 (by omega))
  have HS3 := Lib.hid (keepQ HS2.out h2.1 (by omega))
  have HE3 := Lib.hid (keepQ HE2.out h2.1 (by omega))
  have HT3 := Lib.hid (HT2.out.kept h2.1)
  have HR3 := Lib.hid (HR2.out.lowq h2.1)
  have HB3 : Hid (Below w.heap.size w w3) := HB2.out.trans (h2.1.mono (by omega))
  clear h1 h2 HP2 HS2 HE2 HT2 HR2 HB2 HW2 p0 p1 p2 p3 p4 p5
  obtain ⟨p0, p1, p2, p3, p4, p5⟩ := bsix HP3.out
  have HKr := Lib.hid (KeptW.refl q w3)
  have HW30 : Hid (WrAt q (headW p ++ (p.rules.take 0).flatMap ruleW) w3) := by show WrAt _ _ _; simpa using HW3.out
  go_wp2
  go_loopg [19] (p.rules.length) (fun g i wr => ∃ n : Nat, n ≤ p.rules.length ∧ g = p.rules.length - n ∧ i = .int .i64 n ∧ Hid (KeptW q w3 wr) ∧ Hid (WrAt q (headW p ++ (p.rules.take n).flatMap ruleW) wr))
  case atStart => exact ⟨0, Nat.zero_le _, rfl, rfl, HKr.out, HW30.out⟩
  case round =>
    clear HKr HW30 p0 p1 p2 p3 p4 p5
    obtain ⟨n, hn, hgk, rfl, HKn, HWn⟩ := hrel
    by_cases hlt : n < p.rules.length
    · obtain ⟨b, o, kv, uv, sv, rfl, hbs, hx, hcc, hin⟩ := RusAt.get (HR3.out.lowq HKn.out.1) n hlt
      obtain ⟨y0, y1, y2, y3, y4, y5, y6, y7⟩ := hcc
      obtain ⟨-, -, -, hk1, hk2, hk3⟩ := id hin
      obtain ⟨ka, kc, rfl, -, -⟩ := hk1.form
      obtain ⟨ua, uc, rfl, -, -⟩ := hk2.form
      obtain ⟨sa, sc, rfl, -, -, -⟩ := hk3.form
      have HUT := Lib.hid (rw_take p.rules n _ hx)
      have hle := rw_le p.rules (n + 1)
      have hcB : ruleB p.rules[n] = true := HRB.out _ (List.getElem_mem hlt)
      have hbz := below_alloc wr (.cells #[.int .i64 p.rules[n].rank, .int .i64 p.rules[n].cif.kind, .string (mk p.rules[n].cif.lo), .string (mk p.rules[n].cif.hi), .int .i64 p.rules[n].cif.n, .slice ka p.rules[n].cif.kids.length kc, .slice ua p.rules[n].unl.length uc, .slice sa p.rules[n].sets.length sc] 42)
      have HWz := Lib.hid (HWn.out.grw hbz)
      have hkz := KeptW.of hbz HWn.out.lt
      have HKz := Lib.hid (HKn.out.trans hkz)
      have HTz := Lib.hid (HT3.out.kept (HKn.out.trans hkz).1)
      have HIn := Lib.hid (hin.move (Below.moves_lo hkz.1))
      rw [HUT.out, sz_app] at hle
      have HCB := Lib.hid hcB
      clear hx hbz hkz HWn hcB hin hk1 hk2 hk3
      generalize p.rules[n] = ru at *
      have HC := Lib.hid (wr_rule q _ ru _ _ _ _ HWz.out HTz.out HCB.out HIn.out (by rw [sz_app]; omega))
      clear HWz HTz
      go_wp2_with fail
      go_at_call 22
      refine HC.out.mono ?_
      rintro e w7 ⟨rfl, h1, h2⟩
      have HW7 := Lib.hid h1
      have HK7 := Lib.hid (HKz.out.trans h2)
      clear h1 h2 HC
      go_wp2
      go_roundg (p.rules.length - (n + 1))
      case rel => exact ⟨n + 1, by omega, rfl, by go_num, HK7.out, by rw [HUT.out]; show WrAt _ _ _; simpa [List.append_assoc] using HW7.out⟩
      case measure => omega
    · have hall : p.rules.take n = p.rules := List.take_of_length_le (by omega)
      rw [hall, ← HPW.out] at HWn
      clear hall
      obtain ⟨lv, hbq, hown⟩ := HWn.out
      have hwl := sz_len (planW p)
      have hszp : szW (planW p) ≤ 65536 := by rw [HPW.out, sz_app]; exact hsz
      obtain ⟨la, lc, rfl, -, -⟩ := own_form hown
      have hTx : TxAt All wr (.slice la (planW p).length lc) (planW p) := row_of_own hown (fun _ _ => trivial) fun j u y hu hy => by
        rw [List.getElem?_map, hy] at hu
        exact (Option.some.inj hu).symm
      have HJ := Lib.hid (Wo.join_any _ (planW p) wr hTx (by have := join_size (planW p); omega))
      obtain ⟨c0, c1, -, -⟩ := box_two hbq
      have HS4 := Lib.hid (keepQ HS3.out HKn.out.1 (by omega))
      have HE4 := Lib.hid (keepQ HE3.out HKn.out.1 (by omega))
      have HB4 : Hid (Below w.heap.size w wr) := HB3.out.trans (HKn.out.1.mono (by omega))
      have HPT : Hid (joinC 32 (planW p) = prT p) := rfl
      rw [HPT.out] at HJ
      clear hbq hown hTx HS3 HE3 HB3 HKn HWn HW3 HP3 HT3 HR3 hwl HPT
      go_wp2_with fail
      go_at_call 23
      refine HJ.out.mono ?_
      rintro e w5 ⟨rfl, hb5⟩
      obtain ⟨s0, s1⟩ := box_cell (keepB HS4.out hb5)
      obtain ⟨e0, e1⟩ := box_cell (keepB HE4.out hb5)
      have HB5 := Lib.hid (below_trans HB4.out hb5)
      clear hb5 HS4 HE4 HB4 HJ
      go_wp2
      refine leaves_cons (f := 20) (args := #[.pointer (some ⟨w.heap.size + 1, 0, none⟩), .pointer (some ⟨w.heap.size + 2, 0, none⟩)]) (by simp) (by simp [go_sem]) ?_
      refine (pr_idle ⟨w.heap.size + 1, 0, none⟩ ⟨w.heap.size + 2, 0, none⟩ _).mono ?_
      rintro e u' w7 ⟨rfl, rfl, rfl⟩
      refine ⟨.tuple #[.string (mk (prT p)), .int .i64 0], by simp [results, Tryz.results11, go_sem, s0, e0], rfl, ?_⟩
      exact (HB5.out.setCell (p := ⟨w.heap.size + 1, 0, none⟩) (by show w.heap.size ≤ w.heap.size + 1; omega) _).setCell (p := ⟨w.heap.size + 2, 0, none⟩) (by show w.heap.size ≤ w.heap.size + 2; omega) _
/-- What Print answers, where the text of a plan that may be is not too long. -/
theorem print_any (p : Pn) (m : Value) (w : World) (h : RusAt All w m p.rules) (hT : Nu.Tab w) (hsz : planB p = true → szW (planW p) ≤ 65536) :
    Calls Tryz.prog 11 #[pnv p m] w fun e w' => e = .returned (.tuple #[.string (mk (prV p)), .int .i64 (prE p)]) ∧ Below w.heap.size w w' := by
  by_cases hp : planB p = true
  · have hs := hsz hp
    have he : prE p = 0 := by
      unfold prE prT
      rw [if_pos hp, if_neg (by have := join_size (planW p); omega)]
    have hv : prV p = prT p := by unfold prV; rw [if_pos he]
    rw [he, hv]
    exact print_good p m w h hT hp hs
  · have he : prE p = 15 := by unfold prE; rw [if_neg hp]
    have hv : prV p = [] := by unfold prV; rw [if_neg (by rw [he]; decide)]
    rw [he, hv]
    exact print_bad p m w h hp
end Go.Proofs.YtfkhehkfeibdpaaGreatDoor.Pl
end
