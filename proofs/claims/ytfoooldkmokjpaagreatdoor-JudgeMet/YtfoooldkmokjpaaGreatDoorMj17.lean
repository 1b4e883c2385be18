/-
  Texts put together (merge.py): PCha, PChe, PRCh.
-/
import Derived.Test.YtfoooldkmokjpaaGreatDoorMj16
set_option linter.unusedSimpArgs false
set_option linter.unusedVariables false
section
set_option maxRecDepth 100000
namespace Go.Proofs.YtfoooldkmokjpaaGreatDoor.Pl
open Go.RowKit
open Wo (Wd box_cell box_two keepB heap_far)
theorem bsix {w : World} {q : Nat} {a0 a1 a2 a3 a4 a5 : Value} {T : TypeId} (h : w.heap[q]? = some (.cells #[a0, a1, a2, a3, a4, a5] T (0, 0))) : w.cell? ⟨q, 0, none⟩ = some a0 ∧ w.cell? ⟨q, 1, none⟩ = some a1 ∧ w.cell? ⟨q, 2, none⟩ = some a2 ∧ w.cell? ⟨q, 3, none⟩ = some a3 ∧ w.cell? ⟨q, 4, none⟩ = some a4 ∧ w.cell? ⟨q, 5, none⟩ = some a5 := by
 refine ⟨?_, ?_, ?_, ?_, ?_, ?_⟩ <;> rw [cell_of_row w q _ _ T (0, 0) h] <;> rfl
theorem beight_ {w : World} {q : Nat} {a0 a1 a2 a3 a4 a5 a6 a7 : Value} {T : TypeId} (h : w.heap[q]? = some (.cells #[a0, a1, a2, a3, a4, a5, a6, a7] T (0, 0))) : w.cell? ⟨q, 0, none⟩ = some a0 ∧ w.cell? ⟨q, 1, none⟩ = some a1 ∧ w.cell? ⟨q, 2, none⟩ = some a2 ∧ w.cell? ⟨q, 3, none⟩ = some a3 ∧ w.cell? ⟨q, 4, none⟩ = some a4 ∧ w.cell? ⟨q, 5, none⟩ = some a5 ∧ w.cell? ⟨q, 6, none⟩ = some a6 ∧ w.cell? ⟨q, 7, none⟩ = some a7 := by
 refine ⟨?_, ?_, ?_, ?_, ?_, ?_, ?_, ?_⟩ <;> rw [cell_of_row w q _ _ T (0, 0) h] <;> rfl
set_option maxHeartbeats 16000000 in
theorem chk_limits (p : Pn) (m : Value) (w : World) :
  Calls Tryz.prog 65 #[pnv p m] w fun e w' => e = .returned (.bool (limB p)) ∧ Below w.heap.size w w' := by
 have HB := Lib.hid (below_alloc w (.cells #[.int .i64 p.mode, .int .i64 p.indDed, .int .i64 p.famDed, .int .i64 p.indOop, .int .i64 p.famOop, m] 24))
 have HG1 := Lib.hid fun W => good_eq p.indDed W
 have HG2 := Lib.hid fun W => good_eq p.famDed W
 have HG3 := Lib.hid fun W => good_eq p.indOop W
 have HG4 := Lib.hid fun W => good_eq p.famOop W
 have HL : Hid (limB p = (goodB p.indDed && (goodB p.famDed && (goodB p.indOop && (goodB p.famOop && (decide (p.indDed ≤ p.famDed) && (decide (p.indDed ≤ p.indOop) && (decide (p.famDed ≤ p.famOop) && decide (p.indOop ≤ p.famOop))))))))) := by
  show _ = _
  unfold limB goodB
  rw [Bool.eq_iff_iff]
  simp only [Bool.and_eq_true, decide_eq_true_eq]
  omega
 generalize limB p = R at *
 obtain ⟨md, x1, x2, x3, x4, rs⟩ := p
 simp only at *
 generalize goodB x1 = g1 at *
 generalize goodB x2 = g2 at *
 generalize goodB x3 = g3 at *
 generalize goodB x4 = g4 at *
 cases g1
 ·have HRES : Hid (R = false) := by show _ = _; rw [HL.out]; simp
  clear HL
  go_enter Tryz.func65, Tryz.ntmps65
  go_wp2_with (first | (go_at_call_of 79 (Value.int IntKind.i64 x1); refine (HG1.out _).mono ?_; rintro e w1 ⟨rfl, rfl⟩) | (go_at_call_of 79 (Value.int IntKind.i64 x2); refine (HG2.out _).mono ?_; rintro e w1 ⟨rfl, rfl⟩) | (go_at_call_of 79 (Value.int IntKind.i64 x3); refine (HG3.out _).mono ?_; rintro e w1 ⟨rfl, rfl⟩) | (go_at_call_of 79 (Value.int IntKind.i64 x4); refine (HG4.out _).mono ?_; rintro e w1 ⟨rfl, rfl⟩))
  go_ret
  exact ⟨by rw [HRES.out]; rfl, HB.out⟩
 cases g2
 ·have HRES : Hid (R = false) := by show _ = _; rw [HL.out]; simp
  clear HL
  go_enter Tryz.func65, Tryz.ntmps65
  go_wp2_with (first | (go_at_call_of 79 (Value.int IntKind.i64 x1); refine (HG1.out _).mono ?_; rintro e w1 ⟨rfl, rfl⟩) | (go_at_call_of 79 (Value.int IntKind.i64 x2); refine (HG2.out _).mono ?_; rintro e w1 ⟨rfl, rfl⟩) | (go_at_call_of 79 (Value.int IntKind.i64 x3); refine (HG3.out _).mono ?_; rintro e w1 ⟨rfl, rfl⟩) | (go_at_call_of 79 (Value.int IntKind.i64 x4); refine (HG4.out _).mono ?_; rintro e w1 ⟨rfl, rfl⟩))
  go_ret
  exact ⟨by rw [HRES.out]; rfl, HB.out⟩
 cases g3
 ·have HRES : Hid (R = false) := by show _ = _; rw [HL.out]; simp
  clear HL
  go_enter Tryz.func65, Tryz.ntmps65
  go_wp2_with (first | (go_at_call_of 79 (Value.int IntKind.i64 x1); refine (HG1.out _).mono ?_; rintro e w1 ⟨rfl, rfl⟩) | (go_at_call_of 79 (Value.int IntKind.i64 x2); refine (HG2.out _).mono ?_; rintro e w1 ⟨rfl, rfl⟩) | (go_at_call_of 79 (Value.int IntKind.i64 x3); refine (HG3.out _).mono ?_; rintro e w1 ⟨rfl, rfl⟩) | (go_at_call_of 79 (Value.int IntKind.i64 x4); refine (HG4.out _).mono ?_; rintro e w1 ⟨rfl, rfl⟩))
  go_ret
  exact ⟨by rw [HRES.out]; rfl, HB.out⟩
 cases g4
 ·have HRES : Hid (R = false) := by show _ = _; rw [HL.out]; simp
  clear HL
  go_enter Tryz.func65, Tryz.ntmps65
  go_wp2_with (first | (go_at_call_of 79 (Value.int IntKind.i64 x1); refine (HG1.out _).mono ?_; rintro e w1 ⟨rfl, rfl⟩) | (go_at_call_of 79 (Value.int IntKind.i64 x2); refine (HG2.out _).mono ?_; rintro e w1 ⟨rfl, rfl⟩) | (go_at_call_of 79 (Value.int IntKind.i64 x3); refine (HG3.out _).mono ?_; rintro e w1 ⟨rfl, rfl⟩) | (go_at_call_of 79 (Value.int IntKind.i64 x4); refine (HG4.out _).mono ?_; rintro e w1 ⟨rfl, rfl⟩))
  go_ret
  exact ⟨by rw [HRES.out]; rfl, HB.out⟩
 cases d1 : decide (x1 ≤ x2)
 ·have HRES : Hid (R = false) := by show _ = _; rw [HL.out, d1]; simp
  clear HL
  go_enter Tryz.func65, Tryz.ntmps65
  go_wp2_with (first | (go_at_call_of 79 (Value.int IntKind.i64 x1); refine (HG1.out _).mono ?_; rintro e w1 ⟨rfl, rfl⟩) | (go_at_call_of 79 (Value.int IntKind.i64 x2); refine (HG2.out _).mono ?_; rintro e w1 ⟨rfl, rfl⟩) | (go_at_call_of 79 (Value.int IntKind.i64 x3); refine (HG3.out _).mono ?_; rintro e w1 ⟨rfl, rfl⟩) | (go_at_call_of 79 (Value.int IntKind.i64 x4); refine (HG4.out _).mono ?_; rintro e w1 ⟨rfl, rfl⟩))
  go_ret
  exact ⟨by rw [HRES.out]; rfl, HB.out⟩
 cases d2 : decide (x1 ≤ x3)
 ·have HRES : Hid (R = false) := by show _ = _; rw [HL.out, d2]; simp
  clear HL
  go_enter Tryz.func65, Tryz.ntmps65
  go_wp2_with (first | (go_at_call_of 79 (Value.int IntKind.i64 x1); refine (HG1.out _).mono ?_; rintro e w1 ⟨rfl, rfl⟩) | (go_at_call_of 79 (Value.int IntKind.i64 x2); refine (HG2.out _).mono ?_; rintro e w1 ⟨rfl, rfl⟩) | (go_at_call_of 79 (Value.int IntKind.i64 x3); refine (HG3.out _).mono ?_; rintro e w1 ⟨rfl, rfl⟩) | (go_at_call_of 79 (Value.int IntKind.i64 x4); refine (HG4.out _).mono ?_; rintro e w1 ⟨rfl, rfl⟩))
  go_ret
  exact ⟨by rw [HRES.out]; rfl, HB.out⟩
 cases d3 : decide (x2 ≤ x4)
 ·have HRES : Hid (R = false) := by show _ = _; rw [HL.out, d3]; simp
  clear HL
  go_enter Tryz.func65, Tryz.ntmps65
  go_wp2_with (first | (go_at_call_of 79 (Value.int IntKind.i64 x1); refine (HG1.out _).mono ?_; rintro e w1 ⟨rfl, rfl⟩) | (go_at_call_of 79 (Value.int IntKind.i64 x2); refine (HG2.out _).mono ?_; rintro e w1 ⟨rfl, rfl⟩) | (go_at_call_of 79 (Value.int IntKind.i64 x3); refine (HG3.out _).mono ?_; rintro e w1 ⟨rfl, rfl⟩) | (go_at_call_of 79 (Value.int IntKind.i64 x4); refine (HG4.out _).mono ?_; rintro e w1 ⟨rfl, rfl⟩))
  go_ret
  exact ⟨by rw [HRES.out]; rfl, HB.out⟩
 cases d4 : decide (x3 ≤ x4)
 ·have HRES : Hid (R = false) := by show _ = _; rw [HL.out, d4]; simp
  clear HL
  go_enter Tryz.func65, Tryz.ntmps65
  go_wp2_with (first | (go_at_call_of 79 (Value.int IntKind.i64 x1); refine (HG1.out _).mono ?_; rintro e w1 ⟨rfl, rfl⟩) | (go_at_call_of 79 (Value.int IntKind.i64 x2); refine (HG2.out _).mono ?_; rintro e w1 ⟨rfl, rfl⟩) | (go_at_call_of 79 (Value.int IntKind.i64 x3); refine (HG3.out _).mono ?_; rintro e w1 ⟨rfl, rfl⟩) | (go_at_call_of 79 (Value.int IntKind.i64 x4); refine (HG4.out _).mono ?_; rintro e w1 ⟨rfl, rfl⟩))
  go_ret
  exact ⟨by rw [HRES.out]; rfl, HB.out⟩
 have HRES : Hid (R = true) := by show _ = _; rw [HL.out, d1, d2, d3, d4]; rfl
 clear HL
 go_enter Tryz.func65, Tryz.ntmps65
 go_wp2_with (first | (go_at_call_of 79 (Value.int IntKind.i64 x1); refine (HG1.out _).mono ?_; rintro e w1 ⟨rfl, rfl⟩) | (go_at_call_of 79 (Value.int IntKind.i64 x2); refine (HG2.out _).mono ?_; rintro e w1 ⟨rfl, rfl⟩) | (go_at_call_of 79 (Value.int IntKind.i64 x3); refine (HG3.out _).mono ?_; rintro e w1 ⟨rfl, rfl⟩) | (go_at_call_of 79 (Value.int IntKind.i64 x4); refine (HG4.out _).mono ?_; rintro e w1 ⟨rfl, rfl⟩))
 go_ret
 exact ⟨by rw [HRES.out]; rfl, HB.out⟩
end Go.Proofs.YtfoooldkmokjpaaGreatDoor.Pl
end
section
set_option maxRecDepth 100000
namespace Go.Proofs.YtfoooldkmokjpaaGreatDoor.Pl
open Go.RowKit
open Wo (Wd box_cell box_two keepB heap_far)
theorem all_takeR {p : Ru → Bool} (l : List Ru) (k : Nat) (c : Ru) (h : l[k]? = some c) (hk : (l.take k).all p = true) (hc : p c = true) : (l.take (k + 1)).all p = true := by
 rw [List.take_add_one, h]; simp_all
theorem all_notR {p : Ru → Bool} (l : List Ru) (k : Nat) (c : Ru) (h : l[k]? = some c) (hc : p c = false) : l.all p = false := by
 rw [List.all_eq_false]
 exact ⟨c, List.mem_of_getElem? h, by simp [hc]⟩
set_option maxHeartbeats 16000000 in
theorem check_any (p : Pn) (m : Value) (w : World) (h : RusAt All w m p.rules) :
  Calls Tryz.prog 35 #[pnv p m] w fun e w' => e = .returned (.int .i64 (checkE p)) ∧ Below w.heap.size w w' := by
 have hb := below_alloc w (.cells #[.int .i64 p.mode, .int .i64 p.indDed, .int .i64 p.famDed, .int .i64 p.indOop, .int .i64 p.famOop, m] 24)
 have HB := Lib.hid hb
 have HX := Lib.hid (heap_alloc_new w (.cells #[.int .i64 p.mode, .int .i64 p.indDed, .int .i64 p.famDed, .int .i64 p.indOop, .int .i64 p.famOop, m] 24))
 have HRu := Lib.hid (h.grw hb)
 have HLM := Lib.hid fun W => chk_limits p m W
 obtain ⟨ma, mc, rfl, hm1, hm2, hm3⟩ := h.form
 have hm3 : p.rules.length ≤ 281474976710656 := hm3
 obtain ⟨x0, x1, x2, x3, x4, x5⟩ := bsix HX.out
 have HP : Hid (planB p = ((decide (p.mode = 0) || decide (p.mode = 1)) && (decide (p.rules.length ≤ 64) && (limB p && p.rules.all ruleB)))) := rfl
 have HE : Hid (checkE p = if planB p = true then 0 else 15) := rfl
 clear hb h
 generalize checkE p = R at *
 generalize planB p = PB at *
 generalize limB p = LB at *
 by_cases c1 : p.mode = 0 ∨ p.mode = 1
 case neg =>
  have hPB : PB = false := by rw [HP.out, decide_eq_false (show ¬ p.mode = 0 by omega), decide_eq_false (show ¬ p.mode = 1 by omega)]; rfl
  have HRES : Hid (R = 15) := by show _ = _; rw [HE.out, hPB]; rfl
  have b0 : (p.mode != 0) = true := by simp; omega
  have b1 : (p.mode != 1) = true := by simp; omega
  clear HP HE HRu HLM hPB c1
  go_enter Tryz.func35, Tryz.ntmps35
  go_wp2
  go_ret
  exact ⟨by rw [HRES.out]; rfl, HB.out⟩
 case pos =>
 have HP2 : Hid (PB = (decide (p.rules.length ≤ 64) && (LB && p.rules.all ruleB))) := by
  show _ = _
  rw [HP.out]
  rcases c1 with e | e <;> rw [e] <;> simp
 clear HP
 cases LB
 ·have hPB : PB = false := by rw [HP2.out]; simp
  have HRES : Hid (R = 15) := by show _ = _; rw [HE.out, hPB]; rfl
  clear HP2 HE HRu hPB
  rcases c1 with c1 | c1
  ·have b0 : (p.mode != 0) = false := by simp; omega
   clear c1
   go_enter Tryz.func35, Tryz.ntmps35
   go_wp2_with (first | (go_at_call 65; refine (HLM.out _).mono ?_; rintro e w1 ⟨rfl, hb1⟩; have HB1 := Lib.hid hb1; clear hb1))
   go_ret
   exact ⟨by rw [HRES.out]; rfl, below_trans HB.out HB1.out⟩
  ·have b0 : (p.mode != 0) = true := by simp; omega
   have b1 : (p.mode != 1) = false := by simp; omega
   clear c1
   go_enter Tryz.func35, Tryz.ntmps35
   go_wp2_with (first | (go_at_call 65; refine (HLM.out _).mono ?_; rintro e w1 ⟨rfl, hb1⟩; have HB1 := Lib.hid hb1; clear hb1))
   go_ret
   exact ⟨by rw [HRES.out]; rfl, below_trans HB.out HB1.out⟩
 have hmode : ((p.mode != 0) = false) ∨ ((p.mode != 0) = true ∧ (p.mode != 1) = false) := by
  rcases c1 with c1 | c1
  ·left; simp; omega
  ·right; constructor <;> simp <;> omega
 clear c1
 by_cases c2 : 64 < p.rules.length
 ·have hPB : PB = false := by rw [HP2.out, decide_eq_false (by omega)]; rfl
  have HRES : Hid (R = 15) := by show _ = _; rw [HE.out, hPB]; rfl
  clear HP2 HE HRu hPB
  rcases hmode with b0 | ⟨b0, b1⟩
  all_goals
   go_enter Tryz.func35, Tryz.ntmps35
   go_wp2_with fail
   go_at_call 65
   refine (HLM.out _).mono ?_
   rintro e w1 ⟨rfl, hb1⟩
   obtain ⟨z0, z1, z2, z3, z4, z5⟩ := bsix (keepB HX.out hb1)
   have HB1 := Lib.hid hb1
   clear hb1
   go_wp2
   go_ret
   exact ⟨by rw [HRES.out]; rfl, below_trans HB.out HB1.out⟩
 have HP3 : Hid (PB = p.rules.all ruleB) := by show _ = _; rw [HP2.out, decide_eq_true (by omega)]; simp
 clear HP2
 rcases hmode with b0 | ⟨b0, b1⟩
 all_goals
  go_enter Tryz.func35, Tryz.ntmps35
  go_wp2_with fail
  go_at_call 65
  refine (HLM.out _).mono ?_
  rintro e w1 ⟨rfl, hb1⟩
  obtain ⟨z0, z1, z2, z3, z4, z5⟩ := bsix (keepB HX.out hb1)
  have HB1 := Lib.hid (below_trans HB.out hb1)
  have HR1 := Lib.hid (HRu.out.grw hb1)
  have HW0 := Lib.hid (Below.refl w1.heap.size w1)
  clear hb1 HB HX HRu HLM x0 x1 x2 x3 x4 x5
  go_wp2
  go_loopg [27] (p.rules.length) (fun g i wr => ∃ n : Nat, n ≤ p.rules.length ∧ g = p.rules.length - n ∧ i = .int .i64 n ∧ Hid (Below w1.heap.size w1 wr) ∧ Hid ((p.rules.take n).all ruleB = true))
  case atStart => exact ⟨0, Nat.zero_le _, rfl, rfl, HW0.out, rfl⟩
  case round =>
   clear HW0 z0 z1 z2 z3 z4 z5
   obtain ⟨n, hn, hgk, rfl, HBr, HA⟩ := hrel
   by_cases hlt : n < p.rules.length
   ·obtain ⟨b, o, kv, uv, sv, rfl, hbs, hx, hcc, hin⟩ := RusAt.get (HR1.out.grw HBr.out) n hlt
    obtain ⟨y0, y1, y2, y3, y4, y5, y6, y7⟩ := hcc
    obtain ⟨-, -, -, hk1, hk2, hk3⟩ := id hin
    obtain ⟨ka, kc, rfl, -, -⟩ := hk1.form
    obtain ⟨ua, uc, rfl, -, -⟩ := hk2.form
    obtain ⟨sa, sc, rfl, -, -, -⟩ := hk3.form
    have hbz := below_alloc wr (.cells #[.int .i64 p.rules[n].rank, .int .i64 p.rules[n].cif.kind, .string (mk p.rules[n].cif.lo), .string (mk p.rules[n].cif.hi), .int .i64 p.rules[n].cif.n, .slice ka p.rules[n].cif.kids.length kc, .slice ua p.rules[n].unl.length uc, .slice sa p.rules[n].sets.length sc] 85)
    have HC := Lib.hid (chk_rule p.rules[n] _ _ _ _ (hin.move (Below.moves hbz)))
    have HBz := Lib.hid (below_trans HBr.out hbz)
    have HT := Lib.hid fun h => all_takeR (p := ruleB) p.rules n _ hx HA.out h
    have HN := Lib.hid fun h => all_notR (p := ruleB) p.rules n _ hx h
    clear hx hin hk1 hk2 hk3 hbz
    generalize p.rules[n] = ru at *
    cases hq : ruleB ru
    ·rw [hq] at HC
     have HN2 := Lib.hid (HN.out hq)
     clear hq HT HN
     go_wp2_with (go_at_call 66; refine HC.out.mono ?_; rintro e w3 ⟨rfl, hb3⟩; have HB3 := Lib.hid hb3; clear hb3)
     go_ret
     exact ⟨by rw [HE.out, HP3.out, HN2.out]; rfl, below_trans HB1.out (below_trans HBz.out HB3.out)⟩
    ·rw [hq] at HC
     have HT2 := Lib.hid (HT.out hq)
     clear hq HT HN
     go_wp2_with (go_at_call 66; refine HC.out.mono ?_; rintro e w3 ⟨rfl, hb3⟩; have HB3 := Lib.hid hb3; clear hb3)
     go_roundg (p.rules.length - (n + 1))
     case rel => exact ⟨n + 1, by omega, rfl, by go_num, below_trans HBz.out HB3.out, HT2.out⟩
     case measure => omega
   ·have hall : p.rules.take n = p.rules := List.take_of_length_le (by omega)
    rw [hall] at HA
    clear hall
    go_wp2
    go_ret
    exact ⟨by rw [HE.out, HP3.out, HA.out]; rfl, below_trans HB1.out HBr.out⟩
end Go.Proofs.YtfoooldkmokjpaaGreatDoor.Pl
end
section
set_option maxRecDepth 100000
namespace Go.Proofs.YtfoooldkmokjpaaGreatDoor.Pl
open Go.RowKit
open Wo (Wd box_cell box_two keepB heap_far)
end Go.Proofs.YtfoooldkmokjpaaGreatDoor.Pl
end
