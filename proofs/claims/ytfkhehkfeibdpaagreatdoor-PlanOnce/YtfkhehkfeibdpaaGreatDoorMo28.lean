/-
  Texts put together (merge.py): PChd, PCha.
-/
import Derived.Test.YtfkhehkfeibdpaaGreatDoorMo26
import Derived.Test.YtfkhehkfeibdpaaGreatDoorMo22
/-
  What plan.set and sets (of Check) answer, as contracts.
-/
section
set_option linter.unusedSimpArgs false
set_option linter.unusedVariables false
set_option maxRecDepth 100000
namespace Go.Proofs.YtfkhehkfeibdpaaGreatDoor.Pl
open Go.RowKit
open Wo (Wd WdsAt box_cell box_two keepB heap_far)

set_option maxHeartbeats 8000000 in
theorem chk_set (s : St) (w : World) :
    Calls Tryz.prog 57 #[stv s] w fun e w' => e = .returned (.bool (setB s)) ∧ Below w.heap.size w w' := by
  have HB := Lib.hid (below_alloc w (.cells #[.int .i64 s.what, .int .i64 s.n] 67))
  obtain ⟨k, n⟩ := s
  by_cases h1 : k = 1 ∨ k = 2
  · have HRES : Hid (setB ⟨k, n⟩ = (n == 0 || n == 1)) := by
      show _ = _
      unfold setB
      simp only [if_pos h1]
      rw [Bool.eq_iff_iff]; simp; omega
    rcases h1 with rfl | rfl
    all_goals
      cases h0 : (n == 0) <;> cases hh : (n == 1)
      all_goals
        rw [h0, hh] at HRES
        go_enter Tryz.func57, Tryz.ntmps57
        go_wp2
        go_ret
        exact ⟨by rw [HRES.out]; rfl, HB.out⟩
  by_cases h3 : k = 3
  · subst h3
    have HRES : Hid (setB ⟨3, n⟩ = goodB n) := by
      show _ = _
      unfold setB goodB
      rw [Bool.eq_iff_iff]; simp
    have HG := Lib.hid fun W => good_eq n W
    generalize goodB n = G at *
    go_enter Tryz.func57, Tryz.ntmps57
    go_wp2_with (first | (go_at_call 31; refine (HG.out _).mono ?_; rintro e w1 ⟨rfl, rfl⟩))
    go_ret
    exact ⟨by rw [HRES.out]; rfl, HB.out⟩
  by_cases h4 : k = 4
  · subst h4
    have HRES : Hid (setB ⟨4, n⟩ = (decide (0 ≤ n) && decide (n ≤ 10000))) := rfl
    cases h0 : decide (0 ≤ n) <;> cases hh : decide (n ≤ 10000)
    all_goals
      rw [h0, hh] at HRES
      go_enter Tryz.func57, Tryz.ntmps57
      go_wp2
      go_ret
      exact ⟨by rw [HRES.out]; rfl, HB.out⟩
  · have HRES : Hid (setB ⟨k, n⟩ = false) := by
      show _ = _
      unfold setB
      simp only [if_neg h1, if_neg h3, if_neg h4, Bool.and_false]
    have b1 : (k == 1) = false := by simp; omega
    have b2 : (k == 2) = false := by simp; omega
    have b3 : (k == 3) = false := by simp; omega
    have b4 : (k == 4) = false := by simp; omega
    clear h1 h3 h4
    go_enter Tryz.func57, Tryz.ntmps57
    go_wp2
    go_ret
    exact ⟨by rw [HRES.out]; rfl, HB.out⟩
theorem StsAt.take {K : Nat → Prop} {w : World} {a : Option Addr} {n c : Nat} {ss : List St} (h : StsAt K w (.slice a n c) ss) (k : Nat) (hk : k ≤ ss.length) : StsAt K w (.slice a k c) (ss.take k) := by
  obtain ⟨a', c', he, h1, h2, h4, h5, h3⟩ := h
  injection he with e1 e2 e3
  subst e1 e2 e3
  have hl : (ss.take k).length = k := by simp; omega
  refine ⟨a, c, by rw [hl], by rw [hl]; omega, h2, by rw [hl]; omega, fun x hx => h5 x (List.mem_of_mem_take hx), ?_⟩
  rcases h3 with h | ⟨b, o, ha, hK, hb, hc⟩
  · subst h; left; simp
  · exact Or.inr ⟨b, o, ha, hK, hb, fun j x hj => hc j x (by rw [List.getElem?_take] at hj; split at hj; exact hj; cases hj)⟩
theorem sets_at (ss : List St) (k : Nat) (s : St) (seen : List Int) (h : ss[k]? = some s) : setsB seen (ss.drop k) = (setB s && (decide (s.what ∉ seen) && setsB (seen ++ [s.what]) (ss.drop (k + 1)))) := by
  have hk : k < ss.length := (List.getElem?_eq_some_iff.1 h).1
  have hs : ss[k] = s := (List.getElem?_eq_some_iff.1 h).2
  rw [List.drop_eq_getElem_cons hk, hs]
  rfl
theorem map_take1 (ss : List St) (k : Nat) (s : St) (h : ss[k]? = some s) : (ss.take (k + 1)).map (·.what) = (ss.take k).map (·.what) ++ [s.what] := by
  rw [List.take_add_one, h]; simp
set_option maxHeartbeats 16000000 in
theorem chk_sets (v : Value) (ss : List St) (w : World) (h : StsAt All w v ss) :
    Calls Tryz.prog 33 #[v] w fun e w' => e = .returned (.bool (decide (1 ≤ ss.length) && setsB [] ss)) ∧ Below w.heap.size w w' := by
  have HS := Lib.hid h
  obtain ⟨a, c, rfl, h1, h2, h4⟩ := h.form
  have HB0 := Lib.hid (Below.refl w.heap.size w)
  obtain ⟨R, hR⟩ : ∃ R, R = setsB [] ss := ⟨_, rfl⟩
  have HR0 : Hid (R = setsB ((ss.take 0).map (·.what)) (ss.drop 0)) := hR
  rw [← hR]
  clear h hR
  go_enter Tryz.func33, Tryz.ntmps33
  go_wp2
  go_loopg [7] (ss.length) (fun g i wr => ∃ (n : Nat), n ≤ ss.length ∧ g = ss.length - n ∧ i = .int .i64 n ∧ Hid (Below w.heap.size w wr) ∧ Hid (R = setsB ((ss.take n).map (·.what)) (ss.drop n)))
  case atStart => exact ⟨0, Nat.zero_le _, rfl, rfl, HB0.out, HR0.out⟩
  case round =>
    clear HB0 HR0
    obtain ⟨n, hn, hg, rfl, HB, HA⟩ := hrel
    by_cases hlt : n < ss.length
    · obtain ⟨b, o, rfl, hbs, hx, y0, y1, -, -⟩ := StsAt.get (HS.out.grw HB.out) n hlt
      have HMT := Lib.hid (map_take1 ss n _ hx)
      have HAT := Lib.hid (HA.out.trans (sets_at ss n _ _ hx))
      have hbx := below_alloc wr (.cells #[.int .i64 ss[n].what, .int .i64 ss[n].n] 67)
      have HBX := Lib.hid (below_trans HB.out hbx)
      have HXX := Lib.hid (heap_alloc_new wr (.cells #[.int .i64 ss[n].what, .int .i64 ss[n].n] 67))
      have HTK := Lib.hid fun (W : World) (hW : Below w.heap.size w W) => StsAt.take (HS.out.grw hW) n hn
      clear hx hbx HA
      generalize ss[n] = s at *
      have HCS := Lib.hid fun W => chk_set s W
      have HIS := Lib.hid fun W (hW : Below w.heap.size w W) => isSet_any _ (ss.take n) s.what W (HTK.out W hW)
      have hcc : n ≤ c := by omega
      go_upto_region 4 with fail
      clear y0 y1
      generalize wr.alloc (.cells #[.int .i64 s.what, .int .i64 s.n] 67) = W1 at *
      generalize wr.heap.size = p at *
      generalize setB s = SB at *
      generalize hdm : decide (s.what ∈ (ss.take n).map (·.what)) = DM at *
      have HDN : Hid (decide (s.what ∉ (ss.take n).map (·.what)) = !DM) := by show _ = _; rw [← hdm]; simp
      clear hdm
      obtain ⟨x0, x1, -, -⟩ := box_two HXX.out
      go_cut [22] (fun s22 wx => s22 = .bool (!(SB && !DM)) ∧ Hid (Below W1.heap.size W1 wx))
      case first =>
        cases SB
        · first | (go_region_with (first | (go_at_call 57; refine (HCS.out _).mono ?_; rintro x w1 ⟨rfl, hb1⟩; have HB1 := Lib.hid hb1; clear hb1))) | fail
          all_goals
            go_wp2_with fail
            go_meet
            exact ⟨rfl, below_trans (Below.drew (Below.refl _ W1)) HB1.out⟩
        · have HXK := Lib.hid fun (w1 : World) (h : Below W1.drew.heap.size W1.drew w1) => box_two (keepB (w := W1.drew) HXX.out h)
          go_region_with (first | (go_at_call 57; refine (HCS.out _).mono ?_; rintro x w1 ⟨rfl, hb1⟩; obtain ⟨z0, z1, -, -⟩ := HXK.out _ hb1; have HB1 := Lib.hid hb1; clear hb1) | (go_at_call 58; refine (HIS.out _ (below_trans HBX.out (below_trans (Below.drew (Below.refl _ W1)) HB1.out))).mono ?_; rintro x w2 ⟨rfl, hb2⟩; have HB2 := Lib.hid hb2; clear hb2))
          all_goals
            go_wp2_with fail
            go_meet
            exact ⟨by cases DM <;> rfl, below_trans (Below.drew (Below.refl _ W1)) (below_trans HB1.out HB2.out)⟩
      case rest =>
        obtain ⟨rfl, HBx⟩ := hcut
        have HBw := Lib.hid (below_trans HBX.out HBx.out)
        have hR := HAT.out
        rw [HDN.out] at hR
        have HR := Lib.hid hR
        clear HXX HTK HCS HIS HAT HDN hR HBX HBx x0 x1
        cases hq : (SB && !DM)
        · have HRF : Hid (R = false) := by
            show _ = _
            rw [HR.out]
            cases SB <;> cases DM <;> simp_all
          clear hq HR
          go_wp2
          go_ret
          exact ⟨by rw [HRF.out, Bool.and_false]; rfl, HBw.out⟩
        · have HRT : Hid (R = setsB ((ss.take (n + 1)).map (·.what)) (ss.drop (n + 1))) := by
            show _ = _
            rw [HR.out, HMT.out]
            cases SB <;> cases DM <;> simp_all
          clear hq HR
          go_wp2
          go_roundg (ss.length - (n + 1))
          case rel => exact ⟨n + 1, by omega, rfl, by go_num, HBw.out, HRT.out⟩
          case measure => omega
    · have hall : ss.drop n = [] := List.drop_eq_nil_of_le (by omega)
      have HRT : Hid (R = true) := by show _ = _; rw [HA.out, hall]; rfl
      clear hall HA
      by_cases hz : 0 < ss.length
      · go_wp2
        go_ret
        exact ⟨by rw [HRT.out, decide_eq_true (by omega)]; rfl, HB.out⟩
      · go_wp2
        go_ret
        exact ⟨by rw [HRT.out, decide_eq_false (by omega)]; rfl, HB.out⟩
end Go.Proofs.YtfkhehkfeibdpaaGreatDoor.Pl
end

/-
  What plan.limits, rule and Check answer, as contracts.
-/
section
set_option linter.unusedSimpArgs false
set_option linter.unusedVariables false
set_option maxRecDepth 100000
namespace Go.Proofs.YtfkhehkfeibdpaaGreatDoor.Pl
open Go.RowKit
open Wo (Wd WdsAt box_cell box_two keepB heap_far)

theorem bsix {w : World} {q : Nat} {a0 a1 a2 a3 a4 a5 : Value} {T : TypeId} (h : w.heap[q]? = some (.cells #[a0, a1, a2, a3, a4, a5] T (0, 0))) : w.cell? ⟨q, 0, none⟩ = some a0 ∧ w.cell? ⟨q, 1, none⟩ = some a1 ∧ w.cell? ⟨q, 2, none⟩ = some a2 ∧ w.cell? ⟨q, 3, none⟩ = some a3 ∧ w.cell? ⟨q, 4, none⟩ = some a4 ∧ w.cell? ⟨q, 5, none⟩ = some a5 := by
  refine ⟨?_, ?_, ?_, ?_, ?_, ?_⟩ <;> rw [cell_of_row w q _ _ T (0, 0) h] <;> rfl
theorem beight_ {w : World} {q : Nat} {a0 a1 a2 a3 a4 a5 a6 a7 : Value} {T : TypeId} (h : w.heap[q]? = some (.cells #[a0, a1, a2, a3, a4, a5, a6, a7] T (0, 0))) : w.cell? ⟨q, 0, none⟩ = some a0 ∧ w.cell? ⟨q, 1, none⟩ = some a1 ∧ w.cell? ⟨q, 2, none⟩ = some a2 ∧ w.cell? ⟨q, 3, none⟩ = some a3 ∧ w.cell? ⟨q, 4, none⟩ = some a4 ∧ w.cell? ⟨q, 5, none⟩ = some a5 ∧ w.cell? ⟨q, 6, none⟩ = some a6 ∧ w.cell? ⟨q, 7, none⟩ = some a7 := by
  refine ⟨?_, ?_, ?_, ?_, ?_, ?_, ?_, ?_⟩ <;> rw [cell_of_row w q _ _ T (0, 0) h] <;> rfl
set_option maxHeartbeats 16000000 in
theorem chk_limits (p : Pn) (m : Value) (w : World) :
    Calls Tryz.prog 16 #[pnv p m] w fun e w' => e = .returned (.bool (limB p)) ∧ Below w.heap.size w w' := by
  have HB := Lib.hid (below_alloc w (.cells #[.int .i64 p.mode, .int .i64 p.indDed, .int .i64 p.famDed, .int .i64 p.indOop, .int .i64 p.famOop, m] 24))
  have HG1 := Lib.hid fun W => good_eq p.indDed W
  have HG2 := Lib.hid fun W => good_eq p.famDed W
  have HG3 := Lib.hid fun W => good_eq p.indOop W
  have HG4 := Lib.hid fun W => good_eq p.famOop W
  have HL : Hid (limB p = (goodB p.indDed && (goodB p.famDed && (goodB p.indOop && (goodB p.famOop && (decide (p.indDed ≤ p.famDed) && (decide (p.indDed ≤ p.indOop) && (decide (p.famDed ≤ p.famOop) && decide (p.indOop ≤ p.famOop))))))))) := by
    show _ = _
    unfold limB goodB
    rw [Bool.eq_iff_iff]
    simp only [Bool.and_eq_true, decide_eq_true_eq]
    omega
  generalize limB p = R at *
  obtain ⟨md, x1, x2, x3, x4, rs⟩ := p
  simp only at *
  generalize goodB x1 = g1 at *
  generalize goodB x2 = g2 at *
  generalize goodB x3 = g3 at *
  generalize goodB x4 = g4 at *
  cases g1
  · have HRES : Hid (R = false) := by show _ = _; rw [HL.out]; simp
    clear HL
    go_enter Tryz.func16, Tryz.ntmps16
    go_wp2_with (first | (go_at_call_of 31 (Value.int IntKind.i64 x1); refine (HG1.out _).mono ?_; rintro e w1 ⟨rfl, rfl⟩) | (go_at_call_of 31 (Value.int IntKind.i64 x2); refine (HG2.out _).mono ?_; rintro e w1 ⟨rfl, rfl⟩) | (go_at_call_of 31 (Value.int IntKind.i64 x3); refine (HG3.out _).mono ?_; rintro e w1 ⟨rfl, rfl⟩) | (go_at_call_of 31 (Value.int IntKind.i64 x4); refine (HG4.out _).mono ?_; rintro e w1 ⟨rfl, rfl⟩))
    go_ret
    exact ⟨by rw [HRES.out]; rfl, HB.out⟩
  cases g2
  · have HRES : Hid (R = false) := by show _ = _; rw [HL.out]; simp
    clear HL
    go_enter Tryz.func16, Tryz.ntmps16
    go_wp2_with (first | (go_at_call_of 31 (Value.int IntKind.i64 x1); refine (HG1.out _).mono ?_; rintro e w1 ⟨rfl, rfl⟩) | (go_at_call_of 31 (Value.int IntKind.i64 x2); refine (HG2.out _).mono ?_; rintro e w1 ⟨rfl, rfl⟩) | (go_at_call_of 31 (Value.int IntKind.i64 x3); refine (HG3.out _).mono ?_; rintro e w1 ⟨rfl, rfl⟩) | (go_at_call_of 31 (Value.int IntKind.i64 x4); refine (HG4.out _).mono ?_; rintro e w1 ⟨rfl, rfl⟩))
    go_ret
    exact ⟨by rw [HRES.out]; rfl, HB.out⟩
  cases g3
  · have HRES : Hid (R = false) := by show _ = _; rw [HL.out]; simp
    clear HL
    go_enter Tryz.func16, Tryz.ntmps16
    go_wp2_with (first | (go_at_call_of 31 (Value.int IntKind.i64 x1); refine (HG1.out _).mono ?_; rintro e w1 ⟨rfl, rfl⟩) | (go_at_call_of 31 (Value.int IntKind.i64 x2); refine (HG2.out _).mono ?_; rintro e w1 ⟨rfl, rfl⟩) | (go_at_call_of 31 (Value.int IntKind.i64 x3); refine (HG3.out _).mono ?_; rintro e w1 ⟨rfl, rfl⟩) | (go_at_call_of 31 (Value.int IntKind.i64 x4); refine (HG4.out _).mono ?_; rintro e w1 ⟨rfl, rfl⟩))
    go_ret
    exact ⟨by rw [HRES.out]; rfl, HB.out⟩
  cases g4
  · have HRES : Hid (R = false) := by show _ = _; rw [HL.out]; simp
    clear HL
    go_enter Tryz.func16, Tryz.ntmps16
    go_wp2_with (first | (go_at_call_of 31 (Value.int IntKind.i64 x1); refine (HG1.out _).mono ?_; rintro e w1 ⟨rfl, rfl⟩) | (go_at_call_of 31 (Value.int IntKind.i64 x2); refine (HG2.out _).mono ?_; rintro e w1 ⟨rfl, rfl⟩) | (go_at_call_of 31 (Value.int IntKind.i64 x3); refine (HG3.out _).mono ?_; rintro e w1 ⟨rfl, rfl⟩) | (go_at_call_of 31 (Value.int IntKind.i64 x4); refine (HG4.out _).mono ?_; rintro e w1 ⟨rfl, rfl⟩))
    go_ret
    exact ⟨by rw [HRES.out]; rfl, HB.out⟩
  cases d1 : decide (x1 ≤ x2)
  · have HRES : Hid (R = false) := by show _ = _; rw [HL.out, d1]; simp
    clear HL
    go_enter Tryz.func16, Tryz.ntmps16
    go_wp2_with (first | (go_at_call_of 31 (Value.int IntKind.i64 x1); refine (HG1.out _).mono ?_; rintro e w1 ⟨rfl, rfl⟩) | (go_at_call_of 31 (Value.int IntKind.i64 x2); refine (HG2.out _).mono ?_; rintro e w1 ⟨rfl, rfl⟩) | (go_at_call_of 31 (Value.int IntKind.i64 x3); refine (HG3.out _).mono ?_; rintro e w1 ⟨rfl, rfl⟩) | (go_at_call_of 31 (Value.int IntKind.i64 x4); refine (HG4.out _).mono ?_; rintro e w1 ⟨rfl, rfl⟩))
    go_ret
    exact ⟨by rw [HRES.out]; rfl, HB.out⟩
  cases d2 : decide (x1 ≤ x3)
  · have HRES : Hid (R = false) := by show _ = _; rw [HL.out, d2]; simp
    clear HL
    go_enter Tryz.func16, Tryz.ntmps16
    go_wp2_with (first | (go_at_call_of 31 (Value.int IntKind.i64 x1); refine (HG1.out _).mono ?_; rintro e w1 ⟨rfl, rfl⟩) | (go_at_call_of 31 (Value.int IntKind.i64 x2); refine (HG2.out _).mono ?_; rintro e w1 ⟨rfl, rfl⟩) | (go_at_call_of 31 (Value.int IntKind.i64 x3); refine (HG3.out _).mono ?_; rintro e w1 ⟨rfl, rfl⟩) | (go_at_call_of 31 (Value.int IntKind.i64 x4); refine (HG4.out _).mono ?_; rintro e w1 ⟨rfl, rfl⟩))
    go_ret
    exact ⟨by rw [HRES.out]; rfl, HB.out⟩
  cases d3 : decide (x2 ≤ x4)
  · have HRES : Hid (R = false) := by show _ = _; rw [HL.out, d3]; simp
    clear HL
    go_enter Tryz.func16, Tryz.ntmps16
    go_wp2_with (first | (go_at_call_of 31 (Value.int IntKind.i64 x1); refine (HG1.out _).mono ?_; rintro e w1 ⟨rfl, rfl⟩) | (go_at_call_of 31 (Value.int IntKind.i64 x2); refine (HG2.out _).mono ?_; rintro e w1 ⟨rfl, rfl⟩) | (go_at_call_of 31 (Value.int IntKind.i64 x3); refine (HG3.out _).mono ?_; rintro e w1 ⟨rfl, rfl⟩) | (go_at_call_of 31 (Value.int IntKind.i64 x4); refine (HG4.out _).mono ?_; rintro e w1 ⟨rfl, rfl⟩))
    go_ret
    exact ⟨by rw [HRES.out]; rfl, HB.out⟩
  cases d4 : decide (x3 ≤ x4)
  · have HRES : Hid (R = false) := by show _ = _; rw [HL.out, d4]; simp
    clear HL
    go_enter Tryz.func16, Tryz.ntmps16
    go_wp2_with (first | (go_at_call_of 31 (Value.int IntKind.i64 x1); refine (HG1.out _).mono ?_; rintro e w1 ⟨rfl, rfl⟩) | (go_at_call_of 31 (Value.int IntKind.i64 x2); refine (HG2.out _).mono ?_; rintro e w1 ⟨rfl, rfl⟩) | (go_at_call_of 31 (Value.int IntKind.i64 x3); refine (HG3.out _).mono ?_; rintro e w1 ⟨rfl, rfl⟩) | (go_at_call_of 31 (Value.int IntKind.i64 x4); refine (HG4.out _).mono ?_; rintro e w1 ⟨rfl, rfl⟩))
    go_ret
    exact ⟨by rw [HRES.out]; rfl, HB.out⟩
  have HRES : Hid (R = true) := by show _ = _; rw [HL.out, d1, d2, d3, d4]; rfl
  clear HL
  go_enter Tryz.func16, Tryz.ntmps16
  go_wp2_with (first | (go_at_call_of 31 (Value.int IntKind.i64 x1); refine (HG1.out _).mono ?_; rintro e w1 ⟨rfl, rfl⟩) | (go_at_call_of 31 (Value.int IntKind.i64 x2); refine (HG2.out _).mono ?_; rintro e w1 ⟨rfl, rfl⟩) | (go_at_call_of 31 (Value.int IntKind.i64 x3); refine (HG3.out _).mono ?_; rintro e w1 ⟨rfl, rfl⟩) | (go_at_call_of 31 (Value.int IntKind.i64 x4); refine (HG4.out _).mono ?_; rintro e w1 ⟨rfl, rfl⟩))
  go_ret
  exact ⟨by rw [HRES.out]; rfl, HB.out⟩
end Go.Proofs.YtfkhehkfeibdpaaGreatDoor.Pl
end
