/-
  Whether a set and a rule may be, as the reference says: set and rule, as contracts.
-/
import Derived.Test.YtdppelkfcnbgbaaPRCk
import Derived.Test.YtdppelkfcnbgbaaPChb
set_option linter.unusedSimpArgs false
set_option linter.unusedVariables false
set_option maxRecDepth 100000
namespace Go.Proofs.Ytdppelkfcnbgbaa.Pl
open Go.RowKit
open Wo (Wd WdsAt box_cell box_two keepB heap_far)

set_option maxHeartbeats 8000000 in
theorem rck_set (s : St) (w : World) :
    Calls Try.prog 49 #[stv s] w fun e w' => e = .returned (.bool (setB s)) ∧ Below w.heap.size w w' := by
  have HB := Lib.hid (below_alloc w (.cells #[.int .i64 s.what, .int .i64 s.n] 77))
  obtain ⟨k, n⟩ := s
  by_cases hneg : n < 0
  · have HRES : Hid (setB ⟨k, n⟩ = false) := by
      show _ = _
      unfold setB
      rw [decide_eq_false (show ¬ (0 : Int) ≤ n by omega)]
      rfl
    go_enter Try.func49, Try.ntmps49
    go_wp2
    go_ret
    exact ⟨by rw [HRES.out] <;> rfl, HB.out⟩
  by_cases h1 : k = 1 ∨ k = 2
  · have HRES : Hid (setB ⟨k, n⟩ = decide (n ≤ 1)) := by
      show _ = _
      unfold setB
      simp only [if_pos h1]
      rw [decide_eq_true (show (0 : Int) ≤ n by omega)]
      rfl
    rcases h1 with rfl | rfl
    all_goals
      cases hh : decide (n ≤ 1)
      all_goals
        rw [hh] at HRES
        go_enter Try.func49, Try.ntmps49
        go_wp2
        go_ret
        exact ⟨by rw [HRES.out] <;> rfl, HB.out⟩
  by_cases h3 : k = 3
  · subst h3
    have HRES : Hid (setB ⟨3, n⟩ = goodB n) := by
      show _ = _
      unfold setB goodB
      rw [Bool.eq_iff_iff]; simp
    have HG := Lib.hid fun W => rgood_eq n W
    generalize goodB n = G at *
    go_enter Try.func49, Try.ntmps49
    go_wp2_with (first | (go_at_call 28; refine (HG.out _).mono ?_; rintro e w1 ⟨rfl, rfl⟩))
    go_ret
    exact ⟨by rw [HRES.out] <;> rfl, HB.out⟩
  by_cases h4 : k = 4
  · subst h4
    have HRES : Hid (setB ⟨4, n⟩ = decide (n ≤ 10000)) := by
      show _ = _
      unfold setB
      rw [decide_eq_true (show (0 : Int) ≤ n by omega)]
      rfl
    cases hh : decide (n ≤ 10000)
    all_goals
      rw [hh] at HRES
      go_enter Try.func49, Try.ntmps49
      go_wp2
      go_ret
      exact ⟨by rw [HRES.out] <;> rfl, HB.out⟩
  · have HRES : Hid (setB ⟨k, n⟩ = false) := by
      show _ = _
      unfold setB
      simp only [if_neg h1, if_neg h3, if_neg h4, Bool.and_false]
    have b1 : (k == 1) = false := by simp; omega
    have b2 : (k == 2) = false := by simp; omega
    have b3 : (k == 3) = false := by simp; omega
    have b4 : (k == 4) = false := by simp; omega
    clear h1 h3 h4
    go_enter Try.func49, Try.ntmps49
    go_wp2
    go_ret
    exact ⟨by rw [HRES.out] <;> rfl, HB.out⟩
theorem all_one (p : Cd → Bool) (l : List Cd) (h : l.length = 1) : l.all p = p (l[0]'(by omega)) := by
  match l, h with
  | [a], _ => simp
theorem seen_not (ss : List St) (n : Nat) (x : Int) (h : ∀ j, j < n → ∀ (hj : j < ss.length), ss[j].what ≠ x) : decide (x ∉ (ss.take n).map (·.what)) = true := by
  rw [decide_eq_true_eq, List.mem_map]
  rintro ⟨s, hs, rfl⟩
  obtain ⟨j, hj, rfl⟩ := List.getElem_of_mem hs
  simp only [List.length_take] at hj
  exact h j (by omega) (by omega) (by simp)
theorem seen_is (ss : List St) (n j : Nat) (x : Int) (hj : j < n) (hl : j < ss.length) (h : ss[j].what = x) : decide (x ∉ (ss.take n).map (·.what)) = false := by
  rw [decide_eq_false_iff_not, Classical.not_not, List.mem_map]
  exact ⟨ss[j], List.mem_iff_getElem.2 ⟨j, by simp; omega, by simp⟩, h⟩
set_option maxHeartbeats 16000000 in
theorem rck_rule (r : Ru) (k u s : Value) (w : World) (h : RuIn All w r k u s) :
    Calls Try.prog 36 #[ruv r k u s] w fun e w' => e = .returned (.bool (ruleB r)) ∧ Below w.heap.size w w' := by
  obtain ⟨h64, hok, hul, hk, hu, hs⟩ := h
  have hb := below_alloc w (.cells #[.int .i64 r.rank, .int .i64 r.cif.kind, .string (mk r.cif.lo), .string (mk r.cif.hi), .int .i64 r.cif.n, k, u, s] 63)
  have HB := Lib.hid hb
  have HX := Lib.hid (heap_alloc_new w (.cells #[.int .i64 r.rank, .int .i64 r.cif.kind, .string (mk r.cif.lo), .string (mk r.cif.hi), .int .i64 r.cif.n, k, u, s] 63))
  have HU := Lib.hid (hu.grw hb)
  have HS := Lib.hid (hs.grw hb)
  have HC := Lib.hid (rck_cond 16 1 (by decide) (by decide) r.cif k _ (hk.grw hb) hok)
  obtain ⟨ka, kc, rfl, -, -⟩ := hk.form
  obtain ⟨ua, uc, rfl, hu1, hu2⟩ := hu.form
  obtain ⟨sa, sc, rfl, hs1, hs2, hs3⟩ := hs.form
  obtain ⟨x0, x1, x2, x3, x4, x5, x6, x7⟩ := beight HX.out
  have hul2 : r.unl.length ≤ 281474976710656 := hul
  have hsl2 : r.sets.length ≤ 281474976710656 := hs3
  obtain ⟨G1, hG1⟩ : ∃ G1, G1 = ((decide (0 ≤ r.rank) && decide (r.rank ≤ 9999)) && (condB 16 r.cif && (decide (r.unl.length ≤ 1) && decide (1 ≤ r.sets.length)))) := ⟨_, rfl⟩
  have HR : Hid (ruleB r = (G1 && (r.unl.all (condB 16) && setsB [] r.sets))) := by
    show _ = _
    rw [ruleB_eq, hG1]
    cases decide (0 ≤ r.rank) <;> cases decide (r.rank ≤ 9999) <;> cases condB 16 r.cif <;> cases decide (r.unl.length ≤ 1) <;> cases decide (1 ≤ r.sets.length) <;> simp
  have HU1 : Hid (G1 = true → r.unl.length ≤ 1) := by
    intro h
    rw [h] at hG1
    simp at hG1
    exact hG1.2.2.1
  have HG1 := Lib.hid hG1
  clear hb hk hu hs h64 hok hul hG1 hs3
  generalize ruleB r = R at *
  go_enter Try.func36, Try.ntmps36
  go_upto_region 1 with fail
  generalize w.alloc (.cells #[.int .i64 r.rank, .int .i64 r.cif.kind, .string (mk r.cif.lo), .string (mk r.cif.hi), .int .i64 r.cif.n, .slice ka r.cif.kids.length kc, .slice ua r.unl.length uc, .slice sa r.sets.length sc] 63) = W0 at *
  generalize hp : w.heap.size = p at *
  go_cut [30] (fun s30 wx => s30 = .bool (!G1) ∧ Hid (Below W0.heap.size W0 wx))
  case first =>
    clear HU HS HU1 HR
    by_cases c1 : r.rank < 0
    · have HRES : Hid (G1 = false) := by show _ = _; rw [HG1.out, decide_eq_false (show ¬ 0 ≤ r.rank by omega)]; simp
      clear HG1
      go_wp2
      go_meet
      exact ⟨by rw [HRES.out] <;> rfl, Below.refl _ _⟩
    by_cases c2 : 9999 < r.rank
    · have HRES : Hid (G1 = false) := by show _ = _; rw [HG1.out, decide_eq_false (show ¬ r.rank ≤ 9999 by omega)]; simp
      clear HG1
      go_wp2
      go_meet
      exact ⟨by rw [HRES.out] <;> rfl, Below.refl _ _⟩
    have HG2 : Hid (G1 = (condB 16 r.cif && (decide (r.unl.length ≤ 1) && decide (1 ≤ r.sets.length)))) := by
      show _ = _
      rw [HG1.out, decide_eq_true (show 0 ≤ r.rank by omega), decide_eq_true (show r.rank ≤ 9999 by omega)]
      simp
    clear HG1
    have HXK := Lib.hid fun (w1 : World) (h : Below W0.heap.size W0 w1) => beight (keepB HX.out h)
    generalize condB 16 r.cif = CB at *
    cases CB
    · have HRES : Hid (G1 = false) := HG2.out
      clear HG2
      go_wp2_with (first | (go_at_call 48; refine HC.out.mono ?_; rintro e w1 ⟨rfl, hb1⟩; have HB1 := Lib.hid hb1; clear hb1))
      go_meet
      exact ⟨by rw [HRES.out] <;> rfl, HB1.out⟩
    by_cases c3 : 1 < r.unl.length
    · have HRES : Hid (G1 = false) := by show _ = _; rw [HG2.out, decide_eq_false (show ¬ r.unl.length ≤ 1 by omega)]; rfl
      clear HG2
      go_wp2_with (first | (go_at_call 48; refine HC.out.mono ?_; rintro e w1 ⟨rfl, hb1⟩; obtain ⟨z0, z1, z2, z3, z4, z5, z6, z7⟩ := HXK.out _ hb1; have HB1 := Lib.hid hb1; clear hb1))
      go_meet
      exact ⟨by rw [HRES.out] <;> rfl, HB1.out⟩
    by_cases c4 : r.sets.length < 1
    · have HRES : Hid (G1 = false) := by show _ = _; rw [HG2.out, decide_eq_false (show ¬ 1 ≤ r.sets.length by omega)]; simp
      clear HG2
      go_wp2_with (first | (go_at_call 48; refine HC.out.mono ?_; rintro e w1 ⟨rfl, hb1⟩; obtain ⟨z0, z1, z2, z3, z4, z5, z6, z7⟩ := HXK.out _ hb1; have HB1 := Lib.hid hb1; clear hb1))
      go_meet
      exact ⟨by rw [HRES.out, decide_eq_false (show ¬ (1 : Int) < ↑r.unl.length by omega), decide_eq_true (show (↑r.sets.length : Int) < 1 by omega)] <;> rfl, HB1.out⟩
    · have HRES : Hid (G1 = true) := by show _ = _; rw [HG2.out, decide_eq_true (show r.unl.length ≤ 1 by omega), decide_eq_true (show 1 ≤ r.sets.length by omega)]; rfl
      clear HG2
      go_wp2_with (first | (go_at_call 48; refine HC.out.mono ?_; rintro e w1 ⟨rfl, hb1⟩; obtain ⟨z0, z1, z2, z3, z4, z5, z6, z7⟩ := HXK.out _ hb1; have HB1 := Lib.hid hb1; clear hb1))
      go_meet
      exact ⟨by rw [HRES.out, decide_eq_false (show ¬ (1 : Int) < ↑r.unl.length by omega), decide_eq_false (show ¬ (↑r.sets.length : Int) < 1 by omega)] <;> rfl, HB1.out⟩
  case rest =>
    obtain ⟨rfl, HBx⟩ := hcut
    have HB1 : Hid (Below p w wc) := below_tr hp HB.out HBx.out
    have HU2 := Lib.hid (HU.out.grw HBx.out)
    have HS2 := Lib.hid (HS.out.grw HBx.out)
    have HX2 := Lib.hid (keepB HX.out HBx.out)
    obtain ⟨x0, x1, x2, x3, x4, x5, x6, x7⟩ := beight HX2.out
    clear HB HX HU HS HC HG1 HBx
    cases G1 with
    | false =>
      have HRES : Hid (R = false) := HR.out
      go_wp2
      go_ret
      exact ⟨by rw [HRES.out] <;> rfl, by first | exact HB1.out | (rw [hp]; exact HB1.out)⟩
    | true =>
      have hu3 := HU1.out rfl
      have HR2 : Hid (R = (r.unl.all (condB 16) && setsB [] r.sets)) := by show _ = _; rw [HR.out]; simp
      clear HR HU1
      obtain ⟨wa, hwa⟩ : ∃ x, x = wc := ⟨_, rfl⟩
      subst hwa
      go_upto_region 3 with fail
      go_cut [42] (fun s42 wx => s42 = .bool (!(r.unl.all (condB 16))) ∧ Hid (Below wa.heap.size wa wx))
      case first =>
        by_cases hz : r.unl.length = 1
        · obtain ⟨b, o, mv, rfl, hbs, hx, hcc, hkk, hok⟩ := KsAt.get HU2.out 0 (by omega)
          obtain ⟨y0, y1, y2, y3, y4⟩ := hcc
          obtain ⟨ma, mc, rfl, -, -⟩ := hkk.form
          have HC2 := Lib.hid (rck_cond 16 1 (by decide) (by decide) r.unl[0] _ _ hkk hok)
          have HE : Hid (r.unl.all (condB 16) = condB 16 r.unl[0]) := all_one (condB 16) r.unl hz
          clear hx hkk hok HR2 HX2 HS2
          generalize r.unl[0] = kd at *
          simp only [Nat.zero_mul, Nat.add_zero] at y0 y1 y2 y3 y4
          generalize r.unl.length = ul at *
          subst hz
          go_wp2_with (first | (go_at_call 48; refine HC2.out.mono ?_; rintro e w1 ⟨rfl, hb1⟩; have HB3 := Lib.hid hb1; clear hb1))
          go_meet
          exact ⟨by rw [HE.out] <;> rfl, HB3.out⟩
        · have hl0 : r.unl.length = 0 := by omega
          have hnil : r.unl = [] := List.length_eq_zero_iff.1 hl0
          have HE : Hid (r.unl.all (condB 16) = true) := by show _ = _; rw [hnil]; rfl
          clear hnil HU2 HR2
          generalize r.unl.length = ul at *
          subst hl0
          go_wp2
          go_meet
          exact ⟨by rw [HE.out] <;> rfl, Below.refl _ _⟩
      case rest =>
        obtain ⟨rfl, HBy⟩ := hcut
        obtain ⟨wd, hwd⟩ : ∃ x, x = wc := ⟨_, rfl⟩
        subst hwd
        have HB2 : Hid (Below p w wd) := below_tr hp HB1.out HBy.out
        have HS3 := Lib.hid (HS2.out.grw HBy.out)
        have HX3 := Lib.hid (keepB HX2.out HBy.out)
        obtain ⟨x0, x1, x2, x3, x4, x5, x6, x7⟩ := beight HX3.out
        clear HB1 HX2 HU2 HS2 HBy
        generalize r.unl.all (condB 16) = UA at *
        cases UA with
        | false =>
          have HRES : Hid (R = false) := HR2.out
          go_wp2
          go_ret
          exact ⟨by rw [HRES.out] <;> rfl, by first | exact HB2.out | (rw [hp]; exact HB2.out)⟩
        | true =>
          have HR3 : Hid (R = setsB ((r.sets.take 0).map (·.what)) (r.sets.drop 0)) := HR2.out
          have HW0 := Lib.hid (Below.refl wd.heap.size wd)
          clear HR2
          generalize r.sets = ss at *
          go_wp2
          go_loopg [3] (ss.length) (fun g i wr => ∃ (n : Nat), n ≤ ss.length ∧ g = ss.length - n ∧ i = .int .i64 n ∧ Hid (Below wd.heap.size wd wr) ∧ Hid (R = setsB ((ss.take n).map (·.what)) (ss.drop n)))
          case atStart => exact ⟨0, Nat.zero_le _, rfl, rfl, HW0.out, HR3.out⟩
          case round =>
            clear HW0 HR3 x0 x1 x2 x3 x4 x5 x6 x7
            obtain ⟨n, hn, hg, rfl, HBr, HA⟩ := hrel
            obtain ⟨x0, x1, x2, x3, x4, x5, x6, x7⟩ := beight (keepB HX3.out HBr.out)
            by_cases hlt : n < ss.length
            · obtain ⟨b, o, rfl, hbs, hx, y0, y1, -, -⟩ := StsAt.get (HS3.out.grw HBr.out) n hlt
              have HMT := Lib.hid (map_take1 ss n _ hx)
              have HAT := Lib.hid (HA.out.trans (sets_at ss n _ _ hx))
              have HCS := Lib.hid (rck_set ss[n] wr)
              clear hx HA
              cases hq : setB ss[n]
              · rw [hq] at HCS HAT
                have HRES : Hid (R = false) := HAT.out
                clear hq HAT
                generalize ss[n] = s at *
                go_wp2_with (first | (go_at_call 49; refine HCS.out.mono ?_; rintro e w3 ⟨rfl, hb3⟩; have HB3 := Lib.hid hb3; clear hb3))
                go_ret
                exact ⟨by rw [HRES.out] <;> rfl, by first | exact below_tr hp HB2.out (below_trans HBr.out HB3.out) | (rw [hp]; exact below_tr hp HB2.out (below_trans HBr.out HB3.out))⟩
              · rw [hq] at HCS HAT
                have HAT2 : Hid (R = (decide (ss[n].what ∉ (ss.take n).map (·.what)) && setsB ((ss.take n).map (·.what) ++ [ss[n].what]) (ss.drop (n + 1)))) := HAT.out
                have HNOT := Lib.hid (seen_not ss n ss[n].what)
                have HIS := Lib.hid fun j => seen_is ss n j ss[n].what
                have HGET := Lib.hid fun (j : Nat) (hj : j < ss.length) (W : World) (hW : Below wr.heap.size wr W) => StsAt.get ((HS3.out.grw HBr.out).grw hW) j hj
                have HXK := Lib.hid fun (w1 : World) (h : Below wr.heap.size wr w1) => beight (keepB (keepB HX3.out HBr.out) h)
                have HSN := Lib.hid fun W (hW : Below wr.heap.size wr W) => (HGET.out n hlt W hW)
                clear hq HAT
                generalize hsn : ss[n] = s at *
                go_wp2_with (first | (go_at_call 49; refine HCS.out.mono ?_; rintro e w3 ⟨rfl, hb3⟩; obtain ⟨z0, z1, z2, z3, z4, z5, z6, z7⟩ := HXK.out _ hb3; have HB3 := Lib.hid hb3; have HB30 := Lib.hid (Below.refl w3.heap.size w3); clear hb3))
                go_loopg [4] (n) (fun g i wz => ∃ (j : Nat), j ≤ n ∧ g = n - j ∧ i = .int .i64 j ∧ Hid (Below w3.heap.size w3 wz) ∧ Hid (∀ q, q < j → ∀ (hq : q < ss.length), ss[q].what ≠ s.what))
                case atStart => exact ⟨0, Nat.zero_le _, rfl, rfl, HB30.out, fun q hq => by omega⟩
                case round =>
                  clear HB30 z0 z1 z2 z3 z4 z5 z6 z7 x0 x1 x2 x3 x4 x5 x6 x7 y0 y1
                  obtain ⟨j, hj, hgj, rfl, HBz, HQ⟩ := hrel
                  have HBrz := Lib.hid (below_trans HB3.out HBz.out)
                  obtain ⟨x0, x1, x2, x3, x4, x5, x6, x7⟩ := HXK.out _ HBrz.out
                  by_cases hjn : j < n
                  · obtain ⟨b1, o1, he1, -, -, y0, y1, -, -⟩ := HGET.out j (by omega) _ HBrz.out
                    obtain ⟨b2, o2, he2, -, -, v0, v1, -, -⟩ := HSN.out _ HBrz.out
                    simp only [Option.some.injEq, Addr.mk.injEq, and_true] at he1 he2
                    obtain ⟨rfl, rfl⟩ := he1
                    obtain ⟨rfl, rfl⟩ := he2
                    have hjl : j < ss.length := by omega
                    have HQ2 : Hid (ss[j].what ≠ s.what → ∀ q, q < j + 1 → ∀ (hq : q < ss.length), ss[q].what ≠ s.what) := fun h q hq hql => by
                      by_cases e : q = j
                      · subst e; exact h
                      · exact HQ.out q (by omega) hql
                    have HIS2 := Lib.hid (HIS.out j hjn hjl)
                    clear HQ
                    generalize ss[j] = t at *
                    cases ht : (t.what == s.what)
                    · have HQ3 := Lib.hid (HQ2.out (by simpa using ht))
                      go_wp2_with fail
                      go_quiet (fail)
                      go_wp2
                      go_roundg (n - (j + 1))
                      case rel => exact ⟨j + 1, by omega, rfl, by go_num, below_dn HBz.out _, HQ3.out⟩
                      case measure => omega
                    · have HRES : Hid (R = false) := by show _ = _; rw [HAT2.out, HIS2.out (by simpa using ht)]; rfl
                      have HBf : Hid (Below p w wr) := below_tr hp HB2.out (below_trans HBr.out HBrz.out)
                      go_wp2_with fail
                      go_quiet (fail)
                      go_wp2
                      go_ret
                      exact ⟨by rw [HRES.out] <;> rfl, by first | exact (HBf.out.trans ⟨rfl, rfl, rfl, Nat.le_refl _, fun _ _ => rfl⟩) | (rw [hp]; exact (HBf.out.trans ⟨rfl, rfl, rfl, Nat.le_refl _, fun _ _ => rfl⟩))⟩
                  · obtain rfl : j = n := by omega
                    have HRT : Hid (R = setsB ((ss.take (j + 1)).map (·.what)) (ss.drop (j + 1))) := by
                      show _ = _
                      rw [HAT2.out, HNOT.out HQ.out, HMT.out]
                      rfl
                    go_wp2
                    go_roundg (ss.length - (j + 1))
                    case rel => exact ⟨j + 1, by omega, rfl, by go_num, below_trans HBr.out HBrz.out, HRT.out⟩
                    case measure => omega
            · have hall : ss.drop n = [] := List.drop_eq_nil_of_le (by omega)
              have HRT : Hid (R = true) := by show _ = _; rw [HA.out, hall]; rfl
              clear hall HA
              go_wp2
              go_ret
              exact ⟨by rw [HRT.out] <;> rfl, by first | exact below_tr hp HB2.out HBr.out | (rw [hp]; exact below_tr hp HB2.out HBr.out)⟩
end Go.Proofs.Ytdppelkfcnbgbaa.Pl
