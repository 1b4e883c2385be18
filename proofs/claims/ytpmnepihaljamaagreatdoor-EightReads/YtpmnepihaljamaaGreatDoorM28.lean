/-
  Texts put together (merge.py): KUnwrap, QFind.
-/
import Derived.Laws.CopyOwn
import Derived.Test.YtpmnepihaljamaaGreatDoorM26
import Derived.Test.YtpmnepihaljamaaGreatDoorM15
import Derived.Test.YtpmnepihaljamaaGreatDoorM27
/-
  What cover.unwrap answers, as a contract.
-/
section
set_option linter.unusedSimpArgs false
namespace Go.Proofs.YtpmnepihaljamaaGreatDoor
open Go.RowKit

/-- A part of a row is a row. -/
theorem RowAt.sub {α : Type} {K : Nat → Prop} {R : World → Value → α → Prop} {w : World} {b o n c : Nat} {xs : List α} (h : RowAt K R w (.slice (some ⟨b, o, none⟩) n c) xs) (i m c' : Nat) (ys : List α) (hy : ys = (xs.drop i).take m) (hm : i + m ≤ xs.length) (hc : m ≤ c') (hx : c' ≤ maxLen) : RowAt K R w (.slice (some ⟨b, o + i, none⟩) m c') ys := by
  subst hy
  obtain ⟨a, c0, e, h1, h2, h3⟩ := h
  simp only [Value.slice.injEq] at e
  obtain ⟨rfl, rfl, rfl⟩ := e
  have hl : ((xs.drop i).take m).length = m := by rw [List.length_take, List.length_drop]; omega
  refine ⟨some ⟨b, o + i, none⟩, c', by rw [hl], by rw [hl]; exact hc, hx, ?_⟩
  rcases h3 with rfl | ⟨b', o', e, hk, hb, hcl⟩
  · left; simp
  · simp only [Option.some.injEq, Addr.mk.injEq] at e
    obtain ⟨rfl, rfl, -⟩ := e
    right
    refine ⟨b, o + i, rfl, hk, hb, fun j x hj => ?_⟩
    rw [List.getElem?_take] at hj
    split at hj
    · rw [List.getElem?_drop] at hj
      obtain ⟨u, hu, hr⟩ := hcl (i + j) x hj
      exact ⟨u, by rw [Nat.add_assoc]; exact hu, hr⟩
    · cases hj
theorem un_few {k : Tx} {all : List Sg} (h : all.length < 5) : unE k all = 5 := by unfold unE; rw [if_pos h]
theorem un_bad {k : Tx} {all : List Sg} (h : unE k all ≠ 0) : unN k all = 0 ∧ unL k all = [] := by unfold unN unL; rw [if_neg h, if_neg h]; exact ⟨rfl, rfl⟩
theorem un_none {k : Tx} {all : List Sg} (hl : 5 ≤ all.length) (h : numO (all.headD []) = none) : unE k all = 5 := by
  unfold unE
  rw [if_neg (by omega), h]
theorem un_some {k : Tx} {all : List Sg} {n : Int} (hl : 5 ≤ all.length) (h : numO (all.headD []) = some n) : unE k all = (if inB k n all = false then 5 else if cntB n all = false then 6 else 0) := by
  unfold unE
  rw [if_neg (by omega), h]

set_option maxHeartbeats 4000000 in
set_option maxRecDepth 100000 in
theorem unwrap_any (kk : ByteArray) (v : Value) (all : List Sg) (w : World) (h : SgAt All w v all) (hT : Tab w) (hl : all.length ≤ 100000) (hz : ∀ g ∈ all, ∀ ps ∈ g, ∀ x ∈ ps, x.length ≤ 65536) :
    Calls Tryz.prog 62 #[.string kk, v] w fun x w' => (∃ u, x = .returned (.tuple #[.int .i64 (unN kk.data.toList all), u, .int .i64 (unE kk.data.toList all)]) ∧ SgAt All w' u (unL kk.data.toList all)) ∧ Below w.heap.size w w' := by
  have HSg : Hid (SgAt All w v all) := h
  have HTb := Lib.hid hT
  have hnil := fun W => SgAt.nil All W
  have HNil := Lib.hid hnil
  obtain ⟨av, cv, rfl, hc1, hc2, hc3⟩ := h
  have HC2 := Lib.hid hc2
  unfold maxLen at hc2
  clear hT hnil
  by_cases h5 : all.length < 5
  · have he := un_few (k := kk.data.toList) h5
    have hb := un_bad (k := kk.data.toList) (all := all) (by rw [he]; decide)
    have HV := Lib.hid (And.intro he hb)
    clear he hb hc3
    go_enter Tryz.func62, Tryz.ntmps62
    go_wp2
    refine bodyPost_ret (v := .tuple #[.int .i64 0, .slice none 0 0, .int .i64 5]) (by simp [results, Tryz.results62, go_sem]) rfl ?_
    refine ⟨⟨.slice none 0 0, ?_, ?_⟩, Below.refl _ _⟩
    · rw [HV.out.1, HV.out.2.1]
    · rw [HV.out.2.2]; exact HNil.out _
  rcases hc3 with rfl | ⟨b, o, rfl, -, hbl, hcl⟩
  · simp at h5
  obtain ⟨m, hm⟩ : ∃ m, all.length = m + 5 := ⟨all.length - 5, by omega⟩
  obtain ⟨g0, hg0⟩ : ∃ g0, all[0]? = some g0 := ⟨all[0], List.getElem?_eq_getElem (by omega)⟩
  have hhd : all.headD [] = g0 := by cases all with
    | nil => simp at hg0
    | cons x r => simpa using hg0
  obtain ⟨u0, hu0, hr0⟩ := hcl 0 g0 hg0
  rw [Nat.add_zero] at hu0
  have HNm := Lib.hid (numberOf_any u0 g0 w hr0 (hz g0 (List.mem_of_getElem? hg0)))
  obtain ⟨a0, c0, rfl, -, -, -⟩ := hr0
  cases hn : numO g0 with
  | none =>
    have he := un_none (k := kk.data.toList) (all := all) (by omega) (by rw [hhd]; exact hn)
    have hb := un_bad (k := kk.data.toList) (all := all) (by rw [he]; decide)
    have HV := Lib.hid (And.intro he hb)
    have hnv : numV g0 = 0 := by unfold numV; rw [hn]; rfl
    have hnk : numK g0 = false := by unfold numK; rw [hn]; rfl
    rw [hnv, hnk] at HNm
    clear he hb hn hhd hg0 hcl hz hnv hnk h5
    rw [hm] at hc1 hl ⊢
    clear hm
    go_enter Tryz.func62, Tryz.ntmps62
    go_wp2_with (go_at_call 95; refine HNm.out.mono ?_; rintro x w1 ⟨rfl, hb⟩; have HB1 := Lib.hid hb; clear hb)
    refine bodyPost_ret (v := .tuple #[.int .i64 0, .slice none 0 0, .int .i64 5]) (by simp [results, Tryz.results62, go_sem]) rfl ?_
    refine ⟨⟨.slice none 0 0, ?_, ?_⟩, HB1.out⟩
    · rw [HV.out.1, HV.out.2.1]
    · rw [HV.out.2.2]; exact HNil.out _
  | some n =>
    obtain ⟨n0, n9⟩ := num_of hn
    have hue := un_some (k := kk.data.toList) (all := all) (by omega) (by rw [hhd]; exact hn)
    have hun := fun (h : unE kk.data.toList all = 0) => show unN kk.data.toList all = n by unfold unN; rw [if_pos h, hhd, hn]; rfl
    have hul := fun (h : unE kk.data.toList all = 0) => show unL kk.data.toList all = (all.drop 2).take m by unfold unL; rw [if_pos h, hm]; rfl
    have hnv : numV g0 = n := by unfold numV; rw [hn]; rfl
    have hnk : numK g0 = true := by unfold numK; rw [hn]; rfl
    rw [hnv, hnk] at HNm
    have hin : (m : Int) + 5 - 2 - 3 = m := by omega
    have HIn : Hid (∀ W, Below w.heap.size w W → Calls Tryz.prog 41 #[.int .i64 n] W fun e w' => e = .returned (.string (mk (Lib.itoa n))) ∧ Below W.heap.size W w') := fun W hW => Nu.int_any n (by omega) (by omega) W (tab_grw HTb.out hW).2.2
    have hA := fun W => ahead_any kk.data.toList (Lib.itoa n) W
    rw [mk_of] at hA
    have HAh := Lib.hid hA
    have HBh : Hid (∀ W, Below w.heap.size w W → Calls Tryz.prog 50 #[.int .i64 m, .string (mk (Lib.itoa n))] W fun x w' => (∃ b, x = .returned (.slice (some ⟨b, 0, none⟩) 3 3) ∧ SgAt All w' (.slice (some ⟨b, 0, none⟩) 3 3) (aft m (Lib.itoa n))) ∧ Below W.heap.size W w') := fun W hW => behind_any m (Lib.itoa n) W (tab_grw HTb.out hW) (by omega)
    have HSW : Hid (∀ W, Below w.heap.size w W → SgAt All W (.slice (some ⟨b, o, none⟩) all.length cv) all) := fun W hW => SgAt.move HSg.out (Below.moves hW)
    clear hA hn hhd hg0 hcl hz hnv hnk h5
    rw [hm] at hc1 hl ⊢
    go_enter Tryz.func62, Tryz.ntmps62
    go_upto_region 10 with (first | (go_at_call 95; refine HNm.out.mono ?_; rintro x w1 ⟨rfl, hb⟩; have HB1 := Lib.hid hb; clear hb) | (go_at_call 41; refine (HIn.out _ HB1.out).mono ?_; rintro x w2 ⟨rfl, hb⟩; have HB2 := Lib.hid (below_trans HB1.out hb); clear hb) | (go_at_call 49; refine (HAh.out _).mono ?_; rintro x w3 ⟨⟨ab, rfl, hs⟩, hb⟩; have HS3 := Lib.hid hs; have HB3 := Lib.hid (below_trans HB2.out hb); clear hb hs) | (go_at_call 50; refine (HBh.out _ HB3.out).mono ?_; rintro x w4 ⟨⟨bb, rfl, hs⟩, hb⟩; have HS4 := Lib.hid hs; have HS3b := Lib.hid (SgAt.move HS3.out (Below.moves hb)); have HB4 := Lib.hid (below_trans HB3.out hb); clear hb hs))
    rw [show m + 5 - (2 + m) = 3 by omega]
    have hcw : 3 ≤ cv - (2 + m) := by omega
    have hcx : cv - (2 + m) ≤ 9223372036854775807 := by omega
    have HT2 : Hid (SgAt All w4 (.slice (some ⟨b, o, none⟩) 2 cv) (all.take 2)) := RowAt.sub (i := 0) (HSW.out _ HB4.out) 2 cv (all.take 2) rfl (by omega) (by omega) HC2.out
    have HT3 : Hid (SgAt All w4 (.slice (some ⟨b, o + (2 + m) + 1, none⟩) 2 (cv - (2 + m) - 1)) (all.drop (all.length - 2))) := by
      have := RowAt.sub (HSW.out _ HB4.out) (2 + m + 1) 2 (cv - (2 + m) - 1) (all.drop (all.length - 2)) (by rw [hm, show m + 5 - 2 = 2 + m + 1 by omega]; rw [List.take_of_length_le (by rw [List.length_drop]; omega)]) (by omega) (by omega) (Nat.le_trans (by omega) HC2.out)
      rwa [← Nat.add_assoc] at this
    have HT4 : Hid (SgAt All w4 (.slice (some ⟨bb, 1, none⟩) 2 2) (aft m (Lib.itoa n)).tail) := by
      have := RowAt.sub HS4.out 1 2 2 (aft m (Lib.itoa n)).tail rfl (by simp [aft]) (by omega) (by simp only [maxLen]; omega)
      rwa [Nat.zero_add] at this
    have HC1 : Hid (∀ W v v', v = .slice (some ⟨b, o, none⟩) 2 cv → v' = .slice (some ⟨ab, 0, none⟩) 2 2 → Below w4.heap.size w4 W → Calls Tryz.prog 96 #[v, v'] W fun e w' => e = .returned (.bool (decide (all.take 2 = fore kk.data.toList (Lib.itoa n)))) ∧ Below W.heap.size W w') := fun W v v' h1 h2 hW => by
      subst h1 h2
      exact sameSegs_any _ _ _ _ W (SgAt.move HT2.out (Below.moves hW)) (SgAt.move HS3b.out (Below.moves hW))
    have HC3 : Hid (∀ W v v', v = .slice (some ⟨b, o + (2 + m) + 1, none⟩) 2 (cv - (2 + m) - 1) → v' = .slice (some ⟨bb, 1, none⟩) 2 2 → Below w4.heap.size w4 W → Calls Tryz.prog 96 #[v, v'] W fun e w' => e = .returned (.bool (decide (all.drop (all.length - 2) = (aft m (Lib.itoa n)).tail))) ∧ Below W.heap.size W w') := fun W v v' h1 h2 hW => by
      subst h1 h2
      exact sameSegs_any _ _ _ _ W (SgAt.move HT3.out (Below.moves hW)) (SgAt.move HT4.out (Below.moves hW))
    have hiB : inB kk.data.toList n all = (decide (all.take 2 = fore kk.data.toList (Lib.itoa n)) && decide (all.drop (all.length - 2) = (aft m (Lib.itoa n)).tail)) := by unfold inB; rw [hm]; rfl
    have HRf : Hid (∀ W : World, Below W.heap.size W W.drew) := fun W => Below.drew (Below.refl _ W)
    generalize decide (all.take 2 = fore kk.data.toList (Lib.itoa n)) = b1 at *
    generalize decide (all.drop (all.length - 2) = (aft m (Lib.itoa n)).tail) = b2 at *
    have HUN := Lib.hid hun
    have HUL := Lib.hid hul
    clear hun hul
    generalize cv - (2 + m) = cw at *
    have hcv2 : (2 : Int) ≤ (cv : Int) := by omega
    have hcw1 : (1 : Int) ≤ (cw : Int) := by omega
    have hcv3 : ¬ (cv : Int) < 2 := by omega
    have hcwn : ¬ cw = 1 := by omega
    have hcv4 : 2 ≤ cv := by omega
    cases b1 with
    | false =>
      rw [hiB] at hue
      have he : unE kk.data.toList all = 5 := hue
      have hb := un_bad (k := kk.data.toList) (all := all) (by rw [he]; decide)
      have HV := Lib.hid (And.intro he hb)
      clear he hb hue hiB
      first | (go_region_with (first | (go_at_call 96; refine (HC1.out _ _ _ rfl rfl (HRf.out _)).mono ?_; rintro x w5 ⟨rfl, hb⟩; have HB5 := Lib.hid (below_trans HB4.out (below_trans (HRf.out _) hb)); clear hb))) | fail
      all_goals
        go_wp2
        refine bodyPost_ret (v := .tuple #[.int .i64 0, .slice none 0 0, .int .i64 5]) (by simp [results, Tryz.results62, go_sem]) rfl ?_
        refine ⟨⟨.slice none 0 0, ?_, ?_⟩, HB5.out⟩
        · rw [HV.out.1, HV.out.2.1]
        · rw [HV.out.2.2]; exact HNil.out _
    | true =>
      have HRl : Hid (∀ W, Below w4.heap.size w4 W → Below w.heap.size w W) := fun W hW => below_trans HB4.out hW
      cases b2 with
      | false =>
        rw [hiB] at hue
        have he : unE kk.data.toList all = 5 := hue
        have hb := un_bad (k := kk.data.toList) (all := all) (by rw [he]; decide)
        have HV := Lib.hid (And.intro he hb)
        clear he hb hue hiB
        go_region_held3 (fun w' => True) (go_keep) (first | (go_at_call 96; refine (HC1.out _ _ _ rfl rfl (HRf.out _)).mono ?_; rintro x w5 ⟨rfl, hb⟩; have HB5 := Lib.hid (below_trans (HRf.out _) hb); clear hb) | (go_at_call 96; refine (HC3.out _ _ _ (by first | rfl | rw [if_neg hcwn]) rfl HB5.out).mono ?_; rintro x w6 ⟨rfl, hb⟩; have HB6 := Lib.hid (HRl.out _ (below_trans HB5.out hb)); clear hb))
        go_wp2
        refine bodyPost_ret (v := .tuple #[.int .i64 0, .slice none 0 0, .int .i64 5]) (by simp [results, Tryz.results62, go_sem]) rfl ?_
        refine ⟨⟨.slice none 0 0, ?_, ?_⟩, HB6.out⟩
        · rw [HV.out.1, HV.out.2.1]
        · rw [HV.out.2.2]; exact HNil.out _
      | true =>
        go_region_held3 (fun w' => True) (go_keep) (first | (go_at_call 96; refine (HC1.out _ _ _ rfl rfl (HRf.out _)).mono ?_; rintro x w5 ⟨rfl, hb⟩; have HB5 := Lib.hid (below_trans (HRf.out _) hb); clear hb) | (go_at_call 96; refine (HC3.out _ _ _ (by first | rfl | rw [if_neg hcwn]) rfl HB5.out).mono ?_; rintro x w6 ⟨rfl, hb⟩; have HB6 := Lib.hid (below_trans HB5.out hb); clear hb))
        have HB6w := Lib.hid (HRl.out _ HB6.out)
        obtain ⟨bq, oq, uq, eq, hq1, hq2, hq3⟩ := RowAt.get (HSW.out _ HB6w.out) (2 + m) (by omega)
        simp only [Option.some.injEq, Addr.mk.injEq] at eq
        obtain ⟨rfl, rfl, -⟩ := eq
        generalize all[2 + m] = gc at *
        obtain ⟨br, or, ur, er, hr1, hr2, hr3⟩ := RowAt.get (SgAt.move HS4.out (Below.moves HB6.out)) 0 (by simp [aft])
        simp only [Option.some.injEq, Addr.mk.injEq] at er
        obtain ⟨rfl, rfl, -⟩ := er
        rw [Nat.add_zero] at hr2
        have hr3' : ElAt All w6 ur (seg3 tSE (Lib.itoa ((m : Int) + 2)) (Lib.itoa n)) := hr3
        have hcB : cntB n all = decide (gc = seg3 tSE (Lib.itoa ((m : Int) + 2)) (Lib.itoa n)) := by
          unfold cntB
          rw [hm, show m + 5 - 3 = 2 + m by omega, show m + 5 - 5 = m by omega, hq1]
          simp only [Option.some.injEq]
        have HC5 : Hid (∀ W, Below w6.heap.size w6 W → Calls Tryz.prog 97 #[.agg #[uq], .agg #[ur]] W fun e w' => e = .returned (.bool (decide (gc = seg3 tSE (Lib.itoa ((m : Int) + 2)) (Lib.itoa n)))) ∧ Below W.heap.size W w') := fun W hW => sameSeg_any uq ur _ _ W (ElAt.move hq3 (Below.moves hW)) (ElAt.move hr3' (Below.moves hW))
        have HCE : Hid (∀ W, Below w6.heap.size w6 W → W.cell? ⟨b, o + (2 + m), none⟩ = some uq ∧ W.cell? ⟨bb, 0, none⟩ = some ur) := fun W hW => ⟨by rw [hW.cell (p := ⟨b, o + (2 + m), none⟩) (World.block_lt_of_cell? _ _ hq2)]; exact hq2, by rw [hW.cell (p := ⟨bb, 0, none⟩) (World.block_lt_of_cell? _ _ hr2)]; exact hr2⟩
        obtain ⟨qa, qc, rfl, -, -, -⟩ := hq3
        clear hr3
        obtain ⟨ra, rc, rfl, -, -, -⟩ := hr3'
        clear hq1 hr1
        generalize decide (gc = seg3 tSE (Lib.itoa ((m : Int) + 2)) (Lib.itoa n)) = b3 at *
        rw [hiB, hcB] at hue
        clear hiB hcB
        cases b3 with
        | false =>
          have he : unE kk.data.toList all = 6 := hue
          have hb := un_bad (k := kk.data.toList) (all := all) (by rw [he]; decide)
          have HV := Lib.hid (And.intro he hb)
          clear he hb hue
          go_wp2
          go_region_held3 (fun w' => w'.cell? ⟨b, o + (2 + m), none⟩ = some (.slice qa gc.length qc) ∧ w'.cell? ⟨bb, 0, none⟩ = some (.slice ra (seg3 tSE (Lib.itoa ((m : Int) + 2)) (Lib.itoa n)).length rc)) (go_keep) (first | (go_at_call 97; refine (HC5.out _ (HRf.out _)).mono ?_; rintro x w7 ⟨rfl, hb⟩; have HB7 := Lib.hid (below_trans (HRf.out _) hb); obtain ⟨r0, r1⟩ := HCE.out _ HB7.out; clear hb))
          go_wp2
          refine bodyPost_ret (v := .tuple #[.int .i64 0, .slice none 0 0, .int .i64 6]) (by simp [results, Tryz.results62, go_sem]) rfl ?_
          refine ⟨⟨.slice none 0 0, ?_, ?_⟩, below_trans HB6w.out HB7.out⟩
          · rw [HV.out.1, HV.out.2.1]
          · rw [HV.out.2.2]; exact HNil.out _
        | true =>
          have he : unE kk.data.toList all = 0 := hue
          have HV := Lib.hid (And.intro he (And.intro (HUN.out he) (HUL.out he)))
          clear he hue
          obtain ⟨i47, q1, q2, q3, q4⟩ := info47
          have hmk : ∀ w : World, (Instr.makeSlice 53 (.int .i64 (m : Int)) (.int .i64 (m : Int))).run Tryz.prog w = .ok (.slice (some ⟨w.heap.size, 0, none⟩) m m) (w.alloc (.cells (madeCells (Value.agg #[.slice none 0 0]).cells m) 50)) := fun w => by
            have := run_make (P := Tryz.prog) w 53 50 i47 _ Tryz.underlying53 q1 q2 .i64 .i64 m m (by omega) (by omega) (by rw [q4]; omega) (by omega)
            rw [q3, Nat.mul_one] at this
            simpa using this
          have hsub : SgAt All w (.slice (some ⟨b, o + 2, none⟩) m m) ((all.drop 2).take m) := RowAt.sub HSg.out 2 m m _ rfl (by omega) (Nat.le_refl _) (by simp only [maxLen]; omega)
          obtain ⟨news, N1, N2, N3, N4⟩ := sg_cells hsub
          have N1' : news.length = m := by rw [N1, List.length_take, List.length_drop]; omega
          have HN1 := Lib.hid N1'
          have HN2 := Lib.hid N2
          have HN3 := Lib.hid N3
          have HN4 := Lib.hid N4
          clear N1 N1' N2 N3 N4 hsub
          obtain ⟨cur, hcur⟩ : ∃ cur : List Value, cur.toArray = madeCells (Value.agg #[.slice none 0 0]).cells m := ⟨(madeCells (Value.agg #[.slice none 0 0]).cells m).toList, by simp⟩
          have hcl : cur.length = m := by
            have : cur.toArray.size = m := by rw [hcur]; exact size_madeCells _ m
            simpa using this
          have HCL := Lib.hid hcl
          rw [← hcur] at hmk
          clear hcur hcl
          have hsz1 : (Tryz.prog.info? 50).map (·.size) = some 1 := by kernel_rfl
          have HSZ := Lib.hid hsz1
          clear hsz1
          go_wp2
          go_region_held3 (fun w' => w'.cell? ⟨b, o + (2 + m), none⟩ = some (.slice qa gc.length qc) ∧ w'.cell? ⟨bb, 0, none⟩ = some (.slice ra (seg3 tSE (Lib.itoa ((m : Int) + 2)) (Lib.itoa n)).length rc)) (go_keep) (first | (go_at_call 97; refine (HC5.out _ (HRf.out _)).mono ?_; rintro x w7 ⟨rfl, hb⟩; have HB7 := Lib.hid (below_trans (HRf.out _) hb); obtain ⟨r0, r1⟩ := HCE.out _ HB7.out; clear hb))
          have HBW := Lib.hid (below_trans HB6w.out HB7.out)
          have HBX : Hid (∀ o, Below w.heap.size w (w7.alloc o)) := fun o => below_trans HBW.out (below_alloc w7 o)
          have HGE := Lib.hid HBW.out.size
          obtain ⟨W8, H8, HB8, hcp⟩ : ∃ W8, Hid (W8.heap[w7.heap.size]? = some (.cells news.toArray 50 (0, 0))) ∧ Hid (Below w.heap.size w W8) ∧ (Builtin.copy_ #[53, 53] 3 #[.slice (some ⟨w7.heap.size, 0, none⟩) m m, .slice (some ⟨b, o + 2, none⟩) (m + 3) (cv - 2)]).run Tryz.prog (w7.alloc (.cells cur.toArray 50)) = .ok (.int .i64 m) W8 := by
            have hr := run_copy_row (P := Tryz.prog) (w7.alloc (.cells cur.toArray 50)) 53 53 3 50 w7.heap.size 0 m m ⟨b, o + 2, none⟩ (m + 3) (cv - 2) cur.toArray 50 news Tryz.underlying53 HSZ.out (heap_alloc_new w7 _) (by rw [HN1.out]; exact (Nat.min_eq_right (by omega)).symm)
              (fun j v hj => by
                have := HN2.out j v hj
                rw [add_off] at this ⊢
                rw [(HBX.out _).cell (p := ⟨b, o + 2 + j, none⟩) hbl]
                exact this) (by rw [Nat.zero_add, HN1.out]; simpa using Nat.le_of_eq HCL.out.symm) HN4.out
            have he : (cur.toArray.toList.take 0 ++ news ++ cur.toArray.toList.drop (0 + news.length)).toArray = news.toArray := by
              rw [List.drop_of_length_le (by rw [HN1.out]; simpa using Nat.le_of_eq HCL.out)]
              simp
            rw [he, HN1.out] at hr
            refine ⟨_, setRow_heap _ _ _ news.toArray _ _ (heap_alloc_new w7 (.cells cur.toArray 50)), below_setRow (HBX.out _) HGE.out _, hr⟩
          have HS8 : Hid (SgAt All W8 (.slice (some ⟨w7.heap.size, 0, none⟩) m m) ((all.drop 2).take m)) := by
            have hlen : ((all.drop 2).take m).length = m := by rw [List.length_take, List.length_drop]; omega
            refine ⟨_, m, by rw [hlen], by rw [hlen]; exact Nat.le_refl _, by simp only [maxLen]; omega, Or.inr ⟨w7.heap.size, 0, rfl, trivial, (Array.getElem?_eq_some_iff.1 H8.out).1, fun j x hj => ?_⟩⟩
            have hjl : j < news.length := by rw [HN1.out, ← hlen]; exact (List.getElem?_eq_some_iff.1 hj).1
            refine ⟨news[j], ?_, ElAt.move (HN3.out j _ x (List.getElem?_eq_getElem hjl) hj) (Below.moves HB8.out)⟩
            rw [Nat.zero_add, cell_of_row W8 w7.heap.size j _ 50 (0, 0) H8.out]
            simp [hjl]
          go_wp2
          refine bodyPost_ret (v := .tuple #[.int .i64 n, .slice (some ⟨w7.heap.size, 0, none⟩) m m, .int .i64 0]) (by simp [results, Tryz.results62, go_sem]) rfl ?_
          refine ⟨⟨.slice (some ⟨w7.heap.size, 0, none⟩) m m, ?_, ?_⟩, HB8.out⟩
          · rw [HV.out.1, HV.out.2.1]
          · rw [HV.out.2.2]; exact HS8.out
end Go.Proofs.YtpmnepihaljamaaGreatDoor
end

/-
  What seg.Find answers, as a contract: for every text.
-/
section
set_option linter.unusedSimpArgs false
namespace Go.Proofs.YtpmnepihaljamaaGreatDoor
open Go.RowKit

set_option maxHeartbeats 1000000 in
theorem find_any (t : ByteArray) (w : World) (hs : t.size ≤ maxLen) :
    Calls Tryz.prog 60 #[.string t] w fun x w' => x = .returned (.tuple #[fdV (findO t.data.toList), .int .i64 (fdE (findO t.data.toList))]) ∧ Below w.heap.size w w' := by
  unfold maxLen at hs
  have HB := Lib.hid fun o1 => below_alloc w o1
  by_cases h6 : t.size < 6
  · have HN := Lib.hid (find_short t.data.toList (by rw [← Lib.size_eq]; exact h6))
    have h6' : (t.size : Int) < 6 := by omega
    clear h6
    go_enter Tryz.func60, Tryz.ntmps60
    go_wp2
    refine bodyPost_ret (v := .tuple #[.agg #[.int .u8 0, .int .u8 0, .int .u8 0], .int .i64 5]) (by simp [results, Tryz.results60, go_sem]) rfl ?_
    exact ⟨by rw [HN.out]; rfl, HB.out _⟩
  have h6' : ¬ (t.size : Int) < 6 := by omega
  have h3 : 3 < t.size := by omega
  have h4 : 4 < t.size := by omega
  have h5 : 5 < t.size := by omega
  obtain ⟨f1, f2, f3, -⟩ := find_at t h3 h4 h5
  have HP := Lib.hid (Tryz.strings_HasPrefix t ⟨#[73, 83, 65]⟩)
  have e65 : (⟨#[73, 83, 65]⟩ : ByteArray).data.toList = [73, 83, 65] := rfl
  rw [e65] at HP
  clear e65
  cases hp : Lib.hasPrefix t.data.toList [73, 83, 65]
  · have HN := Lib.hid (f1 hp)
    rw [hp] at HP
    clear f1 f2 f3 hp h6
    go_enter Tryz.func60, Tryz.ntmps60
    go_wp2_with (go_at_call 92; refine (HP.out _).mono ?_; rintro x w' ⟨rfl, rfl⟩)
    refine bodyPost_ret (v := .tuple #[.agg #[.int .u8 0, .int .u8 0, .int .u8 0], .int .i64 5]) (by simp [results, Tryz.results60, go_sem]) rfl ?_
    exact ⟨by rw [HN.out]; rfl, HB.out _⟩
  rw [hp] at HP
  have hS : (t.extract 3 6).size = 3 := by rw [ByteArray.size_extract]; omega
  generalize hSe : t.extract 3 6 = S at hS
  have k0 : 0 < S.size := by omega
  have k1 : 1 < S.size := by omega
  have k2 : 2 < S.size := by omega
  obtain ⟨s0, s1, s2⟩ := sub_at t h3 h4 h5 S hSe k0 k1 k2
  rw [← s0, ← s1, ← s2] at f2 f3
  have HG := Lib.hid fun W => good_ex S[0] S[1] S[2] W
  have HB3 := Lib.hid fun o1 o2 o3 => Below.drew (below_trans (below_trans (below_alloc w o1) (below_alloc _ o2)) (below_alloc _ o3))
  cases hg : goodB S[0] S[1] S[2]
  · have HN := Lib.hid (f2 hg)
    rw [hg] at HG
    clear f1 f2 f3 hp h6 s0 s1 s2 hg
    go_enter Tryz.func60, Tryz.ntmps60
    go_wp2_with (go_at_call 92; refine (HP.out _).mono ?_; rintro x w' ⟨rfl, rfl⟩)
    go_region
    go_wp2_with (go_at_call 45; refine (HG.out _).mono ?_; rintro x w1 ⟨rfl, rfl⟩)
    refine bodyPost_ret (v := .tuple #[.agg #[.int .u8 0, .int .u8 0, .int .u8 0], .int .i64 5]) (by simp [results, Tryz.results60, go_sem]) rfl ?_
    exact ⟨by rw [HN.out]; rfl, HB3.out _ _ _⟩
  · have HN := Lib.hid (f3 hp hg)
    rw [hg] at HG
    clear f1 f2 f3 hp h6 s0 s1 s2 hg
    go_enter Tryz.func60, Tryz.ntmps60
    go_wp2_with (go_at_call 92; refine (HP.out _).mono ?_; rintro x w' ⟨rfl, rfl⟩)
    go_region
    go_wp2_with (go_at_call 45; refine (HG.out _).mono ?_; rintro x w1 ⟨rfl, rfl⟩)
    refine bodyPost_ret (v := .tuple #[dv S[0] S[1] S[2], .int .i64 0]) (by simp [results, Tryz.results60, go_sem]) rfl ?_
    exact ⟨by rw [HN.out]; rfl, HB3.out _ _ _⟩
end Go.Proofs.YtpmnepihaljamaaGreatDoor
end
