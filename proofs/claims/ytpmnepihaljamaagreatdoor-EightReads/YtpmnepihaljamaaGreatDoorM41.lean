/-
  Texts put together (merge.py): KROpen.
-/
import Derived.BigQuiet
import Derived.Test.YtpmnepihaljamaaGreatDoorM40
import Derived.Test.YtpmnepihaljamaaGreatDoorM27
import Derived.Test.YtpmnepihaljamaaGreatDoorM28
import Derived.Test.YtpmnepihaljamaaGreatDoorM13
import Derived.Test.YtpmnepihaljamaaGreatDoorM34
/-
  What the reference's Open answers, as a contract: what cover.Open answers.
-/
section
set_option linter.unusedSimpArgs false
namespace Go.Proofs.YtpmnepihaljamaaGreatDoor
open Go.RowKit

/-! ### Segment by segment -/
def wantL (k : Tx) (n : Int) (L : List Sg) : List Sg := abt k n ((L.drop 2).take (L.length - 5))
theorem want_len {k : Tx} {n : Int} {L : List Sg} (h : 5 ≤ L.length) : (wantL k n L).length = L.length := by
  unfold wantL
  rw [abt_len, List.length_take, List.length_drop]
  omega
theorem want_cnt {k : Tx} {n : Int} {L : List Sg} (h : 5 ≤ L.length) : (wantL k n L)[L.length - 3]? = some (seg3 tSE (Lib.itoa (((L.length - 5 : Nat) : Int) + 2)) (Lib.itoa n)) := by
  have hl : ((L.drop 2).take (L.length - 5)).length = L.length - 5 := by rw [List.length_take, List.length_drop]; omega
  unfold wantL abt
  rw [hl, List.getElem?_append_right (by simp [fore]; omega), List.getElem?_append_right (by rw [hl]; simp [fore]; omega), hl]
  rw [show L.length - 3 - (fore k (Lib.itoa n)).length - (L.length - 5) = 0 by simp [fore]; omega]
  rfl
theorem cnt_eq {k : Tx} {n : Int} {L : List Sg} (h : 5 ≤ L.length) : cntB n L = decide (L[L.length - 3]? = (wantL k n L)[L.length - 3]?) := by
  rw [want_cnt h]
  rfl
theorem want_in {k : Tx} {n : Int} {L : List Sg} (h : 5 ≤ L.length) : inB k n L = true ↔ ∀ i, i < L.length → i ≠ L.length - 3 → L[i]? = (wantL k n L)[i]? := by
  have hl : ((L.drop 2).take (L.length - 5)).length = L.length - 5 := by rw [List.length_take, List.length_drop]; omega
  have hW : (wantL k n L).take 2 = fore k (Lib.itoa n) := rfl
  have hE : (wantL k n L).drop (L.length - 2) = (aft (L.length - 5) (Lib.itoa n)).tail := by
    unfold wantL abt
    rw [hl, List.drop_append, List.drop_of_length_le (by simp [fore]; omega), List.nil_append, List.drop_append, List.drop_of_length_le (by rw [hl]; simp [fore]; omega), List.nil_append, hl]
    rw [show L.length - 2 - (fore k (Lib.itoa n)).length - (L.length - 5) = 1 by simp [fore]; omega]
    rfl
  have hM : ∀ i, 2 ≤ i → i < L.length - 3 → (wantL k n L)[i]? = L[i]? := fun i h1 h2 => by
    unfold wantL abt
    rw [List.getElem?_append_right (by simp [fore]; omega), List.getElem?_append_left (by rw [hl]; simp [fore]; omega), List.getElem?_take, if_pos (by simp [fore]; omega), List.getElem?_drop]
    congr 1
    simp [fore]; omega
  unfold inB
  rw [Bool.and_eq_true, decide_eq_true_eq, decide_eq_true_eq, ← hW, ← hE]
  constructor
  · rintro ⟨h1, h2⟩ i hi hc
    rcases Nat.lt_or_ge i 2 with h3 | h3
    · have := congrArg (fun l : List Sg => l[i]?) h1
      simp only [List.getElem?_take, h3, if_true] at this
      exact this
    · rcases Nat.lt_or_ge i (L.length - 3) with h4 | h4
      · exact (hM i h3 h4).symm
      · have h5 : L.length - 2 ≤ i := by omega
        have := congrArg (fun l : List Sg => l[i - (L.length - 2)]?) h2
        simp only [List.getElem?_drop] at this
        rwa [show L.length - 2 + (i - (L.length - 2)) = i by omega] at this
  · intro hA
    constructor
    · refine List.ext_getElem? fun i => ?_
      rw [List.getElem?_take, List.getElem?_take]
      split
      · exact hA i (by omega) (by omega)
      · rfl
    · refine List.ext_getElem? fun i => ?_
      rw [List.getElem?_drop, List.getElem?_drop]
      rcases Nat.lt_or_ge (L.length - 2 + i) L.length with h3 | h3
      · exact hA _ h3 (by omega)
      · rw [List.getElem?_eq_none h3, List.getElem?_eq_none (by rw [want_len h]; exact h3)]

set_option maxHeartbeats 4000000 in
set_option maxRecDepth 100000 in
theorem ropen_any (kk t : ByteArray) (w : World) (hs : t.size ≤ maxLen) :
    Calls Tryz.prog 31 #[.string kk, .string t] w fun x w' => (∃ u, x = .returned (.tuple #[dv3 (opD kk.data.toList t.data.toList), .int .i64 (opN kk.data.toList t.data.toList), u, .int .i64 (opE kk.data.toList t.data.toList)]) ∧ SgAt All w' u (opL kk.data.toList t.data.toList)) ∧ Below w.heap.size w w' := by
  have HNil : Hid (∀ W, SgAt All W (.slice none 0 0) []) := fun W => SgAt.nil All W
  have hst := Lib.size_eq t
  have HBa := Lib.hid (below_alloc w (.cells #[.int .u8 0, .int .u8 0, .int .u8 0] 23))
  have HBk := Lib.hid (Blk.new w 0 0 0)
  have HSZ := Lib.hid hs
  unfold maxLen at hs
  by_cases hlong : 65536 < t.size
  · have he := op_long (k := kk.data.toList) (s := t.data.toList) (by rw [← hst]; exact hlong)
    have hb := op_bad (k := kk.data.toList) (s := t.data.toList) (by rw [he]; decide)
    have HV := Lib.hid (And.intro he hb)
    have hlb : (65536 : Int) < (t.size : Int) := by omega
    clear he hb hst
    go_enter Tryz.func31, Tryz.ntmps31
    go_wp2
    refine bodyPost_ret (v := .tuple #[dv 0 0 0, .int .i64 0, .slice none 0 0, .int .i64 10]) (by simp [results, Tryz.results31, go_sem]) rfl ?_
    refine ⟨⟨.slice none 0 0, ?_, ?_⟩, HBa.out⟩
    · rw [HV.out.1, HV.out.2.1, HV.out.2.2.1]; rfl
    · rw [HV.out.2.2.2]; exact HNil.out _
  have hlb : ¬ (65536 : Int) < (t.size : Int) := by omega
  have hll : t.data.toList.length ≤ 65536 := by rw [← hst]; omega
  have HFd := Lib.hid fun W => rfind_any t W HSZ.out
  have HKi := Lib.hid fun W => rkind_any kk W
  cases hf : findO t.data.toList with
  | none =>
    have he := op_none (k := kk.data.toList) hll hf
    have hb := op_bad (k := kk.data.toList) (s := t.data.toList) (by rw [he]; decide)
    have HV := Lib.hid (And.intro he hb)
    rw [hf] at HFd
    have HFd2 : Hid (∀ W, Calls Tryz.prog 66 #[.string t] W fun x w' => x = .returned (.tuple #[.agg #[.int .u8 0, .int .u8 0, .int .u8 0], .int .i64 5]) ∧ Below W.heap.size W w') := HFd.out
    clear he hb hst hf HFd hll
    go_enter Tryz.func31, Tryz.ntmps31
    go_wp2_with (first | (go_at_call 66; refine (HFd2.out _).mono ?_; rintro x w1 ⟨rfl, hb⟩; have HB1 := Lib.hid (below_trans HBa.out hb); have HK1 := Lib.hid (Blk.grw (Blk.grw HBk.out hb) (below_alloc w1 (.cells #[.int .u8 0, .int .u8 0, .int .u8 0] 23))); obtain ⟨⟨d0, d1, d2⟩, f0, f1, f2⟩ := Blk.cells HK1.out; clear hb))
    refine bodyPost_ret (v := .tuple #[dv 0 0 0, .int .i64 0, .slice none 0 0, .int .i64 5]) (by simp [results, Tryz.results31, go_sem, d0, d1, d2]) rfl ?_
    refine ⟨⟨.slice none 0 0, ?_, ?_⟩, put3_below (below_trans HB1.out (below_alloc w1 _)) w.heap.size (Nat.le_refl _) _ _ _⟩
    · rw [HV.out.1, HV.out.2.1, HV.out.2.2.1]; rfl
    · rw [HV.out.2.2.2]; exact HNil.out _
  | some x =>
    obtain ⟨e, p, q⟩ := x
    rw [hf] at HFd
    have HFd2 : Hid (∀ W, Calls Tryz.prog 66 #[.string t] W fun x w' => x = .returned (.tuple #[.agg #[.int .u8 e.toNat, .int .u8 p.toNat, .int .u8 q.toNat], .int .i64 0]) ∧ Below W.heap.size W w') := HFd.out
    clear HFd
    cases hk : kindB kk.data.toList with
    | false =>
      have he := op_kind hll hf hk
      have hb := op_bad (k := kk.data.toList) (s := t.data.toList) (by rw [he]; decide)
      have HV := Lib.hid (And.intro he hb)
      rw [hk] at HKi
      clear he hb hst hf hll hk
      go_enter Tryz.func31, Tryz.ntmps31
      go_wp2_with (first | (go_at_call 66; refine (HFd2.out _).mono ?_; rintro x w1 ⟨rfl, hb⟩; have HB1 := Lib.hid (below_trans HBa.out hb); have HK1 := Lib.hid (Blk.grw (Blk.grw HBk.out hb) (below_alloc w1 (.cells #[.int .u8 e.toNat, .int .u8 p.toNat, .int .u8 q.toNat] 23))); obtain ⟨⟨d0, d1, d2⟩, f0, f1, f2⟩ := Blk.cells HK1.out; clear hb) | (go_at_call 56; refine (HKi.out _).mono ?_; rintro x w2 ⟨rfl, hw⟩; rw [hw]; clear hw w2))
      refine bodyPost_ret (v := .tuple #[dv 0 0 0, .int .i64 0, .slice none 0 0, .int .i64 5]) (by simp [results, Tryz.results31, go_sem, d0, d1, d2]) rfl ?_
      refine ⟨⟨.slice none 0 0, ?_, ?_⟩, put3_below (below_trans HB1.out (below_alloc w1 _)) w.heap.size (Nat.le_refl _) _ _ _⟩
      · rw [HV.out.1, HV.out.2.1, HV.out.2.2.1]; rfl
      · rw [HV.out.2.2.2]; exact HNil.out _
    | true =>
      rw [hk] at HKi
      have h6 : 6 ≤ t.size := by
        rcases Nat.lt_or_ge t.size 6 with h | h
        · rw [find_short _ (by rw [← hst]; exact h)] at hf; cases hf
        · exact h
      have h6i : (6 : Int) ≤ (t.size : Int) := by omega
      have hex : (t.extract 6 t.size).data.toList = t.data.toList.drop 6 := by
        rw [Lib.extract_data, List.take_of_length_le (by rw [List.length_drop, ← hst]; omega)]
      have hxs : (t.extract 6 t.size).size ≤ maxLen := by rw [Lib.size_eq, hex, List.length_drop, ← hst]; have := HSZ.out; omega
      have hsp := fun W => rsplit_any e p q (t.extract 6 t.size) W hxs
      rw [hex] at hsp
      have HSp := Lib.hid hsp
      obtain ⟨sm1, sm2⟩ := sp_small (e := e) (p := p) (q := q) (t := t.data.toList.drop 6)
      have HRf : Hid (∀ W : World, Below W.heap.size W W.drew) := fun W => Below.drew (Below.refl _ W)
      clear hsp hex hxs hst h6
      go_enter Tryz.func31, Tryz.ntmps31
      go_upto_region 6 with (first | (go_at_call 66; refine (HFd2.out _).mono ?_; rintro x w1 ⟨rfl, hb⟩; have HB1 := Lib.hid (below_trans HBa.out hb); have HK1 := Lib.hid (Blk.grw (Blk.grw HBk.out hb) (below_alloc w1 (.cells #[.int .u8 e.toNat, .int .u8 p.toNat, .int .u8 q.toNat] 23))); clear hb) | (go_at_call 56; refine (HKi.out _).mono ?_; rintro x w2 ⟨rfl, hw⟩; rw [hw]; clear hw w2))
      have HDx := Lib.hid (Blk.new w1 (e.toNat : Int) (p.toNat : Int) (q.toNat : Int))
      have HBx := Lib.hid (below_trans HB1.out (below_alloc w1 (.cells #[.int .u8 e.toNat, .int .u8 p.toNat, .int .u8 q.toNat] 23)))
      have HAll : Hid (∀ W, Below (w1.alloc (.cells #[.int .u8 e.toNat, .int .u8 p.toNat, .int .u8 q.toNat] 23)).heap.size (w1.alloc (.cells #[.int .u8 e.toNat, .int .u8 p.toNat, .int .u8 q.toNat] 23)) W → (W.cell? ⟨w1.heap.size, 0, none⟩ = some (.int .u8 e.toNat) ∧ W.cell? ⟨w1.heap.size, 1, none⟩ = some (.int .u8 p.toNat) ∧ W.cell? ⟨w1.heap.size, 2, none⟩ = some (.int .u8 q.toNat)) ∧ Below w.heap.size w W ∧ Blk W w.heap.size 0 0 0) := fun W hW => ⟨(Blk.cells (Blk.grw HDx.out hW)).1, below_trans HBx.out hW, Blk.grw HK1.out hW⟩
      have HW0 : Hid (Below (w1.alloc (.cells #[.int .u8 e.toNat, .int .u8 p.toNat, .int .u8 q.toNat] 23)).heap.size (w1.alloc (.cells #[.int .u8 e.toNat, .int .u8 p.toNat, .int .u8 q.toNat] 23)) (w1.alloc (.cells #[.int .u8 e.toNat, .int .u8 p.toNat, .int .u8 q.toNat] 23)).drew) := HRf.out _
      obtain ⟨⟨k0, k1, k2⟩, -⟩ := HAll.out _ (Below.refl _ _)
      go_region_held3 (fun w' => w'.cell? ⟨w1.heap.size, 0, none⟩ = some (.int .u8 e.toNat) ∧ w'.cell? ⟨w1.heap.size, 1, none⟩ = some (.int .u8 p.toNat) ∧ w'.cell? ⟨w1.heap.size, 2, none⟩ = some (.int .u8 q.toNat)) (go_keep) (first | (go_at_call 67; refine (HSp.out _).mono ?_; rintro x w4 ⟨⟨u, rfl, hsg⟩, hb⟩; have HSG := Lib.hid hsg; have HB4 := Lib.hid (below_trans HW0.out hb); obtain ⟨⟨r0, r1, r2⟩, -⟩ := HAll.out _ HB4.out; clear hb; obtain ⟨ua, uc, rfl, hu1, hu2, hu3⟩ := hsg))
      clear k0 k1 k2 r0 r1 r2
      obtain ⟨-, hb4, hk4⟩ := HAll.out _ HB4.out
      have HB4w := Lib.hid hb4
      have HK4 := Lib.hid hk4
      clear hb4 hk4
      by_cases hsz : spE e p q (t.data.toList.drop 6) = 0
      case neg =>
        have heu := op_split hll hf hk hsz
        have hb := op_bad (k := kk.data.toList) (s := t.data.toList) (by rw [heu]; exact hsz)
        have HV := Lib.hid (And.intro heu hb)
        have heb : (spE e p q (t.data.toList.drop 6) != 0) = true := by simpa using hsz
        obtain ⟨⟨d0, d1, d2⟩, f0, f1, f2⟩ := Blk.cells HK4.out
        clear heu hb hsz hf hll hk HSp hu3 sm1 sm2
        generalize spE e p q (t.data.toList.drop 6) = E at *
        go_wp2
        refine bodyPost_ret (v := .tuple #[dv 0 0 0, .int .i64 0, .slice none 0 0, .int .i64 E]) (by simp [results, Tryz.results31, go_sem, d0, d1, d2]) rfl ?_
        refine ⟨⟨.slice none 0 0, ?_, ?_⟩, put3_below HB4w.out w.heap.size (Nat.le_refl _) _ _ _⟩
        · rw [HV.out.1, HV.out.2.1, HV.out.2.2.1]; rfl
        · rw [HV.out.2.2.2]; exact HNil.out _
      have heu := op_un hll hf hk hsz
      have HG := Lib.hid fun h0 => op_good (k := kk.data.toList) hf h0
      rw [hsz]
      have HC2 := Lib.hid hu2
      unfold maxLen at hu2
      clear hsz hf hll hk HSp
      generalize spV e p q (t.data.toList.drop 6) = L at *
      obtain ⟨⟨d0, d1, d2⟩, f0, f1, f2⟩ := Blk.cells HK4.out
      by_cases h5 : L.length < 5
      · have hu := un_few (k := kk.data.toList) h5
        rw [hu] at heu
        have hb := op_bad (k := kk.data.toList) (s := t.data.toList) (by rw [heu]; decide)
        have HV := Lib.hid (And.intro heu hb)
        have h5' : (L.length : Int) < 5 := by omega
        clear heu hb hu hu3 sm1 sm2
        go_wp2
        refine bodyPost_ret (v := .tuple #[dv 0 0 0, .int .i64 0, .slice none 0 0, .int .i64 5]) (by simp [results, Tryz.results31, go_sem, d0, d1, d2]) rfl ?_
        refine ⟨⟨.slice none 0 0, ?_, ?_⟩, put3_below HB4w.out w.heap.size (Nat.le_refl _) _ _ _⟩
        · rw [HV.out.1, HV.out.2.1, HV.out.2.2.1]; rfl
        · rw [HV.out.2.2.2]; exact HNil.out _
      rcases hu3 with rfl | ⟨b, o, rfl, -, hbl, hcl⟩
      · simp at h5
      obtain ⟨m, hm⟩ : ∃ m, L.length = m + 5 := ⟨L.length - 5, by omega⟩
      obtain ⟨g0, hg0⟩ : ∃ g0, L[0]? = some g0 := ⟨L[0], List.getElem?_eq_getElem (by omega)⟩
      have hhd : L.headD [] = g0 := by cases L with
        | nil => simp at hg0
        | cons x r => simpa using hg0
      obtain ⟨u0, hu0, hr0⟩ := hcl 0 g0 hg0
      rw [Nat.add_zero] at hu0
      have hz0 := sm2 g0 (List.mem_of_getElem? hg0)
      obtain ⟨a0, c0, rfl, hr1, hr2, hr3⟩ := hr0
      unfold maxLen at hr2
      have h5' : ¬ (L.length : Int) < 5 := by omega
      by_cases hg3 : g0.length = 3
      case neg =>
        have hn := num_three hg3
        have hu := un_none (k := kk.data.toList) (all := L) (by omega) (by rw [hhd]; exact hn)
        rw [hu] at heu
        have hb := op_bad (k := kk.data.toList) (s := t.data.toList) (by rw [heu]; decide)
        have HV := Lib.hid (And.intro heu hb)
        have hpb : ((g0.length : Int) != 3) = true := by simp; omega
        clear heu hb hu sm1 sm2 hn hg3 hr3 hcl hz0
        go_wp2
        refine bodyPost_ret (v := .tuple #[dv 0 0 0, .int .i64 0, .slice none 0 0, .int .i64 5]) (by simp [results, Tryz.results31, go_sem, d0, d1, d2]) rfl ?_
        refine ⟨⟨.slice none 0 0, ?_, ?_⟩, put3_below HB4w.out w.heap.size (Nat.le_refl _) _ _ _⟩
        · rw [HV.out.1, HV.out.2.1, HV.out.2.2.1]; rfl
        · rw [HV.out.2.2.2]; exact HNil.out _
      obtain ⟨p0, p1, ps, rfl⟩ : ∃ p0 p1 ps, g0 = [p0, p1, ps] := by
        match g0, hg3 with
        | [p0, p1, ps], _ => exact ⟨p0, p1, ps, rfl⟩
      rcases hr3 with h | ⟨b2, o2, rfl, -, -, hcl2⟩
      · cases h
      obtain ⟨u2, hu2c, hps⟩ := hcl2 2 ps rfl
      obtain ⟨a3, c3, rfl, hs1, hs2, hs3⟩ := hps
      unfold maxLen at hs2
      have hr13 : 3 ≤ c0 := hr1
      have hg33 : [p0, p1, ps].length = 3 := rfl
      rw [hg33] at hu0
      clear hr1 hg33 hcl2 hg3
      by_cases hp1 : ps.length = 1
      case neg =>
        have hn := num_one (a := p0) (b := p1) hp1
        have hu := un_none (k := kk.data.toList) (all := L) (by omega) (by rw [hhd]; exact hn)
        rw [hu] at heu
        have hb := op_bad (k := kk.data.toList) (s := t.data.toList) (by rw [heu]; decide)
        have HV := Lib.hid (And.intro heu hb)
        have hpb : ((ps.length : Int) != 1) = true := by simp; omega
        clear heu hb hu sm1 sm2 hn hp1 hs3 hcl hz0
        go_wp2
        refine bodyPost_ret (v := .tuple #[dv 0 0 0, .int .i64 0, .slice none 0 0, .int .i64 5]) (by simp [results, Tryz.results31, go_sem, d0, d1, d2]) rfl ?_
        refine ⟨⟨.slice none 0 0, ?_, ?_⟩, put3_below HB4w.out w.heap.size (Nat.le_refl _) _ _ _⟩
        · rw [HV.out.1, HV.out.2.1, HV.out.2.2.1]; rfl
        · rw [HV.out.2.2.2]; exact HNil.out _
      obtain ⟨t0, rfl⟩ : ∃ t0, ps = [t0] := by
        match ps, hp1 with
        | [t0], _ => exact ⟨t0, rfl⟩
      rcases hs3 with h | ⟨b4, o4, rfl, -, -, hcl4⟩
      · cases h
      obtain ⟨u4, hu4, rfl⟩ := hcl4 0 t0 rfl
      rw [Nat.add_zero] at hu4
      have hone : [t0].length = 1 := rfl
      rw [hone] at hu2c hs1
      have hr := fun W => Nu.rreadInt_any (mk t0) 9 W
      rw [mk_list] at hr
      have HR : Hid (∀ W : World, Calls Tryz.prog 33 #[.string (mk t0), .int .i64 9] W fun e w' => e = .returned (.tuple #[.int .i64 (Nu.riV t0 9), .int .i64 (Nu.riE t0 9)]) ∧ Below W.heap.size W w') := hr
      have hnb := num_bd t0
      clear hr hcl4 hone hp1
      by_cases hre : Nu.riE t0 9 = 0
      case neg =>
        have hn : numO [p0, p1, [t0]] = none := by show (if _ then _ else _) = _; rw [if_neg hre]
        have hu := un_none (k := kk.data.toList) (all := L) (by omega) (by rw [hhd]; exact hn)
        rw [hu] at heu
        have hb := op_bad (k := kk.data.toList) (s := t.data.toList) (by rw [heu]; decide)
        have HV := Lib.hid (And.intro heu hb)
        have heb : (Nu.riE t0 9 != 0) = true := by simpa using hre
        clear heu hb hu sm1 sm2 hn hcl hz0 hre
        generalize mk t0 = X at *
        generalize Nu.riE t0 9 = E at *
        generalize Nu.riV t0 9 = N at *
        go_wp2_with (go_at_call 33; refine (HR.out _).mono ?_; rintro x w5 ⟨rfl, hb⟩; have HB5 := Lib.hid (below_trans HB4w.out hb); have HK5 := Lib.hid (Blk.grw HK4.out hb); clear hb d0 d1 d2 f0 f1 f2; obtain ⟨⟨d0, d1, d2⟩, f0, f1, f2⟩ := Blk.cells HK5.out)
        refine bodyPost_ret (v := .tuple #[dv 0 0 0, .int .i64 0, .slice none 0 0, .int .i64 5]) (by simp [results, Tryz.results31, go_sem, d0, d1, d2]) rfl ?_
        refine ⟨⟨.slice none 0 0, ?_, ?_⟩, put3_below HB5.out w.heap.size (Nat.le_refl _) _ _ _⟩
        · rw [HV.out.1, HV.out.2.1, HV.out.2.2.1]; rfl
        · rw [HV.out.2.2.2]; exact HNil.out _
      have hn : numO [p0, p1, [t0]] = some (Nu.riV t0 9) := by show (if _ then _ else _) = _; rw [if_pos hre]
      have hue := un_some (k := kk.data.toList) (all := L) (by omega) (by rw [hhd]; exact hn)
      have HUN := Lib.hid fun (h : unE kk.data.toList L = 0) => show unN kk.data.toList L = Nu.riV t0 9 by unfold unN; rw [if_pos h, hhd, hn]; rfl
      have HUL := Lib.hid fun (h : unE kk.data.toList L = 0) => show unL kk.data.toList L = (L.drop 2).take m by unfold unL; rw [if_pos h, hm]; rfl
      rw [hre] at HR
      have HL5 : Hid (5 ≤ L.length) := by show 5 ≤ L.length; omega
      have hcw : m + 5 ≤ uc := by omega
      have HSub : Hid (SgAt All w4 (.slice (some ⟨b, o + 2, none⟩) m (uc - 2)) ((L.drop 2).take m)) := RowAt.sub HSG.out 2 m (uc - 2) _ rfl (by omega) (by omega) (Nat.le_trans (by omega) HC2.out)
      have HAb : Hid (∀ W, SgAt All W (.slice (some ⟨b, o + 2, none⟩) m (uc - 2)) ((L.drop 2).take m) → Calls Tryz.prog 58 #[.string kk, .int .i64 (Nu.riV t0 9), .slice (some ⟨b, o + 2, none⟩) m (uc - 2)] W fun x w' => (∃ u, x = .returned u ∧ SgAt All w' u (wantL kk.data.toList (Nu.riV t0 9) L)) ∧ Below W.heap.size W w') := fun W h => by
        have := about_any kk (Nu.riV t0 9) _ _ W h (by omega) (by omega) (by rw [List.length_take]; omega)
        have e : wantL kk.data.toList (Nu.riV t0 9) L = abt kk.data.toList (Nu.riV t0 9) ((L.drop 2).take m) := by unfold wantL; rw [hm]; rfl
        rw [e]
        exact this
      have HWL := Lib.hid (want_len (k := kk.data.toList) (n := Nu.riV t0 9) HL5.out)
      have HWI := Lib.hid (want_in (k := kk.data.toList) (n := Nu.riV t0 9) HL5.out)
      have HWC := Lib.hid (cnt_eq (k := kk.data.toList) (n := Nu.riV t0 9) HL5.out)
      clear hn hhd hg0 hcl hz0 sm1 sm2 hre
      generalize mk t0 = X at *
      generalize Nu.riV t0 9 = N at *
      generalize wantL kk.data.toList N L = Wt at *
      have HM := Lib.hid hm
      rw [hm]
      clear hm h5 h5'
      have h5' : ¬ (m : Int) + 5 < 5 := by omega
      have hm2 : (m : Int) + 5 - 3 = (m : Int) + 2 := by omega
      go_upto_region 16 with (first | (go_at_call 33; refine (HR.out _).mono ?_; rintro x w5 ⟨rfl, hb⟩; have HB5 := Lib.hid hb; clear hb) | (go_at_call 58; refine (HAb.out _ (SgAt.move HSub.out (Below.moves HB5.out))).mono ?_; rintro x w6 ⟨⟨u6, rfl, hs6⟩, hb⟩; have HS6 := Lib.hid hs6; have HB6 := Lib.hid (below_trans HB5.out hb); clear hb; obtain ⟨wa, wcp, rfl, hw1, hw2, hw3⟩ := hs6))
      have hWl : Wt.length = m + 5 := HWL.out.trans HM.out
      rw [hWl] at hw1 ⊢
      rcases hw3 with rfl | ⟨b', o', rfl, -, -, -⟩
      · simp at hWl
      have HWl := Lib.hid hWl
      have HWc := Lib.hid hw2
      unfold maxLen at hw2
      have HL6 := Lib.hid (SgAt.move HSG.out (Below.moves HB6.out))
      have HSub6 := Lib.hid (SgAt.move HSub.out (Below.moves HB6.out))
      have HB6w := Lib.hid (below_trans HB4w.out HB6.out)
      have HK6 := Lib.hid (Blk.grw HK4.out HB6.out)
      have HBd : Hid (∀ x, Below w.heap.size w (w6.drewN x)) := fun x => below_trans HB6w.out (below_drewq ⟨x, rfl⟩)
      obtain ⟨⟨x0, x1, x2⟩, -, -⟩ := HAll.out _ (below_trans HB4.out HB6.out)
      have hX0 := Lib.hid (And.intro x0 (And.intro x1 x2))
      clear d0 d1 d2 f0 f1 f2 hWl x0 x1 x2 hu0 hu2c hu4
      have HSm : Hid (∀ k, (hk : k < m + 5) → ∃ (x y : Sg), L[k]? = some x ∧ Wt[k]? = some y ∧ ∀ z, Calls Tryz.prog 68 #[.slice (some ⟨b, o + k, none⟩) 1 (uc - k), .slice (some ⟨b', o' + k, none⟩) 1 (wcp - k)] (w6.drewN z) fun e w' => e = .returned (.bool (decide (x = y))) ∧ ∃ r, w' = (w6.drewN z).drewN r) := fun k hk => by
        have hlL : k < L.length := by rw [HM.out]; exact hk
        have hlW : k < Wt.length := by rw [HWl.out]; exact hk
        have s1 : SgAt All w6 (.slice (some ⟨b, o + k, none⟩) 1 (uc - k)) [L[k]] := RowAt.sub HL6.out k 1 (uc - k) _ (by rw [List.drop_eq_getElem_cons hlL]; rfl) (by omega) (by omega) (Nat.le_trans (by omega) HC2.out)
        have s2 : SgAt All w6 (.slice (some ⟨b', o' + k, none⟩) 1 (wcp - k)) [Wt[k]] := RowAt.sub HS6.out k 1 (wcp - k) _ (by rw [List.drop_eq_getElem_cons hlW]; rfl) (by omega) (by omega) (Nat.le_trans (by omega) HWc.out)
        refine ⟨L[k], Wt[k], List.getElem?_eq_getElem hlL, List.getElem?_eq_getElem hlW, fun z => ?_⟩
        refine (Same_any _ _ _ _ (w6.drewN z) s1 s2).mono fun e w' ⟨h1, h2⟩ => ⟨?_, h2⟩
        rw [h1]
        congr 2
        simp
      go_wp2
      go_loopg [17] (m + 5) (fun gg i wr => ∃ (k x : Nat), k ≤ m + 5 ∧ gg = m + 5 - k ∧ i = .int .i64 k ∧ wr = w6.drewN x ∧ Hid (∀ i, i < k → i ≠ m + 2 → L[i]? = Wt[i]?))
      case atStart => exact ⟨0, 0, Nat.zero_le _, rfl, rfl, rfl, fun i hi => by omega⟩
      case round =>
        obtain ⟨k, z, hk, hgk, rfl, rfl, HA⟩ := hrel
        obtain ⟨⟨d0, d1, d2⟩, f0, f1, f2⟩ := Blk.cells HK6.out
        by_cases hlt : k < m + 5
        · have hlt' : (k : Int) < (m : Int) + 5 := by omega
          by_cases hc : k = m + 2
          · have hcb : ((k : Int) != (m : Int) + 2) = false := by simp; omega
            have HC := Lib.hid hc
            clear hc
            go_wp2_with fail
            go_quiet (fail)
            go_wp2
            go_roundg (m + 5 - (k + 1))
            case rel => exact ⟨k + 1, z + nq, by omega, rfl, by go_num, by first | rfl | rw [World.drewN_drewN], fun i hi hn => HA.out i (by have := HC.out; omega) hn⟩
            case measure => omega
          · have hcb : ((k : Int) != (m : Int) + 2) = true := by simp; omega
            obtain ⟨x, y, hx, hy, hsm⟩ := HSm.out k hlt
            have HSM := Lib.hid fun z => hsm z
            have j1 : (0 : Int) ≤ (k : Int) := by omega
            have j2 : (k : Int) ≤ (k : Int) + 1 := by omega
            have j3 : (k : Int) + 1 ≤ (uc : Int) := by omega
            have j4 : (k : Int) + 1 ≤ (wcp : Int) := by omega
            have j5 : ¬ uc = k := by omega
            have j6 : ¬ wcp = k := by omega
            have HX := Lib.hid (And.intro hx hy)
            clear hx hy hsm
            by_cases he : x = y
            · rw [decide_eq_true he] at HSM
              have HE := Lib.hid he
              clear he
              go_wp2_with fail
              go_quiet (first | (go_at_call 68; refine quiet_sum (HSM.out _)))
              go_wp2
              go_roundg (m + 5 - (k + 1))
              case rel =>
                refine ⟨k + 1, z + nq, by omega, rfl, by go_num, by first | rfl | rw [World.drewN_drewN], fun i hi hn => ?_⟩
                rcases Nat.lt_or_ge i k with h | h
                · exact HA.out i h hn
                · obtain rfl : i = k := by omega
                  rw [HX.out.1, HX.out.2, HE.out]
              case measure => omega
            · rw [decide_eq_false he] at HSM
              have hin : inB kk.data.toList N L = false := by
                cases hh : inB kk.data.toList N L
                · rfl
                · have := HWI.out.1 hh k (by rw [HM.out]; exact hlt) (by rw [HM.out]; omega)
                  rw [HX.out.1, HX.out.2] at this
                  exact absurd (Option.some.inj this) he
              have hu : unE kk.data.toList L = 5 := by rw [hue, hin]; rfl
              rw [hu] at heu
              have hb := op_bad (k := kk.data.toList) (s := t.data.toList) (by rw [heu]; decide)
              have HV := Lib.hid (And.intro heu hb)
              clear heu hb hu hin he hue
              go_wp2_with fail
              go_quiet (first | (go_at_call 68; refine quiet_sum (HSM.out _)))
              go_wp2
              refine bodyPost_ret (v := .tuple #[dv 0 0 0, .int .i64 0, .slice none 0 0, .int .i64 5]) (by simp [results, Tryz.results31, go_sem, d0, d1, d2]) rfl ?_
              refine ⟨⟨.slice none 0 0, ?_, ?_⟩, put3_below (HBd.out _) w.heap.size (Nat.le_refl _) _ _ _⟩
              · rw [HV.out.1, HV.out.2.1, HV.out.2.2.1]; rfl
              · rw [HV.out.2.2.2]; exact HNil.out _
        · have hlt' : ¬ (k : Int) < (m : Int) + 5 := by omega
          have hin : inB kk.data.toList N L = true := HWI.out.2 fun i hi hn => HA.out i (by rw [HM.out] at hi; omega) (by rw [HM.out] at hn; omega)
          obtain ⟨x, y, hx, hy, hsm⟩ := HSm.out (m + 2) (by omega)
          have HSM := Lib.hid fun z => hsm z
          have hcb : cntB N L = decide (x = y) := by
            rw [HWC.out, HM.out, show m + 5 - 3 = m + 2 by omega, hx, hy]
            simp
          have j1 : (0 : Int) ≤ (m : Int) + 2 := by omega
          have j2 : (m : Int) + 2 ≤ (m : Int) + 2 + 1 := by omega
          have j3 : (m : Int) + 2 + 1 ≤ (uc : Int) := by omega
          have j4 : (m : Int) + 2 + 1 ≤ (wcp : Int) := by omega
          have j5 : ¬ uc = m + 2 := by omega
          have j6 : ¬ wcp = m + 2 := by omega
          clear hx hy hsm
          rw [hin, hcb] at hue
          clear hin hcb
          by_cases he : x = y
          · rw [decide_eq_true he] at HSM hue
            have hu : unE kk.data.toList L = 0 := hue
            rw [hu] at heu
            obtain ⟨v1, v2, v3⟩ := HG.out heu
            rw [HUN.out hu] at v2
            rw [HUL.out hu] at v3
            have HV := Lib.hid (And.intro heu (And.intro v1 (And.intro v2 v3)))
            obtain ⟨x0, x1, x2⟩ := hX0.out
            clear heu hue hu he v1 v2 v3
            go_wp2_with fail
            go_quiet (first | (go_at_call 68; refine quiet_sum (HSM.out _)))
            go_wp2
            refine bodyPost_ret (v := .tuple #[dv e p q, .int .i64 N, .slice (some ⟨b, o + 2, none⟩) m (uc - 2), .int .i64 0]) (by simp [results, Tryz.results31, go_sem, d0, d1, d2]) rfl ?_
            refine ⟨⟨.slice (some ⟨b, o + 2, none⟩) m (uc - 2), ?_, ?_⟩, put3_below (HBd.out _) w.heap.size (Nat.le_refl _) _ _ _⟩
            · rw [HV.out.1, HV.out.2.1, HV.out.2.2.1]; rfl
            · rw [HV.out.2.2.2]
              exact put3_segs (W := w6.drewN (z + nq)) HK6.out _ _ _ HSub6.out
          · rw [decide_eq_false he] at HSM hue
            have hu : unE kk.data.toList L = 6 := hue
            rw [hu] at heu
            have hb := op_bad (k := kk.data.toList) (s := t.data.toList) (by rw [heu]; decide)
            have HV := Lib.hid (And.intro heu hb)
            clear heu hb hu he hue
            go_wp2_with fail
            go_quiet (first | (go_at_call 68; refine quiet_sum (HSM.out _)))
            go_wp2
            refine bodyPost_ret (v := .tuple #[dv 0 0 0, .int .i64 0, .slice none 0 0, .int .i64 6]) (by simp [results, Tryz.results31, go_sem, d0, d1, d2]) rfl ?_
            refine ⟨⟨.slice none 0 0, ?_, ?_⟩, put3_below (HBd.out _) w.heap.size (Nat.le_refl _) _ _ _⟩
            · rw [HV.out.1, HV.out.2.1, HV.out.2.2.1]; rfl
            · rw [HV.out.2.2.2]; exact HNil.out _
end Go.Proofs.YtpmnepihaljamaaGreatDoor
end
