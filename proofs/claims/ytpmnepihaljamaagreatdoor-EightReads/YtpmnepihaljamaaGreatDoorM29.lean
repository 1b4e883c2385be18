/-
  Texts put together (merge.py): KOpen, ERead.
-/
import Derived.Test.YtpmnepihaljamaaGreatDoorM27
import Derived.Test.YtpmnepihaljamaaGreatDoorM28
import Derived.Test.YtpmnepihaljamaaGreatDoorM11
import Derived.Test.YtpmnepihaljamaaGreatDoorM26
/-
  What cover.Open answers, as a contract: for every text.
-/
section
set_option linter.unusedSimpArgs false
namespace Go.Proofs.YtpmnepihaljamaaGreatDoor
open Go.RowKit

set_option maxHeartbeats 4000000 in
set_option maxRecDepth 100000 in
theorem open_any (kk t : ByteArray) (w : World) (hT : Tab w) (hs : t.size ≤ maxLen) :
    Calls Tryz.prog 29 #[.string kk, .string t] w fun x w' => (∃ u, x = .returned (.tuple #[dv3 (opD kk.data.toList t.data.toList), .int .i64 (opN kk.data.toList t.data.toList), u, .int .i64 (opE kk.data.toList t.data.toList)]) ∧ SgAt All w' u (opL kk.data.toList t.data.toList)) ∧ Below w.heap.size w w' := by
  have HTb := Lib.hid hT
  have HNil : Hid (∀ W, SgAt All W (.slice none 0 0) []) := fun W => SgAt.nil All W
  have hst := Lib.size_eq t
  have HBa := Lib.hid (below_alloc w (.cells #[.int .u8 0, .int .u8 0, .int .u8 0] 23))
  have HBk := Lib.hid (Blk.new w 0 0 0)
  have HSZ := Lib.hid hs
  unfold maxLen at hs
  clear hT
  by_cases hlong : 65536 < t.size
  · have he := op_long (k := kk.data.toList) (s := t.data.toList) (by rw [← hst]; exact hlong)
    have hb := op_bad (k := kk.data.toList) (s := t.data.toList) (by rw [he]; decide)
    have HV := Lib.hid (And.intro he hb)
    have hlb : (65536 : Int) < (t.size : Int) := by omega
    clear he hb hst
    go_enter Tryz.func29, Tryz.ntmps29
    go_wp2
    refine bodyPost_ret (v := .tuple #[dv 0 0 0, .int .i64 0, .slice none 0 0, .int .i64 10]) (by simp [results, Tryz.results29, go_sem]) rfl ?_
    refine ⟨⟨.slice none 0 0, ?_, ?_⟩, HBa.out⟩
    · rw [HV.out.1, HV.out.2.1, HV.out.2.2.1]; rfl
    · rw [HV.out.2.2.2]; exact HNil.out _
  have hlb : ¬ (65536 : Int) < (t.size : Int) := by omega
  have hll : t.data.toList.length ≤ 65536 := by rw [← hst]; omega
  have HFd := Lib.hid fun W => find_any t W HSZ.out
  have HKi := Lib.hid fun W => kind_any kk W
  cases hf : findO t.data.toList with
  | none =>
    have he := op_none (k := kk.data.toList) hll hf
    have hb := op_bad (k := kk.data.toList) (s := t.data.toList) (by rw [he]; decide)
    have HV := Lib.hid (And.intro he hb)
    rw [hf] at HFd
    have HFd2 : Hid (∀ W, Calls Tryz.prog 60 #[.string t] W fun x w' => x = .returned (.tuple #[.agg #[.int .u8 0, .int .u8 0, .int .u8 0], .int .i64 5]) ∧ Below W.heap.size W w') := HFd.out
    clear he hb hst hf HFd hll
    go_enter Tryz.func29, Tryz.ntmps29
    go_wp2_with (first | (go_at_call 60; refine (HFd2.out _).mono ?_; rintro x w1 ⟨rfl, hb⟩; have HB1 := Lib.hid (below_trans HBa.out hb); have HK1 := Lib.hid (Blk.grw (Blk.grw HBk.out hb) (below_alloc w1 (.cells #[.int .u8 0, .int .u8 0, .int .u8 0] 23))); obtain ⟨⟨d0, d1, d2⟩, f0, f1, f2⟩ := Blk.cells HK1.out; clear hb))
    refine bodyPost_ret (v := .tuple #[dv 0 0 0, .int .i64 0, .slice none 0 0, .int .i64 5]) (by simp [results, Tryz.results29, go_sem, d0, d1, d2]) rfl ?_
    refine ⟨⟨.slice none 0 0, ?_, ?_⟩, put3_below (below_trans HB1.out (below_alloc w1 _)) w.heap.size (Nat.le_refl _) _ _ _⟩
    · rw [HV.out.1, HV.out.2.1, HV.out.2.2.1]; rfl
    · rw [HV.out.2.2.2]; exact HNil.out _
  | some x =>
    obtain ⟨e, p, q⟩ := x
    rw [hf] at HFd
    have HFd2 : Hid (∀ W, Calls Tryz.prog 60 #[.string t] W fun x w' => x = .returned (.tuple #[.agg #[.int .u8 e.toNat, .int .u8 p.toNat, .int .u8 q.toNat], .int .i64 0]) ∧ Below W.heap.size W w') := HFd.out
    clear HFd
    cases hk : kindB kk.data.toList with
    | false =>
      have he := op_kind hll hf hk
      have hb := op_bad (k := kk.data.toList) (s := t.data.toList) (by rw [he]; decide)
      have HV := Lib.hid (And.intro he hb)
      rw [hk] at HKi
      clear he hb hst hf hll hk
      go_enter Tryz.func29, Tryz.ntmps29
      go_wp2_with (first | (go_at_call 60; refine (HFd2.out _).mono ?_; rintro x w1 ⟨rfl, hb⟩; have HB1 := Lib.hid (below_trans HBa.out hb); have HK1 := Lib.hid (Blk.grw (Blk.grw HBk.out hb) (below_alloc w1 (.cells #[.int .u8 e.toNat, .int .u8 p.toNat, .int .u8 q.toNat] 23))); obtain ⟨⟨d0, d1, d2⟩, f0, f1, f2⟩ := Blk.cells HK1.out; clear hb) | (go_at_call 46; refine (HKi.out _).mono ?_; rintro x w2 ⟨rfl, hw⟩; rw [hw]; clear hw w2))
      refine bodyPost_ret (v := .tuple #[dv 0 0 0, .int .i64 0, .slice none 0 0, .int .i64 5]) (by simp [results, Tryz.results29, go_sem, d0, d1, d2]) rfl ?_
      refine ⟨⟨.slice none 0 0, ?_, ?_⟩, put3_below (below_trans HB1.out (below_alloc w1 _)) w.heap.size (Nat.le_refl _) _ _ _⟩
      · rw [HV.out.1, HV.out.2.1, HV.out.2.2.1]; rfl
      · rw [HV.out.2.2.2]; exact HNil.out _
    | true =>
      rw [hk] at HKi
      have h6 : 6 ≤ t.size := by
        rcases Nat.lt_or_ge t.size 6 with h | h
        · rw [find_short _ (by rw [← hst]; exact h)] at hf; cases hf
        · exact h
      have h6i : (6 : Int) ≤ (t.size : Int) := by omega
      have hex : (t.extract 6 t.size).data.toList = t.data.toList.drop 6 := by
        rw [Lib.extract_data, List.take_of_length_le (by rw [List.length_drop, ← hst]; omega)]
      have hxs : (t.extract 6 t.size).size ≤ maxLen := by rw [Lib.size_eq, hex, List.length_drop, ← hst]; have := HSZ.out; omega
      have hsp := fun W h => split_any e p q (t.extract 6 t.size) W h hxs
      rw [hex] at hsp
      have HSp := Lib.hid hsp
      have hhd := fun W => head_any e p q W
      have hhs : (mk (headL e p q)).size = 6 := mk_size _
      generalize mk (headL e p q) = H at *
      have HHd := Lib.hid hhd
      obtain ⟨sm1, sm2⟩ := sp_small (e := e) (p := p) (q := q) (t := t.data.toList.drop 6)
      have HUw := Lib.hid fun W u h hT => unwrap_any kk u (spV e p q (t.data.toList.drop 6)) W h hT (by omega) sm2
      have HRf : Hid (∀ W : World, Below W.heap.size W W.drew) := fun W => Below.drew (Below.refl _ W)
      clear hsp hhd hex hxs sm1 sm2 hst h6
      go_enter Tryz.func29, Tryz.ntmps29
      go_upto_region 6 with (first | (go_at_call 60; refine (HFd2.out _).mono ?_; rintro x w1 ⟨rfl, hb⟩; have HB1 := Lib.hid (below_trans HBa.out hb); have HK1 := Lib.hid (Blk.grw (Blk.grw HBk.out hb) (below_alloc w1 (.cells #[.int .u8 e.toNat, .int .u8 p.toNat, .int .u8 q.toNat] 23))); clear hb) | (go_at_call 46; refine (HKi.out _).mono ?_; rintro x w2 ⟨rfl, hw⟩; rw [hw]; clear hw w2))
      have HDx := Lib.hid (Blk.new w1 (e.toNat : Int) (p.toNat : Int) (q.toNat : Int))
      have HBx := Lib.hid (below_trans HB1.out (below_alloc w1 (.cells #[.int .u8 e.toNat, .int .u8 p.toNat, .int .u8 q.toNat] 23)))
      have HAll : Hid (∀ W, Below (w1.alloc (.cells #[.int .u8 e.toNat, .int .u8 p.toNat, .int .u8 q.toNat] 23)).heap.size (w1.alloc (.cells #[.int .u8 e.toNat, .int .u8 p.toNat, .int .u8 q.toNat] 23)) W → (W.cell? ⟨w1.heap.size, 0, none⟩ = some (.int .u8 e.toNat) ∧ W.cell? ⟨w1.heap.size, 1, none⟩ = some (.int .u8 p.toNat) ∧ W.cell? ⟨w1.heap.size, 2, none⟩ = some (.int .u8 q.toNat)) ∧ Below w.heap.size w W ∧ Tab W ∧ Blk W w.heap.size 0 0 0) := fun W hW => ⟨(Blk.cells (Blk.grw HDx.out hW)).1, below_trans HBx.out hW, tab_grw HTb.out (below_trans HBx.out hW), Blk.grw HK1.out hW⟩
      have HW0 : Hid (Below (w1.alloc (.cells #[.int .u8 e.toNat, .int .u8 p.toNat, .int .u8 q.toNat] 23)).heap.size (w1.alloc (.cells #[.int .u8 e.toNat, .int .u8 p.toNat, .int .u8 q.toNat] 23)) (w1.alloc (.cells #[.int .u8 e.toNat, .int .u8 p.toNat, .int .u8 q.toNat] 23)).drew) := HRf.out _
      obtain ⟨⟨k0, k1, k2⟩, -⟩ := HAll.out _ (Below.refl _ _)
      go_region_held3 (fun w' => w'.cell? ⟨w1.heap.size, 0, none⟩ = some (.int .u8 e.toNat) ∧ w'.cell? ⟨w1.heap.size, 1, none⟩ = some (.int .u8 p.toNat) ∧ w'.cell? ⟨w1.heap.size, 2, none⟩ = some (.int .u8 q.toNat)) (go_keep) (first | (go_at_call 51; refine (HHd.out _).mono ?_; rintro x w3 ⟨rfl, hb⟩; have HB3 := Lib.hid (below_trans HW0.out hb); obtain ⟨⟨r0, r1, r2⟩, -⟩ := HAll.out _ HB3.out; clear hb) | (go_at_call 61; refine (HSp.out _ (HAll.out _ HB3.out).2.2.1).mono ?_; rintro x w4 ⟨⟨u, rfl, hsg⟩, hb⟩; have HSG := Lib.hid hsg; have HB4 := Lib.hid (below_trans HB3.out hb); obtain ⟨⟨r0, r1, r2⟩, -⟩ := HAll.out _ HB4.out; clear hb; obtain ⟨ua, uc, rfl, -, -, -⟩ := hsg))
      clear k0 k1 k2 r0 r1 r2
      obtain ⟨-, hb4, -, hk4⟩ := HAll.out _ HB4.out
      have HB4w := Lib.hid hb4
      have HK4 := Lib.hid hk4
      clear hb4 hk4
      by_cases hsz : spE e p q (t.data.toList.drop 6) = 0
      · have heu := op_un hll hf hk hsz
        rw [hsz]
        have HU4 := Lib.hid (HUw.out _ _ HSG.out (HAll.out _ HB4.out).2.2.1)
        by_cases hu : unE kk.data.toList (spV e p q (t.data.toList.drop 6)) = 0
        · rw [hu] at heu HU4
          have HV := Lib.hid (And.intro heu (op_good hf heu))
          clear heu hu hsz hf hll hk
          generalize unN kk.data.toList (spV e p q (t.data.toList.drop 6)) = N at *
          generalize unL kk.data.toList (spV e p q (t.data.toList.drop 6)) = L at *
          go_wp2_with (first | (go_at_call 62; refine HU4.out.mono ?_; rintro x w5 ⟨⟨u5, rfl, hs5⟩, hb⟩; have HS5 := Lib.hid hs5; have HB5 := Lib.hid (below_trans HB4.out hb); have HK5 := Lib.hid (Blk.grw HK4.out hb); obtain ⟨⟨k0, k1, k2⟩, -⟩ := HAll.out _ HB5.out; obtain ⟨⟨d0, d1, d2⟩, f0, f1, f2⟩ := Blk.cells HK5.out; clear hb; obtain ⟨va, vc, rfl, -, -, -⟩ := hs5))
          refine bodyPost_ret (v := .tuple #[dv e p q, .int .i64 N, .slice va L.length vc, .int .i64 0]) (by simp [results, Tryz.results29, go_sem, d0, d1, d2]) rfl ?_
          refine ⟨⟨.slice va L.length vc, ?_, ?_⟩, put3_below (HAll.out _ HB5.out).2.1 w.heap.size (Nat.le_refl _) _ _ _⟩
          · rw [HV.out.1, HV.out.2.1, HV.out.2.2.1]; rfl
          · rw [HV.out.2.2.2]; exact put3_segs HK5.out _ _ _ HS5.out
        · have hb := op_bad (k := kk.data.toList) (s := t.data.toList) (by rw [heu]; exact hu)
          have HV := Lib.hid (And.intro heu hb)
          have hub := un_bad hu
          rw [hub.1, hub.2] at HU4
          have heb : (unE kk.data.toList (spV e p q (t.data.toList.drop 6)) != 0) = true := by simpa using hu
          clear heu hu hb hub hsz hf hll hk
          generalize unE kk.data.toList (spV e p q (t.data.toList.drop 6)) = E at *
          go_wp2_with (first | (go_at_call 62; refine HU4.out.mono ?_; rintro x w5 ⟨⟨u5, rfl, hs5⟩, hb⟩; have HB5 := Lib.hid (below_trans HB4.out hb); have HK5 := Lib.hid (Blk.grw HK4.out hb); obtain ⟨⟨d0, d1, d2⟩, f0, f1, f2⟩ := Blk.cells HK5.out; clear hb; obtain ⟨va, vc, rfl, -, -, -⟩ := hs5))
          refine bodyPost_ret (v := .tuple #[dv 0 0 0, .int .i64 0, .slice none 0 0, .int .i64 E]) (by simp [results, Tryz.results29, go_sem, d0, d1, d2]) rfl ?_
          refine ⟨⟨.slice none 0 0, ?_, ?_⟩, put3_below (HAll.out _ HB5.out).2.1 w.heap.size (Nat.le_refl _) _ _ _⟩
          · rw [HV.out.1, HV.out.2.1, HV.out.2.2.1]; rfl
          · rw [HV.out.2.2.2]; exact HNil.out _
      · have heu := op_split hll hf hk hsz
        have hb := op_bad (k := kk.data.toList) (s := t.data.toList) (by rw [heu]; exact hsz)
        have HV := Lib.hid (And.intro heu hb)
        have heb : (spE e p q (t.data.toList.drop 6) != 0) = true := by simpa using hsz
        obtain ⟨⟨d0, d1, d2⟩, f0, f1, f2⟩ := Blk.cells HK4.out
        clear heu hb hsz hf hll hk HSp
        generalize spE e p q (t.data.toList.drop 6) = E at *
        go_wp2
        refine bodyPost_ret (v := .tuple #[dv 0 0 0, .int .i64 0, .slice none 0 0, .int .i64 E]) (by simp [results, Tryz.results29, go_sem, d0, d1, d2]) rfl ?_
        refine ⟨⟨.slice none 0 0, ?_, ?_⟩, put3_below HB4w.out w.heap.size (Nat.le_refl _) _ _ _⟩
        · rw [HV.out.1, HV.out.2.1, HV.out.2.2.1]; rfl
        · rw [HV.out.2.2.2]; exact HNil.out _
end Go.Proofs.YtpmnepihaljamaaGreatDoor
end

/-
  What eight.Read answers, as a contract: for every text.
-/
section
set_option linter.unusedSimpArgs false
set_option linter.unusedVariables false
set_option maxRecDepth 100000
namespace Go.Proofs.YtpmnepihaljamaaGreatDoor
open Go.RowKit
open Et
open Cm (Ln lnv ln0 Cl clv cl0 checkE totV totE btv)

theorem op_fit {k s : Tx} (h : opE k s = 0) : Nm (opL k s) ∧ Sh (opL k s) ∧ Qs (opL k s) ∧ (opL k s).length ≤ 100000 := by
  obtain ⟨c1, c2, c3⟩ := cover_once h
  obtain ⟨hg, hk, h0, h1, hwr, hl, hvv⟩ := wp_zero c1
  obtain ⟨-, w2, w3⟩ := wr_ok hwr
  have L := wrT_len _ w3
  have hlen : s.length = 6 + ln (abt k (opN k s) (opL k s)) := by
    have := congrArg List.length c2
    rw [hvv, List.length_append, headL_len, L] at this
    exact this.symm
  have hln : ln (opL k s) ≤ 65536 := by
    have : ln (opL k s) ≤ ln (abt k (opN k s) (opL k s)) := by
      unfold abt
      rw [ln_app, ln_app]
      omega
    omega
  have hsub : ∀ g ∈ opL k s, g ∈ abt k (opN k s) (opL k s) := fun g hg => by
    unfold abt
    exact List.mem_append_right _ (List.mem_append_left _ hg)
  refine ⟨fun g hg => ?_, fun g hg ps hps x hx => ?_, fun g hg ps hps => ?_, ?_⟩
  · have := w3 g (hsub g hg)
    unfold segOk at this
    rw [Bool.and_eq_true] at this
    exact this.1
  · have a := gn_le hg
    have b := pn_le hps
    have c := xn_le hx
    omega
  · have a := gn_le hg
    have b := pn_le hps
    have c := sum_many ps
    omega
  · have : (opL k s).length ≤ (abt k (opN k s) (opL k s)).length := by
      unfold abt
      rw [List.length_append, List.length_append]
      omega
    omega
theorem r_no {s : Tx} (h : rE s ≠ 0) : rD s = (0, 0, 0) ∧ rN s = 0 ∧ rV s = [] := by
  unfold rD rN rV
  rw [if_neg h, if_neg h, if_neg h]
  exact ⟨rfl, rfl, rfl⟩
theorem r_yes {s : Tx} (h : rE s = 0) : rD s = opD t837 s ∧ rN s = opN t837 s ∧ rV s = rsV (opL t837 s) := by
  unfold rD rN rV
  rw [if_pos h, if_pos h, if_pos h]
  exact ⟨rfl, rfl, rfl⟩
theorem cls_nil (K : Nat → Prop) (w : World) : Cm.ClsAt K w (.slice none 0 0) [] := ⟨none, 0, rfl, by simp, by simp [maxLen], Or.inl rfl⟩
theorem cells2 {w : World} {q : Nat} {v u : Value} {T : TypeId} (h : w.heap[q]? = some (.cells #[v, u] T (0, 0))) : w.cell? ⟨q, 0, none⟩ = some v ∧ w.cell? ⟨q, 1, none⟩ = some u ∧ w.frozen? ⟨q, 0, none⟩ = false ∧ w.frozen? ⟨q, 1, none⟩ = false :=
  ⟨by rw [cell_of_row w q 0 _ T (0, 0) h]; rfl, by rw [cell_of_row w q 1 _ T (0, 0) h]; rfl, Lib.frozen_of_heap h 0, Lib.frozen_of_heap h 1⟩
theorem cells3 {w : World} {q : Nat} {a b c : Value} {T : TypeId} (h : w.heap[q]? = some (.cells #[a, b, c] T (0, 0))) : w.cell? ⟨q, 0, none⟩ = some a ∧ w.cell? ⟨q, 1, none⟩ = some b ∧ w.cell? ⟨q, 2, none⟩ = some c ∧ w.frozen? ⟨q, 0, none⟩ = false ∧ w.frozen? ⟨q, 1, none⟩ = false ∧ w.frozen? ⟨q, 2, none⟩ = false :=
  ⟨by rw [cell_of_row w q 0 _ T (0, 0) h]; rfl, by rw [cell_of_row w q 1 _ T (0, 0) h]; rfl, by rw [cell_of_row w q 2 _ T (0, 0) h]; rfl, Lib.frozen_of_heap h 0, Lib.frozen_of_heap h 1, Lib.frozen_of_heap h 2⟩
abbrev D0 : Obj := .cells #[.int .u8 0, .int .u8 0, .int .u8 0] 23
abbrev B0 : Obj := .cells #[.int .i64 0, .slice none 0 0] 26
/-- The two boxes of the answer, at two places. -/
def Two (B : Nat) (w : World) : Prop := w.heap[B]? = some (.cells #[.int .u8 0, .int .u8 0, .int .u8 0] 23 (0, 0)) ∧ w.heap[B + 1]? = some (.cells #[.int .i64 0, .slice none 0 0] 26 (0, 0))
theorem Two.start (w : World) : Two w.heap.size ((w.alloc D0).alloc B0) := by
  have h2 := heap_alloc_new (w.alloc D0) B0
  rw [show (w.alloc D0).heap.size = w.heap.size + 1 by simp] at h2
  exact ⟨keepB (heap_alloc_new w D0) (below_alloc (w.alloc D0) B0), h2⟩
theorem Two.grw {B : Nat} {w w' : World} (h : Two B w) (hb : Below w.heap.size w w') : Two B w' := ⟨keepB h.1 hb, keepB h.2 hb⟩
/-- Both boxes written: what they hold, and what stands besides. -/
abbrev put5 (W : World) (B : Nat) (a b c d e : Value) : World := ((((W.setCell ⟨B, 0, none⟩ a).setCell ⟨B, 1, none⟩ b).setCell ⟨B, 2, none⟩ c).setCell ⟨B + 1, 0, none⟩ d).setCell ⟨B + 1, 1, none⟩ e
theorem put5_two {W : World} {B : Nat} (h : Two B W) (a b c d e : Value) : (put5 W B a b c d e).heap[B]? = some (.cells #[a, b, c] 23 (0, 0)) ∧ (put5 W B a b c d e).heap[B + 1]? = some (.cells #[d, e] 26 (0, 0)) := by
  have h0 : (W.setCell ⟨B, 0, none⟩ a).heap[B]? = some (.cells #[a, .int .u8 0, .int .u8 0] 23 (0, 0)) := by rw [heap_set h.1]; rfl
  have h1 : ((W.setCell ⟨B, 0, none⟩ a).setCell ⟨B, 1, none⟩ b).heap[B]? = some (.cells #[a, b, .int .u8 0] 23 (0, 0)) := by rw [heap_set h0]; rfl
  have h2 : (((W.setCell ⟨B, 0, none⟩ a).setCell ⟨B, 1, none⟩ b).setCell ⟨B, 2, none⟩ c).heap[B]? = some (.cells #[a, b, c] 23 (0, 0)) := by rw [heap_set h1]; rfl
  have g2 : (((W.setCell ⟨B, 0, none⟩ a).setCell ⟨B, 1, none⟩ b).setCell ⟨B, 2, none⟩ c).heap[B + 1]? = some (.cells #[.int .i64 0, .slice none 0 0] 26 (0, 0)) := heap_far (heap_far (heap_far h.2 (by omega)) (by omega)) (by omega)
  have g3 : ((((W.setCell ⟨B, 0, none⟩ a).setCell ⟨B, 1, none⟩ b).setCell ⟨B, 2, none⟩ c).setCell ⟨B + 1, 0, none⟩ d).heap[B + 1]? = some (.cells #[d, .slice none 0 0] 26 (0, 0)) := by rw [heap_set g2]; rfl
  exact ⟨heap_far (heap_far h2 (by omega)) (by omega), by rw [heap_set g3]; rfl⟩
theorem put5_below {B : Nat} {w W : World} (h : Below B w W) (a b c d e : Value) : Below B w (put5 W B a b c d e) :=
  ((((h.setCell (p := ⟨B, 0, none⟩) (Nat.le_refl _) a).setCell (p := ⟨B, 1, none⟩) (Nat.le_refl _) b).setCell (p := ⟨B, 2, none⟩) (Nat.le_refl _) c).setCell (p := ⟨B + 1, 0, none⟩) (Nat.le_succ _) d).setCell (p := ⟨B + 1, 1, none⟩) (Nat.le_succ _) e
theorem put5_moves {W : World} {B : Nat} {K K' : Nat → Prop} (hk : ∀ b, K b → K' b ∧ b ≠ B ∧ b ≠ B + 1) (a b c d e : Value) : Moves K K' W (put5 W B a b c d e) := by
  refine ⟨by simp [World.setCell], fun q _ h => ⟨(hk q h).1, ?_⟩⟩
  obtain ⟨-, n1, n2⟩ := hk q h
  rw [Below.heap_setCell _ _ _ _ n2, Below.heap_setCell _ _ _ _ n2, Below.heap_setCell _ _ _ _ n1, Below.heap_setCell _ _ _ _ n1, Below.heap_setCell _ _ _ _ n1]

set_option maxHeartbeats 8000000 in
theorem eread_any (t : ByteArray) (w : World) (hT : Tab w) (hD : Da.Tab w) (hs : t.size ≤ maxLen) :
    Calls Tryz.prog 13 #[.string t] w fun x w' => (∃ u, x = .returned (.tuple #[dv3 (rD t.data.toList), btv (rN t.data.toList) u, .int .i64 (rE t.data.toList)]) ∧ Cm.ClsAt (fun b => w.heap.size ≤ b) w' u (rV t.data.toList)) ∧ Below w.heap.size w w' := by
  have hb0 := below_trans (below_alloc w D0) (below_alloc (w.alloc D0) B0)
  have HO : Hid (Calls Tryz.prog 29 #[.string ⟨#[56, 51, 55]⟩, .string t] ((w.alloc D0).alloc B0) fun x w' => (∃ u, x = .returned (.tuple #[dv3 (opD t837 t.data.toList), .int .i64 (opN t837 t.data.toList), u, .int .i64 (opE t837 t.data.toList)]) ∧ SgAt All w' u (opL t837 t.data.toList)) ∧ Below ((w.alloc D0).alloc B0).heap.size ((w.alloc D0).alloc B0) w') := open_any ⟨#[56, 51, 55]⟩ t ((w.alloc D0).alloc B0) (tab_grw hT hb0) hs
  have HTw := Lib.hid (Two.start w)
  have HB0 := Lib.hid hb0
  have HTb := Lib.hid (And.intro hT hD)
  have hrE : rE t.data.toList = (if opE t837 t.data.toList = 0 then rsE (opL t837 t.data.toList) else opE t837 t.data.toList) := rfl
  clear hb0 hT hD hs
  by_cases he : opE t837 t.data.toList = 0
  case neg =>
    rw [if_neg he] at hrE
    have HX := Lib.hid (And.intro hrE (r_no (by rw [hrE]; exact he)))
    have hne : (opE t837 t.data.toList != 0) = true := by simpa using he
    clear he hrE
    generalize opE t837 t.data.toList = E at *
    generalize opN t837 t.data.toList = N at *
    obtain ⟨⟨da, db, dc⟩, hDD⟩ : ∃ DD, opD t837 t.data.toList = DD := ⟨_, rfl⟩
    rw [hDD] at HO
    generalize opL t837 t.data.toList = L at *
    have HO2 : Hid (Calls Tryz.prog 29 #[.string ⟨#[56, 51, 55]⟩, .string t] ((w.alloc D0).alloc B0) fun x w' => (∃ u, x = .returned (.tuple #[.agg #[.int .u8 da.toNat, .int .u8 db.toNat, .int .u8 dc.toNat], .int .i64 N, u, .int .i64 E]) ∧ SgAt All w' u L) ∧ Below ((w.alloc D0).alloc B0).heap.size ((w.alloc D0).alloc B0) w') := HO.out
    clear HO hDD
    go_enter Tryz.func13, Tryz.ntmps13
    go_wp2_with fail
    go_at_call 29
    refine HO2.out.mono ?_
    rintro x w1 ⟨⟨u, rfl, hu⟩, hb1⟩
    have HW1 := Lib.hid (HTw.out.grw hb1)
    have HB1 := Lib.hid (below_trans HB0.out hb1)
    have HU1 := Lib.hid hu
    obtain ⟨ua, uc, rfl, -, -, -⟩ := hu
    have hb2 := below_alloc w1 (.cells #[.int .u8 da.toNat, .int .u8 db.toNat, .int .u8 dc.toNat] 23)
    have HW2 := Lib.hid (HW1.out.grw hb2)
    have HB2 := Lib.hid (below_trans HB1.out hb2)
    have HU2 := Lib.hid (SgAt.move HU1.out (Below.moves hb2))
    have HD2 := Lib.hid (heap_alloc_new w1 (.cells #[.int .u8 da.toNat, .int .u8 db.toNat, .int .u8 dc.toNat] 23))
    have hw1 : w.heap.size + 1 < w1.heap.size := (Array.getElem?_eq_some_iff.1 HW1.out.2).1
    clear hb1 hb2 HU1 HW1 HB1
    go_upto_if 18 with fail
    generalize w1.alloc (.cells #[.int .u8 da.toNat, .int .u8 db.toNat, .int .u8 dc.toNat] 23) = w2 at *
    obtain ⟨b0, b1, b2, b3, b4, b5⟩ := cells3 HW2.out.1
    obtain ⟨c0, c1, c2, c3⟩ := cells2 HW2.out.2
    go_wp2
    clear b0 b1 b2 b3 b4 b5 c0 c1 c2 c3
    have HBF : Hid (Below w.heap.size w (((((w2.setCell ⟨w.heap.size, 0, none⟩ (.int .u8 0)).setCell ⟨w.heap.size, 1, none⟩ (.int .u8 0)).setCell ⟨w.heap.size, 2, none⟩ (.int .u8 0)).setCell ⟨w.heap.size + 1, 0, none⟩ (.int .i64 0)).setCell ⟨w.heap.size + 1, 1, none⟩ (.slice none 0 0))) := put5_below HB2.out _ _ _ _ _
    have HZF := Lib.hid (put5_two HW2.out (.int .u8 0) (.int .u8 0) (.int .u8 0) (.int .i64 0) (.slice none 0 0))
    have HZ1 : Hid ((((((w2.setCell ⟨w.heap.size, 0, none⟩ (.int .u8 0)).setCell ⟨w.heap.size, 1, none⟩ (.int .u8 0)).setCell ⟨w.heap.size, 2, none⟩ (.int .u8 0)).setCell ⟨w.heap.size + 1, 0, none⟩ (.int .i64 0)).setCell ⟨w.heap.size + 1, 1, none⟩ (.slice none 0 0)).heap[w.heap.size]? = some (.cells #[.int .u8 0, .int .u8 0, .int .u8 0] 23 (0, 0))) := HZF.out.1
    have HZ2 : Hid ((((((w2.setCell ⟨w.heap.size, 0, none⟩ (.int .u8 0)).setCell ⟨w.heap.size, 1, none⟩ (.int .u8 0)).setCell ⟨w.heap.size, 2, none⟩ (.int .u8 0)).setCell ⟨w.heap.size + 1, 0, none⟩ (.int .i64 0)).setCell ⟨w.heap.size + 1, 1, none⟩ (.slice none 0 0)).heap[w.heap.size + 1]? = some (.cells #[.int .i64 0, .slice none 0 0] 26 (0, 0))) := HZF.out.2
    clear HZF
    generalize (((((w2.setCell ⟨w.heap.size, 0, none⟩ (.int .u8 0)).setCell ⟨w.heap.size, 1, none⟩ (.int .u8 0)).setCell ⟨w.heap.size, 2, none⟩ (.int .u8 0)).setCell ⟨w.heap.size + 1, 0, none⟩ (.int .i64 0)).setCell ⟨w.heap.size + 1, 1, none⟩ (.slice none 0 0)) = wz at *
    obtain ⟨e0, e1, e2, -⟩ := cells3 HZ1.out
    obtain ⟨g0, g1, -⟩ := cells2 HZ2.out
    refine bodyPost_ret (v := .tuple #[.agg #[.int .u8 0, .int .u8 0, .int .u8 0], .agg #[.int .i64 0, .slice none 0 0], .int .i64 E]) (by simp [results, Tryz.results13, go_sem, e0, e1, e2, g0, g1]) rfl ?_
    exact ⟨⟨.slice none 0 0, by rw [HX.out.1, HX.out.2.1, HX.out.2.2.1]; rfl, by rw [HX.out.2.2.2]; exact cls_nil _ _⟩, HBF.out⟩
  obtain ⟨o1, o2, o3, o4⟩ := op_fit he
  rw [he] at HO
  rw [if_pos he] at hrE
  have HC : Hid (∀ v W, Below w.heap.size w W → SgAt All W v (opL t837 t.data.toList) → Calls Tryz.prog 30 #[v] W fun e w' => (∃ u, e = .returned (.tuple #[u, .int .i64 (rsE (opL t837 t.data.toList))]) ∧ Cm.ClsAt (fun b => W.heap.size ≤ b) w' u (rsV (opL t837 t.data.toList))) ∧ Below W.heap.size W w') := fun v W hW hv => ecls_any v _ W hv o1 o2 o3 (tab_grw HTb.out.1 hW) (Cm.tab_below HTb.out.2 hW) o4
  have HRY := Lib.hid (r_yes (s := t.data.toList))
  have HRN := Lib.hid (r_no (s := t.data.toList))
  obtain ⟨⟨da, db, dc⟩, hDD⟩ : ∃ DD, opD t837 t.data.toList = DD := ⟨_, rfl⟩
  rw [hDD] at HO HRY
  clear o1 o2 o3 o4 he hDD
  generalize opN t837 t.data.toList = N at *
  generalize rsE (opL t837 t.data.toList) = E at *
  generalize rsV (opL t837 t.data.toList) = CL at *
  generalize opL t837 t.data.toList = L at *
  have HO2 : Hid (Calls Tryz.prog 29 #[.string ⟨#[56, 51, 55]⟩, .string t] ((w.alloc D0).alloc B0) fun x w' => (∃ u, x = .returned (.tuple #[.agg #[.int .u8 da.toNat, .int .u8 db.toNat, .int .u8 dc.toNat], .int .i64 N, u, .int .i64 0]) ∧ SgAt All w' u L) ∧ Below ((w.alloc D0).alloc B0).heap.size ((w.alloc D0).alloc B0) w') := HO.out
  clear HO
  by_cases hE : E = 0
  case neg =>
    have HX := Lib.hid (And.intro hrE (HRN.out (by rw [hrE]; exact hE)))
    have hne : (E != 0) = true := by simpa using hE
    clear hrE hE
    go_enter Tryz.func13, Tryz.ntmps13
    go_wp2_with fail
    go_at_call 29
    refine HO2.out.mono ?_
    rintro x w1 ⟨⟨u, rfl, hu⟩, hb1⟩
    have HW1 := Lib.hid (HTw.out.grw hb1)
    have HB1 := Lib.hid (below_trans HB0.out hb1)
    have HU1 := Lib.hid hu
    obtain ⟨ua, uc, rfl, -, -, -⟩ := hu
    have hb2 := below_alloc w1 (.cells #[.int .u8 da.toNat, .int .u8 db.toNat, .int .u8 dc.toNat] 23)
    have HW2 := Lib.hid (HW1.out.grw hb2)
    have HB2 := Lib.hid (below_trans HB1.out hb2)
    have HU2 := Lib.hid (SgAt.move HU1.out (Below.moves hb2))
    have HD2 := Lib.hid (heap_alloc_new w1 (.cells #[.int .u8 da.toNat, .int .u8 db.toNat, .int .u8 dc.toNat] 23))
    have hw1 : w.heap.size + 1 < w1.heap.size := (Array.getElem?_eq_some_iff.1 HW1.out.2).1
    clear hb1 hb2 HU1 HW1 HB1
    go_upto_if 18 with fail
    generalize w1.alloc (.cells #[.int .u8 da.toNat, .int .u8 db.toNat, .int .u8 dc.toNat] 23) = w2 at *
    have HC2 := Lib.hid (HC.out _ _ HB2.out HU2.out)
    go_wp2_with fail
    go_at_call 30
    refine HC2.out.mono ?_
    rintro x w3 ⟨⟨u3, rfl, hc⟩, hb3⟩
    have HW3 := Lib.hid (HW2.out.grw hb3)
    have HB3 := Lib.hid (below_trans HB2.out hb3)
    have HD3 := Lib.hid (keepB HD2.out hb3)
    have HC3 := Lib.hid hc
    obtain ⟨ca, cc, rfl, -, -, -⟩ := hc
    have hz2 := HB2.out.size
    have hz1 := (Array.getElem?_eq_some_iff.1 HW2.out.2).1
    clear hb3
    obtain ⟨b0, b1, b2, b3, b4, b5⟩ := cells3 HW3.out.1
    obtain ⟨c0, c1, c2, c3⟩ := cells2 HW3.out.2
    go_wp2
    clear b0 b1 b2 b3 b4 b5 c0 c1 c2 c3
    have HBF : Hid (Below w.heap.size w (((((w3.setCell ⟨w.heap.size, 0, none⟩ (.int .u8 0)).setCell ⟨w.heap.size, 1, none⟩ (.int .u8 0)).setCell ⟨w.heap.size, 2, none⟩ (.int .u8 0)).setCell ⟨w.heap.size + 1, 0, none⟩ (.int .i64 0)).setCell ⟨w.heap.size + 1, 1, none⟩ (.slice none 0 0))) := put5_below HB3.out _ _ _ _ _
    have HZF := Lib.hid (put5_two HW3.out (.int .u8 0) (.int .u8 0) (.int .u8 0) (.int .i64 0) (.slice none 0 0))
    have HZ1 : Hid ((((((w3.setCell ⟨w.heap.size, 0, none⟩ (.int .u8 0)).setCell ⟨w.heap.size, 1, none⟩ (.int .u8 0)).setCell ⟨w.heap.size, 2, none⟩ (.int .u8 0)).setCell ⟨w.heap.size + 1, 0, none⟩ (.int .i64 0)).setCell ⟨w.heap.size + 1, 1, none⟩ (.slice none 0 0)).heap[w.heap.size]? = some (.cells #[.int .u8 0, .int .u8 0, .int .u8 0] 23 (0, 0))) := HZF.out.1
    have HZ2 : Hid ((((((w3.setCell ⟨w.heap.size, 0, none⟩ (.int .u8 0)).setCell ⟨w.heap.size, 1, none⟩ (.int .u8 0)).setCell ⟨w.heap.size, 2, none⟩ (.int .u8 0)).setCell ⟨w.heap.size + 1, 0, none⟩ (.int .i64 0)).setCell ⟨w.heap.size + 1, 1, none⟩ (.slice none 0 0)).heap[w.heap.size + 1]? = some (.cells #[.int .i64 0, .slice none 0 0] 26 (0, 0))) := HZF.out.2
    clear HZF
    generalize (((((w3.setCell ⟨w.heap.size, 0, none⟩ (.int .u8 0)).setCell ⟨w.heap.size, 1, none⟩ (.int .u8 0)).setCell ⟨w.heap.size, 2, none⟩ (.int .u8 0)).setCell ⟨w.heap.size + 1, 0, none⟩ (.int .i64 0)).setCell ⟨w.heap.size + 1, 1, none⟩ (.slice none 0 0)) = wz at *
    obtain ⟨e0, e1, e2, -⟩ := cells3 HZ1.out
    obtain ⟨g0, g1, -⟩ := cells2 HZ2.out
    refine bodyPost_ret (v := .tuple #[.agg #[.int .u8 0, .int .u8 0, .int .u8 0], .agg #[.int .i64 0, .slice none 0 0], .int .i64 E]) (by simp [results, Tryz.results13, go_sem, e0, e1, e2, g0, g1]) rfl ?_
    exact ⟨⟨.slice none 0 0, by rw [HX.out.1, HX.out.2.1, HX.out.2.2.1]; rfl, by rw [HX.out.2.2.2]; exact cls_nil _ _⟩, HBF.out⟩
  subst hE
  obtain ⟨y1, y2, y3⟩ := HRY.out hrE
  have HX := Lib.hid (And.intro hrE (And.intro y1 (And.intro y2 y3)))
  clear hrE y1 y2 y3
  go_enter Tryz.func13, Tryz.ntmps13
  go_wp2_with fail
  go_at_call 29
  refine HO2.out.mono ?_
  rintro x w1 ⟨⟨u, rfl, hu⟩, hb1⟩
  have HW1 := Lib.hid (HTw.out.grw hb1)
  have HB1 := Lib.hid (below_trans HB0.out hb1)
  have HU1 := Lib.hid hu
  obtain ⟨ua, uc, rfl, -, -, -⟩ := hu
  have hb2 := below_alloc w1 (.cells #[.int .u8 da.toNat, .int .u8 db.toNat, .int .u8 dc.toNat] 23)
  have HW2 := Lib.hid (HW1.out.grw hb2)
  have HB2 := Lib.hid (below_trans HB1.out hb2)
  have HU2 := Lib.hid (SgAt.move HU1.out (Below.moves hb2))
  have HD2 := Lib.hid (heap_alloc_new w1 (.cells #[.int .u8 da.toNat, .int .u8 db.toNat, .int .u8 dc.toNat] 23))
  have hw1 : w.heap.size + 1 < w1.heap.size := (Array.getElem?_eq_some_iff.1 HW1.out.2).1
  clear hb1 hb2 HU1 HW1 HB1
  go_upto_if 18 with fail
  generalize w1.alloc (.cells #[.int .u8 da.toNat, .int .u8 db.toNat, .int .u8 dc.toNat] 23) = w2 at *
  have HC2 := Lib.hid (HC.out _ _ HB2.out HU2.out)
  go_wp2_with fail
  go_at_call 30
  refine HC2.out.mono ?_
  rintro x w3 ⟨⟨u3, rfl, hc⟩, hb3⟩
  have HW3 := Lib.hid (HW2.out.grw hb3)
  have HB3 := Lib.hid (below_trans HB2.out hb3)
  have HD3 := Lib.hid (keepB HD2.out hb3)
  have HC3 := Lib.hid hc
  obtain ⟨ca, cc, rfl, -, -, -⟩ := hc
  have hz2 := HB2.out.size
  have hz1 := (Array.getElem?_eq_some_iff.1 HW2.out.2).1
  clear hb3
  obtain ⟨b0, b1, b2, b3, b4, b5⟩ := cells3 HW3.out.1
  obtain ⟨c0, c1, c2, c3⟩ := cells2 HW3.out.2
  obtain ⟨k0, k1, k2, -⟩ := cells3 HD3.out
  have nn : w1.heap.size ≠ w.heap.size := by omega
  have nn2 : w1.heap.size ≠ w.heap.size + 1 := by omega
  go_wp2
  clear b0 b1 b2 b3 b4 b5 c0 c1 c2 c3
  have HBF : Hid (Below w.heap.size w (((((w3.setCell ⟨w.heap.size, 0, none⟩ (.int .u8 da.toNat)).setCell ⟨w.heap.size, 1, none⟩ (.int .u8 db.toNat)).setCell ⟨w.heap.size, 2, none⟩ (.int .u8 dc.toNat)).setCell ⟨w.heap.size + 1, 0, none⟩ (.int .i64 N)).setCell ⟨w.heap.size + 1, 1, none⟩ (.slice ca CL.length cc))) := put5_below HB3.out _ _ _ _ _
  have HZF := Lib.hid (put5_two HW3.out (.int .u8 da.toNat) (.int .u8 db.toNat) (.int .u8 dc.toNat) (.int .i64 N) (.slice ca CL.length cc))
  have HZ1 : Hid ((((((w3.setCell ⟨w.heap.size, 0, none⟩ (.int .u8 da.toNat)).setCell ⟨w.heap.size, 1, none⟩ (.int .u8 db.toNat)).setCell ⟨w.heap.size, 2, none⟩ (.int .u8 dc.toNat)).setCell ⟨w.heap.size + 1, 0, none⟩ (.int .i64 N)).setCell ⟨w.heap.size + 1, 1, none⟩ (.slice ca CL.length cc)).heap[w.heap.size]? = some (.cells #[.int .u8 da.toNat, .int .u8 db.toNat, .int .u8 dc.toNat] 23 (0, 0))) := HZF.out.1
  have HZ2 : Hid ((((((w3.setCell ⟨w.heap.size, 0, none⟩ (.int .u8 da.toNat)).setCell ⟨w.heap.size, 1, none⟩ (.int .u8 db.toNat)).setCell ⟨w.heap.size, 2, none⟩ (.int .u8 dc.toNat)).setCell ⟨w.heap.size + 1, 0, none⟩ (.int .i64 N)).setCell ⟨w.heap.size + 1, 1, none⟩ (.slice ca CL.length cc)).heap[w.heap.size + 1]? = some (.cells #[.int .i64 N, .slice ca CL.length cc] 26 (0, 0))) := HZF.out.2
  clear HZF
  have HCF : Hid (Cm.ClsAt (fun b => w.heap.size ≤ b) (((((w3.setCell ⟨w.heap.size, 0, none⟩ (.int .u8 da.toNat)).setCell ⟨w.heap.size, 1, none⟩ (.int .u8 db.toNat)).setCell ⟨w.heap.size, 2, none⟩ (.int .u8 dc.toNat)).setCell ⟨w.heap.size + 1, 0, none⟩ (.int .i64 N)).setCell ⟨w.heap.size + 1, 1, none⟩ (.slice ca CL.length cc)) (.slice ca CL.length cc) CL) := Cm.ClsAt.move HC3.out (put5_moves (fun b hb => ⟨by have : w2.heap.size ≤ b := hb; omega, by have : w2.heap.size ≤ b := hb; omega, by have : w2.heap.size ≤ b := hb; omega⟩) _ _ _ _ _)
  generalize (((((w3.setCell ⟨w.heap.size, 0, none⟩ (.int .u8 da.toNat)).setCell ⟨w.heap.size, 1, none⟩ (.int .u8 db.toNat)).setCell ⟨w.heap.size, 2, none⟩ (.int .u8 dc.toNat)).setCell ⟨w.heap.size + 1, 0, none⟩ (.int .i64 N)).setCell ⟨w.heap.size + 1, 1, none⟩ (.slice ca CL.length cc)) = wz at *
  obtain ⟨e0, e1, e2, -⟩ := cells3 HZ1.out
  obtain ⟨g0, g1, -⟩ := cells2 HZ2.out
  refine bodyPost_ret (v := .tuple #[.agg #[.int .u8 da.toNat, .int .u8 db.toNat, .int .u8 dc.toNat], .agg #[.int .i64 N, .slice ca CL.length cc], .int .i64 0]) (by simp [results, Tryz.results13, go_sem, e0, e1, e2, g0, g1]) rfl ?_
  exact ⟨⟨.slice ca CL.length cc, by rw [HX.out.1, HX.out.2.1, HX.out.2.2.1]; rfl, by rw [HX.out.2.2.2]; exact HCF.out⟩, HBF.out⟩
end Go.Proofs.YtpmnepihaljamaaGreatDoor
end
