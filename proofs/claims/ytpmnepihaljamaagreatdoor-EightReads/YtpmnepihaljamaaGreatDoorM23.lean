/-
  Texts put together (merge.py): EHead.
-/
import Derived.Test.YtpmnepihaljamaaGreatDoorM22
/-
  What eight.readHead answers, as a contract. (Written by gen_head.py.)
-/
section
set_option linter.unusedSimpArgs false
set_option linter.unusedVariables false
set_option maxRecDepth 100000
namespace Go.Proofs.YtpmnepihaljamaaGreatDoor
open Go.RowKit
open Et
open Cm (Ln lnv ln0 Cl clv cl0)

theorem claim_cells {w : World} {b : Nat} {c0 c1 c2 c3 c4 c5 c6 : Value} {T : TypeId} (h : w.heap[b]? = some (.cells #[c0, c1, c2, c3, c4, c5, c6] T (0, 0))) : w.cell? ⟨b, 0, none⟩ = some c0 ∧ w.cell? ⟨b, 1, none⟩ = some c1 ∧ w.cell? ⟨b, 2, none⟩ = some c2 ∧ w.cell? ⟨b, 3, none⟩ = some c3 ∧ w.cell? ⟨b, 4, none⟩ = some c4 ∧ w.cell? ⟨b, 5, none⟩ = some c5 ∧ w.cell? ⟨b, 6, none⟩ = some c6 := by
  refine ⟨?_, ?_, ?_, ?_, ?_, ?_, ?_⟩ <;> rw [cell_of_row w b _ _ T (0, 0) h] <;> rfl
theorem claim_frozen {w : World} {b : Nat} {c0 c1 c2 c3 c4 c5 c6 : Value} {T : TypeId} (h : w.heap[b]? = some (.cells #[c0, c1, c2, c3, c4, c5, c6] T (0, 0))) : w.frozen? ⟨b, 0, none⟩ = false ∧ w.frozen? ⟨b, 1, none⟩ = false ∧ w.frozen? ⟨b, 2, none⟩ = false ∧ w.frozen? ⟨b, 3, none⟩ = false ∧ w.frozen? ⟨b, 4, none⟩ = false ∧ w.frozen? ⟨b, 5, none⟩ = false ∧ w.frozen? ⟨b, 6, none⟩ = false :=
  ⟨Lib.frozen_of_heap h 0, Lib.frozen_of_heap h 1, Lib.frozen_of_heap h 2, Lib.frozen_of_heap h 3, Lib.frozen_of_heap h 4, Lib.frozen_of_heap h 5, Lib.frozen_of_heap h 6⟩
abbrev put7 (W : World) (b : Nat) (a0 a1 a2 a3 a4 a5 a6 : Value) : World := (((((((W.setCell ⟨b, 0, none⟩ a0).setCell ⟨b, 1, none⟩ a1).setCell ⟨b, 2, none⟩ a2).setCell ⟨b, 3, none⟩ a3).setCell ⟨b, 4, none⟩ a4).setCell ⟨b, 5, none⟩ a5).setCell ⟨b, 6, none⟩ a6)
theorem put7_below {B : Nat} {w W : World} (h : Below B w W) (b : Nat) (hb : B ≤ b) (a0 a1 a2 a3 a4 a5 a6 : Value) : Below B w (put7 W b a0 a1 a2 a3 a4 a5 a6) :=
  (put6_below h b hb a0 a1 a2 a3 a4 a5).setCell (p := ⟨b, 6, none⟩) hb a6
theorem put7_heap {W : World} {b : Nat} {c0 c1 c2 c3 c4 c5 c6 a0 a1 a2 a3 a4 a5 a6 : Value} {T : TypeId} (h : W.heap[b]? = some (.cells #[c0, c1, c2, c3, c4, c5, c6] T (0, 0))) : (put7 W b a0 a1 a2 a3 a4 a5 a6).heap[b]? = some (.cells #[a0, a1, a2, a3, a4, a5, a6] T (0, 0)) := by
  have h0 : (W.setCell ⟨b, 0, none⟩ a0).heap[b]? = some (.cells #[a0, c1, c2, c3, c4, c5, c6] T (0, 0)) := by rw [heap_set h]; rfl
  have h1 : ((W.setCell ⟨b, 0, none⟩ a0).setCell ⟨b, 1, none⟩ a1).heap[b]? = some (.cells #[a0, a1, c2, c3, c4, c5, c6] T (0, 0)) := by rw [heap_set h0]; rfl
  have h2 : (((W.setCell ⟨b, 0, none⟩ a0).setCell ⟨b, 1, none⟩ a1).setCell ⟨b, 2, none⟩ a2).heap[b]? = some (.cells #[a0, a1, a2, c3, c4, c5, c6] T (0, 0)) := by rw [heap_set h1]; rfl
  have h3 : ((((W.setCell ⟨b, 0, none⟩ a0).setCell ⟨b, 1, none⟩ a1).setCell ⟨b, 2, none⟩ a2).setCell ⟨b, 3, none⟩ a3).heap[b]? = some (.cells #[a0, a1, a2, a3, c4, c5, c6] T (0, 0)) := by rw [heap_set h2]; rfl
  have h4 : (((((W.setCell ⟨b, 0, none⟩ a0).setCell ⟨b, 1, none⟩ a1).setCell ⟨b, 2, none⟩ a2).setCell ⟨b, 3, none⟩ a3).setCell ⟨b, 4, none⟩ a4).heap[b]? = some (.cells #[a0, a1, a2, a3, a4, c5, c6] T (0, 0)) := by rw [heap_set h3]; rfl
  have h5 : ((((((W.setCell ⟨b, 0, none⟩ a0).setCell ⟨b, 1, none⟩ a1).setCell ⟨b, 2, none⟩ a2).setCell ⟨b, 3, none⟩ a3).setCell ⟨b, 4, none⟩ a4).setCell ⟨b, 5, none⟩ a5).heap[b]? = some (.cells #[a0, a1, a2, a3, a4, a5, c6] T (0, 0)) := by rw [heap_set h4]; rfl
  rw [heap_set h5]; rfl
theorem put7_cell {W : World} {b o q : Nat} {v a0 a1 a2 a3 a4 a5 a6 : Value} (h : W.cell? ⟨b, o, none⟩ = some v) (hne : b ≠ q) : (put7 W q a0 a1 a2 a3 a4 a5 a6).cell? ⟨b, o, none⟩ = some v := cell_far (put6_cell h hne) hne
def hdV (l : List Sg) : Cl := if hdE l = 0 then hdC l else cl0
def hdM (l : List Sg) : Int := if hdE l = 0 then hdT l else 0
def hdR (l : List Sg) : List Sg := if hdE l = 0 then l.tail.tail else []
theorem hd_bad {l : List Sg} {e : Int} (h : hdE l = e) (h0 : e ≠ 0) : hdE l = e ∧ hdV l = cl0 ∧ hdM l = 0 ∧ hdR l = [] := by
  have : ¬ hdE l = 0 := by rw [h]; exact h0
  exact ⟨h, by unfold hdV; rw [if_neg this], by unfold hdM; rw [if_neg this], by unfold hdR; rw [if_neg this]⟩
theorem hd_good {l : List Sg} (h : hdE l = 0) : hdE l = 0 ∧ hdV l = hdC l ∧ hdM l = hdT l ∧ hdR l = l.tail.tail := ⟨h, by unfold hdV; rw [if_pos h], by unfold hdM; rw [if_pos h], by unfold hdR; rw [if_pos h]⟩
theorem hd_no1 {l : List Sg} (h : txB l tNM 2 = false) : hdE l = 4 := by unfold hdE hdOk; rw [h]; rfl
theorem hd_no2 {l : List Sg} (h : txB l.tail tCLM 5 = false) : hdE l = 4 := by unfold hdE hdOk; rw [h, Bool.and_false]; rfl
theorem hd_mn {l : List Sg} (h1 : txB l tNM 2 = true) (h2 : txB l.tail tCLM 5 = true) (h3 : Nu.mnE (tx l.tail 2) ≠ 0) : hdE l = Nu.mnE (tx l.tail 2) := by unfold hdE hdOk; rw [h1, h2]; simp [h3]
theorem hd_n {l : List Sg} (h1 : txB l tNM 2 = true) (h2 : txB l.tail tCLM 5 = true) (h3 : Nu.mnE (tx l.tail 2) = 0) (h4 : Nu.riE (tx l.tail 3) 1 = 4) : hdE l = 4 := by unfold hdE hdOk; rw [h1, h2]; simp [h3, h4]
theorem hd_d {l : List Sg} (h1 : txB l tNM 2 = true) (h2 : txB l.tail tCLM 5 = true) (h3 : Nu.mnE (tx l.tail 2) = 0) (h4 : Nu.riE (tx l.tail 3) 1 = 0) (h5 : Nu.riE (tx l.tail 4) 1 = 4) : hdE l = 4 := by unfold hdE hdOk; rw [h1, h2]; simp [h3, h4, h5]
theorem hd_ok {l : List Sg} (h1 : txB l tNM 2 = true) (h2 : txB l.tail tCLM 5 = true) (h3 : Nu.mnE (tx l.tail 2) = 0) (h4 : Nu.riE (tx l.tail 3) 1 = 0) (h5 : Nu.riE (tx l.tail 4) 1 = 0) : hdE l = 0 := by unfold hdE hdOk; rw [h1, h2]; simp [h3, h4, h5]

set_option maxHeartbeats 8000000 in
theorem ehead_any (K : Nat → Prop) (v : Value) (l : List Sg) (w : World) (hK : SgAt K w v l) (hn : Nm l) (hs : Sh l) :
    Calls Tryz.prog 102 #[v] w fun e w' => (∃ u, e = .returned (.tuple #[clv (hdV l) (.slice none 0 0), .int .i64 (hdM l), u, .int .i64 (hdE l)]) ∧ SgAt K w' u (hdR l)) ∧ Below w.heap.size w w' := by
  have h : SgAt All w v l := SgAt.move hK (moves_weak _ fun _ _ _ => trivial)
  have HSK := Lib.hid fun W (hW : Below w.heap.size w W) => SgAt.move hK (Below.movesK K hW)
  clear hK
  have HT1 := Lib.hid (etexts_new v l tNM 2 (w.alloc (.cells #[.string ByteArray.empty, .string ByteArray.empty, .string ByteArray.empty, .int .i64 0, .int .i64 0, .string ByteArray.empty, .slice none 0 0] 43)) (SgAt.move h (Below.moves (below_alloc w _))) hn (by omega) (by omega))
  cases hA : txB l tNM 2
  · have HX := Lib.hid (hd_bad (hd_no1 hA) (by decide))
    rw [hA] at HT1
    obtain ⟨va, vc, rfl, -, -, -⟩ := h
    clear hA hn hs HSK
    go_enter Tryz.func102, Tryz.ntmps102
    go_wp2_with fail
    go_at_call 63
    refine (HT1.out).mono ?_
    rintro x w1 ⟨⟨u1, rfl, ht1⟩, hb1⟩
    have HB1 := Lib.hid (below_trans (below_alloc w _) hb1)
    have HZ1 := Lib.hid (keepB (heap_alloc_new w (.cells #[.string ByteArray.empty, .string ByteArray.empty, .string ByteArray.empty, .int .i64 0, .int .i64 0, .string ByteArray.empty, .slice none 0 0] 43)) hb1)
    obtain ⟨a1, c1, rfl, -, -⟩ := Cm.TxAt.form ht1
    clear hb1 ht1
    obtain ⟨d0, d1, d2, d3, d4, d5, d6⟩ := claim_cells HZ1.out
    obtain ⟨f0, f1, f2, f3, f4, f5, f6⟩ := claim_frozen HZ1.out
    go_wp2
    refine bodyPost_ret (v := .tuple #[clv cl0 (.slice none 0 0), .int .i64 0, .slice none 0 0, .int .i64 4]) (by simp [results, Tryz.results102, go_sem, d0, d1, d2, d3, d4, d5, d6]; first | done | exact ⟨rfl, rfl, rfl, rfl, rfl, rfl⟩) rfl ?_
    exact ⟨⟨.slice none 0 0, by rw [HX.out.1, HX.out.2.1, HX.out.2.2.1], by rw [HX.out.2.2.2]; exact SgAt.nil _ _⟩, put7_below HB1.out w.heap.size (Nat.le_refl _) _ _ _ _ _ _ _⟩
  obtain ⟨pp, na, nb, r, rfl, -⟩ := tx2_form hA
  rw [hA, txv2 hA] at HT1
  have HA := Lib.hid hA
  obtain ⟨b, o, c, u0, rfl, p1, p2, -, -⟩ := sg_open h
  have HNm := Lib.hid hn.tail
  have HSh := Lib.hid hs.tail
  rw [List.tail_cons] at HNm HSh
  have HT1' : Hid (Calls Tryz.prog 63 #[.slice (some ⟨b, o, none⟩) (r.length + 1) c, .string ⟨#[78, 77]⟩, .int .i64 2] (w.alloc (.cells #[.string ByteArray.empty, .string ByteArray.empty, .string ByteArray.empty, .int .i64 0, .int .i64 0, .string ByteArray.empty, .slice none 0 0] 43)) fun e w' => (∃ u, e = .returned (.tuple #[u, .bool true]) ∧ TxAt (fun b => (w.alloc (.cells #[.string ByteArray.empty, .string ByteArray.empty, .string ByteArray.empty, .int .i64 0, .int .i64 0, .string ByteArray.empty, .slice none 0 0] 43)).heap.size ≤ b) w' u [na, nb]) ∧ Below (w.alloc (.cells #[.string ByteArray.empty, .string ByteArray.empty, .string ByteArray.empty, .int .i64 0, .int .i64 0, .string ByteArray.empty, .slice none 0 0] 43)).heap.size (w.alloc (.cells #[.string ByteArray.empty, .string ByteArray.empty, .string ByteArray.empty, .int .i64 0, .int .i64 0, .string ByteArray.empty, .slice none 0 0] 43)) w') := HT1.out
  clear HT1
  have HT1 := HT1'
  clear HT1'
  have HSA := Lib.hid fun W (hW : Below w.heap.size w W) => SgAt.move h (Below.moves hW)
  cases hB : txB r tCLM 5
  · have HX := Lib.hid (hd_bad (hd_no2 (show txB ([pp, [na], [nb]] :: r).tail tCLM 5 = false from hB)) (by decide))
    by_cases hc : c = 1
    · have hr0 : r.length = 0 := by omega
      have HT2 : Hid (∀ W, Below w.heap.size w W → Calls Tryz.prog 63 #[.slice (some ⟨b, o, none⟩) 0 0, .string ⟨#[67, 76, 77]⟩, .int .i64 5] W fun e w' => (∃ u, e = .returned (.tuple #[u, .bool false]) ∧ TxAt (fun b => W.heap.size ≤ b) w' u (txV r tCLM 5)) ∧ Below W.heap.size W w') := fun W hW => by
        have := etexts_new (.slice (some ⟨b, o, none⟩) 0 0) r tCLM 5 W (by rw [List.length_eq_zero_iff.1 hr0]; exact RowAt.nil_of (by simp [maxLen])) HNm.out (by omega) (by omega)
        rw [hB] at this
        exact this
      subst hc
      clear hA hn hs HSK HSA h hB
      rw [hr0] at HT1 p1 ⊢
      go_enter Tryz.func102, Tryz.ntmps102
      go_wp2_with fail
      go_at_call 63
      refine (HT1.out).mono ?_
      rintro x w1 ⟨⟨u1, rfl, ht1⟩, hb1⟩
      have HB1 := Lib.hid (below_trans (below_alloc w _) hb1)
      have HZ1 := Lib.hid (keepB (heap_alloc_new w (.cells #[.string ByteArray.empty, .string ByteArray.empty, .string ByteArray.empty, .int .i64 0, .int .i64 0, .string ByteArray.empty, .slice none 0 0] 43)) hb1)
      obtain ⟨bw, ow, cw, rfl, hKw, gw1, gw3, hcw⟩ := tx_opnK ht1 (by simp)
      have k0 := hcw 0 na rfl
      have k1 := hcw 1 nb rfl
      rw [Nat.add_zero] at k0
      clear hb1 ht1 hcw
      go_wp2_with fail
      go_at_call 63
      refine (HT2.out _ HB1.out).mono ?_
      rintro x w2 ⟨⟨u2, rfl, ht2⟩, hb2⟩
      have HW2 := Lib.hid hb2
      have HB2 := Lib.hid (below_trans HB1.out hb2)
      have HZ2 := Lib.hid (keepB HZ1.out hb2)
      obtain ⟨a2, c2, rfl, -, -⟩ := Cm.TxAt.form ht2
      clear hb2 ht2
      obtain ⟨d0, d1, d2, d3, d4, d5, d6⟩ := claim_cells HZ2.out
      obtain ⟨f0, f1, f2, f3, f4, f5, f6⟩ := claim_frozen HZ2.out
      go_wp2
      refine bodyPost_ret (v := .tuple #[clv cl0 (.slice none 0 0), .int .i64 0, .slice none 0 0, .int .i64 4]) (by simp [results, Tryz.results102, go_sem, d0, d1, d2, d3, d4, d5, d6]; first | done | exact ⟨rfl, rfl, rfl, rfl, rfl, rfl⟩) rfl ?_
      exact ⟨⟨.slice none 0 0, by rw [HX.out.1, HX.out.2.1, HX.out.2.2.1], by rw [HX.out.2.2.2]; exact SgAt.nil _ _⟩, put7_below HB2.out w.heap.size (Nat.le_refl _) _ _ _ _ _ _ _⟩
    · have HT2 : Hid (∀ W, Below w.heap.size w W → Calls Tryz.prog 63 #[.slice (some ⟨b, o + 1, none⟩) r.length (c - 1), .string ⟨#[67, 76, 77]⟩, .int .i64 5] W fun e w' => (∃ u, e = .returned (.tuple #[u, .bool false]) ∧ TxAt (fun b => W.heap.size ≤ b) w' u (txV r tCLM 5)) ∧ Below W.heap.size W w') := fun W hW => by
        have := etexts_new _ r tCLM 5 W (RowAt.tail (HSA.out W hW)) HNm.out (by omega) (by omega)
        rw [hB] at this
        exact this
      clear hA hn hs HSK HSA h hB
      go_enter Tryz.func102, Tryz.ntmps102
      go_wp2_with fail
      go_at_call 63
      refine (HT1.out).mono ?_
      rintro x w1 ⟨⟨u1, rfl, ht1⟩, hb1⟩
      have HB1 := Lib.hid (below_trans (below_alloc w _) hb1)
      have HZ1 := Lib.hid (keepB (heap_alloc_new w (.cells #[.string ByteArray.empty, .string ByteArray.empty, .string ByteArray.empty, .int .i64 0, .int .i64 0, .string ByteArray.empty, .slice none 0 0] 43)) hb1)
      obtain ⟨bw, ow, cw, rfl, hKw, gw1, gw3, hcw⟩ := tx_opnK ht1 (by simp)
      have k0 := hcw 0 na rfl
      have k1 := hcw 1 nb rfl
      rw [Nat.add_zero] at k0
      clear hb1 ht1 hcw
      go_wp2_with fail
      go_at_call 63
      refine (HT2.out _ HB1.out).mono ?_
      rintro x w2 ⟨⟨u2, rfl, ht2⟩, hb2⟩
      have HW2 := Lib.hid hb2
      have HB2 := Lib.hid (below_trans HB1.out hb2)
      have HZ2 := Lib.hid (keepB HZ1.out hb2)
      obtain ⟨a2, c2, rfl, -, -⟩ := Cm.TxAt.form ht2
      clear hb2 ht2
      obtain ⟨d0, d1, d2, d3, d4, d5, d6⟩ := claim_cells HZ2.out
      obtain ⟨f0, f1, f2, f3, f4, f5, f6⟩ := claim_frozen HZ2.out
      go_wp2
      refine bodyPost_ret (v := .tuple #[clv cl0 (.slice none 0 0), .int .i64 0, .slice none 0 0, .int .i64 4]) (by simp [results, Tryz.results102, go_sem, d0, d1, d2, d3, d4, d5, d6]; first | done | exact ⟨rfl, rfl, rfl, rfl, rfl, rfl⟩) rfl ?_
      exact ⟨⟨.slice none 0 0, by rw [HX.out.1, HX.out.2.1, HX.out.2.2.1], by rw [HX.out.2.2.2]; exact SgAt.nil _ _⟩, put7_below HB2.out w.heap.size (Nat.le_refl _) _ _ _ _ _ _ _⟩
  obtain ⟨pq, m1, m2, m3, m4, m5, r2, rfl, -⟩ := tx5_form hB
  have HBb := Lib.hid hB
  have hlen : r2.length + 2 ≤ c := by simp at p1; omega
  have hcc : ¬ c = 1 := by omega
  have HT2 : Hid (∀ W, Below w.heap.size w W → Calls Tryz.prog 63 #[.slice (some ⟨b, o + 1, none⟩) (r2.length + 1) (c - 1), .string ⟨#[67, 76, 77]⟩, .int .i64 5] W fun e w' => (∃ u, e = .returned (.tuple #[u, .bool true]) ∧ TxAt (fun b => W.heap.size ≤ b) w' u [m1, m2, m3, m4, m5]) ∧ Below W.heap.size W w') := fun W hW => by
    have := etexts_new _ ([pq, [m1], [m2], [m3], [m4], [m5]] :: r2) tCLM 5 W (RowAt.tail (HSA.out W hW)) HNm.out (by omega) (by omega)
    rw [hB, txv5 hB] at this
    exact this
  simp only [List.length_cons] at HT1 ⊢
  have HMn := Lib.hid fun W => readMoney_l m2 W (HSh.out.tx 2)
  have HI3 : Hid (∀ W, Calls Tryz.prog 64 #[.string (mk m3), .int .i64 1] W fun e w' => e = .returned (.tuple #[.int .i64 (Nu.riV m3 1), .int .i64 (Nu.riE m3 1)]) ∧ w' = W) := fun W => Nu.readInt_list m3 1 W (by have := HSh.out.tx 3; unfold maxLen; exact Nat.le_trans this (by omega))
  have HI4 : Hid (∀ W, Calls Tryz.prog 64 #[.string (mk m4), .int .i64 1] W fun e w' => e = .returned (.tuple #[.int .i64 (Nu.riV m4 1), .int .i64 (Nu.riE m4 1)]) ∧ w' = W) := fun W => Nu.readInt_list m4 1 W (by have := HSh.out.tx 4; unfold maxLen; exact Nat.le_trans this (by omega))
  have HSf0 : Hid (∀ W, Below w.heap.size w W → SgAt K W (.slice (some ⟨b, o + 1 + 1, none⟩) r2.length (c - 1 - 1)) r2) := fun W hW => RowAt.tail (RowAt.tail (HSK.out W hW))
  clear hn hs HSK HSA h p1 hA hB
  rcases mn_e m2 with e0 | e8
  case inr =>
    have HX := Lib.hid (hd_bad ((hd_mn HA.out HBb.out (show Nu.mnE m2 ≠ 0 by rw [e8]; decide)).trans (show Nu.mnE m2 = 8 from e8)) (by decide))
    rw [e8] at HMn
    clear e8
    generalize Nu.mnV m2 = M at *
    go_enter Tryz.func102, Tryz.ntmps102
    go_wp2_with fail
    go_at_call 63
    refine (HT1.out).mono ?_
    rintro x w1 ⟨⟨u1, rfl, ht1⟩, hb1⟩
    have HB1 := Lib.hid (below_trans (below_alloc w _) hb1)
    have HZ1 := Lib.hid (keepB (heap_alloc_new w (.cells #[.string ByteArray.empty, .string ByteArray.empty, .string ByteArray.empty, .int .i64 0, .int .i64 0, .string ByteArray.empty, .slice none 0 0] 43)) hb1)
    obtain ⟨bw, ow, cw, rfl, hKw, gw1, gw3, hcw⟩ := tx_opnK ht1 (by simp)
    have k0 := hcw 0 na rfl
    have k1 := hcw 1 nb rfl
    rw [Nat.add_zero] at k0
    clear hb1 ht1 hcw
    go_wp2_with fail
    go_at_call 63
    refine (HT2.out _ HB1.out).mono ?_
    rintro x w2 ⟨⟨u2, rfl, ht2⟩, hb2⟩
    have HW2 := Lib.hid hb2
    have HB2 := Lib.hid (below_trans HB1.out hb2)
    have HZ2 := Lib.hid (keepB HZ1.out hb2)
    have k0' := keepC k0 hb2
    have k1' := keepC k1 hb2
    obtain ⟨bt, ot, ct, rfl, hKt, gt1, gt3, hct⟩ := tx_opnK ht2 (by simp)
    have t0 := hct 0 m1 rfl
    have t1 := hct 1 m2 rfl
    have t2 := hct 2 m3 rfl
    have t3 := hct 3 m4 rfl
    have t4 := hct 4 m5 rfl
    rw [Nat.add_zero] at t0
    clear hb2 ht2 hct k0 k1
    go_wp2_with fail
    go_at_call 127
    refine (HMn.out _).mono ?_
    rintro x w3 ⟨rfl, hb3⟩
    have HB3 := Lib.hid (below_trans HB2.out hb3)
    have HZ3 := Lib.hid (keepB HZ2.out hb3)
    have k0'' := keepC k0' hb3
    have k1'' := keepC k1' hb3
    have q0 := keepC t0 hb3
    have q2 := keepC t2 hb3
    have q3 := keepC t3 hb3
    have q4 := keepC t4 hb3
    clear hb3 k0' k1' t0 t1 t2 t3 t4
    obtain ⟨d0, d1, d2, d3, d4, d5, d6⟩ := claim_cells HZ3.out
    obtain ⟨f0, f1, f2, f3, f4, f5, f6⟩ := claim_frozen HZ3.out
    go_wp2
    refine bodyPost_ret (v := .tuple #[clv cl0 (.slice none 0 0), .int .i64 0, .slice none 0 0, .int .i64 8]) (by simp [results, Tryz.results102, go_sem, d0, d1, d2, d3, d4, d5, d6]; first | done | exact ⟨rfl, rfl, rfl, rfl, rfl, rfl⟩) rfl ?_
    exact ⟨⟨.slice none 0 0, by rw [HX.out.1, HX.out.2.1, HX.out.2.2.1], by rw [HX.out.2.2.2]; exact SgAt.nil _ _⟩, put7_below HB3.out w.heap.size (Nat.le_refl _) _ _ _ _ _ _ _⟩
  rcases ri_e m3 1 with e3 | e3
  case inr =>
    have HX := Lib.hid (hd_bad (hd_n HA.out HBb.out (show Nu.mnE m2 = 0 from e0) (show Nu.riE m3 1 = 4 from e3)) (by decide))
    rw [e0] at HMn
    rw [e3] at HI3
    clear e0 e3
    generalize Nu.mnV m2 = M at *
    generalize Nu.riV m3 1 = N at *
    go_enter Tryz.func102, Tryz.ntmps102
    go_wp2_with fail
    go_at_call 63
    refine (HT1.out).mono ?_
    rintro x w1 ⟨⟨u1, rfl, ht1⟩, hb1⟩
    have HB1 := Lib.hid (below_trans (below_alloc w _) hb1)
    have HZ1 := Lib.hid (keepB (heap_alloc_new w (.cells #[.string ByteArray.empty, .string ByteArray.empty, .string ByteArray.empty, .int .i64 0, .int .i64 0, .string ByteArray.empty, .slice none 0 0] 43)) hb1)
    obtain ⟨bw, ow, cw, rfl, hKw, gw1, gw3, hcw⟩ := tx_opnK ht1 (by simp)
    have k0 := hcw 0 na rfl
    have k1 := hcw 1 nb rfl
    rw [Nat.add_zero] at k0
    clear hb1 ht1 hcw
    go_wp2_with fail
    go_at_call 63
    refine (HT2.out _ HB1.out).mono ?_
    rintro x w2 ⟨⟨u2, rfl, ht2⟩, hb2⟩
    have HW2 := Lib.hid hb2
    have HB2 := Lib.hid (below_trans HB1.out hb2)
    have HZ2 := Lib.hid (keepB HZ1.out hb2)
    have k0' := keepC k0 hb2
    have k1' := keepC k1 hb2
    obtain ⟨bt, ot, ct, rfl, hKt, gt1, gt3, hct⟩ := tx_opnK ht2 (by simp)
    have t0 := hct 0 m1 rfl
    have t1 := hct 1 m2 rfl
    have t2 := hct 2 m3 rfl
    have t3 := hct 3 m4 rfl
    have t4 := hct 4 m5 rfl
    rw [Nat.add_zero] at t0
    clear hb2 ht2 hct k0 k1
    go_wp2_with fail
    go_at_call 127
    refine (HMn.out _).mono ?_
    rintro x w3 ⟨rfl, hb3⟩
    have HB3 := Lib.hid (below_trans HB2.out hb3)
    have HZ3 := Lib.hid (keepB HZ2.out hb3)
    have k0'' := keepC k0' hb3
    have k1'' := keepC k1' hb3
    have q0 := keepC t0 hb3
    have q2 := keepC t2 hb3
    have q3 := keepC t3 hb3
    have q4 := keepC t4 hb3
    clear hb3 k0' k1' t0 t1 t2 t3 t4
    go_wp2_with fail
    go_at_call 64
    refine (HI3.out _).mono ?_
    rintro x w4 ⟨rfl, hw4⟩
    subst hw4
    obtain ⟨d0, d1, d2, d3, d4, d5, d6⟩ := claim_cells HZ3.out
    obtain ⟨f0, f1, f2, f3, f4, f5, f6⟩ := claim_frozen HZ3.out
    go_wp2
    refine bodyPost_ret (v := .tuple #[clv cl0 (.slice none 0 0), .int .i64 0, .slice none 0 0, .int .i64 4]) (by simp [results, Tryz.results102, go_sem, d0, d1, d2, d3, d4, d5, d6]; first | done | exact ⟨rfl, rfl, rfl, rfl, rfl, rfl⟩) rfl ?_
    exact ⟨⟨.slice none 0 0, by rw [HX.out.1, HX.out.2.1, HX.out.2.2.1], by rw [HX.out.2.2.2]; exact SgAt.nil _ _⟩, put7_below HB3.out w.heap.size (Nat.le_refl _) _ _ _ _ _ _ _⟩
  rcases ri_e m4 1 with e4 | e4
  case inr =>
    have HX := Lib.hid (hd_bad (hd_d HA.out HBb.out (show Nu.mnE m2 = 0 from e0) (show Nu.riE m3 1 = 0 from e3) (show Nu.riE m4 1 = 4 from e4)) (by decide))
    rw [e0] at HMn
    rw [e3] at HI3
    rw [e4] at HI4
    clear e0 e3 e4
    generalize Nu.mnV m2 = M at *
    generalize Nu.riV m3 1 = N at *
    generalize Nu.riV m4 1 = P at *
    go_enter Tryz.func102, Tryz.ntmps102
    go_wp2_with fail
    go_at_call 63
    refine (HT1.out).mono ?_
    rintro x w1 ⟨⟨u1, rfl, ht1⟩, hb1⟩
    have HB1 := Lib.hid (below_trans (below_alloc w _) hb1)
    have HZ1 := Lib.hid (keepB (heap_alloc_new w (.cells #[.string ByteArray.empty, .string ByteArray.empty, .string ByteArray.empty, .int .i64 0, .int .i64 0, .string ByteArray.empty, .slice none 0 0] 43)) hb1)
    obtain ⟨bw, ow, cw, rfl, hKw, gw1, gw3, hcw⟩ := tx_opnK ht1 (by simp)
    have k0 := hcw 0 na rfl
    have k1 := hcw 1 nb rfl
    rw [Nat.add_zero] at k0
    clear hb1 ht1 hcw
    go_wp2_with fail
    go_at_call 63
    refine (HT2.out _ HB1.out).mono ?_
    rintro x w2 ⟨⟨u2, rfl, ht2⟩, hb2⟩
    have HW2 := Lib.hid hb2
    have HB2 := Lib.hid (below_trans HB1.out hb2)
    have HZ2 := Lib.hid (keepB HZ1.out hb2)
    have k0' := keepC k0 hb2
    have k1' := keepC k1 hb2
    obtain ⟨bt, ot, ct, rfl, hKt, gt1, gt3, hct⟩ := tx_opnK ht2 (by simp)
    have t0 := hct 0 m1 rfl
    have t1 := hct 1 m2 rfl
    have t2 := hct 2 m3 rfl
    have t3 := hct 3 m4 rfl
    have t4 := hct 4 m5 rfl
    rw [Nat.add_zero] at t0
    clear hb2 ht2 hct k0 k1
    go_wp2_with fail
    go_at_call 127
    refine (HMn.out _).mono ?_
    rintro x w3 ⟨rfl, hb3⟩
    have HB3 := Lib.hid (below_trans HB2.out hb3)
    have HZ3 := Lib.hid (keepB HZ2.out hb3)
    have k0'' := keepC k0' hb3
    have k1'' := keepC k1' hb3
    have q0 := keepC t0 hb3
    have q2 := keepC t2 hb3
    have q3 := keepC t3 hb3
    have q4 := keepC t4 hb3
    clear hb3 k0' k1' t0 t1 t2 t3 t4
    go_wp2_with fail
    go_at_call 64
    refine (HI3.out _).mono ?_
    rintro x w4 ⟨rfl, hw4⟩
    subst hw4
    go_wp2_with fail
    go_at_call 64
    refine (HI4.out _).mono ?_
    rintro x w5 ⟨rfl, hw5⟩
    subst hw5
    obtain ⟨d0, d1, d2, d3, d4, d5, d6⟩ := claim_cells HZ3.out
    obtain ⟨f0, f1, f2, f3, f4, f5, f6⟩ := claim_frozen HZ3.out
    go_wp2
    refine bodyPost_ret (v := .tuple #[clv cl0 (.slice none 0 0), .int .i64 0, .slice none 0 0, .int .i64 4]) (by simp [results, Tryz.results102, go_sem, d0, d1, d2, d3, d4, d5, d6]; first | done | exact ⟨rfl, rfl, rfl, rfl, rfl, rfl⟩) rfl ?_
    exact ⟨⟨.slice none 0 0, by rw [HX.out.1, HX.out.2.1, HX.out.2.2.1], by rw [HX.out.2.2.2]; exact SgAt.nil _ _⟩, put7_below HB3.out w.heap.size (Nat.le_refl _) _ _ _ _ _ _ _⟩
  have HX : Hid (hdE ([pp, [na], [nb]] :: [pq, [m1], [m2], [m3], [m4], [m5]] :: r2) = 0 ∧ hdV ([pp, [na], [nb]] :: [pq, [m1], [m2], [m3], [m4], [m5]] :: r2) = ⟨m1, na, nb, Nu.riV m3 1, Nu.riV m4 1, m5, []⟩ ∧ hdM ([pp, [na], [nb]] :: [pq, [m1], [m2], [m3], [m4], [m5]] :: r2) = Nu.mnV m2 ∧ hdR ([pp, [na], [nb]] :: [pq, [m1], [m2], [m3], [m4], [m5]] :: r2) = r2) := hd_good (hd_ok HA.out HBb.out (show Nu.mnE m2 = 0 from e0) (show Nu.riE m3 1 = 0 from e3) (show Nu.riE m4 1 = 0 from e4))
  rw [e0] at HMn
  rw [e3] at HI3
  rw [e4] at HI4
  clear e0 e3 e4
  generalize Nu.mnV m2 = M at *
  generalize Nu.riV m3 1 = N at *
  generalize Nu.riV m4 1 = P at *
  have HC2 := Lib.hid (And.intro hcc hlen)
  go_enter Tryz.func102, Tryz.ntmps102
  go_wp2_with fail
  go_at_call 63
  refine (HT1.out).mono ?_
  rintro x w1 ⟨⟨u1, rfl, ht1⟩, hb1⟩
  have HB1 := Lib.hid (below_trans (below_alloc w _) hb1)
  have HZ1 := Lib.hid (keepB (heap_alloc_new w (.cells #[.string ByteArray.empty, .string ByteArray.empty, .string ByteArray.empty, .int .i64 0, .int .i64 0, .string ByteArray.empty, .slice none 0 0] 43)) hb1)
  obtain ⟨bw, ow, cw, rfl, hKw, gw1, gw3, hcw⟩ := tx_opnK ht1 (by simp)
  have k0 := hcw 0 na rfl
  have k1 := hcw 1 nb rfl
  rw [Nat.add_zero] at k0
  clear hb1 ht1 hcw
  go_wp2_with fail
  go_at_call 63
  refine (HT2.out _ HB1.out).mono ?_
  rintro x w2 ⟨⟨u2, rfl, ht2⟩, hb2⟩
  have HW2 := Lib.hid hb2
  have HB2 := Lib.hid (below_trans HB1.out hb2)
  have HZ2 := Lib.hid (keepB HZ1.out hb2)
  have k0' := keepC k0 hb2
  have k1' := keepC k1 hb2
  obtain ⟨bt, ot, ct, rfl, hKt, gt1, gt3, hct⟩ := tx_opnK ht2 (by simp)
  have t0 := hct 0 m1 rfl
  have t1 := hct 1 m2 rfl
  have t2 := hct 2 m3 rfl
  have t3 := hct 3 m4 rfl
  have t4 := hct 4 m5 rfl
  rw [Nat.add_zero] at t0
  clear hb2 ht2 hct k0 k1
  go_wp2_with fail
  go_at_call 127
  refine (HMn.out _).mono ?_
  rintro x w3 ⟨rfl, hb3⟩
  have HB3 := Lib.hid (below_trans HB2.out hb3)
  have HZ3 := Lib.hid (keepB HZ2.out hb3)
  have k0'' := keepC k0' hb3
  have k1'' := keepC k1' hb3
  have q0 := keepC t0 hb3
  have q2 := keepC t2 hb3
  have q3 := keepC t3 hb3
  have q4 := keepC t4 hb3
  clear hb3 k0' k1' t0 t1 t2 t3 t4
  go_wp2_with fail
  go_at_call 64
  refine (HI3.out _).mono ?_
  rintro x w4 ⟨rfl, hw4⟩
  subst hw4
  go_wp2_with fail
  go_at_call 64
  refine (HI4.out _).mono ?_
  rintro x w5 ⟨rfl, hw5⟩
  subst hw5
  go_upto_region 16 with fail
  have nbw : bw ≠ w5.heap.size := by have := World.block_lt_of_cell? _ _ k0''; simp at this; omega
  have nbt : bt ≠ w5.heap.size := by have := World.block_lt_of_cell? _ _ q0; simp at this; omega
  clear HT1 HT2 HMn HI3 HI4 hcc hlen p2 q2 q3
  go_cut [13] (fun s13 wx => s13 = .pointer (some ⟨w5.heap.size, 0, none⟩) ∧ Hid (wx.heap[w5.heap.size]? = some (.cells #[.string (mk m1), .string (mk na), .string (mk nb), .int .i64 N, .int .i64 P, .string (mk m5), .slice none 0 0] 43 (0, 0))) ∧ Hid (Below w5.heap.size w5 wx))
  case first =>
    go_region_held3 (fun w' => w'.cell? ⟨bt, ot, none⟩ = some (.string (mk m1)) ∧ w'.cell? ⟨bw, ow, none⟩ = some (.string (mk na)) ∧ w'.cell? ⟨bw, ow + 1, none⟩ = some (.string (mk nb)) ∧ w'.cell? ⟨bt, ot + 4, none⟩ = some (.string (mk m5))) (first | go_keep | exact ⟨put7_cell (by assumption) nbt, put7_cell (by assumption) nbw, put7_cell (by assumption) nbw, put7_cell (by assumption) nbt⟩) (fail)
    all_goals
      go_wp2_with fail
      go_meet
      exact ⟨rfl, heap_alloc_new w5 _, Below.drew (below_alloc w5 _)⟩
  case rest =>
    obtain ⟨rfl, HCB, HBc⟩ := hcut
    have HZc := Lib.hid (keepB HZ3.out HBc.out)
    have HBC := Lib.hid (below_trans HB3.out HBc.out)
    have nz : w.heap.size ≠ w5.heap.size := by have := (Array.getElem?_eq_some_iff.1 HZ3.out).1; omega
    clear HB3 HZ3 nbw nbt k0'' k1'' q0 q4 HBc
    by_cases hc2 : c = 2
    · have HSf : Hid (∀ W, Below w.heap.size w W → SgAt K W (.slice (some ⟨b, o, none⟩) 0 0) r2) := fun W hW => by rw [List.length_eq_zero_iff.1 (show r2.length = 0 by have := HC2.out; omega)]; exact RowAt.nil_of (by simp [maxLen])
      have hr0 : r2.length = 0 := by have := HC2.out; omega
      subst hc2
      rw [hr0] at *
      obtain ⟨t0, t1, t2, t3, t4, t5, t6⟩ := claim_cells HCB.out
      obtain ⟨d0, d1, d2, d3, d4, d5, d6⟩ := claim_cells HZc.out
      obtain ⟨f0, f1, f2, f3, f4, f5, f6⟩ := claim_frozen HZc.out
      have nz' := Ne.symm nz
      go_upto_region 17 with fail
      go_region_held3 (fun w' => w'.cell? ⟨w5.heap.size, 0, none⟩ = some (.string (mk m1)) ∧ w'.cell? ⟨w5.heap.size, 1, none⟩ = some (.string (mk na)) ∧ w'.cell? ⟨w5.heap.size, 2, none⟩ = some (.string (mk nb)) ∧ w'.cell? ⟨w5.heap.size, 3, none⟩ = some (.int .i64 N) ∧ w'.cell? ⟨w5.heap.size, 4, none⟩ = some (.int .i64 P) ∧ w'.cell? ⟨w5.heap.size, 5, none⟩ = some (.string (mk m5)) ∧ w'.cell? ⟨w5.heap.size, 6, none⟩ = some (.slice none 0 0)) (first | go_keep | exact ⟨put7_cell (by assumption) nz', put7_cell (by assumption) nz', put7_cell (by assumption) nz', put7_cell (by assumption) nz', put7_cell (by assumption) nz', put7_cell (by assumption) nz', put7_cell (by assumption) nz'⟩) (fail)
      rename_i hKont hHeld
      refine hKont _ _ ?_
      clear hHeld hKont d0 d1 d2 d3 d4 d5 d6 f0 f1 f2 f3 f4 f5 f6 t0 t1 t2 t3 t4 t5 t6
      go_wp2
      have HBF : Hid (Below w.heap.size w (((((((wc.setCell ⟨w.heap.size, 0, none⟩ (.string (mk m1))).setCell ⟨w.heap.size, 1, none⟩ (.string (mk na))).setCell ⟨w.heap.size, 2, none⟩ (.string (mk nb))).setCell ⟨w.heap.size, 3, none⟩ (.int .i64 N)).setCell ⟨w.heap.size, 4, none⟩ (.int .i64 P)).setCell ⟨w.heap.size, 5, none⟩ (.string (mk m5))).setCell ⟨w.heap.size, 6, none⟩ (.slice none 0 0))) := put7_below HBC.out w.heap.size (Nat.le_refl _) _ _ _ _ _ _ _
      have HZF : Hid ((((((((wc.setCell ⟨w.heap.size, 0, none⟩ (.string (mk m1))).setCell ⟨w.heap.size, 1, none⟩ (.string (mk na))).setCell ⟨w.heap.size, 2, none⟩ (.string (mk nb))).setCell ⟨w.heap.size, 3, none⟩ (.int .i64 N)).setCell ⟨w.heap.size, 4, none⟩ (.int .i64 P)).setCell ⟨w.heap.size, 5, none⟩ (.string (mk m5))).setCell ⟨w.heap.size, 6, none⟩ (.slice none 0 0)).heap[w.heap.size]? = some (.cells #[.string (mk m1), .string (mk na), .string (mk nb), .int .i64 N, .int .i64 P, .string (mk m5), .slice none 0 0] 43 (0, 0))) := put7_heap HZc.out
      generalize (((((((wc.setCell ⟨w.heap.size, 0, none⟩ (.string (mk m1))).setCell ⟨w.heap.size, 1, none⟩ (.string (mk na))).setCell ⟨w.heap.size, 2, none⟩ (.string (mk nb))).setCell ⟨w.heap.size, 3, none⟩ (.int .i64 N)).setCell ⟨w.heap.size, 4, none⟩ (.int .i64 P)).setCell ⟨w.heap.size, 5, none⟩ (.string (mk m5))).setCell ⟨w.heap.size, 6, none⟩ (.slice none 0 0)) = wz at *
      obtain ⟨e0, e1, e2, e3, e4, e5, e6⟩ := claim_cells HZF.out
      refine bodyPost_ret (v := .tuple #[clv ⟨m1, na, nb, N, P, m5, []⟩ (.slice none 0 0), .int .i64 M, .slice (some ⟨b, o, none⟩) 0 0, .int .i64 0]) (by simp [results, Tryz.results102, go_sem, e0, e1, e2, e3, e4, e5, e6]) rfl ?_
      exact ⟨⟨.slice (some ⟨b, o, none⟩) 0 0, by rw [HX.out.1, HX.out.2.1, HX.out.2.2.1], by rw [HX.out.2.2.2]; exact HSf.out _ (Below.drew HBF.out)⟩, Below.drew HBF.out⟩
    · have HSf : Hid (∀ W, Below w.heap.size w W → SgAt K W (.slice (some ⟨b, o + 2, none⟩) r2.length (c - 2)) r2) := fun W hW => by have := HSf0.out W hW; rw [show c - 1 - 1 = c - 2 by omega] at this; exact this
      have g1 : r2.length + 2 ≤ c := HC2.out.2
      have g2 : (2 : Int) ≤ (r2.length : Int) + 1 + 1 := by omega
      obtain ⟨t0, t1, t2, t3, t4, t5, t6⟩ := claim_cells HCB.out
      obtain ⟨d0, d1, d2, d3, d4, d5, d6⟩ := claim_cells HZc.out
      obtain ⟨f0, f1, f2, f3, f4, f5, f6⟩ := claim_frozen HZc.out
      have nz' := Ne.symm nz
      go_upto_region 17 with fail
      go_region_held3 (fun w' => w'.cell? ⟨w5.heap.size, 0, none⟩ = some (.string (mk m1)) ∧ w'.cell? ⟨w5.heap.size, 1, none⟩ = some (.string (mk na)) ∧ w'.cell? ⟨w5.heap.size, 2, none⟩ = some (.string (mk nb)) ∧ w'.cell? ⟨w5.heap.size, 3, none⟩ = some (.int .i64 N) ∧ w'.cell? ⟨w5.heap.size, 4, none⟩ = some (.int .i64 P) ∧ w'.cell? ⟨w5.heap.size, 5, none⟩ = some (.string (mk m5)) ∧ w'.cell? ⟨w5.heap.size, 6, none⟩ = some (.slice none 0 0)) (first | go_keep | exact ⟨put7_cell (by assumption) nz', put7_cell (by assumption) nz', put7_cell (by assumption) nz', put7_cell (by assumption) nz', put7_cell (by assumption) nz', put7_cell (by assumption) nz', put7_cell (by assumption) nz'⟩) (fail)
      rename_i hKont hHeld
      refine hKont _ _ ?_
      clear hHeld hKont d0 d1 d2 d3 d4 d5 d6 f0 f1 f2 f3 f4 f5 f6 t0 t1 t2 t3 t4 t5 t6
      go_wp2
      have HBF : Hid (Below w.heap.size w (((((((wc.setCell ⟨w.heap.size, 0, none⟩ (.string (mk m1))).setCell ⟨w.heap.size, 1, none⟩ (.string (mk na))).setCell ⟨w.heap.size, 2, none⟩ (.string (mk nb))).setCell ⟨w.heap.size, 3, none⟩ (.int .i64 N)).setCell ⟨w.heap.size, 4, none⟩ (.int .i64 P)).setCell ⟨w.heap.size, 5, none⟩ (.string (mk m5))).setCell ⟨w.heap.size, 6, none⟩ (.slice none 0 0))) := put7_below HBC.out w.heap.size (Nat.le_refl _) _ _ _ _ _ _ _
      have HZF : Hid ((((((((wc.setCell ⟨w.heap.size, 0, none⟩ (.string (mk m1))).setCell ⟨w.heap.size, 1, none⟩ (.string (mk na))).setCell ⟨w.heap.size, 2, none⟩ (.string (mk nb))).setCell ⟨w.heap.size, 3, none⟩ (.int .i64 N)).setCell ⟨w.heap.size, 4, none⟩ (.int .i64 P)).setCell ⟨w.heap.size, 5, none⟩ (.string (mk m5))).setCell ⟨w.heap.size, 6, none⟩ (.slice none 0 0)).heap[w.heap.size]? = some (.cells #[.string (mk m1), .string (mk na), .string (mk nb), .int .i64 N, .int .i64 P, .string (mk m5), .slice none 0 0] 43 (0, 0))) := put7_heap HZc.out
      generalize (((((((wc.setCell ⟨w.heap.size, 0, none⟩ (.string (mk m1))).setCell ⟨w.heap.size, 1, none⟩ (.string (mk na))).setCell ⟨w.heap.size, 2, none⟩ (.string (mk nb))).setCell ⟨w.heap.size, 3, none⟩ (.int .i64 N)).setCell ⟨w.heap.size, 4, none⟩ (.int .i64 P)).setCell ⟨w.heap.size, 5, none⟩ (.string (mk m5))).setCell ⟨w.heap.size, 6, none⟩ (.slice none 0 0)) = wz at *
      obtain ⟨e0, e1, e2, e3, e4, e5, e6⟩ := claim_cells HZF.out
      refine bodyPost_ret (v := .tuple #[clv ⟨m1, na, nb, N, P, m5, []⟩ (.slice none 0 0), .int .i64 M, .slice (some ⟨b, o + 2, none⟩) r2.length (c - 2), .int .i64 0]) (by simp [results, Tryz.results102, go_sem, e0, e1, e2, e3, e4, e5, e6]) rfl ?_
      exact ⟨⟨.slice (some ⟨b, o + 2, none⟩) r2.length (c - 2), by rw [HX.out.1, HX.out.2.1, HX.out.2.2.1], by rw [HX.out.2.2.2]; exact HSf.out _ (Below.drew HBF.out)⟩, Below.drew HBF.out⟩
end Go.Proofs.YtpmnepihaljamaaGreatDoor
end
