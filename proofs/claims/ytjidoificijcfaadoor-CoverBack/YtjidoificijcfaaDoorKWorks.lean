/-
  The laws' example: that works answers true.
-/
import Derived.Test.YtjidoificijcfaaDoorKWrap
import Derived.Test.YtjidoificijcfaaDoorKOpen
import Derived.Test.YtjidoificijcfaaDoorKOf
set_option linter.unusedSimpArgs false
namespace Go.Proofs.YtjidoificijcfaaDoor
open Go.RowKit

def exL : List Sg := [seg3 [65] [98] [99]]
def exS : Tx := [73, 83, 65, 42, 58, 126, 71, 83, 42, 56, 51, 55, 42, 55, 126, 83, 84, 42, 56, 51, 55, 42, 55, 126, 65, 42, 98, 42, 99, 126, 83, 69, 42, 51, 42, 55, 126, 71, 69, 42, 49, 42, 55, 126, 73, 69, 65, 42, 49, 42, 55, 126]
theorem itoa_7 : Lib.itoa 7 = [55] := by
  rw [show (7 : Int) = ((7 : Nat) : Int) from rfl, Lib.itoa_nonneg, Nu.dec_small 7 (by omega)]
  rfl
theorem itoa_3 : Lib.itoa (((exL.length : Nat) : Int) + 2) = [51] := by
  rw [show ((exL.length : Nat) : Int) + 2 = ((3 : Nat) : Int) from rfl, Lib.itoa_nonneg, Nu.dec_small 3 (by omega)]
  rfl
theorem ex_abt : abt [56, 51, 55] 7 exL = [seg3 tGS [56, 51, 55] [55], seg3 tST [56, 51, 55] [55], seg3 [65] [98] [99], seg3 tSE [51] [55], seg3 tGE t1 [55], seg3 tIEA t1 [55]] := by
  unfold abt aft
  rw [itoa_7, itoa_3]
  rfl
set_option maxRecDepth 100000 in
theorem ex_wr : wrOk 42 58 126 (abt [56, 51, 55] 7 exL) = true ∧ headL 42 58 126 ++ wrT 42 58 126 (abt [56, 51, 55] 7 exL) = exS ∧ (wrT 42 58 126 (abt [56, 51, 55] 7 exL)).length + 6 ≤ 65536 := by
  rw [ex_abt]
  decide
theorem ex_wp : wpE 42 58 126 [56, 51, 55] 7 exL = 0 ∧ wpV 42 58 126 [56, 51, 55] 7 exL = exS := by
  have h := wp_of (e := 42) (p := 58) (s := 126) (k := [56, 51, 55]) (n := 7) (l := exL) (by decide) (by decide) (by omega) (by omega) ex_wr.1 ex_wr.2.2
  exact ⟨h, by rw [(wp_zero h).2.2.2.2.2.2]; exact ex_wr.2.1⟩
theorem ex_op : opE [56, 51, 55] exS = 0 ∧ opD [56, 51, 55] exS = (42, 58, 126) ∧ opN [56, 51, 55] exS = 7 ∧ opL [56, 51, 55] exS = exL := by
  have h := cover_back ex_wp.1
  rw [ex_wp.2] at h
  exact h
theorem other_kind {e p s : UInt8} {k k' : Tx} {n : Int} {l : List Sg} (h : wpE e p s k n l = 0) (hk' : kindB k' = true) (hne : k ≠ k') : opE k' (wpV e p s k n l) = 5 := by
  obtain ⟨hg, hk, h0, h1, hw, hl, hv⟩ := wp_zero h
  rw [hv]
  have hf := find_head hg (wrT e p s (abt k n l))
  obtain ⟨b1, b2⟩ := back hw (by rw [← wrT_len _ (wr_ok hw).2.2]; omega)
  have hd : (headL e p s ++ wrT e p s (abt k n l)).drop 6 = wrT e p s (abt k n l) := rfl
  rw [op_un (by rw [List.length_append, headL_len]; omega) hf hk' (by rw [hd]; exact b1), hd, b2, un_some (by rw [abt_len]; omega) (n := n) (by rw [(abt_in k n l).2.2.2]; exact num_itoa _ _ _ h0 h1)]
  have : inB k' n (abt k n l) = false := by
    unfold inB
    rw [show (abt k n l).take 2 = fore k (Lib.itoa n) from rfl, decide_eq_false, Bool.false_and]
    intro hc
    simp only [fore, seg3, List.cons.injEq, and_true, true_and] at hc
    exact hne hc.1
  rw [this]
  rfl
theorem ex_no : opE [56, 51, 53] exS = 5 := by
  have h := other_kind (k' := [56, 51, 53]) ex_wp.1 (by decide) (by decide)
  rwa [ex_wp.2] at h
theorem sg_one {w : World} {u1 : Value} {g1 : Sg} (h1 : ElAt All w u1 g1) : SgAt All (w.alloc (.cells #[u1] 40)) (.slice (some ⟨w.heap.size, 0, none⟩) 1 1) [g1] := by
  refine row_new (R := ElAt All) w [u1] [g1] 40 rfl (by simp only [maxLen]; simp) fun j u x hu hx => ?_
  have hm := Below.moves (below_alloc w (.cells #[u1] 40))
  match j, hu, hx with
  | 0, hu, hx => simp at hu hx; subst hu hx; exact ElAt.move h1 hm

set_option maxHeartbeats 2000000 in
set_option maxRecDepth 100000 in
theorem works_any (w : World) (hT : Tab w) :
    Calls Tryd.prog 9 #[] w fun x w' => x = .returned (.bool true) ∧ Below w.heap.size w w' := by
  have HTb := Lib.hid hT
  have HOf : Hid (∀ W : World, Calls Tryd.prog 19 #[.string ⟨#[65]⟩, .string ⟨#[98]⟩, .string ⟨#[99]⟩] W fun x w' => (∃ q, x = .returned (.agg #[.slice (some ⟨q, 0, none⟩) 3 3]) ∧ ElAt All w' (.slice (some ⟨q, 0, none⟩) 3 3) (seg3 [65] [98] [99])) ∧ Below W.heap.size W w') := fun W => of_any [65] [98] [99] W
  have hwr := fun W u (h : SgAt All W u exL) (hT : Tab W) => wrap_any 42 58 126 ⟨#[56, 51, 55]⟩ 7 u exL W h hT (by omega) (by omega) (by decide) (by decide)
  rw [show (⟨#[56, 51, 55]⟩ : ByteArray).data.toList = [56, 51, 55] from rfl, ex_wp.1, ex_wp.2] at hwr
  have HWr : Hid (∀ W q, SgAt All W (.slice (some ⟨q, 0, none⟩) 1 1) exL → Tab W → Calls Tryd.prog 10 #[.agg #[.int .u8 42, .int .u8 58, .int .u8 126], .string ⟨#[56, 51, 55]⟩, .int .i64 7, .slice (some ⟨q, 0, none⟩) 1 1] W fun x w' => x = .returned (.tuple #[.string (mk exS), .int .i64 0]) ∧ Below W.heap.size W w') := fun W q h hT => hwr W _ h hT
  have hop := fun W hT => open_any ⟨#[56, 51, 55]⟩ (mk exS) W hT (by rw [mk_size]; simp only [maxLen]; decide)
  rw [mk_list, show (⟨#[56, 51, 55]⟩ : ByteArray).data.toList = [56, 51, 55] from rfl, ex_op.1, ex_op.2.1, ex_op.2.2.1, ex_op.2.2.2] at hop
  have HOp : Hid (∀ W kk, kk = ⟨#[56, 51, 55]⟩ → Tab W → Calls Tryd.prog 14 #[.string kk, .string (mk exS)] W fun x w' => (∃ u, x = .returned (.tuple #[.agg #[.int .u8 42, .int .u8 58, .int .u8 126], .int .i64 7, u, .int .i64 0]) ∧ SgAt All w' u exL) ∧ Below W.heap.size W w') := fun W kk h hT => by subst h; exact hop W hT
  have hno := fun W hT => open_any ⟨#[56, 51, 53]⟩ (mk exS) W hT (by rw [mk_size]; simp only [maxLen]; decide)
  have hbad := op_bad (k := [56, 51, 53]) (s := exS) (by rw [ex_no]; decide)
  rw [mk_list, show (⟨#[56, 51, 53]⟩ : ByteArray).data.toList = [56, 51, 53] from rfl, ex_no, hbad.1, hbad.2.1, hbad.2.2] at hno
  have HNo : Hid (∀ W kk, kk = ⟨#[56, 51, 53]⟩ → Tab W → Calls Tryd.prog 14 #[.string kk, .string (mk exS)] W fun x w' => (∃ u, x = .returned (.tuple #[.agg #[.int .u8 0, .int .u8 0, .int .u8 0], .int .i64 0, u, .int .i64 5]) ∧ SgAt All w' u []) ∧ Below W.heap.size W w') := fun W kk h hT => by subst h; exact hno W hT
  have HKi : Hid (∀ W, Calls Tryd.prog 12 #[.string ⟨#[56, 51, 55]⟩] W fun e w' => e = .returned (.bool true) ∧ w' = W) := fun W => kind_any ⟨#[56, 51, 55]⟩ W
  have hms : (mk exS).toList = [73, 83, 65, 42, 58, 126, 71, 83, 42, 56, 51, 55, 42, 55, 126, 83, 84, 42, 56, 51, 55, 42, 55, 126, 65, 42, 98, 42, 99, 126, 83, 69, 42, 51, 42, 55, 126, 71, 69, 42, 49, 42, 55, 126, 73, 69, 65, 42, 49, 42, 55, 126] := by rw [Lib.toList_data, mk_list]; rfl
  have HRf : Hid (∀ W : World, Below W.heap.size W W.drew) := fun W => Below.drew (Below.refl _ W)
  have HBX : Hid (∀ W, Below (w.alloc (.cells #[.int .u8 42, .int .u8 58, .int .u8 126] 23)).heap.size (w.alloc (.cells #[.int .u8 42, .int .u8 58, .int .u8 126] 23)) W → (W.cell? ⟨w.heap.size, 0, none⟩ = some (.int .u8 42) ∧ W.cell? ⟨w.heap.size, 1, none⟩ = some (.int .u8 58) ∧ W.cell? ⟨w.heap.size, 2, none⟩ = some (.int .u8 126)) ∧ Below w.heap.size w W ∧ Tab W) := fun W hW => ⟨(DBox.grw (DBox.new w 42 58 126) hW).2, below_trans (below_alloc w _) hW, tab_grw HTb.out (below_trans (below_alloc w _) hW)⟩
  have HW0 : Hid (Below (w.alloc (.cells #[.int .u8 42, .int .u8 58, .int .u8 126] 23)).heap.size (w.alloc (.cells #[.int .u8 42, .int .u8 58, .int .u8 126] 23)) (w.alloc (.cells #[.int .u8 42, .int .u8 58, .int .u8 126] 23)).drew) := HRf.out _
  obtain ⟨⟨d0, d1, d2⟩, -⟩ := HBX.out _ (Below.refl _ _)
  clear hwr hop hno hT hbad
  generalize mk exS = T at *
  go_enter Tryd.func9, Tryd.ntmps9
  go_upto_region 2 with fail
  go_region_held3 (fun w' => w'.cell? ⟨w.heap.size, 0, none⟩ = some (.int .u8 42) ∧ w'.cell? ⟨w.heap.size, 1, none⟩ = some (.int .u8 58) ∧ w'.cell? ⟨w.heap.size, 2, none⟩ = some (.int .u8 126)) (go_keep) (first | (go_at_call 19; refine (HOf.out _).mono ?_; rintro x w3 ⟨⟨q, rfl, he⟩, hb⟩; have HE3 := Lib.hid (sg_one he); have HB3 := Lib.hid (below_trans HW0.out hb); have HB3a := Lib.hid (below_trans HB3.out (below_alloc w3 (.cells #[.slice (some ⟨q, 0, none⟩) 3 3] 40))); obtain ⟨⟨r0, r1, r2⟩, -⟩ := HBX.out _ HB3.out; clear hb he) | (go_at_call 10; refine (HWr.out _ _ HE3.out (HBX.out _ HB3a.out).2.2).mono ?_; rintro x w4 ⟨rfl, hb⟩; have HB4 := Lib.hid (below_trans HB3a.out hb); obtain ⟨⟨r0, r1, r2⟩, -⟩ := HBX.out _ HB4.out; clear hb))
  go_upto_region 4 with (go_at_call 14; refine (HOp.out _ _ rfl (HBX.out _ HB4.out).2.2).mono ?_; rintro x w5 ⟨⟨u, rfl, hs⟩, hb⟩; have HB5 := Lib.hid (below_trans HB4.out hb); clear hb; obtain ⟨ua, uc, rfl, -, -, -⟩ := hs)
  have HB5a := Lib.hid (below_trans HB5.out (below_alloc w5 (.cells #[.int .u8 42, .int .u8 58, .int .u8 126] 23)))
  go_upto_region 5 with (go_at_call 14; refine (HNo.out _ _ rfl (HBX.out _ HB5a.out).2.2).mono ?_; rintro x w6 ⟨⟨u6, rfl, hs⟩, hb⟩; have HB6 := Lib.hid (below_trans HB5a.out hb); clear hb; obtain ⟨va, vc, rfl, -, -, -⟩ := hs)
  have HB6a := Lib.hid (below_trans HB6.out (below_alloc w6 (.cells #[.int .u8 0, .int .u8 0, .int .u8 0] 23)))
  have hxl : exL.length = 1 := rfl
  go_wp2_with (go_at_call 12; refine (HKi.out _).mono ?_; rintro x w7 ⟨rfl, hw⟩; rw [hw]; clear hw w7)
  go_ret
  exact ⟨rfl, (HBX.out _ HB6a.out).2.1⟩
end Go.Proofs.YtjidoificijcfaaDoor
