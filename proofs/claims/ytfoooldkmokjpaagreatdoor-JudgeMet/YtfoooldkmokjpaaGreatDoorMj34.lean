/-
  Texts put together (merge.py): UHolds, UApp.
-/
import Derived.Test.YtfoooldkmokjpaaGreatDoorMj33
import Derived.Test.YtfoooldkmokjpaaGreatDoorMj5
import Derived.Test.YtfoooldkmokjpaaGreatDoorMj30
set_option linter.unusedSimpArgs false
set_option linter.unusedVariables false
section
set_option maxRecDepth 100000
namespace Go.Proofs.YtfoooldkmokjpaaGreatDoor.Ul
open Go.RowKit
open Pl (Cd St Ru Pn KsAt StsAt RusAt RuIn Ok1 cdv stv ruv pnv below_alloc below_trans bfive bsix beight below_tr)
open Wo (box_cell box_two keepB heap_far)
open Cm (Ln)
set_option maxHeartbeats 8000000 in
theorem hold_0 (x : Ln) (net : Int) (ml : Value) (lo hi : Tx) (n : Int) (ks : List Cd)
  (m : Value) (w : World) (hK : KsAt All w m ks) (hx : TxAt All w ml x.mods) : HoldsC x net ml ⟨0, lo, hi, n, ks⟩ m w := by
 have HRES : Hid (holdsB x net ⟨0, lo, hi, n, ks⟩ = true) := by
  show _ = _
  rcases ks with _ | ⟨a, _ | ⟨b, r⟩⟩ <;> rw [holdsB] <;> rfl
 unfold HoldsC
 rw [HRES.out]
 show Calls _ _ #[.agg #[.int .i64 0, .string (mk lo), .string (mk hi), .int .i64 n, m], _, _] _ _
 obtain ⟨hb, hz1, hz2⟩ := box_cl w ⟨0, lo, hi, n, ks⟩ m x ml
 have HB := Lib.hid hb
 have HX := Lib.hid hz1
 have HL := Lib.hid hz2
 have HK := Lib.hid (hK.grw hb)
 have HM := Lib.hid (tx_grw hx hb)
 obtain ⟨a, k, rfl, hk1, hk2⟩ := hK.form
 obtain ⟨la, lk, rfl, hl1, hl2⟩ := tx_form hx
 clear hK hx hb hz1 hz2 HRES
 go_enter Tryz.func126, Tryz.ntmps126
 go_upto_region 1 with fail
 generalize (w.alloc (.cells #[.int .i64 0, .string (mk lo), .string (mk hi), .int .i64 n, .slice a ks.length k] 82)).alloc (.cells #[.string (mk x.proc), .slice la x.mods.length lk, .int .i64 x.date, .int .i64 x.units, .int .i64 x.billed, .int .i64 x.prior] 46) = W at *
 generalize hp : w.heap.size = p at *
 obtain ⟨q, hq⟩ : ∃ q, q = p + 1 := ⟨_, rfl⟩
 rw [← hq] at HL ⊢
 clear hq
 obtain ⟨x0, x1, x2, x3, x4⟩ := bfive HX.out
 obtain ⟨y0, y1, y2, y3, y4, y5⟩ := bsix HL.out
 have HW0 := Lib.hid (Below.refl W.heap.size W)
 go_wp2_with fail
 go_ret
 exact ⟨by first | rfl | simp, by first | exact below_tr hp HB.out HW0.out | (rw [hp]; exact below_tr hp HB.out HW0.out)⟩
set_option maxHeartbeats 8000000 in
theorem hold_1 (x : Ln) (net : Int) (ml : Value) (lo hi : Tx) (n : Int) (ks : List Cd)
  (m : Value) (w : World) (hK : KsAt All w m ks) (hx : TxAt All w ml x.mods) : HoldsC x net ml ⟨1, lo, hi, n, ks⟩ m w := by
 have HRES : Hid (holdsB x net ⟨1, lo, hi, n, ks⟩ = (!Op.bytesLess (mk x.proc).toList (mk lo).toList && !Op.bytesLess (mk hi).toList (mk x.proc).toList)) := by
  show _ = _
  rw [txt_list, txt_list, txt_list]
  rcases ks with _ | ⟨a, _ | ⟨b, r⟩⟩ <;> rw [holdsB] <;> rfl
 unfold HoldsC
 rw [HRES.out]
 show Calls _ _ #[.agg #[.int .i64 1, .string (mk lo), .string (mk hi), .int .i64 n, m], _, _] _ _
 obtain ⟨hb, hz1, hz2⟩ := box_cl w ⟨1, lo, hi, n, ks⟩ m x ml
 have HB := Lib.hid hb
 have HX := Lib.hid hz1
 have HL := Lib.hid hz2
 have HK := Lib.hid (hK.grw hb)
 have HM := Lib.hid (tx_grw hx hb)
 obtain ⟨a, k, rfl, hk1, hk2⟩ := hK.form
 obtain ⟨la, lk, rfl, hl1, hl2⟩ := tx_form hx
 clear hK hx hb hz1 hz2 HRES
 go_enter Tryz.func126, Tryz.ntmps126
 go_upto_region 1 with fail
 generalize (w.alloc (.cells #[.int .i64 1, .string (mk lo), .string (mk hi), .int .i64 n, .slice a ks.length k] 82)).alloc (.cells #[.string (mk x.proc), .slice la x.mods.length lk, .int .i64 x.date, .int .i64 x.units, .int .i64 x.billed, .int .i64 x.prior] 46) = W at *
 generalize hp : w.heap.size = p at *
 obtain ⟨q, hq⟩ : ∃ q, q = p + 1 := ⟨_, rfl⟩
 rw [← hq] at HL ⊢
 clear hq
 obtain ⟨x0, x1, x2, x3, x4⟩ := bfive HX.out
 obtain ⟨y0, y1, y2, y3, y4, y5⟩ := bsix HL.out
 have HW0 := Lib.hid (Below.refl W.heap.size W)
 have l1 := less_or (mk lo).toList (mk x.proc).toList
 have l2 := less_or (mk x.proc).toList (mk hi).toList
 cases hq : Op.bytesLess (mk x.proc).toList (mk lo).toList
 all_goals
  rw [hq] at l1
  simp only [Bool.not_true, Bool.not_false] at l1
  go_wp2_with fail
  go_ret
  exact ⟨by first | rfl | (rw [l2]; rfl), by first | exact below_tr hp HB.out HW0.out | (rw [hp]; exact below_tr hp HB.out HW0.out)⟩
set_option maxHeartbeats 8000000 in
theorem hold_2 (x : Ln) (net : Int) (ml : Value) (lo hi : Tx) (n : Int) (ks : List Cd)
  (m : Value) (w : World) (hK : KsAt All w m ks) (hx : TxAt All w ml x.mods) : HoldsC x net ml ⟨2, lo, hi, n, ks⟩ m w := by
 have HRES : Hid (holdsB x net ⟨2, lo, hi, n, ks⟩ = (x.mods.any fun t => decide (t = lo))) := by
  show _ = _
  rcases ks with _ | ⟨a, _ | ⟨b, r⟩⟩ <;> rw [holdsB] <;> rfl
 unfold HoldsC
 rw [HRES.out]
 show Calls _ _ #[.agg #[.int .i64 2, .string (mk lo), .string (mk hi), .int .i64 n, m], _, _] _ _
 obtain ⟨hb, hz1, hz2⟩ := box_cl w ⟨2, lo, hi, n, ks⟩ m x ml
 have HB := Lib.hid hb
 have HX := Lib.hid hz1
 have HL := Lib.hid hz2
 have HK := Lib.hid (hK.grw hb)
 have HM := Lib.hid (tx_grw hx hb)
 obtain ⟨a, k, rfl, hk1, hk2⟩ := hK.form
 obtain ⟨la, lk, rfl, hl1, hl2⟩ := tx_form hx
 clear hK hx hb hz1 hz2 HRES
 go_enter Tryz.func126, Tryz.ntmps126
 go_upto_region 1 with fail
 generalize (w.alloc (.cells #[.int .i64 2, .string (mk lo), .string (mk hi), .int .i64 n, .slice a ks.length k] 82)).alloc (.cells #[.string (mk x.proc), .slice la x.mods.length lk, .int .i64 x.date, .int .i64 x.units, .int .i64 x.billed, .int .i64 x.prior] 46) = W at *
 generalize hp : w.heap.size = p at *
 obtain ⟨q, hq⟩ : ∃ q, q = p + 1 := ⟨_, rfl⟩
 rw [← hq] at HL ⊢
 clear hq
 obtain ⟨x0, x1, x2, x3, x4⟩ := bfive HX.out
 obtain ⟨y0, y1, y2, y3, y4, y5⟩ := bsix HL.out
 have HW0 := Lib.hid (Below.refl W.heap.size W)
 have HCt := Lib.hid (contains_any x.mods lo _ W HM.out)
 go_wp2_with (go_at_call 153; refine HCt.out.mono ?_; rintro e w1 ⟨rfl, hw⟩; rw [hw]; clear hw)
 go_ret
 exact ⟨by first | rfl | simp, by first | exact below_tr hp HB.out HW0.out | (rw [hp]; exact below_tr hp HB.out HW0.out)⟩
set_option maxHeartbeats 8000000 in
theorem hold_3 (x : Ln) (net : Int) (ml : Value) (lo hi : Tx) (n : Int) (ks : List Cd)
  (m : Value) (w : World) (hK : KsAt All w m ks) (hx : TxAt All w ml x.mods) : HoldsC x net ml ⟨3, lo, hi, n, ks⟩ m w := by
 have HRES : Hid (holdsB x net ⟨3, lo, hi, n, ks⟩ = (decide (n < x.units))) := by
  show _ = _
  rcases ks with _ | ⟨a, _ | ⟨b, r⟩⟩ <;> rw [holdsB] <;> rfl
 unfold HoldsC
 rw [HRES.out]
 show Calls _ _ #[.agg #[.int .i64 3, .string (mk lo), .string (mk hi), .int .i64 n, m], _, _] _ _
 obtain ⟨hb, hz1, hz2⟩ := box_cl w ⟨3, lo, hi, n, ks⟩ m x ml
 have HB := Lib.hid hb
 have HX := Lib.hid hz1
 have HL := Lib.hid hz2
 have HK := Lib.hid (hK.grw hb)
 have HM := Lib.hid (tx_grw hx hb)
 obtain ⟨a, k, rfl, hk1, hk2⟩ := hK.form
 obtain ⟨la, lk, rfl, hl1, hl2⟩ := tx_form hx
 clear hK hx hb hz1 hz2 HRES
 go_enter Tryz.func126, Tryz.ntmps126
 go_upto_region 1 with fail
 generalize (w.alloc (.cells #[.int .i64 3, .string (mk lo), .string (mk hi), .int .i64 n, .slice a ks.length k] 82)).alloc (.cells #[.string (mk x.proc), .slice la x.mods.length lk, .int .i64 x.date, .int .i64 x.units, .int .i64 x.billed, .int .i64 x.prior] 46) = W at *
 generalize hp : w.heap.size = p at *
 obtain ⟨q, hq⟩ : ∃ q, q = p + 1 := ⟨_, rfl⟩
 rw [← hq] at HL ⊢
 clear hq
 obtain ⟨x0, x1, x2, x3, x4⟩ := bfive HX.out
 obtain ⟨y0, y1, y2, y3, y4, y5⟩ := bsix HL.out
 have HW0 := Lib.hid (Below.refl W.heap.size W)
 go_wp2_with fail
 go_ret
 exact ⟨by first | rfl | simp, by first | exact below_tr hp HB.out HW0.out | (rw [hp]; exact below_tr hp HB.out HW0.out)⟩
set_option maxHeartbeats 8000000 in
theorem hold_4 (x : Ln) (net : Int) (ml : Value) (lo hi : Tx) (n : Int) (ks : List Cd)
  (m : Value) (w : World) (hK : KsAt All w m ks) (hx : TxAt All w ml x.mods) : HoldsC x net ml ⟨4, lo, hi, n, ks⟩ m w := by
 have HRES : Hid (holdsB x net ⟨4, lo, hi, n, ks⟩ = (decide (n < x.billed))) := by
  show _ = _
  rcases ks with _ | ⟨a, _ | ⟨b, r⟩⟩ <;> rw [holdsB] <;> rfl
 unfold HoldsC
 rw [HRES.out]
 show Calls _ _ #[.agg #[.int .i64 4, .string (mk lo), .string (mk hi), .int .i64 n, m], _, _] _ _
 obtain ⟨hb, hz1, hz2⟩ := box_cl w ⟨4, lo, hi, n, ks⟩ m x ml
 have HB := Lib.hid hb
 have HX := Lib.hid hz1
 have HL := Lib.hid hz2
 have HK := Lib.hid (hK.grw hb)
 have HM := Lib.hid (tx_grw hx hb)
 obtain ⟨a, k, rfl, hk1, hk2⟩ := hK.form
 obtain ⟨la, lk, rfl, hl1, hl2⟩ := tx_form hx
 clear hK hx hb hz1 hz2 HRES
 go_enter Tryz.func126, Tryz.ntmps126
 go_upto_region 1 with fail
 generalize (w.alloc (.cells #[.int .i64 4, .string (mk lo), .string (mk hi), .int .i64 n, .slice a ks.length k] 82)).alloc (.cells #[.string (mk x.proc), .slice la x.mods.length lk, .int .i64 x.date, .int .i64 x.units, .int .i64 x.billed, .int .i64 x.prior] 46) = W at *
 generalize hp : w.heap.size = p at *
 obtain ⟨q, hq⟩ : ∃ q, q = p + 1 := ⟨_, rfl⟩
 rw [← hq] at HL ⊢
 clear hq
 obtain ⟨x0, x1, x2, x3, x4⟩ := bfive HX.out
 obtain ⟨y0, y1, y2, y3, y4, y5⟩ := bsix HL.out
 have HW0 := Lib.hid (Below.refl W.heap.size W)
 go_wp2_with fail
 go_ret
 exact ⟨by first | rfl | simp, by first | exact below_tr hp HB.out HW0.out | (rw [hp]; exact below_tr hp HB.out HW0.out)⟩
set_option maxHeartbeats 8000000 in
theorem hold_5 (x : Ln) (net : Int) (ml : Value) (lo hi : Tx) (n : Int) (ks : List Cd)
  (m : Value) (w : World) (hK : KsAt All w m ks) (hx : TxAt All w ml x.mods) : HoldsC x net ml ⟨5, lo, hi, n, ks⟩ m w := by
 have HRES : Hid (holdsB x net ⟨5, lo, hi, n, ks⟩ = (decide (net = 1))) := by
  show _ = _
  rcases ks with _ | ⟨a, _ | ⟨b, r⟩⟩ <;> rw [holdsB] <;> rfl
 unfold HoldsC
 rw [HRES.out]
 show Calls _ _ #[.agg #[.int .i64 5, .string (mk lo), .string (mk hi), .int .i64 n, m], _, _] _ _
 obtain ⟨hb, hz1, hz2⟩ := box_cl w ⟨5, lo, hi, n, ks⟩ m x ml
 have HB := Lib.hid hb
 have HX := Lib.hid hz1
 have HL := Lib.hid hz2
 have HK := Lib.hid (hK.grw hb)
 have HM := Lib.hid (tx_grw hx hb)
 obtain ⟨a, k, rfl, hk1, hk2⟩ := hK.form
 obtain ⟨la, lk, rfl, hl1, hl2⟩ := tx_form hx
 clear hK hx hb hz1 hz2 HRES
 go_enter Tryz.func126, Tryz.ntmps126
 go_upto_region 1 with fail
 generalize (w.alloc (.cells #[.int .i64 5, .string (mk lo), .string (mk hi), .int .i64 n, .slice a ks.length k] 82)).alloc (.cells #[.string (mk x.proc), .slice la x.mods.length lk, .int .i64 x.date, .int .i64 x.units, .int .i64 x.billed, .int .i64 x.prior] 46) = W at *
 generalize hp : w.heap.size = p at *
 obtain ⟨q, hq⟩ : ∃ q, q = p + 1 := ⟨_, rfl⟩
 rw [← hq] at HL ⊢
 clear hq
 obtain ⟨x0, x1, x2, x3, x4⟩ := bfive HX.out
 obtain ⟨y0, y1, y2, y3, y4, y5⟩ := bsix HL.out
 have HW0 := Lib.hid (Below.refl W.heap.size W)
 go_wp2_with fail
 go_ret
 exact ⟨by first | rfl | simp, by first | exact below_tr hp HB.out HW0.out | (rw [hp]; exact below_tr hp HB.out HW0.out)⟩
set_option maxHeartbeats 8000000 in
theorem hold_6 (x : Ln) (net : Int) (ml : Value) (lo hi : Tx) (n : Int) (ks : List Cd)
  (IH : ∀ k ∈ ks, ∀ (m : Value) (w : World), KsAt All w m k.kids → TxAt All w ml x.mods → HoldsC x net ml k m w)
  (m : Value) (w : World) (hK : KsAt All w m ks) (hx : TxAt All w ml x.mods) : HoldsC x net ml ⟨6, lo, hi, n, ks⟩ m w := by
 have HRES : Hid (holdsB x net ⟨6, lo, hi, n, ks⟩ = (!kidB x net ks 0)) := by
  show _ = _
  exact holds_not x net n lo hi ks
 unfold HoldsC
 rw [HRES.out]
 show Calls _ _ #[.agg #[.int .i64 6, .string (mk lo), .string (mk hi), .int .i64 n, m], _, _] _ _
 obtain ⟨B0, HB0⟩ : ∃ B, Hid (kidB x net ks 0 = B) := ⟨_, rfl⟩
 rw [HB0.out]
 have HKD := Lib.hid fun (i : Nat) (hi1 : i ≤ 1) W m (h1 : KsAt All W m ks) (h2 : TxAt All W ml x.mods) => kid_step x net ml ⟨6, lo, hi, n, ks⟩ i hi1 IH m W h1 h2
 obtain ⟨hb, hz1, hz2⟩ := box_cl w ⟨6, lo, hi, n, ks⟩ m x ml
 have HB := Lib.hid hb
 have HX := Lib.hid hz1
 have HL := Lib.hid hz2
 have HK := Lib.hid (hK.grw hb)
 have HM := Lib.hid (tx_grw hx hb)
 obtain ⟨a, k, rfl, hk1, hk2⟩ := hK.form
 obtain ⟨la, lk, rfl, hl1, hl2⟩ := tx_form hx
 clear hK hx hb hz1 hz2 HRES IH
 go_enter Tryz.func126, Tryz.ntmps126
 go_upto_region 1 with fail
 generalize (w.alloc (.cells #[.int .i64 6, .string (mk lo), .string (mk hi), .int .i64 n, .slice a ks.length k] 82)).alloc (.cells #[.string (mk x.proc), .slice la x.mods.length lk, .int .i64 x.date, .int .i64 x.units, .int .i64 x.billed, .int .i64 x.prior] 46) = W at *
 generalize hp : w.heap.size = p at *
 obtain ⟨q, hq⟩ : ∃ q, q = p + 1 := ⟨_, rfl⟩
 rw [← hq] at HL ⊢
 clear hq
 obtain ⟨x0, x1, x2, x3, x4⟩ := bfive HX.out
 obtain ⟨y0, y1, y2, y3, y4, y5⟩ := bsix HL.out
 have HW0 := Lib.hid (Below.refl W.heap.size W)
 have HK0 := Lib.hid (HKD.out 0 (by omega) W _ HK.out HM.out)
 have HK1 := Lib.hid fun W' (hW : Below W.heap.size W W') => HKD.out 1 (by omega) W' _ (HK.out.grw hW) (tx_grw HM.out hW)
 have HXK := Lib.hid fun W' (hW : Below W.heap.size W W') => And.intro (bfive (keepB HX.out hW)) (bsix (keepB HL.out hW))
 change Hid (Calls _ _ _ _ fun e w' => e = .returned (.bool (kidB x net ks 0)) ∧ _) at HK0
 rw [HB0.out] at HK0
 clear HKD HK HM HB0
 go_wp2_with (go_at_call 154; refine HK0.out.mono ?_; rintro e w1 ⟨rfl, hb1⟩; have HB1 := Lib.hid hb1; clear hb1 HK0)
 go_ret
 exact ⟨by first | rfl | simp, by first | exact below_tr hp HB.out HB1.out | (rw [hp]; exact below_tr hp HB.out HB1.out)⟩
set_option maxHeartbeats 8000000 in
theorem hold_7 (x : Ln) (net : Int) (ml : Value) (lo hi : Tx) (n : Int) (ks : List Cd)
  (IH : ∀ k ∈ ks, ∀ (m : Value) (w : World), KsAt All w m k.kids → TxAt All w ml x.mods → HoldsC x net ml k m w)
  (m : Value) (w : World) (hK : KsAt All w m ks) (hx : TxAt All w ml x.mods) : HoldsC x net ml ⟨7, lo, hi, n, ks⟩ m w := by
 have HRES : Hid (holdsB x net ⟨7, lo, hi, n, ks⟩ = (kidB x net ks 0 && kidB x net ks 1)) := by
  show _ = _
  exact holds_and x net n lo hi ks
 unfold HoldsC
 rw [HRES.out]
 show Calls _ _ #[.agg #[.int .i64 7, .string (mk lo), .string (mk hi), .int .i64 n, m], _, _] _ _
 obtain ⟨B0, HB0⟩ : ∃ B, Hid (kidB x net ks 0 = B) := ⟨_, rfl⟩
 rw [HB0.out]
 obtain ⟨B1, HB1⟩ : ∃ B, Hid (kidB x net ks 1 = B) := ⟨_, rfl⟩
 rw [HB1.out]
 have HKD := Lib.hid fun (i : Nat) (hi1 : i ≤ 1) W m (h1 : KsAt All W m ks) (h2 : TxAt All W ml x.mods) => kid_step x net ml ⟨7, lo, hi, n, ks⟩ i hi1 IH m W h1 h2
 obtain ⟨hb, hz1, hz2⟩ := box_cl w ⟨7, lo, hi, n, ks⟩ m x ml
 have HB := Lib.hid hb
 have HX := Lib.hid hz1
 have HL := Lib.hid hz2
 have HK := Lib.hid (hK.grw hb)
 have HM := Lib.hid (tx_grw hx hb)
 obtain ⟨a, k, rfl, hk1, hk2⟩ := hK.form
 obtain ⟨la, lk, rfl, hl1, hl2⟩ := tx_form hx
 clear hK hx hb hz1 hz2 HRES IH
 go_enter Tryz.func126, Tryz.ntmps126
 go_upto_region 1 with fail
 generalize (w.alloc (.cells #[.int .i64 7, .string (mk lo), .string (mk hi), .int .i64 n, .slice a ks.length k] 82)).alloc (.cells #[.string (mk x.proc), .slice la x.mods.length lk, .int .i64 x.date, .int .i64 x.units, .int .i64 x.billed, .int .i64 x.prior] 46) = W at *
 generalize hp : w.heap.size = p at *
 obtain ⟨q, hq⟩ : ∃ q, q = p + 1 := ⟨_, rfl⟩
 rw [← hq] at HL ⊢
 clear hq
 obtain ⟨x0, x1, x2, x3, x4⟩ := bfive HX.out
 obtain ⟨y0, y1, y2, y3, y4, y5⟩ := bsix HL.out
 have HW0 := Lib.hid (Below.refl W.heap.size W)
 have HK0 := Lib.hid (HKD.out 0 (by omega) W _ HK.out HM.out)
 have HK1 := Lib.hid fun W' (hW : Below W.heap.size W W') => HKD.out 1 (by omega) W' _ (HK.out.grw hW) (tx_grw HM.out hW)
 have HXK := Lib.hid fun W' (hW : Below W.heap.size W W') => And.intro (bfive (keepB HX.out hW)) (bsix (keepB HL.out hW))
 change Hid (Calls _ _ _ _ fun e w' => e = .returned (.bool (kidB x net ks 0)) ∧ _) at HK0
 rw [HB0.out] at HK0
 change Hid (∀ W' (hW : Below W.heap.size W W'), Calls _ _ _ _ fun e w' => e = .returned (.bool (kidB x net ks 1)) ∧ _) at HK1
 rw [HB1.out] at HK1
 clear HB1
 clear HKD HK HM HB0
 go_wp2_with fail
 go_at_call 154
 refine HK0.out.mono ?_
 rintro e w1 ⟨rfl, hb1⟩
 have HB1 := Lib.hid hb1
 clear x0 x1 x2 x3 x4 y0 y1 y2 y3 y4 y5
 obtain ⟨⟨x0, x1, x2, x3, x4⟩, ⟨y0, y1, y2, y3, y4, y5⟩⟩ := HXK.out _ hb1
 have HK2 := Lib.hid (HK1.out _ hb1)
 clear hb1 HK0 HK1 HXK HW0
 cases B0
 ·go_wp2_with fail
  go_ret
  exact ⟨by first | rfl | simp, by first | exact below_tr hp HB.out HB1.out | (rw [hp]; exact below_tr hp HB.out HB1.out)⟩
 ·go_wp2_with (go_at_call 154; refine HK2.out.mono ?_; rintro e w2 ⟨rfl, hb2⟩; have HB2 := Lib.hid (below_trans HB1.out hb2); clear hb2)
  go_ret
  exact ⟨by first | rfl | simp, by first | exact below_tr hp HB.out HB2.out | (rw [hp]; exact below_tr hp HB.out HB2.out)⟩
set_option maxHeartbeats 8000000 in
theorem hold_8 (x : Ln) (net : Int) (ml : Value) (lo hi : Tx) (n : Int) (ks : List Cd)
  (IH : ∀ k ∈ ks, ∀ (m : Value) (w : World), KsAt All w m k.kids → TxAt All w ml x.mods → HoldsC x net ml k m w)
  (m : Value) (w : World) (hK : KsAt All w m ks) (hx : TxAt All w ml x.mods) : HoldsC x net ml ⟨8, lo, hi, n, ks⟩ m w := by
 have HRES : Hid (holdsB x net ⟨8, lo, hi, n, ks⟩ = (kidB x net ks 0 || kidB x net ks 1)) := by
  show _ = _
  exact holds_or x net n lo hi ks
 unfold HoldsC
 rw [HRES.out]
 show Calls _ _ #[.agg #[.int .i64 8, .string (mk lo), .string (mk hi), .int .i64 n, m], _, _] _ _
 obtain ⟨B0, HB0⟩ : ∃ B, Hid (kidB x net ks 0 = B) := ⟨_, rfl⟩
 rw [HB0.out]
 obtain ⟨B1, HB1⟩ : ∃ B, Hid (kidB x net ks 1 = B) := ⟨_, rfl⟩
 rw [HB1.out]
 have HKD := Lib.hid fun (i : Nat) (hi1 : i ≤ 1) W m (h1 : KsAt All W m ks) (h2 : TxAt All W ml x.mods) => kid_step x net ml ⟨8, lo, hi, n, ks⟩ i hi1 IH m W h1 h2
 obtain ⟨hb, hz1, hz2⟩ := box_cl w ⟨8, lo, hi, n, ks⟩ m x ml
 have HB := Lib.hid hb
 have HX := Lib.hid hz1
 have HL := Lib.hid hz2
 have HK := Lib.hid (hK.grw hb)
 have HM := Lib.hid (tx_grw hx hb)
 obtain ⟨a, k, rfl, hk1, hk2⟩ := hK.form
 obtain ⟨la, lk, rfl, hl1, hl2⟩ := tx_form hx
 clear hK hx hb hz1 hz2 HRES IH
 go_enter Tryz.func126, Tryz.ntmps126
 go_upto_region 1 with fail
 generalize (w.alloc (.cells #[.int .i64 8, .string (mk lo), .string (mk hi), .int .i64 n, .slice a ks.length k] 82)).alloc (.cells #[.string (mk x.proc), .slice la x.mods.length lk, .int .i64 x.date, .int .i64 x.units, .int .i64 x.billed, .int .i64 x.prior] 46) = W at *
 generalize hp : w.heap.size = p at *
 obtain ⟨q, hq⟩ : ∃ q, q = p + 1 := ⟨_, rfl⟩
 rw [← hq] at HL ⊢
 clear hq
 obtain ⟨x0, x1, x2, x3, x4⟩ := bfive HX.out
 obtain ⟨y0, y1, y2, y3, y4, y5⟩ := bsix HL.out
 have HW0 := Lib.hid (Below.refl W.heap.size W)
 have HK0 := Lib.hid (HKD.out 0 (by omega) W _ HK.out HM.out)
 have HK1 := Lib.hid fun W' (hW : Below W.heap.size W W') => HKD.out 1 (by omega) W' _ (HK.out.grw hW) (tx_grw HM.out hW)
 have HXK := Lib.hid fun W' (hW : Below W.heap.size W W') => And.intro (bfive (keepB HX.out hW)) (bsix (keepB HL.out hW))
 change Hid (Calls _ _ _ _ fun e w' => e = .returned (.bool (kidB x net ks 0)) ∧ _) at HK0
 rw [HB0.out] at HK0
 change Hid (∀ W' (hW : Below W.heap.size W W'), Calls _ _ _ _ fun e w' => e = .returned (.bool (kidB x net ks 1)) ∧ _) at HK1
 rw [HB1.out] at HK1
 clear HB1
 clear HKD HK HM HB0
 go_wp2_with fail
 go_at_call 154
 refine HK0.out.mono ?_
 rintro e w1 ⟨rfl, hb1⟩
 have HB1 := Lib.hid hb1
 clear x0 x1 x2 x3 x4 y0 y1 y2 y3 y4 y5
 obtain ⟨⟨x0, x1, x2, x3, x4⟩, ⟨y0, y1, y2, y3, y4, y5⟩⟩ := HXK.out _ hb1
 have HK2 := Lib.hid (HK1.out _ hb1)
 clear hb1 HK0 HK1 HXK HW0
 cases B0
 ·go_wp2_with (go_at_call 154; refine HK2.out.mono ?_; rintro e w2 ⟨rfl, hb2⟩; have HB2 := Lib.hid (below_trans HB1.out hb2); clear hb2)
  go_ret
  exact ⟨by first | rfl | simp, by first | exact below_tr hp HB.out HB2.out | (rw [hp]; exact below_tr hp HB.out HB2.out)⟩
 ·go_wp2_with fail
  go_ret
  exact ⟨by first | rfl | simp, by first | exact below_tr hp HB.out HB1.out | (rw [hp]; exact below_tr hp HB.out HB1.out)⟩
set_option maxHeartbeats 8000000 in
theorem hold_9 (x : Ln) (net : Int) (ml : Value) (lo hi : Tx) (n : Int) (ks : List Cd) (K : Int) (hKK : K < 0 ∨ 8 < K)
  (m : Value) (w : World) (hK : KsAt All w m ks) (hx : TxAt All w ml x.mods) : HoldsC x net ml ⟨K, lo, hi, n, ks⟩ m w := by
 have HRES : Hid (holdsB x net ⟨K, lo, hi, n, ks⟩ = false) := by
  show _ = _
  exact holds_none x net n K lo hi ks hKK
 unfold HoldsC
 rw [HRES.out]
 show Calls _ _ #[.agg #[.int .i64 K, .string (mk lo), .string (mk hi), .int .i64 n, m], _, _] _ _
 have b0 : (K == 0) = false := by simp; omega
 have b1 : (K == 1) = false := by simp; omega
 have b2 : (K == 2) = false := by simp; omega
 have b3 : (K == 3) = false := by simp; omega
 have b4 : (K == 4) = false := by simp; omega
 have b5 : (K == 5) = false := by simp; omega
 have b6 : (K == 6) = false := by simp; omega
 have b7 : (K == 7) = false := by simp; omega
 have b8 : (K == 8) = false := by simp; omega
 obtain ⟨hb, hz1, hz2⟩ := box_cl w ⟨K, lo, hi, n, ks⟩ m x ml
 have HB := Lib.hid hb
 have HX := Lib.hid hz1
 have HL := Lib.hid hz2
 have HK := Lib.hid (hK.grw hb)
 have HM := Lib.hid (tx_grw hx hb)
 obtain ⟨a, k, rfl, hk1, hk2⟩ := hK.form
 obtain ⟨la, lk, rfl, hl1, hl2⟩ := tx_form hx
 clear hK hx hb hz1 hz2 HRES hKK
 go_enter Tryz.func126, Tryz.ntmps126
 go_upto_region 1 with fail
 generalize (w.alloc (.cells #[.int .i64 K, .string (mk lo), .string (mk hi), .int .i64 n, .slice a ks.length k] 82)).alloc (.cells #[.string (mk x.proc), .slice la x.mods.length lk, .int .i64 x.date, .int .i64 x.units, .int .i64 x.billed, .int .i64 x.prior] 46) = W at *
 generalize hp : w.heap.size = p at *
 obtain ⟨q, hq⟩ : ∃ q, q = p + 1 := ⟨_, rfl⟩
 rw [← hq] at HL ⊢
 clear hq
 obtain ⟨x0, x1, x2, x3, x4⟩ := bfive HX.out
 obtain ⟨y0, y1, y2, y3, y4, y5⟩ := bsix HL.out
 have HW0 := Lib.hid (Below.refl W.heap.size W)
 go_wp2_with fail
 go_ret
 exact ⟨by first | rfl | simp, by first | exact below_tr hp HB.out HW0.out | (rw [hp]; exact below_tr hp HB.out HW0.out)⟩
theorem hold_any (x : Ln) (net : Int) (ml : Value) : ∀ (N : Nat) (c : Cd), SizeOf.sizeOf c < N → ∀ (m : Value) (w : World), KsAt All w m c.kids → TxAt All w ml x.mods → HoldsC x net ml c m w := by
 intro N
 induction N with
 | zero => intro c h; omega
 | succ N ih =>
  intro c hc m w hK hx
  obtain ⟨k, lo, hi, n, ks⟩ := c
  have IH : ∀ c ∈ ks, ∀ (m : Value) (w : World), KsAt All w m c.kids → TxAt All w ml x.mods → HoldsC x net ml c m w := fun c hm m w h1 h2 => ih c (by
   have h3 := List.sizeOf_lt_of_mem hm
   simp at hc
   omega) m w h1 h2
  by_cases h0 : k = 0
  ·subst h0; exact hold_0 x net ml lo hi n ks m w hK hx
  by_cases h1 : k = 1
  ·subst h1; exact hold_1 x net ml lo hi n ks m w hK hx
  by_cases h2 : k = 2
  ·subst h2; exact hold_2 x net ml lo hi n ks m w hK hx
  by_cases h3 : k = 3
  ·subst h3; exact hold_3 x net ml lo hi n ks m w hK hx
  by_cases h4 : k = 4
  ·subst h4; exact hold_4 x net ml lo hi n ks m w hK hx
  by_cases h5 : k = 5
  ·subst h5; exact hold_5 x net ml lo hi n ks m w hK hx
  by_cases h6 : k = 6
  ·subst h6; exact hold_6 x net ml lo hi n ks IH m w hK hx
  by_cases h7 : k = 7
  ·subst h7; exact hold_7 x net ml lo hi n ks IH m w hK hx
  by_cases h8 : k = 8
  ·subst h8; exact hold_8 x net ml lo hi n ks IH m w hK hx
  exact hold_9 x net ml lo hi n ks k (by omega) m w hK hx
end Go.Proofs.YtfoooldkmokjpaaGreatDoor.Ul
end
section
set_option maxRecDepth 100000
namespace Go.Proofs.YtfoooldkmokjpaaGreatDoor.Ul
open Go.RowKit
open Pl (Cd St Ru Pn KsAt StsAt RusAt RuIn Ok1 cdv stv ruv pnv below_alloc below_trans bfive bsix beight below_tr)
open Wo (box_cell box_two keepB heap_far)
open Cm (Ln)
set_option maxHeartbeats 8000000 in
theorem app_any (x : Ln) (net : Int) (ml : Value) (r : Ru) (k u s : Value) (w : World) (h : RuIn All w r k u s) (hx : TxAt All w ml x.mods) :
  Calls Tryz.prog 86 #[ruv r k u s, lnv x ml, .int .i64 net] w fun e w' => e = .returned (.bool (appB x net r)) ∧ Below w.heap.size w w' := by
 obtain ⟨T, HT⟩ : ∃ T, Hid (appB x net r = T) := ⟨_, rfl⟩
 rw [HT.out]
 obtain ⟨hb, hz1, hz2⟩ := box_rl w r k u s x ml
 have HB := Lib.hid hb
 have HX := Lib.hid hz1
 have HL := Lib.hid hz2
 have HM := Lib.hid (tx_grw hx hb)
 obtain ⟨-, -, -, hk, hu, hs⟩ := h
 have HC0 := Lib.hid (hold_any x net ml _ r.cif (Nat.lt_succ_self _) _ _ (hk.grw hb) (tx_grw hx hb))
 have HU := Lib.hid (hu.grw hb)
 obtain ⟨ka, kc, rfl, -, -⟩ := hk.form
 obtain ⟨ua, uc, rfl, hu1, hu2⟩ := hu.form
 obtain ⟨sa, sc, rfl, hs1, hs2, -⟩ := hs.form
 have HCA := Lib.hid fun (c : Cd) (m : Value) (W : World) (h1 : KsAt All W m c.kids) (h2 : TxAt All W ml x.mods) => hold_any x net ml _ c (Nat.lt_succ_self _) m W h1 h2
 obtain ⟨la, lk, rfl, hl1, hl2⟩ := tx_form hx
 unfold HoldsC at HC0 HCA
 clear hk hu hs hx hb hz1 hz2
 go_enter Tryz.func86, Tryz.ntmps86
 go_upto_region 1 with fail
 generalize (w.alloc (.cells #[.int .i64 r.rank, .int .i64 r.cif.kind, .string (mk r.cif.lo), .string (mk r.cif.hi), .int .i64 r.cif.n, .slice ka r.cif.kids.length kc, .slice ua r.unl.length uc, .slice sa r.sets.length sc] 85)).alloc (.cells #[.string (mk x.proc), .slice la x.mods.length lk, .int .i64 x.date, .int .i64 x.units, .int .i64 x.billed, .int .i64 x.prior] 46) = W at *
 generalize hp : w.heap.size = p at *
 obtain ⟨q, hq⟩ : ∃ q, q = p + 1 := ⟨_, rfl⟩
 rw [← hq] at HL ⊢
 clear hq
 obtain ⟨x0, x1, x2, x3, x4, x5, x6, x7⟩ := beight HX.out
 obtain ⟨y0, y1, y2, y3, y4, y5⟩ := bsix HL.out
 go_wp2_with fail
 go_at_call 126
 refine HC0.out.mono ?_
 rintro e w1 ⟨rfl, hb1⟩
 have HB1 := Lib.hid (below_tr hp HB.out hb1)
 have HX1 := Lib.hid (keepB HX.out hb1)
 have HL1 := Lib.hid (keepB HL.out hb1)
 have HM1 := Lib.hid (tx_grw HM.out hb1)
 have HU1 := Lib.hid (HU.out.grw hb1)
 have HW0 := Lib.hid (Below.refl w1.heap.size w1)
 have HXK := Lib.hid fun W' (hW : Below w1.heap.size w1 W') => And.intro (beight (keepB HX1.out hW)) (bsix (keepB HL1.out hW))
 clear hb1 HC0 HX HL HM HU x0 x1 x2 x3 x4 x5 x6 x7 y0 y1 y2 y3 y4 y5 HB
 obtain ⟨x0, x1, x2, x3, x4, x5, x6, x7⟩ := beight HX1.out
 obtain ⟨y0, y1, y2, y3, y4, y5⟩ := bsix HL1.out
 cases hc : holdsB x net r.cif
 ·have HR : Hid (T = false) := by show _ = _; rw [← HT.out]; unfold appB; rw [hc]; rfl
  clear HT HXK HCA hc
  go_wp2
  go_ret
  exact ⟨by first | rfl | (rw [HR.out]; rfl), by first | exact below_tr hp HB1.out HW0.out | (rw [hp]; exact below_tr hp HB1.out HW0.out)⟩
 have HTE : Hid (T = !r.unl.any (holdsB x net)) := by show _ = _; rw [← HT.out]; unfold appB; rw [hc]; rfl
 clear HT hc
 go_wp2
 go_loopg [18] (r.unl.length) (fun g i wr => ∃ j : Nat, j ≤ r.unl.length ∧ g = r.unl.length - j ∧ i = .int .i64 j ∧ Hid (Below w1.heap.size w1 wr) ∧ Hid ((r.unl.take j).any (holdsB x net) = false))
 case atStart => exact ⟨0, Nat.zero_le _, rfl, rfl, HW0.out, rfl⟩
 case round =>
  clear x0 x1 x2 x3 x4 x5 x6 x7 y0 y1 y2 y3 y4 y5 HW0
  obtain ⟨j, hj, hgk, rfl, HBr, HA⟩ := hrel
  obtain ⟨⟨x0, x1, x2, x3, x4, x5, x6, x7⟩, ⟨y0, y1, y2, y3, y4, y5⟩⟩ := HXK.out _ HBr.out
  by_cases hlt : j < r.unl.length
  case neg =>
   have HR : Hid (T = true) := by
    show _ = _
    have h := HA.out
    rw [List.take_of_length_le (by omega)] at h
    rw [HTE.out, h]; rfl
   clear HA
   go_wp2
   go_ret
   exact ⟨by first | rfl | (rw [HR.out]; rfl), by first | exact below_tr hp HB1.out HBr.out | (rw [hp]; exact below_tr hp HB1.out HBr.out)⟩
  obtain ⟨b, o, mv, rfl, hbs, hxx, hcc, hkk, hok⟩ := KsAt.get (HU1.out.grw HBr.out) j hlt
  obtain ⟨z0, z1, z2, z3, z4⟩ := hcc
  have hbz := below_alloc wr (.cells #[.int .i64 r.unl[j].kind, .string (mk r.unl[j].lo), .string (mk r.unl[j].hi), .int .i64 r.unl[j].n, mv] 82)
  have HC := Lib.hid (HCA.out r.unl[j] mv _ (hkk.grw hbz) (tx_grw HM1.out (below_trans HBr.out hbz)))
  obtain ⟨na, nc, rfl, -, -⟩ := hkk.form
  have HBz := Lib.hid (below_trans HBr.out hbz)
  have HLz := Lib.hid (HXK.out _ (below_trans HBr.out hbz)).2
  have HZ := Lib.hid (heap_alloc_new wr (.cells #[.int .i64 r.unl[j].kind, .string (mk r.unl[j].lo), .string (mk r.unl[j].hi), .int .i64 r.unl[j].n, .slice na r.unl[j].kids.length nc] 82))
  have HHit := Lib.hid fun e => any_hitC (holdsB x net) r.unl j _ hxx e
  have HSn := Lib.hid fun e => any_snocC (holdsB x net) r.unl j _ hxx HA.out e
  clear hkk hok hxx hbz HA
  generalize r.unl[j] = kd at *
  go_upto_region 6 with fail
  clear x0 x1 x2 x3 x4 x5 x6 x7 y0 y1 y2 y3 y4 y5 z0 z1 z2 z3 z4
  generalize wr.alloc (.cells #[.int .i64 kd.kind, .string (mk kd.lo), .string (mk kd.hi), .int .i64 kd.n, .slice na kd.kids.length nc] 82) = W3 at *
  generalize wr.heap.size = p3 at *
  obtain ⟨y0, y1, y2, y3, y4, y5⟩ := HLz.out
  obtain ⟨z0, z1, z2, z3, z4⟩ := bfive HZ.out
  cases hq : holdsB x net kd
  all_goals
   rw [hq] at HC
   go_wp2_with (go_at_call 126; refine HC.out.mono ?_; rintro e w3 ⟨rfl, hb3⟩; have HB3 := Lib.hid (below_trans HBz.out hb3); clear hb3)
  ·go_roundg (r.unl.length - (j + 1))
   case rel => exact ⟨j + 1, by omega, rfl, by go_num, HB3.out, HSn.out hq⟩
   case measure => omega
  ·have HR : Hid (T = false) := by show _ = _; rw [HTE.out, HHit.out hq]; rfl
   go_ret
   exact ⟨by first | rfl | (rw [HR.out]; rfl), by first | exact below_tr hp HB1.out HB3.out | (rw [hp]; exact below_tr hp HB1.out HB3.out)⟩
end Go.Proofs.YtfoooldkmokjpaaGreatDoor.Ul
end
