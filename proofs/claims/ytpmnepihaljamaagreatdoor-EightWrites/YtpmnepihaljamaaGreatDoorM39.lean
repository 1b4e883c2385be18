/-
  Texts put together (merge.py): KWrap, EWrt.
-/
import Derived.Lib.ItoaLen
import Derived.Test.YtpmnepihaljamaaGreatDoorM19
import Derived.Test.YtpmnepihaljamaaGreatDoorM32
import Derived.Test.YtpmnepihaljamaaGreatDoorM38
import Derived.Test.YtpmnepihaljamaaGreatDoorM6
/-
  What cover.Wrap answers, as a contract.
-/
section
set_option linter.unusedSimpArgs false
namespace Go.Proofs.YtpmnepihaljamaaGreatDoor
open Go.RowKit

theorem ln_append (a b : List Sg) : ln (a ++ b) = ln a + ln b := by simp [ln]
theorem ln_seg3 (a b c : Tx) : ln [seg3 a b c] = 3 + a.length + b.length + c.length := by simp [ln, seg3]; omega
theorem kind_len {k : Tx} (h : kindB k = true) : k.length = 3 := by
  simp only [kindB, Bool.and_eq_true, decide_eq_true_eq] at h
  exact h.1
theorem ln_abt (k : Tx) (n : Int) (l : List Sg) (hk : k.length = 3) (h0 : 0 ≤ n) (h1 : n ≤ 999999999) (hl : l.length ≤ 100000) : ln (abt k n l) ≤ ln l + 200 := by
  have e : abt k n l = [seg3 tGS k (Lib.itoa n)] ++ ([seg3 tST k (Lib.itoa n)] ++ (l ++ ([seg3 tSE (Lib.itoa ((l.length : Int) + 2)) (Lib.itoa n)] ++ ([seg3 tGE t1 (Lib.itoa n)] ++ [seg3 tIEA t1 (Lib.itoa n)])))) := rfl
  have l1 := Lib.itoa_length_le n (by omega) (by omega)
  have l2 := Lib.itoa_length_le ((l.length : Int) + 2) (by omega) (by omega)
  rw [e, ln_append, ln_append, ln_append, ln_append, ln_append, ln_seg3, ln_seg3, ln_seg3, ln_seg3, ln_seg3, hk]
  have e1 : tGS.length = 2 := rfl
  have e2 : tST.length = 2 := rfl
  have e3 : tSE.length = 2 := rfl
  have e4 : tGE.length = 2 := rfl
  have e5 : tIEA.length = 3 := rfl
  have e6 : t1.length = 1 := rfl
  omega
theorem wp_notOk {e p s : UInt8} {k : Tx} {n : Int} (l : List Sg) (h : wpOk e p s k n = false) : wpV e p s k n l = [] ∧ wpE e p s k n l = 1 := by
  have : wpE e p s k n l = 1 := by unfold wpE; rw [if_pos h]
  exact ⟨wp_bad (by rw [this]; decide), this⟩
theorem wp_ok {e p s : UInt8} {k : Tx} {n : Int} (hg : goodB e p s = true) (hk : kindB k = true) (h0 : 0 ≤ n) (h1 : n ≤ 999999999) : wpOk e p s k n = true := by simp [wpOk, hg, hk, h0, h1]
theorem wp_notW {e p s : UInt8} {k : Tx} {n : Int} {l : List Sg} (h : wpOk e p s k n = true) (hw : wrOk e p s (abt k n l) = false) : wpV e p s k n l = [] ∧ wpE e p s k n l = 1 := by
  have : wpE e p s k n l = 1 := by unfold wpE; rw [h, hw]; rfl
  exact ⟨wp_bad (by rw [this]; decide), this⟩
theorem wp_long {e p s : UInt8} {k : Tx} {n : Int} {l : List Sg} (h : wpOk e p s k n = true) (hw : wrOk e p s (abt k n l) = true) (hl : 65536 < (wrT e p s (abt k n l)).length + 6) : wpV e p s k n l = [] ∧ wpE e p s k n l = 10 := by
  have : wpE e p s k n l = 10 := by unfold wpE; rw [h, hw, if_pos hl]; rfl
  exact ⟨wp_bad (by rw [this]; decide), this⟩
theorem sgs_three {w : World} {v1 v2 v3 : Value} {l1 l2 l3 : List Sg} (h1 : SgAt All w v1 l1) (h2 : SgAt All w v2 l2) (h3 : SgAt All w v3 l3) : SgsAt (w.alloc (.cells #[v1, v2, v3] 53)) (.slice (some ⟨w.heap.size, 0, none⟩) 3 3) [l1, l2, l3] := by
  refine row_new (R := SgAt All) w [v1, v2, v3] [l1, l2, l3] 53 rfl (by simp only [maxLen]; simp) fun j u x hu hx => ?_
  have hm := Below.moves (below_alloc w (.cells #[v1, v2, v3] 53))
  match j, hu, hx with
  | 0, hu, hx => simp at hu hx; subst hu hx; exact SgAt.move h1 hm
  | 1, hu, hx => simp at hu hx; subst hu hx; exact SgAt.move h2 hm
  | 2, hu, hx => simp at hu hx; subst hu hx; exact SgAt.move h3 hm
theorem abt_flat (k : Tx) (n : Int) (l : List Sg) : [fore k (Lib.itoa n), l, aft l.length (Lib.itoa n)].flatten = abt k n l := by simp [abt]

set_option maxHeartbeats 4000000 in
set_option maxRecDepth 100000 in
theorem wrap_any (e p s : UInt8) (kk : ByteArray) (n : Int) (v : Value) (l : List Sg) (w : World) (h : SgAt All w v l) (hT : Tab w) (n0 : -9223372036854775808 ≤ n) (n1 : n ≤ 9223372036854775807) (hl : l.length ≤ 100000) (hln : ln l ≤ 90000) :
    Calls Tryz.prog 24 #[dv e p s, .string kk, .int .i64 n, v] w fun x w' => x = .returned (.tuple #[.string (mk (wpV e p s kk.data.toList n l)), .int .i64 (wpE e p s kk.data.toList n l)]) ∧ Below w.heap.size w w' := by
  have HGd := Lib.hid fun W => good_any e p s W
  have HKi := Lib.hid fun W => kind_any kk W
  have HBa := Lib.hid (below_alloc w (.cells #[.int .u8 e.toNat, .int .u8 p.toNat, .int .u8 s.toNat] 23))
  have HBX := Lib.hid (DBox.new w e p s)
  have HSg : Hid (SgAt All w v l) := h
  have HTb := Lib.hid hT
  obtain ⟨av, cv, rfl, hc1, hc2, -⟩ := h
  unfold maxLen at hc2
  clear hT
  cases hg : goodB e p s
  · rw [hg] at HGd
    have HV := Lib.hid (wp_notOk (k := kk.data.toList) (n := n) l (show wpOk e p s kk.data.toList n = false by simp [wpOk, hg]))
    clear hg
    go_enter Tryz.func24, Tryz.ntmps24
    go_wp2_with (first | (go_at_call 45; refine (HGd.out _).mono ?_; rintro x w1 ⟨rfl, hb⟩; have HB1 := Lib.hid (below_trans HBa.out hb); clear hb))
    go_ret2
    exact ⟨by rw [HV.out.1, HV.out.2]; rfl, HB1.out⟩
  rw [hg] at HGd
  cases hk : kindB kk.data.toList
  · rw [hk] at HKi
    have HV := Lib.hid (wp_notOk (k := kk.data.toList) (n := n) l (show wpOk e p s kk.data.toList n = false by simp [wpOk, hk]))
    clear hg hk
    go_enter Tryz.func24, Tryz.ntmps24
    go_wp2_with (first | (go_at_call 45; refine (HGd.out _).mono ?_; rintro x w1 ⟨rfl, hb⟩; have HB1 := Lib.hid (below_trans HBa.out hb); clear hb) | (go_at_call 46; refine (HKi.out _).mono ?_; rintro x w2 ⟨rfl, rfl⟩))
    go_ret2
    exact ⟨by rw [HV.out.1, HV.out.2]; rfl, HB1.out⟩
  rw [hk] at HKi
  by_cases h0 : n < 0
  · have HV := Lib.hid (wp_notOk (k := kk.data.toList) (n := n) l (show wpOk e p s kk.data.toList n = false by simp [wpOk]; omega))
    clear hg hk
    go_enter Tryz.func24, Tryz.ntmps24
    go_wp2_with (first | (go_at_call 45; refine (HGd.out _).mono ?_; rintro x w1 ⟨rfl, hb⟩; have HB1 := Lib.hid (below_trans HBa.out hb); clear hb) | (go_at_call 46; refine (HKi.out _).mono ?_; rintro x w2 ⟨rfl, rfl⟩))
    go_ret2
    exact ⟨by rw [HV.out.1, HV.out.2]; rfl, HB1.out⟩
  by_cases h9 : 999999999 < n
  · have HV := Lib.hid (wp_notOk (k := kk.data.toList) (n := n) l (show wpOk e p s kk.data.toList n = false by simp [wpOk]; omega))
    clear hg hk
    go_enter Tryz.func24, Tryz.ntmps24
    go_wp2_with (first | (go_at_call 45; refine (HGd.out _).mono ?_; rintro x w1 ⟨rfl, hb⟩; have HB1 := Lib.hid (below_trans HBa.out hb); clear hb) | (go_at_call 46; refine (HKi.out _).mono ?_; rintro x w2 ⟨rfl, rfl⟩))
    go_ret2
    exact ⟨by rw [HV.out.1, HV.out.2]; rfl, HB1.out⟩
  have hok := wp_ok hg hk (show 0 ≤ n by omega) (show n ≤ 999999999 by omega)
  have hla := ln_abt kk.data.toList n l (kind_len hk) (by omega) (by omega) hl
  have HIn : Hid (∀ W, Below w.heap.size w W → Calls Tryz.prog 41 #[.int .i64 n] W fun e w' => e = .returned (.string (mk (Lib.itoa n))) ∧ Below W.heap.size W w') := fun W hW => Nu.int_any n n0 n1 W (tab_grw HTb.out hW).2.2
  have hA := fun W => ahead_any kk.data.toList (Lib.itoa n) W
  rw [mk_of] at hA
  have HAh := Lib.hid hA
  have HBh : Hid (∀ W, Below w.heap.size w W → Calls Tryz.prog 50 #[.int .i64 l.length, .string (mk (Lib.itoa n))] W fun x w' => (∃ b, x = .returned (.slice (some ⟨b, 0, none⟩) 3 3) ∧ SgAt All w' (.slice (some ⟨b, 0, none⟩) 3 3) (aft l.length (Lib.itoa n))) ∧ Below W.heap.size W w') := fun W hW => behind_any l.length (Lib.itoa n) W (tab_grw HTb.out hW) (by omega)
  have HCc : Hid (∀ W v1 v2, SgAt All W v1 (fore kk.data.toList (Lib.itoa n)) → SgAt All W (.slice av l.length cv) l → SgAt All W v2 (aft l.length (Lib.itoa n)) → Calls Tryz.prog 48 #[.slice (some ⟨W.heap.size, 0, none⟩) 3 3] (W.alloc (.cells #[v1, .slice av l.length cv, v2] 53)) fun x w' => (∃ u, x = .returned u ∧ SgAt All w' u (abt kk.data.toList n l)) ∧ Below W.heap.size W w') := fun W v1 v2 h1 h2 h3 => by
    have hc := concat_any _ _ _ (sgs_three h1 h2 h3) (by rw [abt_flat, abt_len]; omega) (by rw [abt_flat, abt_len]; omega)
    rw [abt_flat] at hc
    exact hc.mono fun x w' ⟨a, b⟩ => ⟨a, below_trans (below_alloc W _) b⟩
  have HWr := Lib.hid fun W u h => write_any e p s u (abt kk.data.toList n l) W h (by omega)
  have HHd := Lib.hid fun W => head_any e p s W
  have HSW : Hid (∀ W, Below w.heap.size w W → SgAt All W (.slice av l.length cv) l) := fun W hW => SgAt.move HSg.out (Below.moves hW)
  have HDX : Hid (∀ W, Below (w.alloc (.cells #[.int .u8 e.toNat, .int .u8 p.toNat, .int .u8 s.toNat] 23)).heap.size (w.alloc (.cells #[.int .u8 e.toNat, .int .u8 p.toNat, .int .u8 s.toNat] 23)) W → (W.cell? ⟨w.heap.size, 0, none⟩ = some (.int .u8 e.toNat) ∧ W.cell? ⟨w.heap.size, 1, none⟩ = some (.int .u8 p.toNat) ∧ W.cell? ⟨w.heap.size, 2, none⟩ = some (.int .u8 s.toNat)) ∧ Below w.heap.size w W) := fun W hW => ⟨(DBox.grw HBX.out hW).2, below_trans HBa.out hW⟩
  have HRef : Hid (∀ W : World, Below W.heap.size W W.drew) := fun W => Below.drew (Below.refl _ W)
  have HE0 := Lib.hid (Below.refl (w.alloc (.cells #[.int .u8 e.toNat, .int .u8 p.toNat, .int .u8 s.toNat] 23)).heap.size (w.alloc (.cells #[.int .u8 e.toNat, .int .u8 p.toNat, .int .u8 s.toNat] 23)))
  have HLA := Lib.hid hla
  clear hA hg hk hla
  go_enter Tryz.func24, Tryz.ntmps24
  go_upto_region 4 with (first | (go_at_call 45; refine (HGd.out _).mono ?_; rintro x w1 ⟨rfl, hb⟩; have HB1 := Lib.hid (below_trans HE0.out hb); clear hb) | (go_at_call 46; refine (HKi.out _).mono ?_; rintro x w2 ⟨rfl, rfl⟩) | (go_at_call 41; refine (HIn.out _ (HDX.out _ HB1.out).2).mono ?_; rintro x w3 ⟨rfl, hb⟩; have HB3 := Lib.hid (below_trans HB1.out hb); clear hb))
  obtain ⟨⟨d0, d1, d2⟩, -⟩ := HDX.out _ HB3.out
  have HB3d := Lib.hid (below_trans HB3.out (HRef.out w3))
  go_region_held3 (fun w' => w'.cell? ⟨w.heap.size, 0, none⟩ = some (.int .u8 e.toNat) ∧ w'.cell? ⟨w.heap.size, 1, none⟩ = some (.int .u8 p.toNat) ∧ w'.cell? ⟨w.heap.size, 2, none⟩ = some (.int .u8 s.toNat)) (go_keep) (first | (go_at_call 49; refine (HAh.out _).mono ?_; rintro x w4 ⟨⟨ab, rfl, hs⟩, hb⟩; have HS4 := Lib.hid hs; have HB4 := Lib.hid (below_trans HB3d.out hb); obtain ⟨⟨r0, r1, r2⟩, -⟩ := HDX.out _ HB4.out; clear hb hs) | (go_at_call 50; refine (HBh.out _ (HDX.out _ HB4.out).2).mono ?_; rintro x w5 ⟨⟨bb, rfl, hs⟩, hb⟩; have HS5 := Lib.hid hs; have HS4b := Lib.hid (SgAt.move HS4.out (Below.moves hb)); have HB5 := Lib.hid (below_trans HB4.out hb); obtain ⟨⟨r0, r1, r2⟩, -⟩ := HDX.out _ HB5.out; clear hb hs) | (go_at_call 48; refine (HCc.out _ _ _ HS4b.out (HSW.out _ (HDX.out _ HB5.out).2) HS5.out).mono ?_; rintro x w6 ⟨⟨u, rfl, hs⟩, hb⟩; have HS6 := Lib.hid hs; have HB6 := Lib.hid (below_trans HB5.out hb); obtain ⟨⟨r0, r1, r2⟩, -⟩ := HDX.out _ HB6.out; clear hb; obtain ⟨ua, uc, rfl, -, -, -⟩ := hs) | (go_at_call 47; refine (HWr.out _ _ HS6.out).mono ?_; rintro x w7 ⟨rfl, hb⟩; have HB7 := Lib.hid (below_trans HB6.out hb); obtain ⟨⟨r0, r1, r2⟩, -⟩ := HDX.out _ HB7.out; clear hb))
  clear d0 d1 d2
  obtain ⟨⟨d0, d1, d2⟩, hbw⟩ := HDX.out _ HB7.out
  have HBw := Lib.hid hbw
  clear hbw
  cases hw : wrOk e p s (abt kk.data.toList n l)
  · have HV := Lib.hid (wp_notW hok hw)
    rw [(wr_bad hw).1, (wr_bad hw).2]
    clear hw hok
    go_wp2
    go_ret2
    exact ⟨by rw [HV.out.1, HV.out.2]; rfl, HBw.out⟩
  · rw [(wr_good hw).1, (wr_good hw).2]
    have hlen := wrT_len (abt kk.data.toList n l) (wr_ok hw).2.2
    have hlz := HLA.out
    have hsz := mk_size (wrT e p s (abt kk.data.toList n l))
    have hsh := mk_size (headL e p s)
    have hmm := mk_app (headL e p s) (wrT e p s (abt kk.data.toList n l))
    have HM := Lib.hid hmm
    by_cases hlong : 65536 < (wrT e p s (abt kk.data.toList n l)).length + 6
    · have HV := Lib.hid (wp_long hok hw hlong)
      clear hw hok hmm
      rw [← hsz] at hlong hlen
      generalize mk (wrT e p s (abt kk.data.toList n l)) = T at *
      generalize mk (headL e p s) = H at *
      have hsh6 : H.size = 6 := hsh
      clear hsh hsz
      have hlb : (65536 : Int) < 6 + (T.size : Int) := by omega
      have hla : (T.size : Int) ≤ 100000 := by omega
      go_wp2_with (go_at_call 51; refine (HHd.out _).mono ?_; rintro x w8 ⟨rfl, hb⟩; have HB8 := Lib.hid (below_trans HBw.out hb); clear hb)
      go_ret2
      exact ⟨by rw [HV.out.1, HV.out.2]; rfl, HB8.out⟩
    · have hz := wp_of (k := kk.data.toList) (n := n) (l := l) (by simp only [wpOk, Bool.and_eq_true] at hok; exact hok.1.1.1) (by simp only [wpOk, Bool.and_eq_true] at hok; exact hok.1.1.2) (by omega) (by omega) hw (by omega)
      have HV := Lib.hid (wp_zero hz).2.2.2.2.2.2
      have HE := Lib.hid hz
      clear hw hok hmm hz
      rw [← hsz] at hlong hlen
      generalize mk (wrT e p s (abt kk.data.toList n l)) = T at *
      generalize mk (headL e p s) = H at *
      have hsh6 : H.size = 6 := hsh
      clear hsh hsz
      have hlb : ¬ (65536 : Int) < 6 + (T.size : Int) := by omega
      have hla : (T.size : Int) ≤ 100000 := by omega
      go_wp2_with (go_at_call 51; refine (HHd.out _).mono ?_; rintro x w8 ⟨rfl, hb⟩; have HB8 := Lib.hid (below_trans HBw.out hb); clear hb)
      go_ret2
      exact ⟨by rw [HV.out, HE.out, ← HM.out]; rfl, HB8.out⟩
end Go.Proofs.YtpmnepihaljamaaGreatDoor
end

/-
  What eight.Write answers, as a contract.
-/
section
set_option linter.unusedSimpArgs false
set_option maxRecDepth 100000
namespace Go.Proofs.YtpmnepihaljamaaGreatDoor
open Go.RowKit
open Cm (Ln Cl ClsAt clv ClOk btv)

theorem box3 {w : World} {b : Nat} {c0 c1 c2 : Value} {T : TypeId} (h : w.heap[b]? = some (.cells #[c0, c1, c2] T (0, 0))) : w.cell? ⟨b, 0, none⟩ = some c0 ∧ w.cell? ⟨b, 1, none⟩ = some c1 ∧ w.cell? ⟨b, 2, none⟩ = some c2 := by
  refine ⟨?_, ?_, ?_⟩ <;> rw [cell_of_row w b _ _ T (0, 0) h] <;> rfl
theorem box2 {w : World} {b : Nat} {c0 c1 : Value} {T : TypeId} (h : w.heap[b]? = some (.cells #[c0, c1] T (0, 0))) : w.cell? ⟨b, 0, none⟩ = some c0 ∧ w.cell? ⟨b, 1, none⟩ = some c1 := by
  refine ⟨?_, ?_⟩ <;> rw [cell_of_row w b _ _ T (0, 0) h] <;> rfl
theorem kept_by {w w' : World} {b B n : Nat} {cs : Array Value} {T U : TypeId} {v : Value} {xs : List Value} (h : w.heap[b]? = some (.cells cs T (0, 0))) (ho : w.ownsRow B U 1 v n xs) (hT : T ≠ U) (hg : w.grownBy w' v.ownBlock) : w'.heap[b]? = some (.cells cs T (0, 0)) := by
  rw [hg.block b (Array.getElem?_eq_some_iff.1 h).1 (Ne.symm (Lib.ownBlock_ne ho h hT))]; exact h
theorem clS_len (k : Nat) (c : Cl) : 0 < (Et.clS k c).length ∧ (Et.clS k c).length ≤ 3 + 4 * c.lines.length := by
  have := Et.lnsS_le 0 c.lines
  unfold Et.clS Et.hdS
  simp
  omega

set_option maxHeartbeats 4000000 in
theorem ewrite_any (e p s : UInt8) (n : Int) (m : Value) (l : List Cl) (w : World) (hm : ClsAt All w m l) (hz : ∀ c ∈ l, ClOk c) (hT : Tab w) (hD : Da.Tab w) (hb : Cm.batchE n l = 0 → ln (Et.segs l) ≤ 90000 ∧ (Et.segs l).length ≤ 100000) :
    Calls Tryz.prog 11 #[dv e p s, btv n m] w fun x w' => x = .returned (.tuple #[.string (mk (Et.wtV e p s n l)), .int .i64 (Et.wtE e p s n l)]) ∧ Below w.heap.size w w' := by
  obtain ⟨am, cm, rfl, f1, f2⟩ := Cm.ClsAt.form hm
  have hB0 := below_trans (below_alloc w (.cells #[.int .u8 e.toNat, .int .u8 p.toNat, .int .u8 s.toNat] 23)) (below_alloc _ (.cells #[.int .i64 n, .slice am l.length cm] 26))
  have HX : Hid (((w.alloc (.cells #[.int .u8 e.toNat, .int .u8 p.toNat, .int .u8 s.toNat] 23)).alloc (.cells #[.int .i64 n, .slice am l.length cm] 26)).heap[w.heap.size]? = some (.cells #[.int .u8 e.toNat, .int .u8 p.toNat, .int .u8 s.toNat] 23 (0, 0))) := keepB (heap_alloc_new w _) (below_alloc _ _)
  have HY : Hid (((w.alloc (.cells #[.int .u8 e.toNat, .int .u8 p.toNat, .int .u8 s.toNat] 23)).alloc (.cells #[.int .i64 n, .slice am l.length cm] 26)).heap[w.heap.size + 1]? = some (.cells #[.int .i64 n, .slice am l.length cm] 26 (0, 0))) := new_at _ _ _ (by simp)
  have HB0 := Lib.hid hB0
  have HCB := Lib.hid fun W (hW : Below w.heap.size w W) => Cm.batch_any n (.slice am l.length cm) l W (ClsAt.move hm (Below.moves hW)) hz (Cm.tab_below hD hW)
  have HTb := Lib.hid fun W (hW : Below w.heap.size w W) => tab_grw hT hW
  have HCl := Lib.hid fun W (hW : Below w.heap.size w W) => ClsAt.move hm (Below.moves hW)
  have HZ := Lib.hid hz
  clear hB0 hm hz hT hD
  go_enter Tryz.func11, Tryz.ntmps11
  go_upto_region 1 with fail
  generalize (w.alloc (.cells #[.int .u8 e.toNat, .int .u8 p.toNat, .int .u8 s.toNat] 23)).alloc (.cells #[.int .i64 n, .slice am l.length cm] 26) = w0 at *
  obtain ⟨y0, y1⟩ := box2 HY.out
  by_cases hbe : Cm.batchE n l = 0
  case neg =>
    have HV : Hid (Et.wtV e p s n l = [] ∧ Et.wtE e p s n l = Cm.batchE n l) := ⟨by unfold Et.wtV; rw [if_neg hbe], by unfold Et.wtE; rw [if_neg hbe]⟩
    have hne : (Cm.batchE n l != 0) = true := by simpa using hbe
    clear hb hbe
    generalize Cm.batchE n l = E at *
    go_wp2_with (first | (go_at_call 20; refine (HCB.out _ HB0.out).mono ?_; rintro x w1 ⟨rfl, hb1⟩; have HB1 := Lib.hid (below_trans HB0.out hb1); clear hb1))
    go_ret2
    exact ⟨by rw [HV.out.1, HV.out.2]; rfl, HB1.out⟩
  obtain ⟨hl1, hl2⟩ := hb hbe
  obtain ⟨b0, b1, b2, b3⟩ := Et.batch_facts hbe
  have HV : Hid (Et.wtV e p s n l = wpV e p s Et.t837 n (Et.segs l) ∧ Et.wtE e p s n l = wpE e p s Et.t837 n (Et.segs l)) := ⟨by unfold Et.wtV; rw [if_pos hbe], by unfold Et.wtE; rw [if_pos hbe]⟩
  have HCk := Lib.hid b3
  have HWr : Hid (∀ W v, SgAt All W v (Et.segs l) → Below w.heap.size w W → Calls Tryz.prog 24 #[dv e p s, .string ⟨#[56, 51, 55]⟩, .int .i64 n, v] W fun x w' => x = .returned (.tuple #[.string (mk (wpV e p s Et.t837 n (Et.segs l))), .int .i64 (wpE e p s Et.t837 n (Et.segs l))]) ∧ Below W.heap.size W w') := fun W v hv hW => wrap_any e p s ⟨#[56, 51, 55]⟩ n v (Et.segs l) W hv (HTb.out W hW) (by omega) (by omega) hl2 hl1
  rw [hbe] at HCB
  have HSG : Hid (Et.segs l = [ones [Et.tBHT, Lib.itoa (l.length : Int)]] ++ Et.clsS 0 l) := rfl
  have HWh : Hid (∀ W, Below w.heap.size w W → Calls Tryz.prog 22 #[.int .i64 (l.length : Int)] W fun e w' => e = .returned (.string (mk (Lib.itoa (l.length : Int)))) ∧ Below W.heap.size W w') := fun W hW => whole_any _ W (HTb.out W hW) (by omega) (by omega)
  clear hb hbe b3 hl1
  generalize Lib.itoa (l.length : Int) = tk at *
  generalize wpV e p s Et.t837 n (Et.segs l) = WV at *
  generalize wpE e p s Et.t837 n (Et.segs l) = WE at *
  have HSb : Hid (∀ (V W : World), Below (V.alloc (.cells #[.string ⟨#[66, 72, 84]⟩, .string (mk tk)] 9)).heap.size (V.alloc (.cells #[.string ⟨#[66, 72, 84]⟩, .string (mk tk)] 9)) W → Calls Tryz.prog 21 #[.slice (some ⟨V.heap.size, 0, none⟩) 2 2] W fun x w' => (∃ ga gc, x = .returned (.agg #[.slice ga 2 gc]) ∧ SegAt V.heap.size [Et.tBHT, tk] (.slice ga 2 gc) w') ∧ Below W.heap.size W w') := fun V W hW => eseg_row (w0 := V) (B := V.heap.size) [Et.tBHT, tk] (by simp) (Nat.le_refl _) V _ rfl (Below.refl _ _) W hW
  go_wp2_with (first | (go_at_call 20; refine (HCB.out _ HB0.out).mono ?_; rintro x w1 ⟨rfl, hb1⟩; have HS1 := Lib.hid hb1; have HB1 := Lib.hid (below_trans HB0.out hb1); have z1 := (box2 (keepB HY.out hb1)).2; clear hb1) | (go_at_call 22; refine (HWh.out _ HB1.out).mono ?_; rintro x w2 ⟨rfl, hb2⟩; have HS2 := Lib.hid (below_trans HS1.out hb2); have HB2 := Lib.hid (below_trans HB1.out hb2); clear hb2) | (go_at_call 21; refine (HSb.out w2 _ (Below.refl _ _)).mono ?_; rintro x w3 ⟨⟨ga, gc, rfl, hs⟩, hb3⟩; have HE3 := Lib.hid hs; have HS3 := Lib.hid (below_trans HS2.out (below_trans (below_alloc _ _) (below_trans hb3 (below_alloc w3 (.cells #[.slice ga 2 gc] 50))))); have HB3 := Lib.hid (below_trans HB2.out (below_trans (below_alloc _ _) hb3)); have z3 := (box2 (keepB HY.out HS3.out)).2; have hsz3 := HB3.out.size; clear hb3 hs))
  have HN3 : Hid (NewAt w.heap.size [ones [Et.tBHT, tk]] (.slice (some ⟨w3.heap.size, 0, none⟩) 1 1) (w3.alloc (.cells #[.slice ga 2 gc] 50))) := by
    refine NewAt.laid [.slice ga 2 gc] _ hsz3 rfl (by simp [maxLen]) fun j u gg hu hg => ?_
    match j, hu, hg with
    | 0, hu, hg => simp at hu hg; subst hu hg; exact ElAt.move HE3.out.els (moves_weak _ fun b _ hk => by have := HB2.out.size; omega)
  have HB4 := Lib.hid (below_trans HB3.out (below_alloc w3 (.cells #[.slice ga 2 gc] 50)))
  obtain ⟨i47, j1, j2, j3, j4⟩ := info47
  have HX4 := Lib.hid (keepB HX.out HS3.out)
  have HY4 := Lib.hid (keepB HY.out HS3.out)
  have HCm : Hid (∀ (W : World) (j : Nat) (c : Cl) (mv : Value), Below w.heap.size w W → Cm.LnsAt All W mv c.lines → c ∈ l → j ≤ 1000000 → Calls Tryz.prog 23 #[.int .i64 (j : Int), clv c mv] W fun e w' => (∃ u, e = .returned u ∧ NewAt W.heap.size (Et.clS j c) u w') ∧ Below W.heap.size W w') := fun W j c mv hW hx hxm hj => by
    obtain ⟨-, -, -, -, -, -, k7, k8, -⟩ := Et.check_facts (HCk.out c hxm)
    exact clm_any j c mv W hx (HZ.out c hxm) (HTb.out W hW) hj (fun x hx => by have := (Et.line_facts (k8 x hx)).2.1; omega) (by omega)
  have HLc : Hid (∀ c ∈ l, c.lines.length ≤ 999) := fun c hc => by
    obtain ⟨-, -, -, -, -, -, k7, -⟩ := Et.check_facts (HCk.out c hc)
    exact k7
  obtain ⟨G1, hG1, hG1l⟩ : ∃ G1 : List Sg, G1 = [ones [Et.tBHT, tk]] ∧ G1.length = 1 := ⟨_, rfl, rfl⟩
  rw [← hG1] at HN3 HSG
  clear hG1 HCB HWh HSb HE3 HS1 HS2 HS3 HB1 HB2 HB3 z1 y0 y1
  go_wp2
  go_loopg [7, 25] (l.length) (fun gg lv i wr => ∃ (j : Nat) (gs : List Sg), j ≤ l.length ∧ gg = l.length - j ∧ i = .int .i64 j ∧ gs.length ≤ 1 + 4000 * j ∧ w.heap.size ≤ wr.heap.size ∧ Hid (gs = G1 ++ Et.clsS 0 (l.take j)) ∧ Hid (NewAt w.heap.size gs lv wr) ∧ Hid (Below w.heap.size w wr) ∧ Hid (wr.heap[w.heap.size]? = some (.cells #[.int .u8 e.toNat, .int .u8 p.toNat, .int .u8 s.toNat] 23 (0, 0))) ∧ Hid (wr.heap[w.heap.size + 1]? = some (.cells #[.int .i64 n, .slice am l.length cm] 26 (0, 0))))
  case atStart => exact ⟨0, G1, Nat.zero_le _, rfl, rfl, by omega, HB4.out.size, by show _ = _; simp [Et.clsS], HN3.out, HB4.out, HX4.out, HY4.out⟩
  case round =>
    obtain ⟨j, gs, hj, hgj, rfl, hgl, hsw, HGS, HN, HB, HXr, HYr⟩ := hrel
    obtain ⟨la, lc, rfl⟩ := HN.out.form
    by_cases hlt : j < l.length
    case neg =>
      have hall : l.take j = l := List.take_of_length_le (by omega)
      have HF : Hid (gs = Et.segs l) := by show _ = _; rw [HGS.out, hall, HSG.out]
      obtain ⟨x0, x1, x2⟩ := box3 HXr.out
      obtain ⟨x3, x4⟩ := box2 HYr.out
      have HCW := Lib.hid (HWr.out wr (.slice la gs.length lc) (by rw [← HF.out]; exact HN.out.all) HB.out)
      clear hall
      go_wp2_with (first | (go_at_call 24; refine HCW.out.mono ?_; rintro x w9 ⟨rfl, hb9⟩; have HB9 := Lib.hid (below_trans HB.out hb9); clear hb9))
      go_ret2
      exact ⟨by rw [HV.out.1, HV.out.2]; rfl, HB9.out⟩
    obtain ⟨bl, ol, mv, ha, hx, hc, hr⟩ := ClsAt.get (HCl.out _ HB.out) j hlt
    obtain rfl := ha
    have HXM := Lib.hid (List.mem_of_getElem? hx)
    have HSN := Lib.hid (Et.clsS_snoc l j _ hx)
    obtain ⟨c0, c1, c2, c3, c4, c5, c6⟩ := hc
    obtain ⟨ma, mc, rfl, g1, g2⟩ := Cm.LnsAt.form hr
    have HR := Lib.hid hr
    clear hx hr
    have hbx := below_alloc wr (.cells #[.string (mk l[j].id), .string (mk l[j].mem), .string (mk l[j].fam), .int .i64 l[j].net, .int .i64 l[j].does, .string (mk l[j].ref), .slice ma l[j].lines.length mc] 43)
    have HBb := Lib.hid (below_trans HB.out hbx)
    have HNb := Lib.hid (HN.out.grw hbx)
    have HXb := Lib.hid (keepB HXr.out hbx)
    have HYb := Lib.hid (keepB HYr.out hbx)
    have HCall := Lib.hid (HCm.out _ (j + 1) l[j] _ HBb.out (Cm.LnsAt.move HR.out (Below.moves hbx)) HXM.out (by omega))
    have hlp := clS_len (j + 1) l[j]
    have hl9 := HLc.out _ HXM.out
    have HHL : Hid (0 < (Et.clS (j + 1) l[j]).length ∧ (Et.clS (j + 1) l[j]).length ≤ 4000) := ⟨hlp.1, by omega⟩
    clear hlp hl9 hbx
    generalize hLS : Et.clS (j + 1) l[j] = LS at *
    have HLS := Lib.hid hLS
    clear hLS
    go_wp2_with fail
    go_at_call 23
    refine HCall.out.mono ?_
    rintro x w1 ⟨⟨u, rfl, hnew⟩, hb⟩
    have HB1 := Lib.hid (below_trans HBb.out hb)
    have HN1 := Lib.hid (HNb.out.grw hb)
    have HX1 := Lib.hid (keepB HXb.out hb)
    have HY1 := Lib.hid (keepB HYb.out hb)
    obtain ⟨gu, cu, ns, rfl, e1, e2, e3, e4⟩ := NewAt.opn hnew HHL.out.1
    have E1 := Lib.hid e1
    have E2 := Lib.hid e2
    have E3 := Lib.hid e3
    have E4 := Lib.hid e4
    obtain ⟨cs, d1, d2⟩ := HN1.out
    have HO := Lib.hid d1
    have HP := Lib.hid d2
    have hsz := HB1.out.size
    have hln := HHL.out.2
    clear hnew hb e1 e2 e3 e4 d1 d2
    go_wp2_with (at_builtin; refine wpList_append_own_at _ (by rfl) _ _ 53 (by rfl) w.heap.size 50 i47 (.agg #[.slice none 0 0]) 1 24 Tryz.underlying53 j1 j2 j3 j4 (by rfl) (by omega) (.slice la gs.length lc) gs.length cs (by rfl) HO.out ⟨gu, 0, none⟩ LS.length cu ns (by rfl) ?c1 E2.out E3.out ?c3 ?c4 ?c5 ?_)
    case c1 => rw [E1.out, Nat.mul_one]
    case c3 => simp only [maxLen]; omega
    case c4 => omega
    case c5 => exact hsz
    intro lv2 w2 hown hgrow hnil hat
    have HD2 := Lib.hid (NewAt.app (l := LS) (news := ns) HO.out HP.out E1.out (fun j u g hu hg => new_apart HNb.out (E4.out j u g hu hg) (by have := HBb.out.size; exact this)) hown hgrow (by simpa using hat))
    have HB2 := Lib.hid (HB1.out.grown hgrow hsz fun k hk => (HO.out.lt k hk).1)
    have HX2 := Lib.hid (kept_by HX1.out HO.out (by decide) hgrow)
    have HY2 := Lib.hid (kept_by HY1.out HO.out (by decide) hgrow)
    have hgl2 : (gs ++ LS).length ≤ 1 + 4000 * (j + 1) := by rw [List.length_append]; omega
    have HG2 := Lib.hid hgl2
    obtain ⟨la2, lc2, rfl⟩ := own_form hown
    clear hown hgrow hnil hat hgl2
    go_wp2
    go_roundg (l.length - (j + 1))
    case rel => exact ⟨j + 1, gs ++ LS, by omega, rfl, by go_num, HG2.out, HB2.out.size, by show _ = _; rw [HSN.out, HGS.out, List.append_assoc], HD2.out, HB2.out, HX2.out, HY2.out⟩
    case measure => omega
end Go.Proofs.YtpmnepihaljamaaGreatDoor
end
