/-
  What cover.Wrap answers, as a contract.
-/
import Derived.Test.YtjidoificijcfaaDoorKCat
import Derived.Test.YtjidoificijcfaaDoorQHead
import Derived.Lib.ItoaLen
set_option linter.unusedSimpArgs false
namespace Go.Proofs.YtjidoificijcfaaDoor
open Go.RowKit

theorem ln_append (a b : List Sg) : ln (a ++ b) = ln a + ln b := by simp [ln]
theorem ln_seg3 (a b c : Tx) : ln [seg3 a b c] = 3 + a.length + b.length + c.length := by simp [ln, seg3]; omega
theorem kind_len {k : Tx} (h : kindB k = true) : k.length = 3 := by
  simp only [kindB, Bool.and_eq_true, decide_eq_true_eq] at h
  exact h.1
theorem ln_abt (k : Tx) (n : Int) (l : List Sg) (hk : k.length = 3) (h0 : 0 ≤ n) (h1 : n ≤ 999999999) (hl : l.length ≤ 100000) : ln (abt k n l) ≤ ln l + 200 := by
  have e : abt k n l = [seg3 tGS k (Lib.itoa n)] ++ ([seg3 tST k (Lib.itoa n)] ++ (l ++ ([seg3 tSE (Lib.itoa ((l.length : Int) + 2)) (Lib.itoa n)] ++ ([seg3 tGE t1 (Lib.itoa n)] ++ [seg3 tIEA t1 (Lib.itoa n)])))) := rfl
  have l1 := Lib.itoa_length_le n (by omega) (by omega)
  have l2 := Lib.itoa_length_le ((l.length : Int) + 2) (by omega) (by omega)
  rw [e, ln_append, ln_append, ln_append, ln_append, ln_append, ln_seg3, ln_seg3, ln_seg3, ln_seg3, ln_seg3, hk]
  have e1 : tGS.length = 2 := rfl
  have e2 : tST.length = 2 := rfl
  have e3 : tSE.length = 2 := rfl
  have e4 : tGE.length = 2 := rfl
  have e5 : tIEA.length = 3 := rfl
  have e6 : t1.length = 1 := rfl
  omega
theorem wp_notOk {e p s : UInt8} {k : Tx} {n : Int} (l : List Sg) (h : wpOk e p s k n = false) : wpV e p s k n l = [] ∧ wpE e p s k n l = 1 := by
  have : wpE e p s k n l = 1 := by unfold wpE; rw [if_pos h]
  exact ⟨wp_bad (by rw [this]; decide), this⟩
theorem wp_ok {e p s : UInt8} {k : Tx} {n : Int} (hg : goodB e p s = true) (hk : kindB k = true) (h0 : 0 ≤ n) (h1 : n ≤ 999999999) : wpOk e p s k n = true := by simp [wpOk, hg, hk, h0, h1]
theorem wp_notW {e p s : UInt8} {k : Tx} {n : Int} {l : List Sg} (h : wpOk e p s k n = true) (hw : wrOk e p s (abt k n l) = false) : wpV e p s k n l = [] ∧ wpE e p s k n l = 1 := by
  have : wpE e p s k n l = 1 := by unfold wpE; rw [h, hw]; rfl
  exact ⟨wp_bad (by rw [this]; decide), this⟩
theorem wp_long {e p s : UInt8} {k : Tx} {n : Int} {l : List Sg} (h : wpOk e p s k n = true) (hw : wrOk e p s (abt k n l) = true) (hl : 65536 < (wrT e p s (abt k n l)).length + 6) : wpV e p s k n l = [] ∧ wpE e p s k n l = 10 := by
  have : wpE e p s k n l = 10 := by unfold wpE; rw [h, hw, if_pos hl]; rfl
  exact ⟨wp_bad (by rw [this]; decide), this⟩
theorem sgs_three {w : World} {v1 v2 v3 : Value} {l1 l2 l3 : List Sg} (h1 : SgAt All w v1 l1) (h2 : SgAt All w v2 l2) (h3 : SgAt All w v3 l3) : SgsAt (w.alloc (.cells #[v1, v2, v3] 24)) (.slice (some ⟨w.heap.size, 0, none⟩) 3 3) [l1, l2, l3] := by
  refine row_new (R := SgAt All) w [v1, v2, v3] [l1, l2, l3] 24 rfl (by simp only [maxLen]; simp) fun j u x hu hx => ?_
  have hm := Below.moves (below_alloc w (.cells #[v1, v2, v3] 24))
  match j, hu, hx with
  | 0, hu, hx => simp at hu hx; subst hu hx; exact SgAt.move h1 hm
  | 1, hu, hx => simp at hu hx; subst hu hx; exact SgAt.move h2 hm
  | 2, hu, hx => simp at hu hx; subst hu hx; exact SgAt.move h3 hm
theorem abt_flat (k : Tx) (n : Int) (l : List Sg) : [fore k (Lib.itoa n), l, aft l.length (Lib.itoa n)].flatten = abt k n l := by simp [abt]

set_option maxHeartbeats 4000000 in
set_option maxRecDepth 100000 in
theorem wrap_any (e p s : UInt8) (kk : ByteArray) (n : Int) (v : Value) (l : List Sg) (w : World) (h : SgAt All w v l) (hT : Tab w) (n0 : -9223372036854775808 ≤ n) (n1 : n ≤ 9223372036854775807) (hl : l.length ≤ 100000) (hln : ln l ≤ 90000) :
    Calls Tryd.prog 10 #[dv e p s, .string kk, .int .i64 n, v] w fun x w' => x = .returned (.tuple #[.string (mk (wpV e p s kk.data.toList n l)), .int .i64 (wpE e p s kk.data.toList n l)]) ∧ Below w.heap.size w w' := by
  have HGd := Lib.hid fun W => good_any e p s W
  have HKi := Lib.hid fun W => kind_any kk W
  have HBa := Lib.hid (below_alloc w (.cells #[.int .u8 e.toNat, .int .u8 p.toNat, .int .u8 s.toNat] 23))
  have HBX := Lib.hid (DBox.new w e p s)
  have HSg : Hid (SgAt All w v l) := h
  have HTb := Lib.hid hT
  obtain ⟨av, cv, rfl, hc1, hc2, -⟩ := h
  unfold maxLen at hc2
  clear hT
  cases hg : goodB e p s
  · rw [hg] at HGd
    have HV := Lib.hid (wp_notOk (k := kk.data.toList) (n := n) l (show wpOk e p s kk.data.toList n = false by simp [wpOk, hg]))
    clear hg
    go_enter Tryd.func10, Tryd.ntmps10
    go_wp2_with (first | (go_at_call 20; refine (HGd.out _).mono ?_; rintro x w1 ⟨rfl, hb⟩; have HB1 := Lib.hid (below_trans HBa.out hb); clear hb))
    go_ret2
    exact ⟨by rw [HV.out.1, HV.out.2]; rfl, HB1.out⟩
  rw [hg] at HGd
  cases hk : kindB kk.data.toList
  · rw [hk] at HKi
    have HV := Lib.hid (wp_notOk (k := kk.data.toList) (n := n) l (show wpOk e p s kk.data.toList n = false by simp [wpOk, hk]))
    clear hg hk
    go_enter Tryd.func10, Tryd.ntmps10
    go_wp2_with (first | (go_at_call 20; refine (HGd.out _).mono ?_; rintro x w1 ⟨rfl, hb⟩; have HB1 := Lib.hid (below_trans HBa.out hb); clear hb) | (go_at_call 12; refine (HKi.out _).mono ?_; rintro x w2 ⟨rfl, rfl⟩))
    go_ret2
    exact ⟨by rw [HV.out.1, HV.out.2]; rfl, HB1.out⟩
  rw [hk] at HKi
  by_cases h0 : n < 0
  · have HV := Lib.hid (wp_notOk (k := kk.data.toList) (n := n) l (show wpOk e p s kk.data.toList n = false by simp [wpOk]; omega))
    clear hg hk
    go_enter Tryd.func10, Tryd.ntmps10
    go_wp2_with (first | (go_at_call 20; refine (HGd.out _).mono ?_; rintro x w1 ⟨rfl, hb⟩; have HB1 := Lib.hid (below_trans HBa.out hb); clear hb) | (go_at_call 12; refine (HKi.out _).mono ?_; rintro x w2 ⟨rfl, rfl⟩))
    go_ret2
    exact ⟨by rw [HV.out.1, HV.out.2]; rfl, HB1.out⟩
  by_cases h9 : 999999999 < n
  · have HV := Lib.hid (wp_notOk (k := kk.data.toList) (n := n) l (show wpOk e p s kk.data.toList n = false by simp [wpOk]; omega))
    clear hg hk
    go_enter Tryd.func10, Tryd.ntmps10
    go_wp2_with (first | (go_at_call 20; refine (HGd.out _).mono ?_; rintro x w1 ⟨rfl, hb⟩; have HB1 := Lib.hid (below_trans HBa.out hb); clear hb) | (go_at_call 12; refine (HKi.out _).mono ?_; rintro x w2 ⟨rfl, rfl⟩))
    go_ret2
    exact ⟨by rw [HV.out.1, HV.out.2]; rfl, HB1.out⟩
  have hok := wp_ok hg hk (show 0 ≤ n by omega) (show n ≤ 999999999 by omega)
  have hla := ln_abt kk.data.toList n l (kind_len hk) (by omega) (by omega) hl
  have HIn : Hid (∀ W, Below w.heap.size w W → Calls Tryd.prog 21 #[.int .i64 n] W fun e w' => e = .returned (.string (mk (Lib.itoa n))) ∧ Below W.heap.size W w') := fun W hW => Nu.int_any n n0 n1 W (tab_grw HTb.out hW).2.2
  have hA := fun W => ahead_any kk.data.toList (Lib.itoa n) W
  rw [mk_of] at hA
  have HAh := Lib.hid hA
  have HBh : Hid (∀ W, Below w.heap.size w W → Calls Tryd.prog 25 #[.int .i64 l.length, .string (mk (Lib.itoa n))] W fun x w' => (∃ b, x = .returned (.slice (some ⟨b, 0, none⟩) 3 3) ∧ SgAt All w' (.slice (some ⟨b, 0, none⟩) 3 3) (aft l.length (Lib.itoa n))) ∧ Below W.heap.size W w') := fun W hW => behind_any l.length (Lib.itoa n) W (tab_grw HTb.out hW) (by omega)
  have HCc : Hid (∀ W v1 v2, SgAt All W v1 (fore kk.data.toList (Lib.itoa n)) → SgAt All W (.slice av l.length cv) l → SgAt All W v2 (aft l.length (Lib.itoa n)) → Calls Tryd.prog 23 #[.slice (some ⟨W.heap.size, 0, none⟩) 3 3] (W.alloc (.cells #[v1, .slice av l.length cv, v2] 24)) fun x w' => (∃ u, x = .returned u ∧ SgAt All w' u (abt kk.data.toList n l)) ∧ Below W.heap.size W w') := fun W v1 v2 h1 h2 h3 => by
    have hc := concat_any _ _ _ (sgs_three h1 h2 h3) (by rw [abt_flat, abt_len]; omega) (by rw [abt_flat, abt_len]; omega)
    rw [abt_flat] at hc
    exact hc.mono fun x w' ⟨a, b⟩ => ⟨a, below_trans (below_alloc W _) b⟩
  have HWr := Lib.hid fun W u h => write_any e p s u (abt kk.data.toList n l) W h (by omega)
  have HHd := Lib.hid fun W => head_any e p s W
  have HSW : Hid (∀ W, Below w.heap.size w W → SgAt All W (.slice av l.length cv) l) := fun W hW => SgAt.move HSg.out (Below.moves hW)
  have HDX : Hid (∀ W, Below (w.alloc (.cells #[.int .u8 e.toNat, .int .u8 p.toNat, .int .u8 s.toNat] 23)).heap.size (w.alloc (.cells #[.int .u8 e.toNat, .int .u8 p.toNat, .int .u8 s.toNat] 23)) W → (W.cell? ⟨w.heap.size, 0, none⟩ = some (.int .u8 e.toNat) ∧ W.cell? ⟨w.heap.size, 1, none⟩ = some (.int .u8 p.toNat) ∧ W.cell? ⟨w.heap.size, 2, none⟩ = some (.int .u8 s.toNat)) ∧ Below w.heap.size w W) := fun W hW => ⟨(DBox.grw HBX.out hW).2, below_trans HBa.out hW⟩
  have HRef : Hid (∀ W : World, Below W.heap.size W W.drew) := fun W => Below.drew (Below.refl _ W)
  have HE0 := Lib.hid (Below.refl (w.alloc (.cells #[.int .u8 e.toNat, .int .u8 p.toNat, .int .u8 s.toNat] 23)).heap.size (w.alloc (.cells #[.int .u8 e.toNat, .int .u8 p.toNat, .int .u8 s.toNat] 23)))
  have HLA := Lib.hid hla
  clear hA hg hk hla
  go_enter Tryd.func10, Tryd.ntmps10
  go_upto_region 4 with (first | (go_at_call 20; refine (HGd.out _).mono ?_; rintro x w1 ⟨rfl, hb⟩; have HB1 := Lib.hid (below_trans HE0.out hb); clear hb) | (go_at_call 12; refine (HKi.out _).mono ?_; rintro x w2 ⟨rfl, rfl⟩) | (go_at_call 21; refine (HIn.out _ (HDX.out _ HB1.out).2).mono ?_; rintro x w3 ⟨rfl, hb⟩; have HB3 := Lib.hid (below_trans HB1.out hb); clear hb))
  obtain ⟨⟨d0, d1, d2⟩, -⟩ := HDX.out _ HB3.out
  have HB3d := Lib.hid (below_trans HB3.out (HRef.out w3))
  go_region_held3 (fun w' => w'.cell? ⟨w.heap.size, 0, none⟩ = some (.int .u8 e.toNat) ∧ w'.cell? ⟨w.heap.size, 1, none⟩ = some (.int .u8 p.toNat) ∧ w'.cell? ⟨w.heap.size, 2, none⟩ = some (.int .u8 s.toNat)) (go_keep) (first | (go_at_call 24; refine (HAh.out _).mono ?_; rintro x w4 ⟨⟨ab, rfl, hs⟩, hb⟩; have HS4 := Lib.hid hs; have HB4 := Lib.hid (below_trans HB3d.out hb); obtain ⟨⟨r0, r1, r2⟩, -⟩ := HDX.out _ HB4.out; clear hb hs) | (go_at_call 25; refine (HBh.out _ (HDX.out _ HB4.out).2).mono ?_; rintro x w5 ⟨⟨bb, rfl, hs⟩, hb⟩; have HS5 := Lib.hid hs; have HS4b := Lib.hid (SgAt.move HS4.out (Below.moves hb)); have HB5 := Lib.hid (below_trans HB4.out hb); obtain ⟨⟨r0, r1, r2⟩, -⟩ := HDX.out _ HB5.out; clear hb hs) | (go_at_call 23; refine (HCc.out _ _ _ HS4b.out (HSW.out _ (HDX.out _ HB5.out).2) HS5.out).mono ?_; rintro x w6 ⟨⟨u, rfl, hs⟩, hb⟩; have HS6 := Lib.hid hs; have HB6 := Lib.hid (below_trans HB5.out hb); obtain ⟨⟨r0, r1, r2⟩, -⟩ := HDX.out _ HB6.out; clear hb; obtain ⟨ua, uc, rfl, -, -, -⟩ := hs) | (go_at_call 22; refine (HWr.out _ _ HS6.out).mono ?_; rintro x w7 ⟨rfl, hb⟩; have HB7 := Lib.hid (below_trans HB6.out hb); obtain ⟨⟨r0, r1, r2⟩, -⟩ := HDX.out _ HB7.out; clear hb))
  clear d0 d1 d2
  obtain ⟨⟨d0, d1, d2⟩, hbw⟩ := HDX.out _ HB7.out
  have HBw := Lib.hid hbw
  clear hbw
  cases hw : wrOk e p s (abt kk.data.toList n l)
  · have HV := Lib.hid (wp_notW hok hw)
    rw [(wr_bad hw).1, (wr_bad hw).2]
    clear hw hok
    go_wp2
    go_ret2
    exact ⟨by rw [HV.out.1, HV.out.2]; rfl, HBw.out⟩
  · rw [(wr_good hw).1, (wr_good hw).2]
    have hlen := wrT_len (abt kk.data.toList n l) (wr_ok hw).2.2
    have hlz := HLA.out
    have hsz := mk_size (wrT e p s (abt kk.data.toList n l))
    have hsh := mk_size (headL e p s)
    have hmm := mk_app (headL e p s) (wrT e p s (abt kk.data.toList n l))
    have HM := Lib.hid hmm
    by_cases hlong : 65536 < (wrT e p s (abt kk.data.toList n l)).length + 6
    · have HV := Lib.hid (wp_long hok hw hlong)
      clear hw hok hmm
      rw [← hsz] at hlong hlen
      generalize mk (wrT e p s (abt kk.data.toList n l)) = T at *
      generalize mk (headL e p s) = H at *
      have hsh6 : H.size = 6 := hsh
      clear hsh hsz
      have hlb : (65536 : Int) < 6 + (T.size : Int) := by omega
      have hla : (T.size : Int) ≤ 100000 := by omega
      go_wp2_with (go_at_call 26; refine (HHd.out _).mono ?_; rintro x w8 ⟨rfl, hb⟩; have HB8 := Lib.hid (below_trans HBw.out hb); clear hb)
      go_ret2
      exact ⟨by rw [HV.out.1, HV.out.2]; rfl, HB8.out⟩
    · have hz := wp_of (k := kk.data.toList) (n := n) (l := l) (by simp only [wpOk, Bool.and_eq_true] at hok; exact hok.1.1.1) (by simp only [wpOk, Bool.and_eq_true] at hok; exact hok.1.1.2) (by omega) (by omega) hw (by omega)
      have HV := Lib.hid (wp_zero hz).2.2.2.2.2.2
      have HE := Lib.hid hz
      clear hw hok hmm hz
      rw [← hsz] at hlong hlen
      generalize mk (wrT e p s (abt kk.data.toList n l)) = T at *
      generalize mk (headL e p s) = H at *
      have hsh6 : H.size = 6 := hsh
      clear hsh hsz
      have hlb : ¬ (65536 : Int) < 6 + (T.size : Int) := by omega
      have hla : (T.size : Int) ≤ 100000 := by omega
      go_wp2_with (go_at_call 26; refine (HHd.out _).mono ?_; rintro x w8 ⟨rfl, hb⟩; have HB8 := Lib.hid (below_trans HBw.out hb); clear hb)
      go_ret2
      exact ⟨by rw [HV.out, HE.out, ← HM.out]; rfl, HB8.out⟩
end Go.Proofs.YtjidoificijcfaaDoor
