/-
  What the reference's Wrap answers, as a contract: what cover.Wrap answers.
-/
import Derived.Test.YtjidoificijcfaaDoorKAbout
import Derived.Test.YtjidoificijcfaaDoorQHeadX
set_option linter.unusedSimpArgs false
namespace Go.Proofs.YtjidoificijcfaaDoor
open Go.RowKit

set_option maxHeartbeats 4000000 in
set_option maxRecDepth 100000 in
theorem rwrap_any (e p s : UInt8) (kk : ByteArray) (n : Int) (v : Value) (l : List Sg) (w : World) (h : SgAt All w v l) (n0 : -9223372036854775808 ≤ n) (n1 : n ≤ 9223372036854775807) (hl : l.length ≤ 100000) (hln : ln l ≤ 90000) :
    Calls Tryd.prog 11 #[dv e p s, .string kk, .int .i64 n, v] w fun x w' => x = .returned (.tuple #[.string (mk (wpV e p s kk.data.toList n l)), .int .i64 (wpE e p s kk.data.toList n l)]) ∧ Below w.heap.size w w' := by
  have HGd := Lib.hid fun W => rgood_any e p s W
  have HKi := Lib.hid fun W => rkind_any kk W
  have HBa := Lib.hid (below_alloc w (.cells #[.int .u8 e.toNat, .int .u8 p.toNat, .int .u8 s.toNat] 23))
  have HBX := Lib.hid (DBox.new w e p s)
  have HSg : Hid (SgAt All w v l) := h
  obtain ⟨av, cv, rfl, hc1, hc2, -⟩ := h
  unfold maxLen at hc2
  cases hg : goodB e p s
  · rw [hg] at HGd
    have HV := Lib.hid (wp_notOk (k := kk.data.toList) (n := n) l (show wpOk e p s kk.data.toList n = false by simp [wpOk, hg]))
    clear hg
    go_enter Tryd.func11, Tryd.ntmps11
    go_wp2_with (first | (go_at_call 27; refine (HGd.out _).mono ?_; rintro x w1 ⟨rfl, hb⟩; have HB1 := Lib.hid (below_trans HBa.out hb); clear hb))
    go_ret2
    exact ⟨by rw [HV.out.1, HV.out.2]; rfl, HB1.out⟩
  rw [hg] at HGd
  cases hk : kindB kk.data.toList
  · rw [hk] at HKi
    have HV := Lib.hid (wp_notOk (k := kk.data.toList) (n := n) l (show wpOk e p s kk.data.toList n = false by simp [wpOk, hk]))
    clear hg hk
    go_enter Tryd.func11, Tryd.ntmps11
    go_wp2_with (first | (go_at_call 27; refine (HGd.out _).mono ?_; rintro x w1 ⟨rfl, hb⟩; have HB1 := Lib.hid (below_trans HBa.out hb); clear hb) | (go_at_call 13; refine (HKi.out _).mono ?_; rintro x w2 ⟨rfl, rfl⟩))
    go_ret2
    exact ⟨by rw [HV.out.1, HV.out.2]; rfl, HB1.out⟩
  rw [hk] at HKi
  by_cases h0 : n < 0
  · have HV := Lib.hid (wp_notOk (k := kk.data.toList) (n := n) l (show wpOk e p s kk.data.toList n = false by simp [wpOk]; omega))
    clear hg hk
    go_enter Tryd.func11, Tryd.ntmps11
    go_wp2_with (first | (go_at_call 27; refine (HGd.out _).mono ?_; rintro x w1 ⟨rfl, hb⟩; have HB1 := Lib.hid (below_trans HBa.out hb); clear hb) | (go_at_call 13; refine (HKi.out _).mono ?_; rintro x w2 ⟨rfl, rfl⟩))
    go_ret2
    exact ⟨by rw [HV.out.1, HV.out.2]; rfl, HB1.out⟩
  by_cases h9 : 999999999 < n
  · have HV := Lib.hid (wp_notOk (k := kk.data.toList) (n := n) l (show wpOk e p s kk.data.toList n = false by simp [wpOk]; omega))
    clear hg hk
    go_enter Tryd.func11, Tryd.ntmps11
    go_wp2_with (first | (go_at_call 27; refine (HGd.out _).mono ?_; rintro x w1 ⟨rfl, hb⟩; have HB1 := Lib.hid (below_trans HBa.out hb); clear hb) | (go_at_call 13; refine (HKi.out _).mono ?_; rintro x w2 ⟨rfl, rfl⟩))
    go_ret2
    exact ⟨by rw [HV.out.1, HV.out.2]; rfl, HB1.out⟩
  have hok := wp_ok hg hk (show 0 ≤ n by omega) (show n ≤ 999999999 by omega)
  have hla := ln_abt kk.data.toList n l (kind_len hk) (by omega) (by omega) hl
  have HAb : Hid (∀ W, SgAt All W (.slice av l.length cv) l → Calls Tryd.prog 29 #[.string kk, .int .i64 n, .slice av l.length cv] W fun x w' => (∃ u, x = .returned u ∧ SgAt All w' u (abt kk.data.toList n l)) ∧ Below W.heap.size W w') := fun W h => about_any kk n _ l W h n0 n1 hl
  have HWr := Lib.hid fun W u h => rwrite_any e p s u (abt kk.data.toList n l) W h (by omega)
  have HHd : Hid (∀ W : World, Calls Tryd.prog 30 #[dv e p s] W fun x w' => x = .returned (.string (mk (headL e p s))) ∧ Below W.heap.size W w') := fun W => (rhead_any e p s W).mono fun _ _ ⟨h1, h2⟩ => ⟨h1, by rw [h2]; exact below_trans (below_alloc W _) (below_alloc _ _)⟩
  have HSW : Hid (∀ W, Below w.heap.size w W → SgAt All W (.slice av l.length cv) l) := fun W hW => SgAt.move HSg.out (Below.moves hW)
  have HDX : Hid (∀ W, Below (w.alloc (.cells #[.int .u8 e.toNat, .int .u8 p.toNat, .int .u8 s.toNat] 23)).heap.size (w.alloc (.cells #[.int .u8 e.toNat, .int .u8 p.toNat, .int .u8 s.toNat] 23)) W → (W.cell? ⟨w.heap.size, 0, none⟩ = some (.int .u8 e.toNat) ∧ W.cell? ⟨w.heap.size, 1, none⟩ = some (.int .u8 p.toNat) ∧ W.cell? ⟨w.heap.size, 2, none⟩ = some (.int .u8 s.toNat)) ∧ Below w.heap.size w W) := fun W hW => ⟨(DBox.grw HBX.out hW).2, below_trans HBa.out hW⟩
  have HRef : Hid (∀ W : World, Below W.heap.size W W.drew) := fun W => Below.drew (Below.refl _ W)
  have HE0 := Lib.hid (Below.refl (w.alloc (.cells #[.int .u8 e.toNat, .int .u8 p.toNat, .int .u8 s.toNat] 23)).heap.size (w.alloc (.cells #[.int .u8 e.toNat, .int .u8 p.toNat, .int .u8 s.toNat] 23)))
  have HLA := Lib.hid hla
  clear hg hk hla
  go_enter Tryd.func11, Tryd.ntmps11
  go_upto_region 3 with (first | (go_at_call 27; refine (HGd.out _).mono ?_; rintro x w1 ⟨rfl, hb⟩; have HB3 := Lib.hid (below_trans HE0.out hb); clear hb) | (go_at_call 13; refine (HKi.out _).mono ?_; rintro x w2 ⟨rfl, hw⟩; rw [hw]; clear hw w2))
  obtain ⟨⟨d0, d1, d2⟩, -⟩ := HDX.out _ HB3.out
  have HB3d := Lib.hid (below_trans HB3.out (HRef.out w1))
  go_region_held3 (fun w' => w'.cell? ⟨w.heap.size, 0, none⟩ = some (.int .u8 e.toNat) ∧ w'.cell? ⟨w.heap.size, 1, none⟩ = some (.int .u8 p.toNat) ∧ w'.cell? ⟨w.heap.size, 2, none⟩ = some (.int .u8 s.toNat)) (go_keep) (first | (go_at_call 29; refine (HAb.out _ (HSW.out _ (HDX.out _ HB3d.out).2)).mono ?_; rintro x w6 ⟨⟨u, rfl, hs⟩, hb⟩; have HS6 := Lib.hid hs; have HB6 := Lib.hid (below_trans HB3d.out hb); obtain ⟨⟨r0, r1, r2⟩, -⟩ := HDX.out _ HB6.out; clear hb; obtain ⟨ua, uc, rfl, -, -, -⟩ := hs) | (go_at_call 28; refine (HWr.out _ _ HS6.out).mono ?_; rintro x w7 ⟨rfl, hb⟩; have HB7 := Lib.hid (below_trans HB6.out hb); obtain ⟨⟨r0, r1, r2⟩, -⟩ := HDX.out _ HB7.out; clear hb))
  clear d0 d1 d2
  obtain ⟨⟨d0, d1, d2⟩, hbw⟩ := HDX.out _ HB7.out
  have HBw := Lib.hid hbw
  clear hbw
  cases hw : wrOk e p s (abt kk.data.toList n l)
  · have HV := Lib.hid (wp_notW hok hw)
    rw [(wr_bad hw).1, (wr_bad hw).2]
    clear hw hok
    go_wp2
    go_ret2
    exact ⟨by rw [HV.out.1, HV.out.2]; rfl, HBw.out⟩
  · rw [(wr_good hw).1, (wr_good hw).2]
    have hlen := wrT_len (abt kk.data.toList n l) (wr_ok hw).2.2
    have hlz := HLA.out
    have hsz := mk_size (wrT e p s (abt kk.data.toList n l))
    have hsh := mk_size (headL e p s)
    have hmm := mk_app (headL e p s) (wrT e p s (abt kk.data.toList n l))
    have HM := Lib.hid hmm
    by_cases hlong : 65536 < (wrT e p s (abt kk.data.toList n l)).length + 6
    · have HV := Lib.hid (wp_long hok hw hlong)
      clear hw hok hmm
      rw [← hsz] at hlong hlen
      generalize mk (wrT e p s (abt kk.data.toList n l)) = T at *
      clear hsh hsz
      have hlb : (65536 : Int) < (T.size : Int) + 6 := by omega
      have hla : (T.size : Int) ≤ 100000 := by omega
      clear hlong hlen hlz
      go_wp2
      go_ret2
      exact ⟨by rw [HV.out.1, HV.out.2]; rfl, HBw.out⟩
    · have hz := wp_of (k := kk.data.toList) (n := n) (l := l) (by simp only [wpOk, Bool.and_eq_true] at hok; exact hok.1.1.1) (by simp only [wpOk, Bool.and_eq_true] at hok; exact hok.1.1.2) (by omega) (by omega) hw (by omega)
      have HV := Lib.hid (wp_zero hz).2.2.2.2.2.2
      have HE := Lib.hid hz
      clear hw hok hmm hz
      rw [← hsz] at hlong hlen
      generalize mk (wrT e p s (abt kk.data.toList n l)) = T at *
      generalize mk (headL e p s) = H at *
      have hsh6 : H.size = 6 := hsh
      clear hsh hsz
      have hlb : ¬ (65536 : Int) < (T.size : Int) + 6 := by omega
      have hla : (T.size : Int) ≤ 100000 := by omega
      clear hlong hlen hlz
      go_wp2_with (go_at_call 30; refine (HHd.out _).mono ?_; rintro x w8 ⟨rfl, hb⟩; have HB8 := Lib.hid (below_trans HBw.out hb); clear hb)
      go_ret2
      exact ⟨by rw [HV.out, HE.out, ← HM.out]; rfl, HB8.out⟩
end Go.Proofs.YtjidoificijcfaaDoor
