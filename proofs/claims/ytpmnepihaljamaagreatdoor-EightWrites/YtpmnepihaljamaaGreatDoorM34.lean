/-
  Texts put together (merge.py): KOpen.
-/
import Derived.Test.YtpmnepihaljamaaGreatDoorM32
import Derived.Test.YtpmnepihaljamaaGreatDoorM33
import Derived.Test.YtpmnepihaljamaaGreatDoorM16
/-
  What cover.Open answers, as a contract: for every text.
-/
section
set_option linter.unusedSimpArgs false
namespace Go.Proofs.YtpmnepihaljamaaGreatDoor
open Go.RowKit

set_option maxHeartbeats 4000000 in
set_option maxRecDepth 100000 in
theorem open_any (kk t : ByteArray) (w : World) (hT : Tab w) (hs : t.size ≤ maxLen) :
    Calls Tryz.prog 29 #[.string kk, .string t] w fun x w' => (∃ u, x = .returned (.tuple #[dv3 (opD kk.data.toList t.data.toList), .int .i64 (opN kk.data.toList t.data.toList), u, .int .i64 (opE kk.data.toList t.data.toList)]) ∧ SgAt All w' u (opL kk.data.toList t.data.toList)) ∧ Below w.heap.size w w' := by
  have HTb := Lib.hid hT
  have HNil : Hid (∀ W, SgAt All W (.slice none 0 0) []) := fun W => SgAt.nil All W
  have hst := Lib.size_eq t
  have HBa := Lib.hid (below_alloc w (.cells #[.int .u8 0, .int .u8 0, .int .u8 0] 23))
  have HBk := Lib.hid (Blk.new w 0 0 0)
  have HSZ := Lib.hid hs
  unfold maxLen at hs
  clear hT
  by_cases hlong : 65536 < t.size
  · have he := op_long (k := kk.data.toList) (s := t.data.toList) (by rw [← hst]; exact hlong)
    have hb := op_bad (k := kk.data.toList) (s := t.data.toList) (by rw [he]; decide)
    have HV := Lib.hid (And.intro he hb)
    have hlb : (65536 : Int) < (t.size : Int) := by omega
    clear he hb hst
    go_enter Tryz.func29, Tryz.ntmps29
    go_wp2
    refine bodyPost_ret (v := .tuple #[dv 0 0 0, .int .i64 0, .slice none 0 0, .int .i64 10]) (by simp [results, Tryz.results29, go_sem]) rfl ?_
    refine ⟨⟨.slice none 0 0, ?_, ?_⟩, HBa.out⟩
    · rw [HV.out.1, HV.out.2.1, HV.out.2.2.1]; rfl
    · rw [HV.out.2.2.2]; exact HNil.out _
  have hlb : ¬ (65536 : Int) < (t.size : Int) := by omega
  have hll : t.data.toList.length ≤ 65536 := by rw [← hst]; omega
  have HFd := Lib.hid fun W => find_any t W HSZ.out
  have HKi := Lib.hid fun W => kind_any kk W
  cases hf : findO t.data.toList with
  | none =>
    have he := op_none (k := kk.data.toList) hll hf
    have hb := op_bad (k := kk.data.toList) (s := t.data.toList) (by rw [he]; decide)
    have HV := Lib.hid (And.intro he hb)
    rw [hf] at HFd
    have HFd2 : Hid (∀ W, Calls Tryz.prog 60 #[.string t] W fun x w' => x = .returned (.tuple #[.agg #[.int .u8 0, .int .u8 0, .int .u8 0], .int .i64 5]) ∧ Below W.heap.size W w') := HFd.out
    clear he hb hst hf HFd hll
    go_enter Tryz.func29, Tryz.ntmps29
    go_wp2_with (first | (go_at_call 60; refine (HFd2.out _).mono ?_; rintro x w1 ⟨rfl, hb⟩; have HB1 := Lib.hid (below_trans HBa.out hb); have HK1 := Lib.hid (Blk.grw (Blk.grw HBk.out hb) (below_alloc w1 (.cells #[.int .u8 0, .int .u8 0, .int .u8 0] 23))); obtain ⟨⟨d0, d1, d2⟩, f0, f1, f2⟩ := Blk.cells HK1.out; clear hb))
    refine bodyPost_ret (v := .tuple #[dv 0 0 0, .int .i64 0, .slice none 0 0, .int .i64 5]) (by simp [results, Tryz.results29, go_sem, d0, d1, d2]) rfl ?_
    refine ⟨⟨.slice none 0 0, ?_, ?_⟩, put3_below (below_trans HB1.out (below_alloc w1 _)) w.heap.size (Nat.le_refl _) _ _ _⟩
    · rw [HV.out.1, HV.out.2.1, HV.out.2.2.1]; rfl
    · rw [HV.out.2.2.2]; exact HNil.out _
  | some x =>
    obtain ⟨e, p, q⟩ := x
    rw [hf] at HFd
    have HFd2 : Hid (∀ W, Calls Tryz.prog 60 #[.string t] W fun x w' => x = .returned (.tuple #[.agg #[.int .u8 e.toNat, .int .u8 p.toNat, .int .u8 q.toNat], .int .i64 0]) ∧ Below W.heap.size W w') := HFd.out
    clear HFd
    cases hk : kindB kk.data.toList with
    | false =>
      have he := op_kind hll hf hk
      have hb := op_bad (k := kk.data.toList) (s := t.data.toList) (by rw [he]; decide)
      have HV := Lib.hid (And.intro he hb)
      rw [hk] at HKi
      clear he hb hst hf hll hk
      go_enter Tryz.func29, Tryz.ntmps29
      go_wp2_with (first | (go_at_call 60; refine (HFd2.out _).mono ?_; rintro x w1 ⟨rfl, hb⟩; have HB1 := Lib.hid (below_trans HBa.out hb); have HK1 := Lib.hid (Blk.grw (Blk.grw HBk.out hb) (below_alloc w1 (.cells #[.int .u8 e.toNat, .int .u8 p.toNat, .int .u8 q.toNat] 23))); obtain ⟨⟨d0, d1, d2⟩, f0, f1, f2⟩ := Blk.cells HK1.out; clear hb) | (go_at_call 46; refine (HKi.out _).mono ?_; rintro x w2 ⟨rfl, hw⟩; rw [hw]; clear hw w2))
      refine bodyPost_ret (v := .tuple #[dv 0 0 0, .int .i64 0, .slice none 0 0, .int .i64 5]) (by simp [results, Tryz.results29, go_sem, d0, d1, d2]) rfl ?_
      refine ⟨⟨.slice none 0 0, ?_, ?_⟩, put3_below (below_trans HB1.out (below_alloc w1 _)) w.heap.size (Nat.le_refl _) _ _ _⟩
      · rw [HV.out.1, HV.out.2.1, HV.out.2.2.1]; rfl
      · rw [HV.out.2.2.2]; exact HNil.out _
    | true =>
      rw [hk] at HKi
      have h6 : 6 ≤ t.size := by
        rcases Nat.lt_or_ge t.size 6 with h | h
        · rw [find_short _ (by rw [← hst]; exact h)] at hf; cases hf
        · exact h
      have h6i : (6 : Int) ≤ (t.size : Int) := by omega
      have hex : (t.extract 6 t.size).data.toList = t.data.toList.drop 6 := by
        rw [Lib.extract_data, List.take_of_length_le (by rw [List.length_drop, ← hst]; omega)]
      have hxs : (t.extract 6 t.size).size ≤ maxLen := by rw [Lib.size_eq, hex, List.length_drop, ← hst]; have := HSZ.out; omega
      have hsp := fun W h => split_any e p q (t.extract 6 t.size) W h hxs
      rw [hex] at hsp
      have HSp := Lib.hid hsp
      have hhd := fun W => head_any e p q W
      have hhs : (mk (headL e p q)).size = 6 := mk_size _
      generalize mk (headL e p q) = H at *
      have HHd := Lib.hid hhd
      obtain ⟨sm1, sm2⟩ := sp_small (e := e) (p := p) (q := q) (t := t.data.toList.drop 6)
      have HUw := Lib.hid fun W u h hT => unwrap_any kk u (spV e p q (t.data.toList.drop 6)) W h hT (by omega) sm2
      have HRf : Hid (∀ W : World, Below W.heap.size W W.drew) := fun W => Below.drew (Below.refl _ W)
      clear hsp hhd hex hxs sm1 sm2 hst h6
      go_enter Tryz.func29, Tryz.ntmps29
      go_upto_region 6 with (first | (go_at_call 60; refine (HFd2.out _).mono ?_; rintro x w1 ⟨rfl, hb⟩; have HB1 := Lib.hid (below_trans HBa.out hb); have HK1 := Lib.hid (Blk.grw (Blk.grw HBk.out hb) (below_alloc w1 (.cells #[.int .u8 e.toNat, .int .u8 p.toNat, .int .u8 q.toNat] 23))); clear hb) | (go_at_call 46; refine (HKi.out _).mono ?_; rintro x w2 ⟨rfl, hw⟩; rw [hw]; clear hw w2))
      have HDx := Lib.hid (Blk.new w1 (e.toNat : Int) (p.toNat : Int) (q.toNat : Int))
      have HBx := Lib.hid (below_trans HB1.out (below_alloc w1 (.cells #[.int .u8 e.toNat, .int .u8 p.toNat, .int .u8 q.toNat] 23)))
      have HAll : Hid (∀ W, Below (w1.alloc (.cells #[.int .u8 e.toNat, .int .u8 p.toNat, .int .u8 q.toNat] 23)).heap.size (w1.alloc (.cells #[.int .u8 e.toNat, .int .u8 p.toNat, .int .u8 q.toNat] 23)) W → (W.cell? ⟨w1.heap.size, 0, none⟩ = some (.int .u8 e.toNat) ∧ W.cell? ⟨w1.heap.size, 1, none⟩ = some (.int .u8 p.toNat) ∧ W.cell? ⟨w1.heap.size, 2, none⟩ = some (.int .u8 q.toNat)) ∧ Below w.heap.size w W ∧ Tab W ∧ Blk W w.heap.size 0 0 0) := fun W hW => ⟨(Blk.cells (Blk.grw HDx.out hW)).1, below_trans HBx.out hW, tab_grw HTb.out (below_trans HBx.out hW), Blk.grw HK1.out hW⟩
      have HW0 : Hid (Below (w1.alloc (.cells #[.int .u8 e.toNat, .int .u8 p.toNat, .int .u8 q.toNat] 23)).heap.size (w1.alloc (.cells #[.int .u8 e.toNat, .int .u8 p.toNat, .int .u8 q.toNat] 23)) (w1.alloc (.cells #[.int .u8 e.toNat, .int .u8 p.toNat, .int .u8 q.toNat] 23)).drew) := HRf.out _
      obtain ⟨⟨k0, k1, k2⟩, -⟩ := HAll.out _ (Below.refl _ _)
      go_region_held3 (fun w' => w'.cell? ⟨w1.heap.size, 0, none⟩ = some (.int .u8 e.toNat) ∧ w'.cell? ⟨w1.heap.size, 1, none⟩ = some (.int .u8 p.toNat) ∧ w'.cell? ⟨w1.heap.size, 2, none⟩ = some (.int .u8 q.toNat)) (go_keep) (first | (go_at_call 51; refine (HHd.out _).mono ?_; rintro x w3 ⟨rfl, hb⟩; have HB3 := Lib.hid (below_trans HW0.out hb); obtain ⟨⟨r0, r1, r2⟩, -⟩ := HAll.out _ HB3.out; clear hb) | (go_at_call 61; refine (HSp.out _ (HAll.out _ HB3.out).2.2.1).mono ?_; rintro x w4 ⟨⟨u, rfl, hsg⟩, hb⟩; have HSG := Lib.hid hsg; have HB4 := Lib.hid (below_trans HB3.out hb); obtain ⟨⟨r0, r1, r2⟩, -⟩ := HAll.out _ HB4.out; clear hb; obtain ⟨ua, uc, rfl, -, -, -⟩ := hsg))
      clear k0 k1 k2 r0 r1 r2
      obtain ⟨-, hb4, -, hk4⟩ := HAll.out _ HB4.out
      have HB4w := Lib.hid hb4
      have HK4 := Lib.hid hk4
      clear hb4 hk4
      by_cases hsz : spE e p q (t.data.toList.drop 6) = 0
      · have heu := op_un hll hf hk hsz
        rw [hsz]
        have HU4 := Lib.hid (HUw.out _ _ HSG.out (HAll.out _ HB4.out).2.2.1)
        by_cases hu : unE kk.data.toList (spV e p q (t.data.toList.drop 6)) = 0
        · rw [hu] at heu HU4
          have HV := Lib.hid (And.intro heu (op_good hf heu))
          clear heu hu hsz hf hll hk
          generalize unN kk.data.toList (spV e p q (t.data.toList.drop 6)) = N at *
          generalize unL kk.data.toList (spV e p q (t.data.toList.drop 6)) = L at *
          go_wp2_with (first | (go_at_call 62; refine HU4.out.mono ?_; rintro x w5 ⟨⟨u5, rfl, hs5⟩, hb⟩; have HS5 := Lib.hid hs5; have HB5 := Lib.hid (below_trans HB4.out hb); have HK5 := Lib.hid (Blk.grw HK4.out hb); obtain ⟨⟨k0, k1, k2⟩, -⟩ := HAll.out _ HB5.out; obtain ⟨⟨d0, d1, d2⟩, f0, f1, f2⟩ := Blk.cells HK5.out; clear hb; obtain ⟨va, vc, rfl, -, -, -⟩ := hs5))
          refine bodyPost_ret (v := .tuple #[dv e p q, .int .i64 N, .slice va L.length vc, .int .i64 0]) (by simp [results, Tryz.results29, go_sem, d0, d1, d2]) rfl ?_
          refine ⟨⟨.slice va L.length vc, ?_, ?_⟩, put3_below (HAll.out _ HB5.out).2.1 w.heap.size (Nat.le_refl _) _ _ _⟩
          · rw [HV.out.1, HV.out.2.1, HV.out.2.2.1]; rfl
          · rw [HV.out.2.2.2]; exact put3_segs HK5.out _ _ _ HS5.out
        · have hb := op_bad (k := kk.data.toList) (s := t.data.toList) (by rw [heu]; exact hu)
          have HV := Lib.hid (And.intro heu hb)
          have hub := un_bad hu
          rw [hub.1, hub.2] at HU4
          have heb : (unE kk.data.toList (spV e p q (t.data.toList.drop 6)) != 0) = true := by simpa using hu
          clear heu hu hb hub hsz hf hll hk
          generalize unE kk.data.toList (spV e p q (t.data.toList.drop 6)) = E at *
          go_wp2_with (first | (go_at_call 62; refine HU4.out.mono ?_; rintro x w5 ⟨⟨u5, rfl, hs5⟩, hb⟩; have HB5 := Lib.hid (below_trans HB4.out hb); have HK5 := Lib.hid (Blk.grw HK4.out hb); obtain ⟨⟨d0, d1, d2⟩, f0, f1, f2⟩ := Blk.cells HK5.out; clear hb; obtain ⟨va, vc, rfl, -, -, -⟩ := hs5))
          refine bodyPost_ret (v := .tuple #[dv 0 0 0, .int .i64 0, .slice none 0 0, .int .i64 E]) (by simp [results, Tryz.results29, go_sem, d0, d1, d2]) rfl ?_
          refine ⟨⟨.slice none 0 0, ?_, ?_⟩, put3_below (HAll.out _ HB5.out).2.1 w.heap.size (Nat.le_refl _) _ _ _⟩
          · rw [HV.out.1, HV.out.2.1, HV.out.2.2.1]; rfl
          · rw [HV.out.2.2.2]; exact HNil.out _
      · have heu := op_split hll hf hk hsz
        have hb := op_bad (k := kk.data.toList) (s := t.data.toList) (by rw [heu]; exact hsz)
        have HV := Lib.hid (And.intro heu hb)
        have heb : (spE e p q (t.data.toList.drop 6) != 0) = true := by simpa using hsz
        obtain ⟨⟨d0, d1, d2⟩, f0, f1, f2⟩ := Blk.cells HK4.out
        clear heu hb hsz hf hll hk HSp
        generalize spE e p q (t.data.toList.drop 6) = E at *
        go_wp2
        refine bodyPost_ret (v := .tuple #[dv 0 0 0, .int .i64 0, .slice none 0 0, .int .i64 E]) (by simp [results, Tryz.results29, go_sem, d0, d1, d2]) rfl ?_
        refine ⟨⟨.slice none 0 0, ?_, ?_⟩, put3_below HB4w.out w.heap.size (Nat.le_refl _) _ _ _⟩
        · rw [HV.out.1, HV.out.2.1, HV.out.2.2.1]; rfl
        · rw [HV.out.2.2.2]; exact HNil.out _
end Go.Proofs.YtpmnepihaljamaaGreatDoor
end
