/-
  Texts put together (merge.py): WRef.
-/
import Derived.Test.YtgloihilnbjmeaaDoorMc30
/-
  What the reference's Split, Join and Same answer, as contracts.
-/
section
set_option linter.unusedSimpArgs false
set_option linter.unusedVariables false
set_option maxRecDepth 100000
namespace Go.Proofs.YtgloihilnbjmeaaDoor.Wo
open Go.RowKit

/-- What the reference's Split has in memory: the answer's box and the row. -/
def RInv (B : Nat) (v : Value) (ws : List Wd) (w : World) : Prop :=
  w.heap[B]? = some (.cells #[.int .i64 0, .int .i64 0] 31 (0, 0)) ∧ w.ownsRow B 61 2 v ws.length (wcs ws)
theorem own_form2 {w : World} {B : Nat} {e : TypeId} {z : Nat} {v : Value} {n : Nat} {xs : List Value} (h : w.ownsRow B e z v n xs) : ∃ a c, v = .slice a n c ∧ n ≤ c ∧ c ≤ 9223372036854775807 := by
  rcases h.2 with ⟨rfl, rfl⟩ | ⟨g, c, cur, rfl, _, _, h1, h2, _⟩
  · exact ⟨_, _, rfl, by simp, by simp⟩
  · exact ⟨_, _, rfl, h1, by unfold maxLen at h2; exact h2⟩
theorem wcs_split (i : List Wd) (t : Tx) (q : Nat) : wcs (i ++ [(t, q)]) = wcs i ++ [.string (mk t), .int .i64 (q : Nat)] := by rw [wcs_app]; rfl
/-- A row of words whose last one grows. -/
theorem own_last {w : World} {B : Nat} {v : Value} {i : List Wd} {t : Tx} {q : Nat} (ho : w.ownsRow B 61 2 v (i.length + 1) (wcs (i ++ [(t, q)]))) :
    ∃ g c, v = .slice (some ⟨g, 0, none⟩) (i.length + 1) c ∧ B ≤ g ∧ g < w.heap.size ∧ i.length + 1 ≤ c ∧ c ≤ 9223372036854775807 ∧ w.cell? ⟨g, i.length * 2 + 1, none⟩ = some (.int .i64 (q : Nat)) ∧ w.cell? ⟨g, i.length * 2, none⟩ = some (.string (mk t)) ∧ w.frozen? ⟨g, i.length * 2, none⟩ = false ∧ (∃ cur, w.heap[g]? = some (.cells cur 61 (0, 0)))
      ∧ ∀ t', (w.setCell ⟨g, i.length * 2, none⟩ (.string (mk t'))).ownsRow B 61 2 v (i.length + 1) (wcs (i ++ [(t', q)])) := by
  obtain ⟨hl, h⟩ := ho
  rcases h with ⟨rfl, h0⟩ | ⟨g, cap, cur, rfl, hb, hg, h1, h2, hs, ht⟩
  · omega
  have hlen := wcs_len i
  have e0 : (wcs (i ++ [(t, q)]))[i.length * 2]? = some (.string (mk t)) := by rw [wcs_split, List.getElem?_append_right (by omega), hlen]; simp
  have e1 : (wcs (i ++ [(t, q)]))[i.length * 2 + 1]? = some (.int .i64 (q : Nat)) := by rw [wcs_split, List.getElem?_append_right (by omega), hlen]; simp
  rw [← ht, List.getElem?_take, if_pos (by omega)] at e0 e1
  refine ⟨g, cap, rfl, hb, (Array.getElem?_eq_some_iff.1 hg).1, h1, by unfold maxLen at h2; exact h2, ?_, ?_, Lib.frozen_of_heap hg _, ⟨cur, hg⟩, fun t' => ⟨?_, Or.inr ⟨g, cap, cur.set! (i.length * 2) (.string (mk t')), rfl, hb, ?_, h1, h2, by simpa using hs, ?_⟩⟩⟩
  · rw [cell_of_row w g _ cur _ (0, 0) hg]; simpa using e1
  · rw [cell_of_row w g _ cur _ (0, 0) hg]; simpa using e0
  · rw [wcs_len]; simp
  · exact heap_setCell_same w g _ cur _ _ hg
  · rw [show (cur.set! (i.length * 2) (.string (mk t'))).toList = cur.toList.set (i.length * 2) (.string (mk t')) by simp, List.take_set, ht, wcs_split, wcs_split, List.set_append_right _ _ (by omega), hlen]
    simp
theorem lastI_at (s : ByteArray) (p : Nat) (h : p < s.size) : lastI (s.data.toList.take (p + 1)) = inn s[p] := by
  rw [take_snoc s p h, lastI_app (by simp)]; rfl
theorem rinv_start (w : World) : RInv w.heap.size (.slice none 0 0) [] (w.alloc (.cells #[.int .i64 0, .int .i64 0] 31)) := ⟨heap_alloc_new _ _, World.ownsRow_nil _ _ _ _⟩
theorem step_app {s : ByteArray} {k : Nat} (h : k < s.size) (hg : good (s.data.toList.take k) = true) (hc : kd s[k] = 2 ∨ (kd s[k] = 3 ∧ lastI (s.data.toList.take k) = false)) : wds 0 (s.data.toList.take (k + 1)) = wds 0 (s.data.toList.take k) ++ [([s[k]], k)] ∧ good (s.data.toList.take (k + 1)) = true := by
  have hl : (s.data.toList.take k).length = k := by rw [List.length_take, ← Lib.size_eq]; omega
  rw [take_snoc s k h]
  refine ⟨?_, ?_⟩
  · rw [wds_app _ _ 0 (hc.elim (fun e => Or.inr (by simp [headI, inn, e])) fun e => Or.inl e.2), wds_one, if_pos (hc.imp id fun e => e.1), hl]; simp
  · rw [good_app, hg]; rcases hc with e | ⟨e, -⟩ <;> simp [good, e]

set_option maxHeartbeats 8000000 in
theorem rsplit_any (s : ByteArray) (w : World) (hs : s.size ≤ maxLen) :
    Calls Tryd.prog 28 #[.string s] w fun e w' => (∃ u, e = .returned (.tuple #[u, .agg #[.int .i64 (spE s.data.toList), .int .i64 (spA s.data.toList : Nat)]]) ∧ WdsAt (fun b => w.heap.size ≤ b) w' u (spV s.data.toList)) ∧ Below w.heap.size w w' := by
  unfold maxLen at hs
  have HL : Hid (s.data.toList.length = s.size) := (Lib.size_eq s).symm
  by_cases hl : 65536 < s.size
  · have hl' : (65536 : Int) < (s.size : Int) := by omega
    have HX := Lib.hid (sp_long (l := s.data.toList) (by rw [HL.out]; exact hl))
    clear hl
    go_enter Tryd.func28, Tryd.ntmps28
    go_wp2
    refine bodyPost_ret (v := .tuple #[.slice none 0 0, .agg #[.int .i64 10, .int .i64 0]]) (by simp [results, Tryd.results28, go_sem]) rfl ?_
    exact ⟨⟨_, by rw [HX.out.1, HX.out.2.1]; rfl, by rw [HX.out.2.2]; exact WdsAt.nil _ _⟩, below_alloc w _⟩
  have hl' : ¬ (65536 : Int) < (s.size : Int) := by omega
  have hls : s.size ≤ 65536 := by omega
  have HLL : Hid (¬ 65536 < s.data.toList.length) := by show ¬ _; rw [HL.out]; exact hl
  have HST := Lib.hid (rinv_start w)
  have HBA := Lib.hid (below_alloc w (.cells #[.int .i64 0, .int .i64 0] 31))
  obtain ⟨iw, j1, j2, j3, j4⟩ := infoW
  clear hl
  go_enter Tryd.func28, Tryd.ntmps28
  go_wp2
  clear hl'
  go_loopg [4, 5] (s.size) (fun g lv i wr => ∃ (k : Nat) (la : Option Addr) (n lc : Nat), k ≤ s.size ∧ g = s.size - k ∧ lv = .slice la n lc ∧ i = .int .i64 k ∧ Hid (n = (wds 0 (s.data.toList.take k)).length) ∧ Hid (RInv w.heap.size (.slice la n lc) (wds 0 (s.data.toList.take k)) wr) ∧ Hid (Below w.heap.size w wr) ∧ Hid (good (s.data.toList.take k) = true))
  case atStart => exact ⟨0, none, 0, 0, Nat.zero_le _, rfl, rfl, rfl, rfl, HST.out, HBA.out, rfl⟩
  case round =>
    obtain ⟨k, la, n, lc, hk, hg, rfl, rfl, HN, HK, HB, HG⟩ := hrel
    clear HST HBA
    have hbs : w.heap.size < wr.heap.size := (Array.getElem?_eq_some_iff.1 HK.out.1).1
    have hwl : (wds 0 (s.data.toList.take k)).length ≤ k := Nat.le_trans (wds_len _ _) (by rw [List.length_take]; omega)
    have HWL := Lib.hid hwl
    clear hwl
    by_cases hlt : k < s.size
    · have HKD := Lib.hid (kind_any s[k])
      have HTK := Lib.hid (take_snoc s k hlt)
      have HTL : Hid ((s.data.toList.take k).length = k) := by show _ = _; rw [List.length_take, HL.out]; omega
      rcases (show kd s[k] = 1 ∨ kd s[k] = 2 ∨ kd s[k] = 3 ∨ kd s[k] = 0 by unfold kd; split; (exact Or.inl rfl); split; (exact Or.inr (Or.inl rfl)); split; (exact Or.inr (Or.inr (Or.inl rfl))); exact Or.inr (Or.inr (Or.inr rfl))) with hc | hc | hc | hc
      · have HS := Lib.hid (step_gap (l := s.data.toList) (y := []) hc HG.out)
        rw [hc] at HKD
        clear hc
        go_wp2_with (go_at_call 49; refine (HKD.out _).mono ?_; rintro e w1 ⟨rfl, rfl⟩)
        go_roundg (s.size - (k + 1))
        case rel => exact ⟨k + 1, la, n, lc, by omega, rfl, rfl, by go_num, by rw [HTK.out, HS.out.1]; exact HN.out, by rw [HTK.out, HS.out.1]; exact HK.out, HB.out, by rw [HTK.out]; exact HS.out.2.1⟩
        case measure => omega
      · have HS := Lib.hid (step_app hlt HG.out (Or.inl hc))
        rw [hc] at HKD
        have hbk : (k : Int) + 1 ≤ (s.size : Int) := by omega
        have hbk2 : (k : Int) ≤ (k : Int) + 1 := by omega
        have hbk3 : 0 ≤ (k : Int) + 1 := by omega
        obtain ⟨x, hx⟩ : ∃ x, s.extract k (k + 1) = x := ⟨_, rfl⟩
        have HX := Lib.hid hx
        have HXE : Hid (s.extract k (k + 1) = mk [s[k]]) := by show _ = _; rw [Lib.extract_eq s k (k + 1), drop_at s k hlt, show k + 1 - k = 1 by omega]; rfl
        have HNw := Lib.hid (World.news_of_block (heap_alloc_new wr (.cells #[.string x, .int .i64 (k : Nat)] 61)))
        have hB2 := below_alloc wr (.cells #[.string x, .int .i64 (k : Nat)] 61)
        have hO2 : (wr.alloc (.cells #[.string x, .int .i64 (k : Nat)] 61)).ownsRow w.heap.size 61 2 (.slice la n lc) n (wcs (wds 0 (s.data.toList.take k))) := by
          have h4 := HK.out.2
          rw [← HN.out] at h4
          refine ⟨h4.1, h4.2.imp id ?_⟩
          rintro ⟨g, c, cur, e1, h0, hh, hr⟩
          exact ⟨g, c, cur, e1, h0, keepB hh hB2, hr⟩
        have HO2 := Lib.hid hO2
        have HF2 := Lib.hid (keepB HK.out.1 hB2)
        have HBL := Lib.hid (below_trans HB.out hB2)
        have hN6 : n ≤ 65536 := by have := HN.out; have := HWL.out; omega
        have HON : Hid (∀ u ∈ [Value.string x, .int .i64 (k : Nat)], u.oneCell' = true) := fun u hu => by simp at hu; rcases hu with rfl | rfl <;> rfl
        have HLN : Hid (n + 1 ≤ maxLen) := by show _ ≤ _; simp only [maxLen]; omega
        have HLB : Hid ((n + 1) * 24 ≤ 140737488355328) := by show _ ≤ _; omega
        clear hc hB2 hO2
        go_wp2_with (first | (go_at_call 49; refine (HKD.out _).mono ?_; rintro e w1 ⟨rfl, rfl⟩) | (at_builtin; refine wpList_append_own_at _ (by rfl) _ _ 54 (by rfl) w.heap.size 61 iw (.agg #[.string ByteArray.empty, .int .i64 0]) 2 24 Tryd.underlying54 j1 j2 j3 j4 (by rfl) (by omega) (.slice la n lc) n (wcs (wds 0 (s.data.toList.take k))) (by rfl) HO2.out ⟨w1.heap.size, 0, none⟩ 1 1 [.string x, .int .i64 (k : Nat)] (by rfl) (by rfl) HNw.out HON.out HLN.out HLB.out HBL.out.size ?_))
        intro lv2 w2 hown hgrow hnil hat
        have HF3 := Lib.hid (kept_other HF2.out HO2.out (by decide) hgrow)
        have HB3 := Lib.hid (HBL.out.grown hgrow HBL.out.size fun q hq => (HO2.out.lt q hq).1)
        obtain ⟨la2, lc2, rfl, -, -⟩ := own_form2 hown
        have HOW := Lib.hid hown
        clear hown hgrow hnil hat
        go_wp2
        go_roundg (s.size - (k + 1))
        case rel =>
          refine ⟨k + 1, la2, n + 1, lc2, by omega, rfl, rfl, by go_num, by rw [HS.out.1, List.length_append, ← HN.out]; rfl, ⟨HF3.out, ?_⟩, HB3.out, HS.out.2⟩
          have hcs : wcs [([s[k]], k)] = [.string x, .int .i64 (k : Nat)] := by rw [← HX.out, HXE.out]; rfl
          rw [HS.out.1, wcs_app, hcs, List.length_append, ← HN.out]
          exact HOW.out
        case measure => omega
      · rcases Nat.eq_zero_or_pos k with hz | hz
        · have hla : lastI (s.data.toList.take k) = false := by rw [hz]; rfl
          have HS := Lib.hid (step_app hlt HG.out (Or.inr ⟨hc, hla⟩))
          rw [hc] at HKD
          have hk0 : ¬ 0 < (k : Int) := by omega
          clear hla hz
          have hbk : (k : Int) + 1 ≤ (s.size : Int) := by omega
          have hbk2 : (k : Int) ≤ (k : Int) + 1 := by omega
          have hbk3 : 0 ≤ (k : Int) + 1 := by omega
          obtain ⟨x, hx⟩ : ∃ x, s.extract k (k + 1) = x := ⟨_, rfl⟩
          have HX := Lib.hid hx
          have HXE : Hid (s.extract k (k + 1) = mk [s[k]]) := by show _ = _; rw [Lib.extract_eq s k (k + 1), drop_at s k hlt, show k + 1 - k = 1 by omega]; rfl
          have HNw := Lib.hid (World.news_of_block (heap_alloc_new wr (.cells #[.string x, .int .i64 (k : Nat)] 61)))
          have hB2 := below_alloc wr (.cells #[.string x, .int .i64 (k : Nat)] 61)
          have hO2 : (wr.alloc (.cells #[.string x, .int .i64 (k : Nat)] 61)).ownsRow w.heap.size 61 2 (.slice la n lc) n (wcs (wds 0 (s.data.toList.take k))) := by
            have h4 := HK.out.2
            rw [← HN.out] at h4
            refine ⟨h4.1, h4.2.imp id ?_⟩
            rintro ⟨g, c, cur, e1, h0, hh, hr⟩
            exact ⟨g, c, cur, e1, h0, keepB hh hB2, hr⟩
          have HO2 := Lib.hid hO2
          have HF2 := Lib.hid (keepB HK.out.1 hB2)
          have HBL := Lib.hid (below_trans HB.out hB2)
          have hN6 : n ≤ 65536 := by have := HN.out; have := HWL.out; omega
          have HON : Hid (∀ u ∈ [Value.string x, .int .i64 (k : Nat)], u.oneCell' = true) := fun u hu => by simp at hu; rcases hu with rfl | rfl <;> rfl
          have HLN : Hid (n + 1 ≤ maxLen) := by show _ ≤ _; simp only [maxLen]; omega
          have HLB : Hid ((n + 1) * 24 ≤ 140737488355328) := by show _ ≤ _; omega
          clear hc hB2 hO2
          go_wp2_with (first | (go_at_call 49; refine (HKD.out _).mono ?_; rintro e w1 ⟨rfl, rfl⟩) | (at_builtin; refine wpList_append_own_at _ (by rfl) _ _ 54 (by rfl) w.heap.size 61 iw (.agg #[.string ByteArray.empty, .int .i64 0]) 2 24 Tryd.underlying54 j1 j2 j3 j4 (by rfl) (by omega) (.slice la n lc) n (wcs (wds 0 (s.data.toList.take k))) (by rfl) HO2.out ⟨w1.heap.size, 0, none⟩ 1 1 [.string x, .int .i64 (k : Nat)] (by rfl) (by rfl) HNw.out HON.out HLN.out HLB.out HBL.out.size ?_))
          intro lv2 w2 hown hgrow hnil hat
          have HF3 := Lib.hid (kept_other HF2.out HO2.out (by decide) hgrow)
          have HB3 := Lib.hid (HBL.out.grown hgrow HBL.out.size fun q hq => (HO2.out.lt q hq).1)
          obtain ⟨la2, lc2, rfl, -, -⟩ := own_form2 hown
          have HOW := Lib.hid hown
          clear hown hgrow hnil hat
          go_wp2
          go_roundg (s.size - (k + 1))
          case rel =>
            refine ⟨k + 1, la2, n + 1, lc2, by omega, rfl, rfl, by go_num, by rw [HS.out.1, List.length_append, ← HN.out]; rfl, ⟨HF3.out, ?_⟩, HB3.out, HS.out.2⟩
            have hcs : wcs [([s[k]], k)] = [.string x, .int .i64 (k : Nat)] := by rw [← HX.out, HXE.out]; rfl
            rw [HS.out.1, wcs_app, hcs, List.length_append, ← HN.out]
            exact HOW.out
          case measure => omega
        obtain ⟨p, hp⟩ : ∃ p, k = p + 1 := ⟨k - 1, by omega⟩
        have hpk : (k : Int) - 1 = (p : Int) := by omega
        have hps : p < s.size := by omega
        have hk0 : 0 < (k : Int) := by omega
        have hla := lastI_at s p hps
        rw [← hp] at hla
        clear hp
        have HKP := Lib.hid (kind_any s[p])
        by_cases hq : kd s[p] = 3
        · obtain ⟨i0, t0, q0, g1, g2, -, g4, g5⟩ := wds_grow (s.data.toList.take k) 0 s[k] (by rw [hla]; simp [inn, hq]) hc
          rw [HTL.out] at g4
          have h4 := HK.out.2
          rw [g1, List.length_append] at h4
          have hn := HN.out
          rw [g1, List.length_append] at hn
          obtain ⟨m, hm⟩ : ∃ m, i0.length = m := ⟨_, rfl⟩
          have hnm : n = m + 1 := by rw [hn, hm]; rfl
          subst hnm
          obtain ⟨g, c, ev, v1, v2, v3, v4, v5, v6, v7, ⟨cur, v8⟩, v9⟩ := own_last h4
          rw [hm] at ev v3 v5 v6 v7 v9
          simp only [Value.slice.injEq, true_and] at ev
          obtain ⟨rfl, rfl⟩ := ev
          obtain ⟨x, hx⟩ : ∃ x, s.extract q0 (k + 1) = x := ⟨_, rfl⟩
          have HXE : Hid (x = mk (t0 ++ [s[k]])) := by
            show _ = _
            rw [← hx, Lib.extract_eq s q0 (k + 1)]
            show mk _ = mk _
            rw [← g5, show q0 - 0 = q0 by omega]
            have e1 : (s.data.toList.drop q0).take (k + 1 - q0) = (s.data.toList.take (k + 1)).drop q0 := by rw [List.drop_take]
            rw [e1, take_snoc s k hlt, List.drop_append_of_le_length (by rw [HTL.out]; omega)]
          have HS : Hid (wds 0 (s.data.toList.take (k + 1)) = i0 ++ [(t0 ++ [s[k]], q0)] ∧ good (s.data.toList.take (k + 1)) = true) := by
            show _ ∧ _
            rw [take_snoc s k hlt]
            exact ⟨g2, by rw [good_app, HG.out]; simp [good, hc]⟩
          have HOW : Hid ((wr.setCell ⟨g, m * 2, none⟩ (.string x)).ownsRow w.heap.size 61 2 (.slice (some ⟨g, 0, none⟩) (m + 1) lc) (m + 1) (wcs (i0 ++ [(t0 ++ [s[k]], q0)]))) := by
            have := v9 (t0 ++ [s[k]])
            rw [← HXE.out] at this
            exact this
          have HF : Hid ((wr.setCell ⟨g, m * 2, none⟩ (.string x)).heap[w.heap.size]? = some (.cells #[.int .i64 0, .int .i64 0] 31 (0, 0))) := heap_far HK.out.1 (by
            rintro e
            have h5 := HK.out.1
            rw [e, v8] at h5
            simp only [Option.some.injEq, Obj.cells.injEq] at h5
            exact absurd h5.2.1 (by decide))
          have HB2 := Lib.hid (HB.out.setCell (p := ⟨g, m * 2, none⟩) v1 (.string x))
          have hbk : (k : Int) + 1 ≤ (s.size : Int) := by omega
          have hbk2 : (q0 : Int) ≤ (k : Int) + 1 := by omega
          have hbk3 : 0 ≤ (k : Int) + 1 := by omega
          have hmm : ((m + 1 : Nat) : Int) - 1 = (m : Int) := by omega
          have hml : m < m + 1 := by omega
          have HM := Lib.hid hm
          have HX := Lib.hid hx
          rw [hq] at HKP
          rw [hc] at HKD
          clear hla hz hq hc g1 g2 g4 g5 h4 hn v8 v9 hm
          go_wp2_with fail
          go_at_call 49
          refine (HKD.out _).mono ?_
          rintro e w1 ⟨rfl, rfl⟩
          go_wp2_with fail
          go_at_call 49
          refine (HKP.out _).mono ?_
          rintro e w1 ⟨rfl, rfl⟩
          go_wp2
          go_roundg (s.size - (k + 1))
          case rel =>
            refine ⟨k + 1, some ⟨g, 0, none⟩, m + 1, lc, by omega, rfl, rfl, by go_num, by rw [HS.out.1, List.length_append, HM.out]; rfl, ⟨HF.out, ?_⟩, HB2.out, HS.out.2⟩
            rw [HS.out.1, List.length_append, HM.out]
            exact HOW.out
          case measure => omega
        · have HS := Lib.hid (step_app hlt HG.out (Or.inr ⟨hc, by rw [hla]; simp [inn, hq]⟩))
          have hq3 : ((kd s[p] : Int) == 3) = false := by rw [beq_eq_false_iff_ne]; omega
          obtain ⟨z, hzz⟩ : ∃ z, kd s[p] = z := ⟨_, rfl⟩
          rw [hzz] at HKP hq3
          rw [hc] at HKD
          clear hla hz hq hzz
          have hbk : (k : Int) + 1 ≤ (s.size : Int) := by omega
          have hbk2 : (k : Int) ≤ (k : Int) + 1 := by omega
          have hbk3 : 0 ≤ (k : Int) + 1 := by omega
          obtain ⟨x, hx⟩ : ∃ x, s.extract k (k + 1) = x := ⟨_, rfl⟩
          have HX := Lib.hid hx
          have HXE : Hid (s.extract k (k + 1) = mk [s[k]]) := by show _ = _; rw [Lib.extract_eq s k (k + 1), drop_at s k hlt, show k + 1 - k = 1 by omega]; rfl
          have HNw := Lib.hid (World.news_of_block (heap_alloc_new wr (.cells #[.string x, .int .i64 (k : Nat)] 61)))
          have hB2 := below_alloc wr (.cells #[.string x, .int .i64 (k : Nat)] 61)
          have hO2 : (wr.alloc (.cells #[.string x, .int .i64 (k : Nat)] 61)).ownsRow w.heap.size 61 2 (.slice la n lc) n (wcs (wds 0 (s.data.toList.take k))) := by
            have h4 := HK.out.2
            rw [← HN.out] at h4
            refine ⟨h4.1, h4.2.imp id ?_⟩
            rintro ⟨g, c, cur, e1, h0, hh, hr⟩
            exact ⟨g, c, cur, e1, h0, keepB hh hB2, hr⟩
          have HO2 := Lib.hid hO2
          have HF2 := Lib.hid (keepB HK.out.1 hB2)
          have HBL := Lib.hid (below_trans HB.out hB2)
          have hN6 : n ≤ 65536 := by have := HN.out; have := HWL.out; omega
          have HON : Hid (∀ u ∈ [Value.string x, .int .i64 (k : Nat)], u.oneCell' = true) := fun u hu => by simp at hu; rcases hu with rfl | rfl <;> rfl
          have HLN : Hid (n + 1 ≤ maxLen) := by show _ ≤ _; simp only [maxLen]; omega
          have HLB : Hid ((n + 1) * 24 ≤ 140737488355328) := by show _ ≤ _; omega
          clear hc hB2 hO2
          go_wp2_with fail
          go_at_call 49
          refine (HKD.out _).mono ?_
          rintro e w1 ⟨rfl, rfl⟩
          go_wp2_with fail
          go_at_call 49
          refine (HKP.out _).mono ?_
          rintro e w1 ⟨rfl, rfl⟩
          go_wp2_with (first | (at_builtin; refine wpList_append_own_at _ (by rfl) _ _ 54 (by rfl) w.heap.size 61 iw (.agg #[.string ByteArray.empty, .int .i64 0]) 2 24 Tryd.underlying54 j1 j2 j3 j4 (by rfl) (by omega) (.slice la n lc) n (wcs (wds 0 (s.data.toList.take k))) (by rfl) HO2.out ⟨w1.heap.size, 0, none⟩ 1 1 [.string x, .int .i64 (k : Nat)] (by rfl) (by rfl) HNw.out HON.out HLN.out HLB.out HBL.out.size ?_))
          intro lv2 w2 hown hgrow hnil hat
          have HF3 := Lib.hid (kept_other HF2.out HO2.out (by decide) hgrow)
          have HB3 := Lib.hid (HBL.out.grown hgrow HBL.out.size fun q hq => (HO2.out.lt q hq).1)
          obtain ⟨la2, lc2, rfl, -, -⟩ := own_form2 hown
          have HOW := Lib.hid hown
          clear hown hgrow hnil hat
          go_wp2
          go_roundg (s.size - (k + 1))
          case rel =>
            refine ⟨k + 1, la2, n + 1, lc2, by omega, rfl, rfl, by go_num, by rw [HS.out.1, List.length_append, ← HN.out]; rfl, ⟨HF3.out, ?_⟩, HB3.out, HS.out.2⟩
            have hcs : wcs [([s[k]], k)] = [.string x, .int .i64 (k : Nat)] := by rw [← HX.out, HXE.out]; rfl
            rw [HS.out.1, wcs_app, hcs, List.length_append, ← HN.out]
            exact HOW.out
          case measure => omega
      · have hX := sp_bad HLL.out (cut_at s k hlt) HG.out hc
        rw [HTL.out] at hX
        have HX := Lib.hid hX
        obtain ⟨d0, d1, d2, d3⟩ := box_two HK.out.1
        rw [hc] at HKD
        clear hc hX
        go_wp2_with (go_at_call 49; refine (HKD.out _).mono ?_; rintro e w1 ⟨rfl, rfl⟩)
        refine bodyPost_ret (v := .tuple #[.slice none 0 0, .agg #[.int .i64 4, .int .i64 (k : Nat)]]) (by simp [results, Tryd.results28, go_sem, d0, d1]) rfl ?_
        exact ⟨⟨_, by rw [HX.out.1, HX.out.2.1], by rw [HX.out.2.2]; exact WdsAt.nil _ _⟩, below_put2 HB.out _ (by simp) _ _⟩
    · have hkk : s.data.toList.take k = s.data.toList := List.take_of_length_le (by rw [HL.out]; omega)
      have hG := HG.out
      have hKI := HK.out
      rw [hkk] at hG hKI
      have HX := Lib.hid (sp_good HLL.out hG)
      obtain ⟨k2, k4⟩ := hKI
      obtain ⟨d0, d1, d2, d3⟩ := box_two k2
      have HK4 := Lib.hid k4
      have HK2 := Lib.hid k2
      clear hkk hG k2 k4 HG HK
      go_wp2
      refine bodyPost_ret (v := .tuple #[.slice la n lc, .agg #[.int .i64 0, .int .i64 0]]) (by simp [results, Tryd.results28, go_sem, d0, d1]) rfl ?_
      refine ⟨⟨_, by rw [HX.out.1, HX.out.2.1]; rfl, ?_⟩, below_put2 HB.out _ (by simp) _ _⟩
      rw [HX.out.2.2]
      exact wds_of_own (own_far2 HK4.out HK2.out (by decide)) fun b hb => (HK4.out.lt b hb).1
end Go.Proofs.YtgloihilnbjmeaaDoor.Wo
end
