/-
  Texts put together (merge.py): WSplit.
-/
import Derived.Test.YtgloihilnbjmeaaDoorMc18
/-
  What words.Split answers, as a contract: for every text.
-/
section
set_option linter.unusedSimpArgs false
set_option linter.unusedVariables false
namespace Go.Proofs.YtgloihilnbjmeaaDoor.Wo
open Go.RowKit

theorem inv_start (s : ByteArray) (w : World) : KInv w.heap.size s [] (((w.alloc (.cells #[.string s] 9)).alloc (.cells #[.int .i64 0, .int .i64 0] 31)).alloc (.cells #[.slice none 0 0] 54)) ∧ Below w.heap.size w (((w.alloc (.cells #[.string s] 9)).alloc (.cells #[.int .i64 0, .int .i64 0] 31)).alloc (.cells #[.slice none 0 0] 54)) := by
  have b1 := below_alloc w (.cells #[.string s] 9)
  have b2 := below_alloc (w.alloc (.cells #[.string s] 9)) (.cells #[.int .i64 0, .int .i64 0] 31)
  have b3 := below_alloc ((w.alloc (.cells #[.string s] 9)).alloc (.cells #[.int .i64 0, .int .i64 0] 31)) (.cells #[.slice none 0 0] 54)
  have h1 := heap_alloc_new w (.cells #[.string s] 9)
  have h2 := heap_alloc_new (w.alloc (.cells #[.string s] 9)) (.cells #[.int .i64 0, .int .i64 0] 31)
  have h3 := heap_alloc_new ((w.alloc (.cells #[.string s] 9)).alloc (.cells #[.int .i64 0, .int .i64 0] 31)) (.cells #[.slice none 0 0] 54)
  rw [show (w.alloc (.cells #[.string s] 9)).heap.size = w.heap.size + 1 by simp] at h2
  rw [show ((w.alloc (.cells #[.string s] 9)).alloc (.cells #[.int .i64 0, .int .i64 0] 31)).heap.size = w.heap.size + 2 by simp] at h3
  exact ⟨⟨keepB h1 (below_trans b2 b3), keepB h2 b3, _, h3, World.ownsRow_nil _ _ _ _⟩, below_trans b1 (below_trans b2 b3)⟩

theorem step_gap {l : Tx} {x : Tx} {c : UInt8} {y : Tx} (hc : kd c = 1) (hg : good x = true) : wds 0 (x ++ [c]) = wds 0 x ∧ good (x ++ [c]) = true ∧ (lastI (x ++ [c]) = false ∨ headI y = false) := by
  refine ⟨?_, by rw [good_app, hg]; simp [good, hc], Or.inl ?_⟩
  · rw [wds_app x [c] 0 (Or.inr (by simp [headI, inn, hc])), wds_one, if_neg (by omega)]; simp
  · rw [lastI_app (by simp)]; simp [lastI, inn, hc]
theorem step_br {x : Tx} {c : UInt8} {y : Tx} (hc : kd c = 2) (hg : good x = true) : wds 0 (x ++ [c]) = wds 0 x ++ [([c], x.length)] ∧ good (x ++ [c]) = true ∧ (lastI (x ++ [c]) = false ∨ headI y = false) := by
  refine ⟨?_, by rw [good_app, hg]; simp [good, hc], Or.inl ?_⟩
  · rw [wds_app x [c] 0 (Or.inr (by simp [headI, inn, hc])), wds_one, if_pos (Or.inl hc)]; simp
  · rw [lastI_app (by simp)]; simp [lastI, inn, hc]
theorem step_run {x r : Tx} {y : Tx} (hr : r ≠ []) (ha : allI r = true) (hx : lastI x = false) (hg : good x = true) (hy : headI y = false) : wds 0 (x ++ r) = wds 0 x ++ [(r, x.length)] ∧ good (x ++ r) = true ∧ (lastI (x ++ r) = false ∨ headI y = false) := by
  refine ⟨?_, by rw [good_app, hg, allI_good ha]; rfl, Or.inr hy⟩
  rw [wds_app x r 0 (Or.inl hx), wds_run r _ hr ha]; simp

theorem sp_long {l : Tx} (h : 65536 < l.length) : spE l = 10 ∧ spA l = 0 ∧ spV l = [] := by simp [spE, spA, spV, h]
theorem sp_good {l : Tx} (h : ¬ 65536 < l.length) (hg : good l = true) : spE l = 0 ∧ spA l = 0 ∧ spV l = wds 0 l := by
  refine ⟨by rw [spE, if_neg h, if_pos hg], ?_, by rw [spV, if_neg h, if_pos hg]⟩
  rw [spA, if_neg h, (fb_none l 0).2 hg]; rfl
theorem sp_bad {l x : Tx} {c : UInt8} {y : Tx} (h : ¬ 65536 < l.length) (he : l = x ++ c :: y) (hx : good x = true) (hc : kd c = 0) : spE l = 4 ∧ spA l = x.length ∧ spV l = [] := by
  have hg : good l = false := by rw [he]; exact good_not hc
  refine ⟨by rw [spE, if_neg h, if_neg (by rw [hg]; simp)], ?_, by rw [spV, if_neg h, if_neg (by rw [hg]; simp)]⟩
  rw [spA, if_neg h, he, fb_at x 0 c y hx hc]; simp
theorem cut_at (s : ByteArray) (k : Nat) (h : k < s.size) : s.data.toList = s.data.toList.take k ++ s[k] :: s.data.toList.drop (k + 1) := by
  rw [← drop_at s k h, List.take_append_drop]
theorem below_put2 {B : Nat} {w W : World} (h : Below B w W) (b : Nat) (hb : B ≤ b) (a0 a1 : Value) : Below B w ((W.setCell ⟨b, 0, none⟩ a0).setCell ⟨b, 1, none⟩ a1) :=
  (h.setCell (p := ⟨b, 0, none⟩) hb a0).setCell (p := ⟨b, 1, none⟩) hb a1

theorem own_far2 {w : World} {B : Nat} {v : Value} {n : Nat} {xs : List Value} {q : Nat} {a b : Value} {cs : Array Value} {T : TypeId} (ho : w.ownsRow B 61 2 v n xs) (hq : w.heap[q]? = some (.cells cs T (0, 0))) (hT : T ≠ 61) : ((w.setCell ⟨q, 0, none⟩ a).setCell ⟨q, 1, none⟩ b).ownsRow B 61 2 v n xs := by
  refine ⟨ho.1, ho.2.imp id ?_⟩
  rintro ⟨g, c, cur, rfl, h0, hh, hr⟩
  have hne : g ≠ q := by
    rintro rfl
    rw [hh] at hq
    simp only [Option.some.injEq, Obj.cells.injEq] at hq
    exact hT hq.2.1.symm
  exact ⟨g, c, cur, rfl, h0, heap_far (heap_far hh hne) hne, hr⟩

set_option maxHeartbeats 8000000 in
theorem split_any (s : ByteArray) (w : World) (hs : s.size ≤ maxLen) :
    Calls Tryd.prog 26 #[.string s] w fun e w' => (∃ u, e = .returned (.tuple #[u, .agg #[.int .i64 (spE s.data.toList), .int .i64 (spA s.data.toList : Nat)]]) ∧ WdsAt (fun b => w.heap.size ≤ b) w' u (spV s.data.toList)) ∧ Below w.heap.size w w' := by
  unfold maxLen at hs
  have HL : Hid (s.data.toList.length = s.size) := (Lib.size_eq s).symm
  by_cases hl : 65536 < s.size
  · have hl' : (65536 : Int) < (s.size : Int) := by omega
    have HX := Lib.hid (sp_long (l := s.data.toList) (by rw [HL.out]; exact hl))
    clear hl
    go_enter Tryd.func26, Tryd.ntmps26
    go_wp2
    refine bodyPost_ret (v := .tuple #[.slice none 0 0, .agg #[.int .i64 10, .int .i64 0]]) (by simp [results, Tryd.results26, go_sem]) rfl ?_
    exact ⟨⟨_, by rw [HX.out.1, HX.out.2.1]; rfl, by rw [HX.out.2.2]; exact WdsAt.nil _ _⟩, below_trans (below_alloc w _) (below_alloc _ _)⟩
  have hl' : ¬ (65536 : Int) < (s.size : Int) := by omega
  have hls : s.size ≤ 65536 := by omega
  have HLL : Hid (¬ 65536 < s.data.toList.length) := by show ¬ _; rw [HL.out]; exact hl
  have HST := Lib.hid (inv_start s w)
  clear hl
  go_enter Tryd.func26, Tryd.ntmps26
  go_wp2
  clear hl'
  go_loopg [6] (s.size) (fun g i wr => ∃ k : Nat, k ≤ s.size ∧ g = s.size - k ∧ i = .int .i64 k ∧ Hid (KInv w.heap.size s (wds 0 (s.data.toList.take k)) wr) ∧ Hid (Below w.heap.size w wr) ∧ Hid (good (s.data.toList.take k) = true ∧ (lastI (s.data.toList.take k) = false ∨ headI (s.data.toList.drop k) = false)))
  case atStart => exact ⟨0, Nat.zero_le _, rfl, rfl, HST.out.1, HST.out.2, rfl, Or.inl rfl⟩
  case round =>
    obtain ⟨k, hk, hg, rfl, HK, HB, HG⟩ := hrel
    clear HST
    obtain ⟨cs, -⟩ := box_cell HK.out.1
    have hbs : w.heap.size < wr.heap.size := (Array.getElem?_eq_some_iff.1 HK.out.1).1
    have HWL : Hid ((wds 0 (s.data.toList.take k)).length ≤ k) := Nat.le_trans (wds_len _ _) (by rw [List.length_take]; omega)
    by_cases hlt : k < s.size
    · have HGA := Lib.hid (gap_any s[k])
      have HBR := Lib.hid (bracket_any s[k])
      have HIN := Lib.hid (inner_any s[k])
      have HTK := Lib.hid (take_snoc s k hlt)
      have HTL : Hid ((s.data.toList.take k).length = k) := by show _ = _; rw [List.length_take, HL.out]; omega
      have HDK : Hid ((s.data.toList.drop k).take (k + 1 - k) = [s[k]]) := by show _ = _; rw [drop_at s k hlt, show k + 1 - k = 1 by omega]; rfl
      rcases (show kd s[k] = 1 ∨ kd s[k] = 2 ∨ kd s[k] = 3 ∨ kd s[k] = 0 by unfold kd; split; (exact Or.inl rfl); split; (exact Or.inr (Or.inl rfl)); split; (exact Or.inr (Or.inr (Or.inl rfl))); exact Or.inr (Or.inr (Or.inr rfl))) with hc | hc | hc | hc
      · have b1 : (kd s[k] == 1) = true := by rw [hc]; rfl
        rw [b1] at HGA
        have HS := Lib.hid (step_gap (l := s.data.toList) (y := s.data.toList.drop (k + 1)) hc HG.out.1)
        clear hc b1 HBR HIN
        go_wp2_with (go_at_call 40; refine (HGA.out _).mono ?_; rintro e w1 ⟨rfl, rfl⟩)
        go_roundg (s.size - (k + 1))
        case rel => exact ⟨k + 1, by omega, rfl, by go_num, by rw [HTK.out, HS.out.1]; exact HK.out, HB.out, by rw [HTK.out]; exact HS.out.2⟩
        case measure => omega
      · have b1 : (kd s[k] == 1) = false := by rw [hc]; rfl
        have b2 : (kd s[k] == 2) = true := by rw [hc]; rfl
        rw [b1] at HGA
        rw [b2] at HBR
        have HS := Lib.hid (step_br (y := s.data.toList.drop (k + 1)) hc HG.out.1)
        have HKP := Lib.hid (keep_any k (k + 1) s w.heap.size (wds 0 (s.data.toList.take k)) wr HK.out (by omega) (by omega) hls (by have := HWL.out; omega))
        clear hc b1 b2 HIN
        go_wp2_with (first | (go_at_call 40; refine (HGA.out _).mono ?_; rintro e w1 ⟨rfl, rfl⟩) | (go_at_call 41; refine (HBR.out _).mono ?_; rintro e w1 ⟨rfl, rfl⟩) | (go_at_call 39; refine HKP.out.mono ?_; rintro e w2 ⟨rfl, hk2, hb2⟩; have HK2 := Lib.hid hk2; have HB2 := Lib.hid (HB.out.trans hb2); clear hk2 hb2))
        go_roundg (s.size - (k + 1))
        case rel => exact ⟨k + 1, by omega, rfl, by go_num, by rw [HTK.out, HS.out.1]; have := HK2.out; rw [HDK.out] at this; rw [HTL.out]; exact this, HB2.out, by rw [HTK.out]; exact HS.out.2⟩
        case measure => omega
      · have b1 : (kd s[k] == 1) = false := by rw [hc]; rfl
        have b2 : (kd s[k] == 2) = false := by rw [hc]; rfl
        have b3 : inn s[k] = true := by unfold inn; rw [hc]; rfl
        rw [b1] at HGA
        rw [b2] at HBR
        rw [b3] at HIN
        have hf := endR_facts s.data.toList k (by rw [HL.out]; exact hk)
        have hgo := endR_go s k hlt b3
        have hf2 := (endR_facts s.data.toList (k + 1) (by rw [HL.out]; omega)).1
        rw [HL.out] at hf
        have HE := Lib.hid (endOf_any s k)
        obtain ⟨m, hm⟩ : ∃ m, endR s.data.toList k = m := ⟨_, rfl⟩
        rw [← hgo] at hf2
        rw [hm] at hf hf2 HE
        obtain ⟨f1, f2, f3, f4⟩ := hf
        have hr : (s.data.toList.drop k).take (m - k) ≠ [] := by
          intro e
          have := congrArg List.length e
          rw [List.length_take, List.length_drop, HL.out] at this
          simp at this
          omega
        have hx : lastI (s.data.toList.take k) = false := by
          rcases HG.out.2 with h | h
          · exact h
          · rw [drop_at s k hlt] at h; simp [headI, b3] at h
        have HS := Lib.hid (step_run (y := s.data.toList.drop m) hr f3 hx HG.out.1 f4)
        have HTM : Hid (s.data.toList.take m = s.data.toList.take k ++ (s.data.toList.drop k).take (m - k)) := by
          show _ = _
          conv => lhs; rw [show m = k + (m - k) by omega]
          exact List.take_add
        have HKP := Lib.hid (keep_any k m s w.heap.size (wds 0 (s.data.toList.take k)) wr HK.out (by omega) f2 hls (by have := HWL.out; omega))
        have hkm : k < m := by omega
        clear hc b1 b2 b3 hr hx hf2 hgo hm f1 f3 f4
        go_wp2_with (first | (go_at_call 40; refine (HGA.out _).mono ?_; rintro e w1 ⟨rfl, rfl⟩) | (go_at_call 41; refine (HBR.out _).mono ?_; rintro e w1 ⟨rfl, rfl⟩) | (go_at_call 42; refine (HIN.out _).mono ?_; rintro e w1 ⟨rfl, rfl⟩) | (go_at_call 43; refine (HE.out _ hk hls).mono ?_; rintro e w1 ⟨rfl, rfl⟩) | (go_at_call 39; refine HKP.out.mono ?_; rintro e w2 ⟨rfl, hk2, hb2⟩; have HK2 := Lib.hid hk2; have HB2 := Lib.hid (HB.out.trans hb2); clear hk2 hb2))
        go_roundg (s.size - m)
        case rel => exact ⟨m, by omega, rfl, by go_num, by rw [HTM.out, HS.out.1, HTL.out]; exact HK2.out, HB2.out, by rw [HTM.out]; exact HS.out.2⟩
        case measure => omega
      · have b1 : (kd s[k] == 1) = false := by rw [hc]; rfl
        have b2 : (kd s[k] == 2) = false := by rw [hc]; rfl
        have b3 : inn s[k] = false := by unfold inn; rw [hc]; rfl
        rw [b1] at HGA
        rw [b2] at HBR
        rw [b3] at HIN
        have hX := sp_bad HLL.out (cut_at s k hlt) HG.out.1 hc
        rw [HTL.out] at hX
        have HX := Lib.hid hX
        obtain ⟨d0, d1, d2, d3⟩ := box_two HK.out.2.1
        clear hc b1 b2 b3 hX
        go_wp2_with (first | (go_at_call 40; refine (HGA.out _).mono ?_; rintro e w1 ⟨rfl, rfl⟩) | (go_at_call 41; refine (HBR.out _).mono ?_; rintro e w1 ⟨rfl, rfl⟩) | (go_at_call 42; refine (HIN.out _).mono ?_; rintro e w1 ⟨rfl, rfl⟩))
        refine bodyPost_ret (v := .tuple #[.slice none 0 0, .agg #[.int .i64 4, .int .i64 (k : Nat)]]) (by simp [results, Tryd.results26, go_sem, d0, d1]) rfl ?_
        exact ⟨⟨_, by rw [HX.out.1, HX.out.2.1], by rw [HX.out.2.2]; exact WdsAt.nil _ _⟩, below_put2 HB.out _ (by simp) _ _⟩
    · have hkk : s.data.toList.take k = s.data.toList := List.take_of_length_le (by rw [HL.out]; omega)
      have hG := HG.out
      have hKI := HK.out
      rw [hkk] at hG hKI
      have HX := Lib.hid (sp_good HLL.out hG.1)
      obtain ⟨k1, k2, v, k3, k4⟩ := hKI
      obtain ⟨d0, d1, d2, d3⟩ := box_two k2
      obtain ⟨e0, -⟩ := box_cell k3
      have HK4 := Lib.hid k4
      have HK2 := Lib.hid k2
      clear hkk hG k1 k2 k3 k4 HG HK
      go_wp2
      refine bodyPost_ret (v := .tuple #[v, .agg #[.int .i64 0, .int .i64 0]]) (by simp [results, Tryd.results26, go_sem, d0, d1]) rfl ?_
      refine ⟨⟨_, by rw [HX.out.1, HX.out.2.1]; rfl, ?_⟩, below_put2 HB.out _ (by simp) _ _⟩
      rw [HX.out.2.2]
      exact wds_of_own (own_far2 HK4.out HK2.out (by decide)) fun b hb => (HK4.out.lt b hb).1
end Go.Proofs.YtgloihilnbjmeaaDoor.Wo
end
