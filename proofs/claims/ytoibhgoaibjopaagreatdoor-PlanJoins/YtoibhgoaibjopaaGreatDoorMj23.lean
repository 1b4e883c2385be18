/-
  Texts put together (merge.py): WSplit, WRef, WJoin, PPrA.
-/
import Derived.BigQuiet
import Derived.Deep.DeepCutAuto
import Derived.Defers
import Derived.Recover
import Derived.Test.YtoibhgoaibjopaaGreatDoorMj9
import Derived.Test.YtoibhgoaibjopaaGreatDoorShelf
import Derived.Test.YtoibhgoaibjopaaGreatDoorMj22
import Derived.Test.YtoibhgoaibjopaaGreatDoorMj14
/-
  What words.Split answers, as a contract: for every text.
-/
section
set_option linter.unusedSimpArgs false
set_option linter.unusedVariables false
namespace Go.Proofs.YtoibhgoaibjopaaGreatDoor.Wo
open Go.RowKit

theorem inv_start (s : ByteArray) (w : World) : KInv w.heap.size s [] (((w.alloc (.cells #[.string s] 9)).alloc (.cells #[.int .i64 0, .int .i64 0] 38)).alloc (.cells #[.slice none 0 0] 54)) ∧ Below w.heap.size w (((w.alloc (.cells #[.string s] 9)).alloc (.cells #[.int .i64 0, .int .i64 0] 38)).alloc (.cells #[.slice none 0 0] 54)) := by
  have b1 := below_alloc w (.cells #[.string s] 9)
  have b2 := below_alloc (w.alloc (.cells #[.string s] 9)) (.cells #[.int .i64 0, .int .i64 0] 38)
  have b3 := below_alloc ((w.alloc (.cells #[.string s] 9)).alloc (.cells #[.int .i64 0, .int .i64 0] 38)) (.cells #[.slice none 0 0] 54)
  have h1 := heap_alloc_new w (.cells #[.string s] 9)
  have h2 := heap_alloc_new (w.alloc (.cells #[.string s] 9)) (.cells #[.int .i64 0, .int .i64 0] 38)
  have h3 := heap_alloc_new ((w.alloc (.cells #[.string s] 9)).alloc (.cells #[.int .i64 0, .int .i64 0] 38)) (.cells #[.slice none 0 0] 54)
  rw [show (w.alloc (.cells #[.string s] 9)).heap.size = w.heap.size + 1 by simp] at h2
  rw [show ((w.alloc (.cells #[.string s] 9)).alloc (.cells #[.int .i64 0, .int .i64 0] 38)).heap.size = w.heap.size + 2 by simp] at h3
  exact ⟨⟨keepB h1 (below_trans b2 b3), keepB h2 b3, _, h3, World.ownsRow_nil _ _ _ _⟩, below_trans b1 (below_trans b2 b3)⟩

theorem step_gap {l : Tx} {x : Tx} {c : UInt8} {y : Tx} (hc : kd c = 1) (hg : good x = true) : wds 0 (x ++ [c]) = wds 0 x ∧ good (x ++ [c]) = true ∧ (lastI (x ++ [c]) = false ∨ headI y = false) := by
  refine ⟨?_, by rw [good_app, hg]; simp [good, hc], Or.inl ?_⟩
  · rw [wds_app x [c] 0 (Or.inr (by simp [headI, inn, hc])), wds_one, if_neg (by omega)]; simp
  · rw [lastI_app (by simp)]; simp [lastI, inn, hc]
theorem step_br {x : Tx} {c : UInt8} {y : Tx} (hc : kd c = 2) (hg : good x = true) : wds 0 (x ++ [c]) = wds 0 x ++ [([c], x.length)] ∧ good (x ++ [c]) = true ∧ (lastI (x ++ [c]) = false ∨ headI y = false) := by
  refine ⟨?_, by rw [good_app, hg]; simp [good, hc], Or.inl ?_⟩
  · rw [wds_app x [c] 0 (Or.inr (by simp [headI, inn, hc])), wds_one, if_pos (Or.inl hc)]; simp
  · rw [lastI_app (by simp)]; simp [lastI, inn, hc]
theorem step_run {x r : Tx} {y : Tx} (hr : r ≠ []) (ha : allI r = true) (hx : lastI x = false) (hg : good x = true) (hy : headI y = false) : wds 0 (x ++ r) = wds 0 x ++ [(r, x.length)] ∧ good (x ++ r) = true ∧ (lastI (x ++ r) = false ∨ headI y = false) := by
  refine ⟨?_, by rw [good_app, hg, allI_good ha]; rfl, Or.inr hy⟩
  rw [wds_app x r 0 (Or.inl hx), wds_run r _ hr ha]; simp

theorem sp_long {l : Tx} (h : 65536 < l.length) : spE l = 10 ∧ spA l = 0 ∧ spV l = [] := by simp [spE, spA, spV, h]
theorem sp_good {l : Tx} (h : ¬ 65536 < l.length) (hg : good l = true) : spE l = 0 ∧ spA l = 0 ∧ spV l = wds 0 l := by
  refine ⟨by rw [spE, if_neg h, if_pos hg], ?_, by rw [spV, if_neg h, if_pos hg]⟩
  rw [spA, if_neg h, (fb_none l 0).2 hg]; rfl
theorem sp_bad {l x : Tx} {c : UInt8} {y : Tx} (h : ¬ 65536 < l.length) (he : l = x ++ c :: y) (hx : good x = true) (hc : kd c = 0) : spE l = 4 ∧ spA l = x.length ∧ spV l = [] := by
  have hg : good l = false := by rw [he]; exact good_not hc
  refine ⟨by rw [spE, if_neg h, if_neg (by rw [hg]; simp)], ?_, by rw [spV, if_neg h, if_neg (by rw [hg]; simp)]⟩
  rw [spA, if_neg h, he, fb_at x 0 c y hx hc]; simp
theorem cut_at (s : ByteArray) (k : Nat) (h : k < s.size) : s.data.toList = s.data.toList.take k ++ s[k] :: s.data.toList.drop (k + 1) := by
  rw [← drop_at s k h, List.take_append_drop]
theorem below_put2 {B : Nat} {w W : World} (h : Below B w W) (b : Nat) (hb : B ≤ b) (a0 a1 : Value) : Below B w ((W.setCell ⟨b, 0, none⟩ a0).setCell ⟨b, 1, none⟩ a1) :=
  (h.setCell (p := ⟨b, 0, none⟩) hb a0).setCell (p := ⟨b, 1, none⟩) hb a1

theorem own_far2 {w : World} {B : Nat} {v : Value} {n : Nat} {xs : List Value} {q : Nat} {a b : Value} {cs : Array Value} {T : TypeId} (ho : w.ownsRow B 73 2 v n xs) (hq : w.heap[q]? = some (.cells cs T (0, 0))) (hT : T ≠ 73) : ((w.setCell ⟨q, 0, none⟩ a).setCell ⟨q, 1, none⟩ b).ownsRow B 73 2 v n xs := by
  refine ⟨ho.1, ho.2.imp id ?_⟩
  rintro ⟨g, c, cur, rfl, h0, hh, hr⟩
  have hne : g ≠ q := by
    rintro rfl
    rw [hh] at hq
    simp only [Option.some.injEq, Obj.cells.injEq] at hq
    exact hT hq.2.1.symm
  exact ⟨g, c, cur, rfl, h0, heap_far (heap_far hh hne) hne, hr⟩

set_option maxHeartbeats 8000000 in
theorem split_any (s : ByteArray) (w : World) (hs : s.size ≤ maxLen) :
    Calls Tryz.prog 22 #[.string s] w fun e w' => (∃ u, e = .returned (.tuple #[u, .agg #[.int .i64 (spE s.data.toList), .int .i64 (spA s.data.toList : Nat)]]) ∧ WdsAt (fun b => w.heap.size ≤ b) w' u (spV s.data.toList)) ∧ Below w.heap.size w w' := by
  unfold maxLen at hs
  have HL : Hid (s.data.toList.length = s.size) := (Lib.size_eq s).symm
  by_cases hl : 65536 < s.size
  · have hl' : (65536 : Int) < (s.size : Int) := by omega
    have HX := Lib.hid (sp_long (l := s.data.toList) (by rw [HL.out]; exact hl))
    clear hl
    go_enter Tryz.func22, Tryz.ntmps22
    go_wp2
    refine bodyPost_ret (v := .tuple #[.slice none 0 0, .agg #[.int .i64 10, .int .i64 0]]) (by simp [results, Tryz.results22, go_sem]) rfl ?_
    exact ⟨⟨_, by rw [HX.out.1, HX.out.2.1]; rfl, by rw [HX.out.2.2]; exact WdsAt.nil _ _⟩, below_trans (below_alloc w _) (below_alloc _ _)⟩
  have hl' : ¬ (65536 : Int) < (s.size : Int) := by omega
  have hls : s.size ≤ 65536 := by omega
  have HLL : Hid (¬ 65536 < s.data.toList.length) := by show ¬ _; rw [HL.out]; exact hl
  have HST := Lib.hid (inv_start s w)
  clear hl
  go_enter Tryz.func22, Tryz.ntmps22
  go_wp2
  clear hl'
  go_loopg [6] (s.size) (fun g i wr => ∃ k : Nat, k ≤ s.size ∧ g = s.size - k ∧ i = .int .i64 k ∧ Hid (KInv w.heap.size s (wds 0 (s.data.toList.take k)) wr) ∧ Hid (Below w.heap.size w wr) ∧ Hid (good (s.data.toList.take k) = true ∧ (lastI (s.data.toList.take k) = false ∨ headI (s.data.toList.drop k) = false)))
  case atStart => exact ⟨0, Nat.zero_le _, rfl, rfl, HST.out.1, HST.out.2, rfl, Or.inl rfl⟩
  case round =>
    obtain ⟨k, hk, hg, rfl, HK, HB, HG⟩ := hrel
    clear HST
    obtain ⟨cs, -⟩ := box_cell HK.out.1
    have hbs : w.heap.size < wr.heap.size := (Array.getElem?_eq_some_iff.1 HK.out.1).1
    have HWL : Hid ((wds 0 (s.data.toList.take k)).length ≤ k) := Nat.le_trans (wds_len _ _) (by rw [List.length_take]; omega)
    by_cases hlt : k < s.size
    · have HGA := Lib.hid (gap_any s[k])
      have HBR := Lib.hid (bracket_any s[k])
      have HIN := Lib.hid (inner_any s[k])
      have HTK := Lib.hid (take_snoc s k hlt)
      have HTL : Hid ((s.data.toList.take k).length = k) := by show _ = _; rw [List.length_take, HL.out]; omega
      have HDK : Hid ((s.data.toList.drop k).take (k + 1 - k) = [s[k]]) := by show _ = _; rw [drop_at s k hlt, show k + 1 - k = 1 by omega]; rfl
      rcases (show kd s[k] = 1 ∨ kd s[k] = 2 ∨ kd s[k] = 3 ∨ kd s[k] = 0 by unfold kd; split; (exact Or.inl rfl); split; (exact Or.inr (Or.inl rfl)); split; (exact Or.inr (Or.inr (Or.inl rfl))); exact Or.inr (Or.inr (Or.inr rfl))) with hc | hc | hc | hc
      · have b1 : (kd s[k] == 1) = true := by rw [hc]; rfl
        rw [b1] at HGA
        have HS := Lib.hid (step_gap (l := s.data.toList) (y := s.data.toList.drop (k + 1)) hc HG.out.1)
        clear hc b1 HBR HIN
        go_wp2_with (go_at_call 42; refine (HGA.out _).mono ?_; rintro e w1 ⟨rfl, rfl⟩)
        go_roundg (s.size - (k + 1))
        case rel => exact ⟨k + 1, by omega, rfl, by go_num, by rw [HTK.out, HS.out.1]; exact HK.out, HB.out, by rw [HTK.out]; exact HS.out.2⟩
        case measure => omega
      · have b1 : (kd s[k] == 1) = false := by rw [hc]; rfl
        have b2 : (kd s[k] == 2) = true := by rw [hc]; rfl
        rw [b1] at HGA
        rw [b2] at HBR
        have HS := Lib.hid (step_br (y := s.data.toList.drop (k + 1)) hc HG.out.1)
        have HKP := Lib.hid (keep_any k (k + 1) s w.heap.size (wds 0 (s.data.toList.take k)) wr HK.out (by omega) (by omega) hls (by have := HWL.out; omega))
        clear hc b1 b2 HIN
        go_wp2_with (first | (go_at_call 42; refine (HGA.out _).mono ?_; rintro e w1 ⟨rfl, rfl⟩) | (go_at_call 43; refine (HBR.out _).mono ?_; rintro e w1 ⟨rfl, rfl⟩) | (go_at_call 41; refine HKP.out.mono ?_; rintro e w2 ⟨rfl, hk2, hb2⟩; have HK2 := Lib.hid hk2; have HB2 := Lib.hid (HB.out.trans hb2); clear hk2 hb2))
        go_roundg (s.size - (k + 1))
        case rel => exact ⟨k + 1, by omega, rfl, by go_num, by rw [HTK.out, HS.out.1]; have := HK2.out; rw [HDK.out] at this; rw [HTL.out]; exact this, HB2.out, by rw [HTK.out]; exact HS.out.2⟩
        case measure => omega
      · have b1 : (kd s[k] == 1) = false := by rw [hc]; rfl
        have b2 : (kd s[k] == 2) = false := by rw [hc]; rfl
        have b3 : inn s[k] = true := by unfold inn; rw [hc]; rfl
        rw [b1] at HGA
        rw [b2] at HBR
        rw [b3] at HIN
        have hf := endR_facts s.data.toList k (by rw [HL.out]; exact hk)
        have hgo := endR_go s k hlt b3
        have hf2 := (endR_facts s.data.toList (k + 1) (by rw [HL.out]; omega)).1
        rw [HL.out] at hf
        have HE := Lib.hid (endOf_any s k)
        obtain ⟨m, hm⟩ : ∃ m, endR s.data.toList k = m := ⟨_, rfl⟩
        rw [← hgo] at hf2
        rw [hm] at hf hf2 HE
        obtain ⟨f1, f2, f3, f4⟩ := hf
        have hr : (s.data.toList.drop k).take (m - k) ≠ [] := by
          intro e
          have := congrArg List.length e
          rw [List.length_take, List.length_drop, HL.out] at this
          simp at this
          omega
        have hx : lastI (s.data.toList.take k) = false := by
          rcases HG.out.2 with h | h
          · exact h
          · rw [drop_at s k hlt] at h; simp [headI, b3] at h
        have HS := Lib.hid (step_run (y := s.data.toList.drop m) hr f3 hx HG.out.1 f4)
        have HTM : Hid (s.data.toList.take m = s.data.toList.take k ++ (s.data.toList.drop k).take (m - k)) := by
          show _ = _
          conv => lhs; rw [show m = k + (m - k) by omega]
          exact List.take_add
        have HKP := Lib.hid (keep_any k m s w.heap.size (wds 0 (s.data.toList.take k)) wr HK.out (by omega) f2 hls (by have := HWL.out; omega))
        have hkm : k < m := by omega
        clear hc b1 b2 b3 hr hx hf2 hgo hm f1 f3 f4
        go_wp2_with (first | (go_at_call 42; refine (HGA.out _).mono ?_; rintro e w1 ⟨rfl, rfl⟩) | (go_at_call 43; refine (HBR.out _).mono ?_; rintro e w1 ⟨rfl, rfl⟩) | (go_at_call 44; refine (HIN.out _).mono ?_; rintro e w1 ⟨rfl, rfl⟩) | (go_at_call 45; refine (HE.out _ hk hls).mono ?_; rintro e w1 ⟨rfl, rfl⟩) | (go_at_call 41; refine HKP.out.mono ?_; rintro e w2 ⟨rfl, hk2, hb2⟩; have HK2 := Lib.hid hk2; have HB2 := Lib.hid (HB.out.trans hb2); clear hk2 hb2))
        go_roundg (s.size - m)
        case rel => exact ⟨m, by omega, rfl, by go_num, by rw [HTM.out, HS.out.1, HTL.out]; exact HK2.out, HB2.out, by rw [HTM.out]; exact HS.out.2⟩
        case measure => omega
      · have b1 : (kd s[k] == 1) = false := by rw [hc]; rfl
        have b2 : (kd s[k] == 2) = false := by rw [hc]; rfl
        have b3 : inn s[k] = false := by unfold inn; rw [hc]; rfl
        rw [b1] at HGA
        rw [b2] at HBR
        rw [b3] at HIN
        have hX := sp_bad HLL.out (cut_at s k hlt) HG.out.1 hc
        rw [HTL.out] at hX
        have HX := Lib.hid hX
        obtain ⟨d0, d1, d2, d3⟩ := box_two HK.out.2.1
        clear hc b1 b2 b3 hX
        go_wp2_with (first | (go_at_call 42; refine (HGA.out _).mono ?_; rintro e w1 ⟨rfl, rfl⟩) | (go_at_call 43; refine (HBR.out _).mono ?_; rintro e w1 ⟨rfl, rfl⟩) | (go_at_call 44; refine (HIN.out _).mono ?_; rintro e w1 ⟨rfl, rfl⟩))
        refine bodyPost_ret (v := .tuple #[.slice none 0 0, .agg #[.int .i64 4, .int .i64 (k : Nat)]]) (by simp [results, Tryz.results22, go_sem, d0, d1]) rfl ?_
        exact ⟨⟨_, by rw [HX.out.1, HX.out.2.1], by rw [HX.out.2.2]; exact WdsAt.nil _ _⟩, below_put2 HB.out _ (by simp) _ _⟩
    · have hkk : s.data.toList.take k = s.data.toList := List.take_of_length_le (by rw [HL.out]; omega)
      have hG := HG.out
      have hKI := HK.out
      rw [hkk] at hG hKI
      have HX := Lib.hid (sp_good HLL.out hG.1)
      obtain ⟨k1, k2, v, k3, k4⟩ := hKI
      obtain ⟨d0, d1, d2, d3⟩ := box_two k2
      obtain ⟨e0, -⟩ := box_cell k3
      have HK4 := Lib.hid k4
      have HK2 := Lib.hid k2
      clear hkk hG k1 k2 k3 k4 HG HK
      go_wp2
      refine bodyPost_ret (v := .tuple #[v, .agg #[.int .i64 0, .int .i64 0]]) (by simp [results, Tryz.results22, go_sem, d0, d1]) rfl ?_
      refine ⟨⟨_, by rw [HX.out.1, HX.out.2.1]; rfl, ?_⟩, below_put2 HB.out _ (by simp) _ _⟩
      rw [HX.out.2.2]
      exact wds_of_own (own_far2 HK4.out HK2.out (by decide)) fun b hb => (HK4.out.lt b hb).1
end Go.Proofs.YtoibhgoaibjopaaGreatDoor.Wo
end

/-
  What the reference's Split, Join and Same answer, as contracts.
-/
section
set_option linter.unusedSimpArgs false
set_option linter.unusedVariables false
namespace Go.Proofs.YtoibhgoaibjopaaGreatDoor.Wo
open Go.RowKit

/-- What the reference's Split has in memory: the answer's box and the row. -/
def RInv (B : Nat) (v : Value) (ws : List Wd) (w : World) : Prop :=
  w.heap[B]? = some (.cells #[.int .i64 0, .int .i64 0] 38 (0, 0)) ∧ w.ownsRow B 73 2 v ws.length (wcs ws)
theorem own_form2 {w : World} {B : Nat} {e : TypeId} {z : Nat} {v : Value} {n : Nat} {xs : List Value} (h : w.ownsRow B e z v n xs) : ∃ a c, v = .slice a n c ∧ n ≤ c ∧ c ≤ 9223372036854775807 := by
  rcases h.2 with ⟨rfl, rfl⟩ | ⟨g, c, cur, rfl, _, _, h1, h2, _⟩
  · exact ⟨_, _, rfl, by simp, by simp⟩
  · exact ⟨_, _, rfl, h1, by unfold maxLen at h2; exact h2⟩
theorem wcs_split (i : List Wd) (t : Tx) (q : Nat) : wcs (i ++ [(t, q)]) = wcs i ++ [.string (mk t), .int .i64 (q : Nat)] := by rw [wcs_app]; rfl
/-- A row of words whose last one grows. -/
theorem own_last {w : World} {B : Nat} {v : Value} {i : List Wd} {t : Tx} {q : Nat} (ho : w.ownsRow B 73 2 v (i.length + 1) (wcs (i ++ [(t, q)]))) :
    ∃ g c, v = .slice (some ⟨g, 0, none⟩) (i.length + 1) c ∧ B ≤ g ∧ g < w.heap.size ∧ i.length + 1 ≤ c ∧ c ≤ 9223372036854775807 ∧ w.cell? ⟨g, i.length * 2 + 1, none⟩ = some (.int .i64 (q : Nat)) ∧ w.cell? ⟨g, i.length * 2, none⟩ = some (.string (mk t)) ∧ w.frozen? ⟨g, i.length * 2, none⟩ = false ∧ (∃ cur, w.heap[g]? = some (.cells cur 73 (0, 0)))
      ∧ ∀ t', (w.setCell ⟨g, i.length * 2, none⟩ (.string (mk t'))).ownsRow B 73 2 v (i.length + 1) (wcs (i ++ [(t', q)])) := by
  obtain ⟨hl, h⟩ := ho
  rcases h with ⟨rfl, h0⟩ | ⟨g, cap, cur, rfl, hb, hg, h1, h2, hs, ht⟩
  · omega
  have hlen := wcs_len i
  have e0 : (wcs (i ++ [(t, q)]))[i.length * 2]? = some (.string (mk t)) := by rw [wcs_split, List.getElem?_append_right (by omega), hlen]; simp
  have e1 : (wcs (i ++ [(t, q)]))[i.length * 2 + 1]? = some (.int .i64 (q : Nat)) := by rw [wcs_split, List.getElem?_append_right (by omega), hlen]; simp
  rw [← ht, List.getElem?_take, if_pos (by omega)] at e0 e1
  refine ⟨g, cap, rfl, hb, (Array.getElem?_eq_some_iff.1 hg).1, h1, by unfold maxLen at h2; exact h2, ?_, ?_, Lib.frozen_of_heap hg _, ⟨cur, hg⟩, fun t' => ⟨?_, Or.inr ⟨g, cap, cur.set! (i.length * 2) (.string (mk t')), rfl, hb, ?_, h1, h2, by simpa using hs, ?_⟩⟩⟩
  · rw [cell_of_row w g _ cur _ (0, 0) hg]; simpa using e1
  · rw [cell_of_row w g _ cur _ (0, 0) hg]; simpa using e0
  · rw [wcs_len]; simp
  · exact heap_setCell_same w g _ cur _ _ hg
  · rw [show (cur.set! (i.length * 2) (.string (mk t'))).toList = cur.toList.set (i.length * 2) (.string (mk t')) by simp, List.take_set, ht, wcs_split, wcs_split, List.set_append_right _ _ (by omega), hlen]
    simp
theorem lastI_at (s : ByteArray) (p : Nat) (h : p < s.size) : lastI (s.data.toList.take (p + 1)) = inn s[p] := by
  rw [take_snoc s p h, lastI_app (by simp)]; rfl
theorem rinv_start (w : World) : RInv w.heap.size (.slice none 0 0) [] (w.alloc (.cells #[.int .i64 0, .int .i64 0] 38)) := ⟨heap_alloc_new _ _, World.ownsRow_nil _ _ _ _⟩
theorem step_app {s : ByteArray} {k : Nat} (h : k < s.size) (hg : good (s.data.toList.take k) = true) (hc : kd s[k] = 2 ∨ (kd s[k] = 3 ∧ lastI (s.data.toList.take k) = false)) : wds 0 (s.data.toList.take (k + 1)) = wds 0 (s.data.toList.take k) ++ [([s[k]], k)] ∧ good (s.data.toList.take (k + 1)) = true := by
  have hl : (s.data.toList.take k).length = k := by rw [List.length_take, ← Lib.size_eq]; omega
  rw [take_snoc s k h]
  refine ⟨?_, ?_⟩
  · rw [wds_app _ _ 0 (hc.elim (fun e => Or.inr (by simp [headI, inn, e])) fun e => Or.inl e.2), wds_one, if_pos (hc.imp id fun e => e.1), hl]; simp
  · rw [good_app, hg]; rcases hc with e | ⟨e, -⟩ <;> simp [good, e]

end Go.Proofs.YtoibhgoaibjopaaGreatDoor.Wo
end

/-
  What words.Join, and the reference's Join and Same, answer, as contracts; the example of the statements holds.
-/
section
set_option linter.unusedSimpArgs false
set_option linter.unusedVariables false
namespace Go.Proofs.YtoibhgoaibjopaaGreatDoor.Wo
open Go.RowKit

theorem sum_many : ∀ xs : List Tx, xs.length ≤ (xs.map fun x => 1 + x.length).sum
  | [] => by simp
  | x :: r => by have := sum_many r; simp only [List.length_cons, List.map_cons, List.sum_cons]; omega
theorem join_many (c : UInt8) (xs : List Tx) : xs.length ≤ (joinC c xs).length + 1 := by
  by_cases h : xs = []
  · subst h; simp
  · rw [join_len c xs h]; exact sum_many xs
theorem strings_join (v : Value) (xs : List Tx) (c : UInt8) (w : World) (h : TxAt All w v xs) (hl : (joinC c xs).length ≤ 1000000) :
    Calls Tryz.prog 34 #[v, .string (mk [c])] w fun e w' => e = .returned (.string (mk (joinC c xs))) ∧ Below w.heap.size w w' := by
  obtain ⟨a, cap, rfl, h1, h2, h3⟩ := h
  rcases h3 with rfl | ⟨b, o, rfl, _, hb, hc⟩
  · refine (Tryz.strings_Join_none a cap _ w).mono ?_
    rintro e w' ⟨rfl, rfl⟩
    exact ⟨rfl, Below.refl _ _⟩
  · have e1 : (xs.map mk).map (·.data.toList) = xs := by
      rw [List.map_map]
      conv => rhs; rw [← List.map_id xs]
      exact List.map_congr_left fun x _ => mk_list x
    have e2 : (xs.map mk).length = xs.length := List.length_map ..
    have e3 : (mk [c]).data.toList = [c] := mk_list _
    have := Tryz.strings_Join b o cap (xs.map mk) (mk [c]) w (fun j x hx => by
      rw [List.getElem?_map, Option.map_eq_some_iff] at hx
      obtain ⟨y, hy, rfl⟩ := hx
      obtain ⟨u, hu, rfl⟩ := hc j y hy
      exact hu) hb (by rw [e2]; have := join_many c xs; omega) (by rw [e2]; exact h1) (by rw [e1, e3]; exact Nat.le_trans hl (by omega))
    rw [e1, e2, e3] at this
    exact this
set_option maxHeartbeats 1000000 in
theorem join_any (v : Value) (xs : List Tx) (w : World) (h : TxAt All w v xs) (hl : (joinC 32 xs).length ≤ 1000000) :
    Calls Tryz.prog 17 #[v] w fun e w' => e = .returned (.string (mk (joinC 32 xs))) ∧ Below w.heap.size w w' := by
  have HJ : Hid (Calls Tryz.prog 34 #[v, .string ⟨#[32]⟩] w _) := strings_join v xs 32 w h hl
  obtain ⟨a, c, rfl, -, -, -⟩ := h
  go_enter Tryz.func17, Tryz.ntmps17
  go_wp2_with (go_at_call 34; refine HJ.out.mono ?_; rintro e w1 ⟨rfl, hb⟩; have HB := Lib.hid hb; clear hb)
  go_ret
  exact ⟨rfl, HB.out⟩

theorem mk_cat (a b : Tx) : mk a ++ mk b = mk (a ++ b) := by
  apply ByteArray.ext
  simp [mk]
theorem join_take (c : UInt8) (xs : List Tx) (k : Nat) (x : Tx) (hx : xs[k]? = some x) : joinC c (xs.take (k + 1)) = (if k = 0 then [] else joinC c (xs.take k) ++ [c]) ++ x := by
  cases xs with
  | nil => simp at hx
  | cons y r =>
    cases k with
    | zero =>
      simp at hx
      subst hx
      simp [joinC_one]
    | succ k =>
      rw [List.getElem?_cons_succ] at hx
      unfold joinC
      rw [List.take_succ_cons, Lib.join_cons, List.take_succ_cons, Lib.join_cons, Lib.joinTail_take_succ [c] r k x hx, if_neg (by omega)]
      simp
theorem tx_get {K : Nat → Prop} {w : World} {a : Option Addr} {n c : Nat} {xs : List Tx} (h : TxAt K w (.slice a n c) xs) (k : Nat) (hk : k < xs.length) :
    ∃ b o, a = some ⟨b, o, none⟩ ∧ xs[k]? = some xs[k] ∧ w.cell? ⟨b, o + k, none⟩ = some (.string (mk xs[k])) := by
  obtain ⟨a', c', he, h1, h2, h3⟩ := h
  have ha : a = a' := by injection he
  subst ha
  rcases h3 with h | ⟨b, o, ha, _, _, hc⟩
  · subst h; simp at hk
  · have hx := List.getElem?_eq_getElem hk
    obtain ⟨m, q1, rfl⟩ := hc k _ hx
    exact ⟨b, o, ha, hx, q1⟩
theorem join_len_take (c : UInt8) (xs : List Tx) (k : Nat) : (joinC c (xs.take k)).length ≤ (joinC c xs).length := by
  by_cases h : xs.take k = []
  · rw [h]; exact Nat.zero_le _
  · have h' : xs ≠ [] := fun e => h (by rw [e]; simp)
    have e1 := join_len c _ h
    have e2 := join_len c _ h'
    have e3 : ((xs.take k).map fun x => 1 + x.length).sum ≤ (xs.map fun x => 1 + x.length).sum := by
      conv => rhs; rw [← List.take_append_drop k xs]
      rw [List.map_append, List.sum_append]
      omega
    omega
theorem infoS : ∃ i, Tryz.prog.info? 9 = some i ∧ i.zero = some (.string ByteArray.empty) ∧ i.size = 1 ∧ i.bytes = 16 := by
  have hi : (Tryz.prog.info? 9).map (fun i => (i.zero, i.size, i.bytes)) = some (some (.string ByteArray.empty), 1, 16) := by kernel_rfl
  cases hq : Tryz.prog.info? 9 with
  | none => rw [hq] at hi; cases hi
  | some i =>
    rw [hq] at hi
    simp only [Option.map_some, Option.some.injEq, Prod.mk.injEq] at hi
    exact ⟨i, rfl, hi⟩
theorem lit1 : spE [114, 117, 108, 101, 32, 53, 32, 40, 97, 108, 108, 41, 10, 49, 50, 46, 53, 48] = 0 ∧ spA [114, 117, 108, 101, 32, 53, 32, 40, 97, 108, 108, 41, 10, 49, 50, 46, 53, 48] = 0 ∧ spV [114, 117, 108, 101, 32, 53, 32, 40, 97, 108, 108, 41, 10, 49, 50, 46, 53, 48] = [([114, 117, 108, 101], 0), ([53], 5), ([40], 7), ([97, 108, 108], 8), ([41], 11), ([49, 50, 46, 53, 48], 13)] := by decide
theorem lit2 : spE [97, 44, 98] = 4 ∧ spA [97, 44, 98] = 1 ∧ spV [97, 44, 98] = [] := by decide
theorem two_at (w : World) : TxAt All (w.alloc (.cells #[.string ⟨#[97]⟩, .string ⟨#[98]⟩] 9)) (.slice (some ⟨w.heap.size, 0, none⟩) 2 2) [[97], [98]] := by
  refine ⟨_, 2, rfl, by decide, by simp [maxLen], Or.inr ⟨w.heap.size, 0, rfl, trivial, by simp, fun j x hj => ?_⟩⟩
  have h := heap_alloc_new w (.cells #[.string ⟨#[97]⟩, .string ⟨#[98]⟩] 9)
  match j, hj with
  | 0, hj => simp at hj; subst hj; exact ⟨_, by rw [cell_of_row _ _ _ _ _ _ h]; rfl, rfl⟩
  | 1, hj => simp at hj; subst hj; exact ⟨_, by rw [cell_of_row _ _ _ _ _ _ h]; rfl, rfl⟩
end Go.Proofs.YtoibhgoaibjopaaGreatDoor.Wo
end

/-
  What plan.Print answers, as a contract: where the text is not too long.
-/
section
set_option linter.unusedSimpArgs false
set_option linter.unusedVariables false
set_option maxRecDepth 100000
namespace Go.Proofs.YtoibhgoaibjopaaGreatDoor.Pl
open Go.RowKit
open Wo (Wd WdsAt box_cell box_two keepB heap_far)

theorem tab_lt {w : World} (h : Nu.Tab w) : ∀ g, Tryz.prog.globalNamed "internal/strconv.uint64pow10" = some g → g < w.heap.size := by
  intro g hg
  unfold Nu.Tab Lib.TabIs World.var? at h
  simp only [hg, Option.bind_some] at h
  rcases Nat.lt_or_ge g w.heap.size with hl | hl
  · exact hl
  · rw [Array.getElem?_eq_none hl] at h
    simp at h
theorem pr_idle (p q : Addr) (w : World) :
    CallsD Tryz.prog 14 #[.pointer (some p), .pointer (some q)] .returning w fun e u' w' => e = .returned (.tuple #[]) ∧ u' = .returning ∧ w' = w := by
  refine callsD_of_wpS Tryz.func14 rfl fun c₀ cs hu => ?_
  apply wpS_seq
  apply wpS_region
  simp [wpOpsS, go_sem, recoverD, hu, Tryz.ntmps14, Exit.thenS]
  have et : (#[Value.pointer (some p), Value.pointer (some q)] ++ ((Array.replicate 6 undef).setIfInBounds 1 Value.nilIface).setIfInBounds 0 Value.nilIface) = #[Value.pointer (some p), Value.pointer (some q), Value.nilIface, Value.nilIface, undef, undef, undef, undef] := rfl
  rw [et]
  refine wpS_of_wp ?_
  have hnil : ∀ w : World, (binOp BinOp.neq 20 .nilIface .nilIface).run Tryz.prog w = .ok (.bool false) w := fun _ => by kernel_rfl
  go_wp2
  cases c₀
  simp_all [bodyPostS, results, Tryz.results14]
set_option maxHeartbeats 16000000 in
theorem print_bad (p : Pn) (m : Value) (w : World) (h : RusAt All w m p.rules) (hp : ¬ planB p = true) :
    Calls Tryz.prog 7 #[pnv p m] w fun e w' => e = .returned (.tuple #[.string (mk []), .int .i64 15]) ∧ Below w.heap.size w w' := by
  have he : checkE p = 15 := by unfold checkE; rw [if_neg hp]
  have HCK := Lib.hid fun W (hW : Below w.heap.size w W) => check_any p m W (h.grw hW)
  rw [he] at HCK
  have hb0 := below_trans (below_trans (below_alloc w (.cells #[.int .i64 p.mode, .int .i64 p.indDed, .int .i64 p.famDed, .int .i64 p.indOop, .int .i64 p.famOop, m] 24)) (below_alloc _ (.cells #[.string ⟨#[]⟩] 9))) (below_alloc _ (.cells #[.int .i64 0] 27))
  have HB0 := Lib.hid hb0
  have h1 := heap_alloc_new (w.alloc (.cells #[.int .i64 p.mode, .int .i64 p.indDed, .int .i64 p.famDed, .int .i64 p.indOop, .int .i64 p.famOop, m] 24)) (.cells #[.string ⟨#[]⟩] 9)
  have h2 := heap_alloc_new ((w.alloc (.cells #[.int .i64 p.mode, .int .i64 p.indDed, .int .i64 p.famDed, .int .i64 p.indOop, .int .i64 p.famOop, m] 24)).alloc (.cells #[.string ⟨#[]⟩] 9)) (.cells #[.int .i64 0] 27)
  rw [show (w.alloc (.cells #[.int .i64 p.mode, .int .i64 p.indDed, .int .i64 p.famDed, .int .i64 p.indOop, .int .i64 p.famOop, m] 24)).heap.size = w.heap.size + 1 by simp] at h1
  rw [show ((w.alloc (.cells #[.int .i64 p.mode, .int .i64 p.indDed, .int .i64 p.famDed, .int .i64 p.indOop, .int .i64 p.famOop, m] 24)).alloc (.cells #[.string ⟨#[]⟩] 9)).heap.size = w.heap.size + 2 by simp] at h2
  have HS := Lib.hid (keepB h1 (below_alloc _ (.cells #[.int .i64 0] 27)))
  have HE := Lib.hid h2
  clear h1 h2 he hb0 h
  go_enter_defers Tryz.func7, Tryz.ntmps7
  go_wp2_with fail
  go_at_call 13
  refine (HCK.out _ HB0.out).mono ?_
  rintro e w1 ⟨rfl, hb1⟩
  obtain ⟨s0, s1⟩ := box_cell (keepB HS.out hb1)
  obtain ⟨e0, e1⟩ := box_cell (keepB HE.out hb1)
  have HB1 := Lib.hid (below_trans HB0.out hb1)
  clear hb1 HS HE HB0 HCK
  go_wp2
  refine ⟨.tuple #[.string (mk []), .int .i64 15], by simp [results, Tryz.results7, go_sem, s0, e0]; rfl, rfl, ?_⟩
  exact (HB1.out.setCell (p := ⟨w.heap.size + 1, 0, none⟩) (by show w.heap.size ≤ w.heap.size + 1; omega) _).setCell (p := ⟨w.heap.size + 2, 0, none⟩) (by show w.heap.size ≤ w.heap.size + 2; omega) _
end Go.Proofs.YtoibhgoaibjopaaGreatDoor.Pl
end
