/-
  Texts put together (merge.py): ZWorks, NRefNum, NRefRead.
-/
import Derived.Test.YtmoldgmfhcmceaaGreatDoorMp31
import Derived.Test.YtmoldgmfhcmceaaGreatDoorMp34
import Derived.Test.YtmoldgmfhcmceaaGreatDoorMp18
import Derived.Test.YtmoldgmfhcmceaaGreatDoorMp28
/-
  What layer 12's works answers: true. And what light tells.
-/
section
set_option linter.unusedSimpArgs false
set_option linter.unusedVariables false
set_option maxRecDepth 100000
namespace Go.Proofs.YtmoldgmfhcmceaaGreatDoor.Fe
open Go.RowKit
open Wo (Wd WdsAt box_cell box_two keepB heap_far below_alloc below_trans)
open Cm (Ln)

def wkT1 : Tx := [102, 101, 101, 32, 57, 57, 50, 49, 51, 32, 110, 111, 110, 101, 32, 105, 110, 32, 50, 48, 50, 52, 48, 54, 48, 49, 32, 56, 48, 32, 102, 101, 101, 32, 57, 57, 50, 49, 51, 32, 110, 111, 110, 101, 32, 105, 110, 32, 50, 48, 50, 52, 48, 49, 48, 49, 32, 55, 53, 46, 53]
def wkT2 : Tx := [102, 101, 101, 32, 57, 57, 50, 49, 51, 32, 110, 111, 110, 101, 32, 105, 110, 32, 50, 48, 50, 52, 48, 49, 48, 49, 32, 55, 53, 46, 53, 48, 32, 102, 101, 101, 32, 57, 57, 50, 49, 51, 32, 110, 111, 110, 101, 32, 105, 110, 32, 50, 48, 50, 52, 48, 54, 48, 49, 32, 56, 48, 46, 48, 48]
def wkT3 : Tx := [102, 101, 101, 32, 120]
def wkR : List Fee := [⟨[57, 57, 50, 49, 51], [], 0, 20240101, 7550⟩, ⟨[57, 57, 50, 49, 51], [], 0, 20240601, 8000⟩]
def wkX : Ln := ⟨[57, 57, 50, 49, 51], [], 20240701, 2, 10000, 0⟩
theorem wk_parse : paR wkT1 = .ok wkR := by kernel_rfl
theorem wk_fault : paR wkT3 = .error (4, 5) := by kernel_rfl
theorem wk_print : prV wkR = wkT2 := by kernel_rfl
theorem wkR_check : checkE wkR = 0 := by kernel_rfl
theorem wk_look : lookV ⟨[57, 57, 50, 49, 51], [], 0, 20240531⟩ wkR = 7550 ∧ lookB ⟨[57, 57, 50, 49, 51], [], 0, 20240531⟩ wkR = true := ⟨by kernel_rfl, by kernel_rfl⟩
theorem wk_allow : allowV wkR wkX 0 = 10000 ∧ priceB wkR wkX 0 = true := ⟨by kernel_rfl, by kernel_rfl⟩
theorem wk_nil : checkE [] = 0 := by kernel_rfl
theorem wk_ok : ∀ f ∈ wkR, FeOk f := fun f hf => ok_of_one ((check_facts wkR_check).2.1 f hf)
set_option maxHeartbeats 16000000 in
theorem works_any (w : World) (hT : Da.Tab w) (hN : Nu.Tab w) : Calls Tryz.prog 8 #[] w fun e w' => e = .returned (.bool true) ∧ Below w.heap.size w w' := by
  have HT := Lib.hid hT
  have HN := Lib.hid hN
  have HS1 : Hid (∀ W, Below w.heap.size w W → Calls Tryz.prog 13 #[.string (mk wkT1)] W fun e w' => (∃ (a : Option Addr) (c : Nat), e = .returned (.tuple #[.slice a 2 c, .agg #[.int .i64 0, .int .i64 0]]) ∧ FesAt All w' (.slice a 2 c) wkR) ∧ Below W.heap.size W w') := fun W hW => by
    refine (parse_any (mk wkT1) W (by rw [mk_size]; decide +kernel) (Cm.tab_below HT.out hW)).mono ?_
    rintro e w' ⟨h1, h2⟩
    rw [mk_list, wk_parse] at h1
    obtain ⟨v, rfl, h3⟩ := h1
    obtain ⟨a, c, rfl, -, -⟩ := h3.form
    exact ⟨⟨a, c, rfl, h3⟩, h2⟩
  have HS3 : Hid (∀ W, Below w.heap.size w W → Calls Tryz.prog 13 #[.string (mk wkT3)] W fun e w' => e = .returned (.tuple #[.slice none 0 0, .agg #[.int .i64 4, .int .i64 5]]) ∧ Below W.heap.size W w') := fun W hW => by
    refine (parse_any (mk wkT3) W (by rw [mk_size]; decide +kernel) (Cm.tab_below HT.out hW)).mono ?_
    rintro e w' ⟨h1, h2⟩
    rw [mk_list, wk_fault] at h1
    exact ⟨h1, h2⟩
  have HPr : Hid (∀ (W : World) v, FesAt All W v wkR → Below w.heap.size w W → Calls Tryz.prog 9 #[v] W fun e w' => e = .returned (.tuple #[.string (mk wkT2), .int .i64 0]) ∧ Below W.heap.size W w') := fun W v h hW => by
    have := print_any wkR v W h wk_ok (by decide) (Cm.tab_below HT.out hW) (Nu.tab_grw HN.out hW)
    rw [wk_print, wkR_check] at this
    exact this
  have HLk : Hid (∀ (W : World) v, FesAt All W v wkR → Calls Tryz.prog 16 #[v, .string ⟨#[57, 57, 50, 49, 51]⟩, .string ⟨#[]⟩, .int .i64 0, .int .i64 20240531] W fun e w' => e = .returned (.tuple #[.int .i64 7550, .bool true]) ∧ Below W.heap.size W w') := fun W v h => by
    have := look_any wkR ⟨[57, 57, 50, 49, 51], [], 0, 20240531⟩ v W h (by decide) (check_facts wkR_check).2.2
    rw [wk_look.1, wk_look.2] at this
    exact this
  have HAl : Hid (∀ (W : World) v, FesAt All W v wkR → Calls Tryz.prog 18 #[v, .agg #[.string ⟨#[57, 57, 50, 49, 51]⟩, .slice none 0 0, .int .i64 20240701, .int .i64 2, .int .i64 10000, .int .i64 0], .int .i64 0] W fun e w' => e = .returned (.tuple #[.int .i64 10000, .bool true]) ∧ Below W.heap.size W w') := fun W v h => by
    have := allowed_any wkR v wkX (.slice none 0 0) 0 W h (by decide) (check_facts wkR_check).2.2 (TxAt.nil _ _) (by decide) (by decide)
    rw [wk_allow.1, wk_allow.2] at this
    exact this
  have HCk : Hid (∀ W, Below w.heap.size w W → Calls Tryz.prog 11 #[.slice none 0 0] W fun e w' => e = .returned (.int .i64 0) ∧ Below W.heap.size W w') := fun W hW => by
    have := check_any [] (.slice none 0 0) W (FesAt.nil _ _) (by simp) (by simp) (Cm.tab_below HT.out hW)
    rw [wk_nil] at this
    exact this
  have hT2 : (mk wkT2).toList = wkT2 := mk_list' wkT2
  have HB0 := Lib.hid (Below.refl w.heap.size w)
  clear hT hN
  go_enter Tryz.func8, Tryz.ntmps8
  go_wp2_with fail
  go_at_call 13
  refine (HS1.out _ HB0.out).mono ?_
  rintro e w1 ⟨⟨a, c, rfl, hr⟩, hb1⟩
  have hb2 := below_alloc w1 (.cells #[.int .i64 0, .int .i64 0] 30)
  have HR2 := Lib.hid (hr.grw hb2)
  have HB2 := Lib.hid (below_trans hb1 hb2)
  have HF2 := Lib.hid (heap_alloc_new w1 (.cells #[.int .i64 0, .int .i64 0] 30))
  clear hb1 hb2 hr
  go_upto_region 2 with fail
  generalize w1.alloc (.cells #[.int .i64 0, .int .i64 0] 30) = W2 at *
  generalize w1.heap.size = b1 at *
  go_wp2_with fail
  go_at_call 9
  refine (HPr.out W2 _ HR2.out HB2.out).mono ?_
  rintro e w3 ⟨rfl, hb3⟩
  have HR3 := Lib.hid (HR2.out.grw hb3)
  have HF3 := Lib.hid (keepB HF2.out hb3)
  have HB3 := Lib.hid (below_trans HB2.out hb3)
  clear hb3 HF2 HB2 HR2 HPr
  go_wp2_with fail
  go_at_call 16
  refine (HLk.out w3 _ HR3.out).mono ?_
  rintro e w4 ⟨rfl, hb4⟩
  have HR4 := Lib.hid (HR3.out.grw hb4)
  have HF4 := Lib.hid (keepB HF3.out hb4)
  have HB4 := Lib.hid (below_trans HB3.out hb4)
  clear hb4 HF3 HB3 HR3 HLk
  go_wp2_with fail
  go_at_call 18
  refine (HAl.out w4 _ HR4.out).mono ?_
  rintro e w5 ⟨rfl, hb5⟩
  have HF5 := Lib.hid (keepB HF4.out hb5)
  have HB5 := Lib.hid (below_trans HB4.out hb5)
  clear hb5 HF4 HB4 HR4 HAl
  go_wp2_with fail
  go_at_call 13
  refine (HS3.out w5 HB5.out).mono ?_
  rintro e w6 ⟨rfl, hb6⟩
  have hb7 := below_alloc w6 (.cells #[.int .i64 4, .int .i64 5] 30)
  have HF7 := Lib.hid (keepB HF5.out (below_trans hb6 hb7))
  have HG7 := Lib.hid (heap_alloc_new w6 (.cells #[.int .i64 4, .int .i64 5] 30))
  have HB7 := Lib.hid (below_trans HB5.out (below_trans hb6 hb7))
  clear hb6 hb7 HF5 HB5 HS3 HS1
  go_upto_region 6 with fail
  generalize w6.alloc (.cells #[.int .i64 4, .int .i64 5] 30) = W7 at *
  generalize w6.heap.size = b6 at *
  obtain ⟨z0, z1, -, -⟩ := box_two HF7.out
  obtain ⟨y0, y1, -, -⟩ := box_two HG7.out
  have hLit : (mk wkT2).toList = [102, 101, 101, 32, 57, 57, 50, 49, 51, 32, 110, 111, 110, 101, 32, 105, 110, 32, 50, 48, 50, 52, 48, 49, 48, 49, 32, 55, 53, 46, 53, 48, 32, 102, 101, 101, 32, 57, 57, 50, 49, 51, 32, 110, 111, 110, 101, 32, 105, 110, 32, 50, 48, 50, 52, 48, 54, 48, 49, 32, 56, 48, 46, 48, 48] := mk_list' wkT2
  have HCk7 := Lib.hid (HCk.out W7 HB7.out)
  clear HCk
  go_wp2_with (go_at_call 11; refine HCk7.out.mono ?_; rintro e w8 ⟨rfl, hb8⟩; have HB8 := Lib.hid (below_trans HB7.out hb8); clear hb8)
  go_ret
  exact ⟨rfl, HB8.out⟩
def LtV (l : List Fee) (e : Ending) : Prop := ∃ b : Bool, e = .returned (.bool b) ∧ (b = true → l.length ≤ 600)
set_option maxHeartbeats 4000000 in
theorem light_any (l : List Fee) (v : Value) (w : World) (h : FesAt All w v l) (hok : ∀ f ∈ l, FeOk f) (hl : l.length ≤ 281474976710656) : Calls Tryz.prog 7 #[v] w fun e w' => LtV l e ∧ w' = w := by
  have HF := Lib.hid h
  have HOK := Lib.hid hok
  obtain ⟨fa, fk, rfl, hm1, hm2⟩ := h.form
  clear h hok
  by_cases hbig : 600 < l.length
  · have hz : (600 : Int) < (l.length : Int) := by omega
    go_enter Tryz.func7, Tryz.ntmps7
    go_wp2
    go_ret
    exact ⟨⟨false, rfl, fun h => by cases h⟩, rfl⟩
  have hz : ¬ (600 : Int) < (l.length : Int) := by omega
  go_enter Tryz.func7, Tryz.ntmps7
  go_wp2
  go_loopg [3] (l.length) (fun g i wr => ∃ n : Nat, n ≤ l.length ∧ g = l.length - n ∧ i = .int .i64 (n : Nat) ∧ wr = w)
  case atStart => exact ⟨0, Nat.zero_le _, rfl, rfl, rfl⟩
  case round =>
    obtain ⟨n, hn, hgk, rfl, hwr⟩ := hrel
    subst hwr
    by_cases hlt : n < l.length
    · obtain ⟨b, oo, rfl, hbs, -, hcc⟩ := FesAt.get HF.out n hlt
      have HO := HOK.out l[n] (List.getElem_mem hlt)
      generalize l[n] = x at *
      obtain ⟨c0, c1, c2, c3, c4⟩ := hcc
      obtain ⟨⟨o1, o2⟩, -⟩ := HO
      have s1 := mk_size x.proc
      have s2 := mk_size x.mod
      by_cases h1 : 50 < x.proc.length
      · have h1z : (50 : Int) < (x.proc.length : Int) := by omega
        go_wp2
        go_ret
        exact ⟨⟨false, rfl, fun h => by cases h⟩, rfl⟩
      · have h1z : ¬ (50 : Int) < (x.proc.length : Int) := by omega
        by_cases h2 : 50 < x.mod.length
        · have h2z : (50 : Int) < (x.mod.length : Int) := by omega
          go_wp2
          go_ret
          exact ⟨⟨false, rfl, fun h => by cases h⟩, rfl⟩
        · have h2z : ¬ (50 : Int) < (x.mod.length : Int) := by omega
          go_wp2
          go_roundg (l.length - (n + 1))
          case measure => omega
          case rel => exact ⟨n + 1, by omega, rfl, by first | rfl | go_num | (congr 1; omega), rfl⟩
    · have hltz : ¬ (n : Int) < (l.length : Int) := by omega
      go_wp2
      go_ret
      exact ⟨⟨true, rfl, fun _ => by omega⟩, rfl⟩
end Go.Proofs.YtmoldgmfhcmceaaGreatDoor.Fe
end

/-
  What the reference's number answers, as a contract: of a text of at most 18 letters.
-/
section
namespace Go.Proofs.YtmoldgmfhcmceaaGreatDoor.Nu
open Go.RowKit

def rnum (l : List UInt8) : Int := if (!l.isEmpty && allD l) = true then (numL l : Int) else -1
theorem rnum_some (l : List UInt8) (h1 : l ≠ []) (h2 : allD l = true) : rnum l = numL l := by
  unfold rnum
  cases l with
  | nil => exact absurd rfl h1
  | cons a t => simp [h2]
theorem rnum_none (l : List UInt8) (h : l = [] ∨ allD l = false) : rnum l = -1 := by
  unfold rnum
  rcases h with h | h <;> simp [h]

set_option maxHeartbeats 1000000 in
theorem rnumber_any (s : ByteArray) (w : World) (hs : s.size ≤ 18) :
    Calls Tryz.prog 87 #[.string s] w fun e w' => e = .returned (.int .i64 (rnum s.data.toList)) ∧ w' = w := by
  have el : s.data.toList.length = s.size := (Lib.size_eq s).symm
  have HT := Lib.hid (Lib.toList_data s)
  have HL := Lib.hid el
  clear el
  by_cases h0 : s.toList = []
  · have H1 := Lib.hid (rnum_none s.data.toList (Or.inl (by rw [← HT.out]; exact h0)))
    go_enter Tryz.func87, Tryz.ntmps87
    go_wp2
    go_ret
    exact ⟨by rw [H1.out]; rfl, rfl⟩
  · have hie : s.toList.isEmpty = false := by cases e : s.toList with
      | nil => exact absurd e h0
      | cons a t => rfl
    have HN := Lib.hid (show s.data.toList ≠ [] by rw [← HT.out]; exact h0)
    go_enter Tryz.func87, Tryz.ntmps87
    go_wp2
    go_loop [3, 4] (fun n i => ∃ k : Nat, k ≤ s.size ∧ i = .int .i64 k ∧ n = .int .i64 (numL (s.data.toList.take k)) ∧ allD (s.data.toList.take k) = true) (fun _ i => s.size - (intOf i).toNat)
    case atStart => exact ⟨0, Nat.zero_le _, rfl, rfl, rfl⟩
    case round =>
      obtain ⟨k, hk, rfl, rfl, ha⟩ := hrel
      have HA := Lib.hid ha
      clear ha
      by_cases hlt : k < s.size
      · have HS : Hid (numL (s.data.toList.take (k + 1)) = numL (s.data.toList.take k) * 10 + (s[k].toNat - 48)) := by
          show numL (s.data.toList.take (k + 1)) = _
          rw [take_snoc s k hlt, numL_snoc]
        have HD : Hid (allD (s.data.toList.take (k + 1)) = isD s[k]) := by
          show allD (s.data.toList.take (k + 1)) = isD s[k]
          rw [take_snoc s k hlt, allD_snoc, HA.out]; simp
        have hb : numL (s.data.toList.take k) < 100000000000000000 := by
          have h1 := numL_lt (s.data.toList.take k) HA.out
          have h2 : (s.data.toList.take k).length ≤ 17 := by simp; omega
          have h3 : 10 ^ (s.data.toList.take k).length ≤ 10 ^ 17 := Nat.pow_le_pow_right (by omega) h2
          have h4 : (10 : Nat) ^ 17 = 100000000000000000 := rfl
          omega
        by_cases h1 : (s[k].toNat : Int) < 48
        · have HF : Hid (rnum s.data.toList = -1) := by
            refine rnum_none _ (Or.inr ?_)
            cases e : allD s.data.toList
            · rfl
            · have := (isD_iff _).1 (isD_mem s k hlt e); omega
          go_wp2
          go_ret
          exact ⟨by rw [HF.out]; rfl, rfl⟩
        · by_cases h2 : 57 < (s[k].toNat : Int)
          · have HF : Hid (rnum s.data.toList = -1) := by
              refine rnum_none _ (Or.inr ?_)
              cases e : allD s.data.toList
              · rfl
              · have := (isD_iff _).1 (isD_mem s k hlt e); omega
            go_wp2
            go_ret
            exact ⟨by rw [HF.out]; rfl, rfl⟩
          · go_wp2
            go_round
            case rel => exact ⟨k + 1, by omega, by go_num, by rw [HS.out]; go_num, by rw [HD.out, isD_iff]; omega⟩
            case measure => simp [intOf]; omega
      · have HF : Hid (rnum s.data.toList = numL (s.data.toList.take k)) := by
          show rnum s.data.toList = _
          rw [take_all s k (by omega)]
          exact rnum_some _ HN.out (by rw [← take_all s k (by omega)]; exact HA.out)
        go_wp2
        go_ret
        exact ⟨by rw [HF.out]; rfl, rfl⟩
end Go.Proofs.YtmoldgmfhcmceaaGreatDoor.Nu
end

/-
  What the reference's ReadInt answers, as a contract: of every text and every int.
-/
section
namespace Go.Proofs.YtmoldgmfhcmceaaGreatDoor.Nu
open Go.RowKit Go.Sort Go.Lib

theorem canon_num (l : List UInt8) : (decDigits (numL l) == l) = canon l := by
  rw [Bool.eq_iff_iff, beq_iff_eq]
  exact canon_iff l
theorem itoa_num (l : List UInt8) : Lib.itoa (numL l : Int) = decDigits (numL l) := Lib.itoa_nonneg _

set_option maxHeartbeats 1000000 in
theorem rreadInt_any (s : ByteArray) (most : Int) (w : World) :
    Calls Tryz.prog 67 #[.string s, .int .i64 most] w fun e w' => e = .returned (.tuple #[.int .i64 (riV s.data.toList most), .int .i64 (riE s.data.toList most)]) ∧ Grw w w' := by
  have el : s.data.toList.length = s.size := (Lib.size_eq s).symm
  have HT := Lib.hid (Lib.toList_data s)
  have hw : Grw w w := grw_refl w
  by_cases hlen : (s.size : Int) ≤ most ∧ s.size ≤ 18
  · have HR := Lib.hid (ri_short s.data.toList most (by rw [el]; exact hlen))
    obtain ⟨hl1, hl2⟩ := hlen
    have d1 : decide (18 < (s.size : Int)) = false := by rw [decide_eq_false_iff_not]; omega
    have d2 : decide (most < (s.size : Int)) = false := by rw [decide_eq_false_iff_not]; omega
    by_cases hok : s.data.toList = [] ∨ allD s.data.toList = false
    · have hv := rnum_none _ hok
      obtain ⟨e1, e2⟩ := ri_none s.data.toList most (by
        rcases hok with h | h
        · rw [h]; exact ri_nil _
        · exact ri_notD _ _ h)
      have H1 := Lib.hid e1
      have H2 := Lib.hid e2
      clear e1 e2 hok el
      go_enter Tryz.func67, Tryz.ntmps67
      go_wp2_with (first | (go_at_call 87; refine (rnumber_any s _ hl2).mono ?_; rintro e w' ⟨rfl, rfl⟩))
      go_ret2
      exact ⟨by rw [H1.out, H2.out]; rfl, hw⟩
    · have hne : s.data.toList ≠ [] := fun e => hok (Or.inl e)
      have ha : allD s.data.toList = true := by
        cases e : allD s.data.toList
        · exact absurd (Or.inr e) hok
        · rfl
      have hv := rnum_some _ hne ha
      have hb : numL s.data.toList < 1000000000000000000 := by
        have h1 := numL_lt _ ha
        have h2 : 10 ^ s.data.toList.length ≤ 10 ^ 18 := Nat.pow_le_pow_right (by omega) (by omega)
        have h3 : (10 : Nat) ^ 18 = 1000000000000000000 := rfl
        omega
      have HC := Lib.hid (canon_num s.data.toList)
      have HL := Lib.hid (itoa_num s.data.toList)
      have dn : decide ((numL s.data.toList : Int) < 0) = false := by rw [decide_eq_false_iff_not]; omega
      clear hok el hne ha
      cases hc : canon s.data.toList
      · obtain ⟨e1, e2⟩ := ri_none s.data.toList most (by rw [HR.out]; exact hc)
        have H1 := Lib.hid e1
        have H2 := Lib.hid e2
        have hq : (Lib.itoa (numL s.data.toList : Int) == s.toList) = false := by rw [HL.out, HT.out, HC.out]; exact hc
        clear e1 e2 hc
        go_enter Tryz.func67, Tryz.ntmps67
        go_wp2_with (first | (go_at_call 87; refine (rnumber_any s _ hl2).mono ?_; rintro e w' ⟨rfl, rfl⟩) | (go_at_call 26; refine (rint_any _ (by omega) (by omega) _).mono ?_; rintro e w1 ⟨rfl, g1⟩; replace hw := grw_trans hw g1; clear g1))
        go_ret2
        exact ⟨by rw [H1.out, H2.out]; rfl, hw⟩
      · obtain ⟨e1, e2⟩ := ri_some s.data.toList most (by rw [HR.out]; exact hc)
        have H1 := Lib.hid e1
        have H2 := Lib.hid e2
        have hq : (Lib.itoa (numL s.data.toList : Int) == s.toList) = true := by rw [HL.out, HT.out, HC.out]; exact hc
        clear e1 e2 hc
        go_enter Tryz.func67, Tryz.ntmps67
        go_wp2_with (first | (go_at_call 87; refine (rnumber_any s _ hl2).mono ?_; rintro e w' ⟨rfl, rfl⟩) | (go_at_call 26; refine (rint_any _ (by omega) (by omega) _).mono ?_; rintro e w1 ⟨rfl, g1⟩; replace hw := grw_trans hw g1; clear g1))
        go_ret2
        exact ⟨by rw [H1.out, H2.out]; rfl, hw⟩
  · obtain ⟨e1, e2⟩ := ri_none _ _ (ri_long s.data.toList most (by rw [el]; exact hlen))
    have H1 := Lib.hid e1
    have H2 := Lib.hid e2
    clear e1 e2 el
    by_cases h18 : 18 < (s.size : Int)
    · clear hlen
      go_enter Tryz.func67, Tryz.ntmps67
      go_wp2
      go_ret2
      exact ⟨by rw [H1.out, H2.out]; rfl, hw⟩
    · have hm : most < (s.size : Int) := by omega
      clear hlen
      go_enter Tryz.func67, Tryz.ntmps67
      go_wp2
      go_ret2
      exact ⟨by rw [H1.out, H2.out]; rfl, hw⟩
end Go.Proofs.YtmoldgmfhcmceaaGreatDoor.Nu
end
