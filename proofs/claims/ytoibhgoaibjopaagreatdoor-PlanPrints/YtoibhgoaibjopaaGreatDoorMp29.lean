/-
  Texts put together (merge.py): PWk0, PWorks, NRefMon.
-/
import Derived.Test.YtoibhgoaibjopaaGreatDoorMp24
import Derived.Test.YtoibhgoaibjopaaGreatDoorMp28
import Derived.Test.YtoibhgoaibjopaaGreatDoorMp20
/-
  The texts of works, as plans and faults.
-/
section
set_option maxRecDepth 100000
namespace Go.Proofs.YtoibhgoaibjopaaGreatDoor.Pl
def wkT1 : Tx := [112, 108, 97, 110, 32, 101, 109, 98, 101, 100, 100, 101, 100, 32, 109, 101, 109, 98, 101, 114, 32, 53, 48, 48, 32, 50, 48, 48, 48, 32, 102, 97, 109, 105, 108, 121, 32, 49, 48, 48, 48, 32, 52, 48, 48, 48, 32, 114, 117, 108, 101, 32, 53, 32, 105, 102, 32, 40, 32, 112, 114, 111, 99, 32, 57, 57, 50, 48, 48, 32, 57, 57, 51, 48, 48, 32, 97, 110, 100, 32, 110, 111, 116, 32, 109, 111, 100, 32, 53, 57, 32, 41, 32, 117, 110, 108, 101, 115, 115, 32, 111, 117, 116, 32, 115, 101, 116, 32, 99, 111, 118, 101, 114, 32, 121, 101, 115, 32, 99, 111, 105, 110, 115, 32, 50, 48, 48, 48, 32, 101, 110, 100]
def wkT2 : Tx := [112, 108, 97, 110, 32, 101, 109, 98, 101, 100, 100, 101, 100, 32, 109, 101, 109, 98, 101, 114, 32, 53, 48, 48, 46, 48, 48, 32, 50, 48, 48, 48, 46, 48, 48, 32, 102, 97, 109, 105, 108, 121, 32, 49, 48, 48, 48, 46, 48, 48, 32, 52, 48, 48, 48, 46, 48, 48, 32, 114, 117, 108, 101, 32, 53, 32, 105, 102, 32, 40, 32, 112, 114, 111, 99, 32, 57, 57, 50, 48, 48, 32, 57, 57, 51, 48, 48, 32, 97, 110, 100, 32, 110, 111, 116, 32, 109, 111, 100, 32, 53, 57, 32, 41, 32, 117, 110, 108, 101, 115, 115, 32, 111, 117, 116, 32, 115, 101, 116, 32, 99, 111, 118, 101, 114, 32, 121, 101, 115, 32, 99, 111, 105, 110, 115, 32, 50, 48, 48, 48, 32, 101, 110, 100]
def wkT3 : Tx := [112, 108, 97, 110, 32, 101, 109, 98, 101, 100, 100, 101, 100, 32, 120]
def wkP : Pn := ⟨0, 50000, 100000, 200000, 400000, [⟨5, .mk 7 [] [] 0 [.mk 1 [57, 57, 50, 48, 48] [57, 57, 51, 48, 48] 0 [], .mk 6 [] [] 0 [.mk 2 [53, 57] [] 0 []]], [.mk 5 [] [] 0 []], [⟨1, 1⟩, ⟨4, 2000⟩]⟩]⟩
theorem wk_parse : paR wkT1 = .ok wkP := by kernel_rfl
theorem wk_print : prV wkP = wkT2 := by kernel_rfl
theorem wk_ok : prE wkP = 0 := by kernel_rfl
theorem wk_fault : paR wkT3 = .error (4, 14) := by kernel_rfl
theorem wk_size : szW (planW wkP) ≤ 65536 := by decide +kernel
end Go.Proofs.YtoibhgoaibjopaaGreatDoor.Pl
end

/-
  What layer 10's works answers: true.
-/
section
set_option linter.unusedSimpArgs false
set_option linter.unusedVariables false
set_option maxRecDepth 100000
namespace Go.Proofs.YtoibhgoaibjopaaGreatDoor.Pl
open Go.RowKit
open Wo (Wd WdsAt box_cell box_two keepB heap_far)

theorem eq_self (x : Tx) : ((mk x).toList == (mk x).toList) = true := by simp
set_option maxHeartbeats 16000000 in
theorem works_any (w : World) (hT : Nu.Tab w) : Calls Tryz.prog 6 #[] w fun e w' => e = .returned (.bool true) ∧ Below w.heap.size w w' := by
  have HS1 : Hid (∀ W, Calls Tryz.prog 10 #[.string (mk wkT1)] W fun e w' => (∃ (a : Option Addr) (n c : Nat), e = .returned (.tuple #[pnv wkP (.slice a n c), .agg #[.int .i64 0, .int .i64 0]]) ∧ RusAt All w' (.slice a n c) wkP.rules) ∧ Below W.heap.size W w') := fun W => by
    refine (parse_any (mk wkT1) W (by rw [mk_size]; decide +kernel)).mono ?_
    rintro e w' ⟨h1, h2⟩
    rw [mk_list, wk_parse] at h1
    obtain ⟨a, n, c, rfl, h3, -⟩ := h1
    exact ⟨⟨a, n, c, rfl, h3.move (moves_weak _ fun _ _ _ => trivial)⟩, h2⟩
  have HS3 : Hid (∀ W, Calls Tryz.prog 10 #[.string (mk wkT3)] W fun e w' => e = .returned (.tuple #[pnv pn0 (.slice none 0 0), .agg #[.int .i64 4, .int .i64 14]]) ∧ Below W.heap.size W w') := fun W => by
    refine (parse_any (mk wkT3) W (by rw [mk_size]; decide +kernel)).mono ?_
    rintro e w' ⟨h1, h2⟩
    rw [mk_list, wk_fault] at h1
    exact ⟨h1, h2⟩
  have HPr := Lib.hid fun (W : World) m (h : RusAt All W m wkP.rules) (hW : Below w.heap.size w W) => print_any wkP m W h (Nu.tab_grw hT hW) (fun _ => wk_size)
  rw [wk_print, wk_ok] at HPr
  have HCk : Hid (∀ W, Calls Tryz.prog 13 #[.agg #[.int .i64 2, .int .i64 0, .int .i64 0, .int .i64 0, .int .i64 0, .slice none 0 0]] W fun e w' => e = .returned (.int .i64 15) ∧ Below W.heap.size W w') := fun W => check_any ⟨2, 0, 0, 0, 0, []⟩ (.slice none 0 0) W (RusAt.nil _ _)
  have hT2 : (mk wkT2).toList = wkT2 := by rw [Lib.toList_data, mk_list]
  go_enter Tryz.func6, Tryz.ntmps6
  go_wp2_with fail
  go_at_call 10
  refine (HS1.out _).mono ?_
  rintro e w1 ⟨⟨a, n, c, rfl, hr⟩, hb1⟩
  obtain ⟨a', c', ea, -, -, -⟩ := hr.form
  obtain ⟨rfl, rfl, rfl⟩ : a = a' ∧ n = 1 ∧ c = c' := by injection ea with e1 e2 e3; exact ⟨e1, e2, e3⟩
  have hb2 := below_trans (below_alloc w1 (.cells #[.int .i64 wkP.mode, .int .i64 wkP.indDed, .int .i64 wkP.famDed, .int .i64 wkP.indOop, .int .i64 wkP.famOop, .slice a 1 c] 24)) (below_alloc _ (.cells #[.int .i64 0, .int .i64 0] 38))
  have HR2 := Lib.hid (hr.grw hb2)
  have HB2 := Lib.hid (below_trans hb1 hb2)
  have HP2 := Lib.hid (keepB (heap_alloc_new w1 (.cells #[.int .i64 wkP.mode, .int .i64 wkP.indDed, .int .i64 wkP.famDed, .int .i64 wkP.indOop, .int .i64 wkP.famOop, .slice a 1 c] 24)) (below_alloc _ (.cells #[.int .i64 0, .int .i64 0] 38)))
  have h2 := heap_alloc_new (w1.alloc (.cells #[.int .i64 wkP.mode, .int .i64 wkP.indDed, .int .i64 wkP.famDed, .int .i64 wkP.indOop, .int .i64 wkP.famOop, .slice a 1 c] 24)) (.cells #[.int .i64 0, .int .i64 0] 38)
  rw [show (w1.alloc (.cells #[.int .i64 wkP.mode, .int .i64 wkP.indDed, .int .i64 wkP.famDed, .int .i64 wkP.indOop, .int .i64 wkP.famOop, .slice a 1 c] 24)).heap.size = w1.heap.size + 1 by simp] at h2
  have HF2 := Lib.hid h2
  clear hb1 hb2 h2 hr ea
  go_upto_region 2 with fail
  generalize (w1.alloc (.cells #[.int .i64 wkP.mode, .int .i64 wkP.indDed, .int .i64 wkP.famDed, .int .i64 wkP.indOop, .int .i64 wkP.famOop, .slice a 1 c] 24)).alloc (.cells #[.int .i64 0, .int .i64 0] 38) = W2 at *
  generalize w1.heap.size = b1 at *
  obtain ⟨p0, p1, p2, p3, p4, p5⟩ := bsix HP2.out
  go_wp2_with fail
  go_at_call 7
  refine (HPr.out W2 _ HR2.out HB2.out).mono ?_
  rintro e w3 ⟨rfl, hb3⟩
  have HP3 := Lib.hid (keepB HP2.out hb3)
  have HF3 := Lib.hid (keepB HF2.out hb3)
  have HB3 := Lib.hid (below_trans HB2.out hb3)
  clear hb3 HP2 HF2 HB2 HR2 HPr p0 p1 p2 p3 p4 p5
  go_wp2_with fail
  go_at_call 10
  refine (HS3.out _).mono ?_
  rintro e w4 ⟨rfl, hb4⟩
  have hb5 := below_trans (below_alloc w4 (.cells #[.int .i64 pn0.mode, .int .i64 pn0.indDed, .int .i64 pn0.famDed, .int .i64 pn0.indOop, .int .i64 pn0.famOop, .slice none 0 0] 24)) (below_alloc _ (.cells #[.int .i64 4, .int .i64 14] 38))
  have HP5 := Lib.hid (keepB (keepB HP3.out hb4) hb5)
  have HF5 := Lib.hid (keepB (keepB HF3.out hb4) hb5)
  have HB5 := Lib.hid (below_trans HB3.out (below_trans hb4 hb5))
  have h2 := heap_alloc_new (w4.alloc (.cells #[.int .i64 pn0.mode, .int .i64 pn0.indDed, .int .i64 pn0.famDed, .int .i64 pn0.indOop, .int .i64 pn0.famOop, .slice none 0 0] 24)) (.cells #[.int .i64 4, .int .i64 14] 38)
  rw [show (w4.alloc (.cells #[.int .i64 pn0.mode, .int .i64 pn0.indDed, .int .i64 pn0.famDed, .int .i64 pn0.indOop, .int .i64 pn0.famOop, .slice none 0 0] 24)).heap.size = w4.heap.size + 1 by simp] at h2
  have HG5 := Lib.hid h2
  clear hb4 hb5 h2 HP3 HF3 HB3 HS1 HS3
  go_upto_region 4 with fail
  generalize (w4.alloc (.cells #[.int .i64 pn0.mode, .int .i64 pn0.indDed, .int .i64 pn0.famDed, .int .i64 pn0.indOop, .int .i64 pn0.famOop, .slice none 0 0] 24)).alloc (.cells #[.int .i64 4, .int .i64 14] 38) = W5 at *
  generalize w4.heap.size = b4 at *
  obtain ⟨p0, p1, p2, p3, p4, p5⟩ := bsix HP5.out
  obtain ⟨f0, f1, -, -⟩ := box_two HF5.out
  obtain ⟨g0, g1, -, -⟩ := box_two HG5.out
  have HE2 : Hid ((mk wkT2).toList = wkT2) := hT2
  clear hT2
  go_wp2_with (first | (go_at_call 13; refine (HCk.out _).mono ?_; rintro e w6 ⟨rfl, hb6⟩; have HB6 := Lib.hid hb6; clear hb6))
  go_ret
  exact ⟨rfl, below_trans HB5.out HB6.out⟩
end Go.Proofs.YtoibhgoaibjopaaGreatDoor.Pl
end

/-
  What the reference's Money answers, as a contract: for every int64.
-/
section
namespace Go.Proofs.YtoibhgoaibjopaaGreatDoor.Nu
open Go.RowKit Go.Sort Go.Lib

theorem dec_hundred (u : Nat) (h : 100 ≤ u) : decDigits u = decDigits (u / 100) ++ two u := by
  rw [dec_big u (by omega), dec_big (u / 10) (by omega), List.append_assoc, show u / 10 / 10 = u / 100 by omega]
  rfl
theorem pad_end (u j : Nat) (P : List UInt8) (hP : P = List.replicate j 48 ++ decDigits u) (hj : j = 0 ∨ j + (decDigits u).length ≤ 3) (hl : 3 ≤ P.length) : P.take (P.length - 2) = decDigits (u / 100) ∧ P.drop (P.length - 2) = two u := by
  by_cases h : 100 ≤ u
  · have e := dec_hundred u h
    have hp : 1 ≤ (decDigits (u / 100)).length := by rw [Lib.decDigits_length]; exact Lib.nDigits_pos _
    have h2 : (two u).length = 2 := rfl
    have hj0 : j = 0 := by rcases hj with h | h; exact h; rw [e, List.length_append] at h; omega
    subst hj0
    rw [List.replicate_zero, List.nil_append, e] at hP
    subst hP
    rw [List.length_append, h2, Nat.add_sub_cancel]
    exact ⟨List.take_left .., List.drop_left ..⟩
  · have e0 : decDigits (u / 100) = [48] := by rw [show u / 100 = 0 by omega]; exact dec_small 0 (by omega)
    rw [e0]
    by_cases h1 : u < 10
    · obtain ⟨c, ec, et⟩ := cents_one u (by omega)
      rw [show u % 100 = u by omega] at ec
      rw [ec] at hP hj
      have : j = 2 := by rw [hP] at hl; simp at hl hj; omega
      subst this
      subst hP
      rw [et]
      exact ⟨rfl, rfl⟩
    · obtain ⟨c, d, ec, et⟩ := cents_two u (by omega)
      rw [show u % 100 = u by omega] at ec
      rw [ec] at hP hj
      have : j = 1 := by rw [hP] at hl; simp at hl hj; omega
      subst this
      subst hP
      rw [et]
      exact ⟨rfl, rfl⟩
theorem str_ext {a : ByteArray} {l : List UInt8} (h : a.data.toList = l) : a = ⟨l.toArray⟩ := by subst h; exact (Lib.mk_data a).symm
theorem rint_str (n : Int) (h0 : -9223372036854775808 ≤ n) (h1 : n ≤ 9223372036854775807) (w : World) (S : ByteArray) (hS : S = ⟨(Lib.itoa n).toArray⟩) :
    Calls Tryz.prog 60 #[.int .i64 n] w fun e w' => e = .returned (.string S) ∧ Grw w w' := by
  subst hS; exact rint_any n h0 h1 w

/-- What the padding keeps. -/
def Pad (u : Nat) (T : ByteArray) : Prop := ∃ j, T.data.toList = List.replicate j 48 ++ decDigits u ∧ (j = 0 ∨ j + (decDigits u).length ≤ 3)
theorem pad_size (u : Nat) (T : ByteArray) (h : Pad u T) (hu : u < 18446744073709551616) : T.size ≤ 20 := by
  obtain ⟨j, e, hj⟩ := h
  have hl := dec_len u 20 (by omega) (by omega)
  rw [Lib.size_eq, e, List.length_append, List.length_replicate]
  omega
theorem pad_more (u : Nat) (T : ByteArray) (h : Pad u T) (hs : T.size < 3) : Pad u ((⟨#[48]⟩ : ByteArray) ++ T) := by
  obtain ⟨j, e, hj⟩ := h
  have hs' := Lib.size_eq T
  rw [e, List.length_append, List.length_replicate] at hs'
  refine ⟨j + 1, ?_, Or.inr (by omega)⟩
  rw [app_data, e, List.replicate_succ]
  rfl
theorem pad_out (u m : Nat) (T : ByteArray) (h : Pad u T) (hs : T.size = m + 2) (hm : 1 ≤ m) : (T.extract 0 m).data.toList = decDigits (u / 100) ∧ (T.extract m (m + 2)).data.toList = two u := by
  obtain ⟨j, e, hj⟩ := h
  have hl := Lib.size_eq T
  obtain ⟨p1, p2⟩ := pad_end u j _ e hj (by omega)
  rw [show T.data.toList.length - 2 = m by omega] at p1 p2
  rw [Lib.extract_data, Lib.extract_data]
  constructor
  · simpa using p1
  · rw [← p2]; exact List.take_of_length_le (by rw [List.length_drop]; omega)

set_option maxHeartbeats 2000000 in
theorem rmoney_any (a : Int) (h0 : -9223372036854775808 ≤ a) (h1 : a ≤ 9223372036854775807) (w : World) :
    Calls Tryz.prog 35 #[.int .i64 a] w fun e w' => e = .returned (.string ⟨(moneyL a).toArray⟩) ∧ Grw w w' := by
  obtain ⟨S, hS⟩ : ∃ S : ByteArray, Hid (S = ⟨(Lib.itoa a).toArray⟩) := ⟨_, rfl⟩
  by_cases hn : a < 0
  · obtain ⟨u, rfl⟩ : ∃ u : Nat, a = -(u : Int) := ⟨a.natAbs, by omega⟩
    have hl : S.data.toList = 45 :: decDigits u := by rw [hS.out, Lib.itoa_neg u (by omega)]
    have hsz : S.size = (decDigits u).length + 1 := by rw [Lib.size_eq, hl]; rfl
    have hdl := dec_len u 20 (by omega) (by omega)
    have h1s : (1 : Int) ≤ S.size := by omega
    have HE : Hid (Pad u (S.extract 1 S.size)) := by
      refine ⟨0, ?_, Or.inl rfl⟩
      rw [Lib.extract_data, hl, List.take_of_length_le (by simp; omega)]
      rfl
    clear hl
    have HZ := Lib.hid hsz
    clear hsz
    go_enter Tryz.func35, Tryz.ntmps35
    go_wp2_with (first | (go_at_call 60; refine (rint_str _ h0 h1 _ S hS.out).mono ?_; rintro e w1 ⟨rfl, g1⟩))
    go_loopg [3] (3 - (S.extract 1 S.size).size) (fun g s3 wx => ∃ T : ByteArray, s3 = .string T ∧ g = 3 - T.size ∧ Hid (Pad u T) ∧ wx = w1)
    case atStart => exact ⟨_, rfl, rfl, HE, rfl⟩
    case round =>
      obtain ⟨T, rfl, rfl, HP, rfl⟩ := hrel
      have ht := pad_size u T HP.out (by omega)
      by_cases hlt : T.size < 3
      · have HM := Lib.hid (pad_more u T HP.out hlt)
        go_wp2
        go_roundg (2 - T.size)
        case measure => omega
        case rel => exact ⟨_, rfl, by rw [app_size]; show 2 - T.size = 3 - (1 + T.size); omega, HM, rfl⟩
      · obtain ⟨m, hm⟩ : ∃ m, T.size = m + 2 := ⟨T.size - 2, by omega⟩
        obtain ⟨p1, p2⟩ := pad_out u m T HP.out hm (by omega)
        have H : Hid ((⟨(moneyL (-(u : Int))).toArray⟩ : ByteArray) = ⟨#[45]⟩ ++ T.extract 0 m ++ ⟨#[46]⟩ ++ T.extract m (m + 2)) := by
          show _ = _
          rw [money_neg u (by omega) _ _ rfl rfl, str_ext p1, str_ext p2]
          apply ByteArray.ext; simp
        have hm1 : 1 ≤ m := by omega
        have hm2 : m ≤ 20 := by omega
        clear p1 p2 hlt ht
        go_wp2
        go_quiet (fail)
        go_wp2
        go_ret
        exact ⟨by rw [H.out]; first | rfl | simp, grw_trans g1 (grw_drewN _ _)⟩
  · obtain ⟨u, rfl⟩ : ∃ u : Nat, a = (u : Int) := ⟨a.natAbs, by omega⟩
    have hl : S.data.toList = decDigits u := by rw [hS.out, Lib.itoa_nonneg u]
    have HE : Hid (Pad u S) := by
      refine ⟨0, ?_, Or.inl rfl⟩
      rw [hl]
      rfl
    clear hl
    go_enter Tryz.func35, Tryz.ntmps35
    go_wp2_with (first | (go_at_call 60; refine (rint_str _ h0 h1 _ S hS.out).mono ?_; rintro e w1 ⟨rfl, g1⟩))
    go_loopg [3] (3 - S.size) (fun g s3 wx => ∃ T : ByteArray, s3 = .string T ∧ g = 3 - T.size ∧ Hid (Pad u T) ∧ wx = w1)
    case atStart => exact ⟨_, rfl, rfl, HE, rfl⟩
    case round =>
      obtain ⟨T, rfl, rfl, HP, rfl⟩ := hrel
      have ht := pad_size u T HP.out (by omega)
      by_cases hlt : T.size < 3
      · have HM := Lib.hid (pad_more u T HP.out hlt)
        go_wp2
        go_roundg (2 - T.size)
        case measure => omega
        case rel => exact ⟨_, rfl, by rw [app_size]; show 2 - T.size = 3 - (1 + T.size); omega, HM, rfl⟩
      · obtain ⟨m, hm⟩ : ∃ m, T.size = m + 2 := ⟨T.size - 2, by omega⟩
        obtain ⟨p1, p2⟩ := pad_out u m T HP.out hm (by omega)
        have H : Hid ((⟨(moneyL (u : Int)).toArray⟩ : ByteArray) = ⟨#[]⟩ ++ T.extract 0 m ++ ⟨#[46]⟩ ++ T.extract m (m + 2)) := by
          show _ = _
          rw [money_pos u _ _ rfl rfl, str_ext p1, str_ext p2]
          apply ByteArray.ext; simp
        have hm1 : 1 ≤ m := by omega
        have hm2 : m ≤ 20 := by omega
        clear p1 p2 hlt ht
        go_wp2
        go_quiet (fail)
        go_wp2
        go_ret
        exact ⟨by rw [H.out]; first | rfl | simp, grw_trans g1 (grw_drewN _ _)⟩
end Go.Proofs.YtoibhgoaibjopaaGreatDoor.Nu
end
