/-
  Texts put together (merge.py): XWorks.
-/
import Derived.Test.YtgloihilnbjmeaaDoorMc38
import Derived.Test.YtgloihilnbjmeaaDoorMc41
import Derived.Test.YtgloihilnbjmeaaDoorMc42
/-
  What layer 13's works answers: true. And what light tells.
-/
section
set_option linter.unusedSimpArgs false
set_option linter.unusedVariables false
set_option maxRecDepth 100000
namespace Go.Proofs.YtgloihilnbjmeaaDoor.Ex
open Go.RowKit
open Wo (Wd WdsAt box_cell box_two keepB heap_far below_alloc below_trans)
open Cm (Ln Cl LnsAt ClsAt LnCells lnv)

def wkT1 : Tx := [98, 117, 110, 100, 108, 101, 32, 56, 48, 48, 53, 48, 32, 57, 57, 50, 49, 51, 32, 121, 101, 115, 32, 117, 110, 105, 116, 115, 32, 74, 49, 49, 48, 48, 32, 51]
def wkT3 : Tx := [117, 110, 105, 116, 115, 32, 74, 49, 49, 48, 48]
def wkR : List Ed := [⟨1, [56, 48, 48, 53, 48], [57, 57, 50, 49, 51], true, 0⟩, ⟨3, [74, 49, 49, 48, 48], [], false, 3⟩]
def wkL : List Ln := [⟨[57, 57, 50, 49, 51], [], 1, 0, 0, 0⟩, ⟨[56, 48, 48, 53, 48], [], 1, 0, 0, 0⟩, ⟨[74, 49, 49, 48, 48], [], 0, 4, 0, 0⟩]
theorem wk_parse : paR wkT1 = .ok wkR := by kernel_rfl
theorem wk_fault : paR wkT3 = .error (4, 11) := by kernel_rfl
theorem wk_print : prV wkR = wkT1 := by kernel_rfl
theorem wkR_check : checkE wkR = 0 := by kernel_rfl
theorem wk_nil : checkE [] = 0 := by kernel_rfl
theorem wk_d0 : denyV wkR wkL 0 = 97 := by kernel_rfl
theorem wk_d1 : denyV wkR wkL 1 = 0 := by kernel_rfl
theorem wk_d2 : denyV wkR wkL 2 = 151 := by kernel_rfl
theorem wk_ok : ∀ f ∈ wkR, EdOk f := fun f hf => ok_of_one ((check_facts wkR_check).2 f hf)
theorem wk_lines {w : World} {g : Nat} (h : w.heap[g]? = some (.cells #[.string ⟨#[57, 57, 50, 49, 51]⟩, .slice none 0 0, .int .i64 1, .int .i64 0, .int .i64 0, .int .i64 0, .string ⟨#[56, 48, 48, 53, 48]⟩, .slice none 0 0, .int .i64 1, .int .i64 0, .int .i64 0, .int .i64 0, .string ⟨#[74, 49, 49, 48, 48]⟩, .slice none 0 0, .int .i64 0, .int .i64 4, .int .i64 0, .int .i64 0] 42 (0, 0))) : LnsAt All w (.slice (some ⟨g, 0, none⟩) 3 3) wkL := by
  refine ⟨_, 3, rfl, by decide, by simp [maxLen], Or.inr ⟨g, 0, rfl, trivial, (Array.getElem?_eq_some_iff.1 h).1, fun j x hj => ?_⟩⟩
  match j, hj with
  | 0, hj =>
    obtain rfl := Option.some.inj hj
    refine ⟨.slice none 0 0, ⟨?_, ?_, ?_, ?_, ?_, ?_⟩, TxAt.nil _ _⟩ <;> (rw [cell_of_row w g _ _ _ (0, 0) h]; rfl)
  | 1, hj =>
    obtain rfl := Option.some.inj hj
    refine ⟨.slice none 0 0, ⟨?_, ?_, ?_, ?_, ?_, ?_⟩, TxAt.nil _ _⟩ <;> (rw [cell_of_row w g _ _ _ (0, 0) h]; rfl)
  | 2, hj =>
    obtain rfl := Option.some.inj hj
    refine ⟨.slice none 0 0, ⟨?_, ?_, ?_, ?_, ?_, ?_⟩, TxAt.nil _ _⟩ <;> (rw [cell_of_row w g _ _ _ (0, 0) h]; rfl)
  | n + 3, hj => simp [wkL] at hj
set_option maxHeartbeats 16000000 in
theorem works_any (w : World) (hN : Nu.Tab w) : Calls Tryd.prog 10 #[] w fun e w' => e = .returned (.bool true) ∧ Below w.heap.size w w' := by
  have HS1 : Hid (∀ W : World, Calls Tryd.prog 15 #[.string (mk wkT1)] W fun e w' => (∃ (a : Option Addr) (c : Nat), e = .returned (.tuple #[.slice a 2 c, .agg #[.int .i64 0, .int .i64 0]]) ∧ EdsAt All w' (.slice a 2 c) wkR) ∧ Below W.heap.size W w') := fun W => by
    refine (parse_any (mk wkT1) W (by rw [mk_size]; decide +kernel)).mono ?_
    rintro e w' ⟨h1, h2⟩
    rw [mk_list, wk_parse] at h1
    exact ⟨h1, h2⟩
  have HS3 : Hid (∀ W : World, Calls Tryd.prog 15 #[.string (mk wkT3)] W fun e w' => (∃ (a : Option Addr) (c : Nat), e = .returned (.tuple #[.slice a 0 c, .agg #[.int .i64 4, .int .i64 11]])) ∧ Below W.heap.size W w') := fun W => by
    refine (parse_any (mk wkT3) W (by rw [mk_size]; decide +kernel)).mono ?_
    rintro e w' ⟨h1, h2⟩
    rw [mk_list, wk_fault] at h1
    obtain ⟨a, c, h3, -⟩ := h1
    exact ⟨⟨a, c, h3⟩, h2⟩
  have HPr : Hid (∀ (W : World) v, EdsAt All W v wkR → Below w.heap.size w W → Calls Tryd.prog 11 #[v] W fun e w' => e = .returned (.tuple #[.string (mk wkT1), .int .i64 0]) ∧ Below W.heap.size W w') := fun W v h hW => by
    have := print_any wkR v W h wk_ok (by decide) (Nu.tab_grw hN hW)
    rw [wk_print, wkR_check] at this
    exact this
  have HDn : Hid (∀ (W : World) u v (i : Int), EdsAt All W u wkR → LnsAt All W v wkL → Calls Tryd.prog 18 #[u, v, .int .i64 i] W fun e w' => e = .returned (.int .i64 (denyV wkR wkL i)) ∧ Below W.heap.size W w') := fun W u v i hu hv => deny_any wkR u wkL v i W hu hv (by decide) (by decide)
  have HD0 : Hid (∀ (W : World) u v, EdsAt All W u wkR → LnsAt All W v wkL → Calls Tryd.prog 18 #[u, v, .int .i64 0] W fun e w' => e = .returned (.int .i64 97) ∧ Below W.heap.size W w') := fun W u v hu hv => by have := HDn.out W u v 0 hu hv; rw [wk_d0] at this; exact this
  have HD1 : Hid (∀ (W : World) u v, EdsAt All W u wkR → LnsAt All W v wkL → Calls Tryd.prog 18 #[u, v, .int .i64 1] W fun e w' => e = .returned (.int .i64 0) ∧ Below W.heap.size W w') := fun W u v hu hv => by have := HDn.out W u v 1 hu hv; rw [wk_d1] at this; exact this
  have HD2 : Hid (∀ (W : World) u v, EdsAt All W u wkR → LnsAt All W v wkL → Calls Tryd.prog 18 #[u, v, .int .i64 2] W fun e w' => e = .returned (.int .i64 151) ∧ Below W.heap.size W w') := fun W u v hu hv => by have := HDn.out W u v 2 hu hv; rw [wk_d2] at this; exact this
  have HCk : Hid (∀ W : World, Calls Tryd.prog 13 #[.slice none 0 0] W fun e w' => e = .returned (.int .i64 0) ∧ Below W.heap.size W w') := fun W => by
    have := check_any [] (.slice none 0 0) W (EdsAt.nil _ _) (by simp) (by simp)
    rw [wk_nil] at this
    exact this
  have HB0 := Lib.hid (Below.refl w.heap.size w)
  have hLit : (mk wkT1).toList = [98, 117, 110, 100, 108, 101, 32, 56, 48, 48, 53, 48, 32, 57, 57, 50, 49, 51, 32, 121, 101, 115, 32, 117, 110, 105, 116, 115, 32, 74, 49, 49, 48, 48, 32, 51] := mk_list' wkT1
  clear hN HDn
  go_enter Tryd.func10, Tryd.ntmps10
  go_wp2_with fail
  go_at_call 15
  refine (HS1.out _).mono ?_
  rintro e w1 ⟨⟨a, c, rfl, hr⟩, hb1⟩
  have hb2 := below_alloc w1 (.cells #[.int .i64 0, .int .i64 0] 31)
  have HR2 := Lib.hid (hr.grw hb2)
  have HB2 := Lib.hid (below_trans hb1 hb2)
  have HF2 := Lib.hid (heap_alloc_new w1 (.cells #[.int .i64 0, .int .i64 0] 31))
  clear hb1 hb2 hr
  go_upto_region 2 with fail
  generalize w1.alloc (.cells #[.int .i64 0, .int .i64 0] 31) = W2 at *
  generalize w1.heap.size = b1 at *
  go_wp2_with fail
  go_at_call 11
  refine (HPr.out W2 _ HR2.out HB2.out).mono ?_
  rintro e w3 ⟨rfl, hb3⟩
  have hb4 := below_alloc w3 (.cells #[.string ⟨#[57, 57, 50, 49, 51]⟩, .slice none 0 0, .int .i64 1, .int .i64 0, .int .i64 0, .int .i64 0, .string ⟨#[56, 48, 48, 53, 48]⟩, .slice none 0 0, .int .i64 1, .int .i64 0, .int .i64 0, .int .i64 0, .string ⟨#[74, 49, 49, 48, 48]⟩, .slice none 0 0, .int .i64 0, .int .i64 4, .int .i64 0, .int .i64 0] 42)
  have HR4 := Lib.hid (HR2.out.grw (below_trans hb3 hb4))
  have HF4 := Lib.hid (keepB HF2.out (below_trans hb3 hb4))
  have HB4 := Lib.hid (below_trans HB2.out (below_trans hb3 hb4))
  have HL4 := Lib.hid (wk_lines (heap_alloc_new w3 (.cells #[.string ⟨#[57, 57, 50, 49, 51]⟩, .slice none 0 0, .int .i64 1, .int .i64 0, .int .i64 0, .int .i64 0, .string ⟨#[56, 48, 48, 53, 48]⟩, .slice none 0 0, .int .i64 1, .int .i64 0, .int .i64 0, .int .i64 0, .string ⟨#[74, 49, 49, 48, 48]⟩, .slice none 0 0, .int .i64 0, .int .i64 4, .int .i64 0, .int .i64 0] 42)))
  clear hb3 hb4 HF2 HB2 HR2 HPr
  go_upto_region 4 with fail
  generalize w3.alloc (.cells #[.string ⟨#[57, 57, 50, 49, 51]⟩, .slice none 0 0, .int .i64 1, .int .i64 0, .int .i64 0, .int .i64 0, .string ⟨#[56, 48, 48, 53, 48]⟩, .slice none 0 0, .int .i64 1, .int .i64 0, .int .i64 0, .int .i64 0, .string ⟨#[74, 49, 49, 48, 48]⟩, .slice none 0 0, .int .i64 0, .int .i64 4, .int .i64 0, .int .i64 0] 42) = W4 at *
  generalize w3.heap.size = b3 at *
  go_wp2_with fail
  go_at_call 15
  refine (HS3.out W4).mono ?_
  rintro e w6 ⟨⟨a6, c6, rfl⟩, hb6⟩
  have hb7 := below_alloc w6 (.cells #[.int .i64 4, .int .i64 11] 31)
  have HF7 := Lib.hid (keepB HF4.out (below_trans hb6 hb7))
  have HR7 := Lib.hid (HR4.out.grw (below_trans hb6 hb7))
  have HL7 := Lib.hid (lns_grw HL4.out (below_trans hb6 hb7))
  have HG7 := Lib.hid (heap_alloc_new w6 (.cells #[.int .i64 4, .int .i64 11] 31))
  have HB7 := Lib.hid (below_trans HB4.out (below_trans hb6 hb7))
  clear hb6 hb7 HF4 HB4 HR4 HL4 HS3 HS1
  go_upto_region 5 with fail
  generalize w6.alloc (.cells #[.int .i64 4, .int .i64 11] 31) = W7 at *
  generalize w6.heap.size = b6 at *
  obtain ⟨z0, z1, -, -⟩ := box_two HF7.out
  have HK7 : Hid (∀ W, Below W7.heap.size W7 W → EdsAt All W (.slice a 2 c) wkR ∧ LnsAt All W (.slice (some ⟨b3, 0, none⟩) 3 3) wkL ∧ W.heap[b6]? = some (.cells #[.int .i64 4, .int .i64 11] 31 (0, 0))) := fun W hW => ⟨HR7.out.grw hW, lns_grw HL7.out hW, keepB HG7.out hW⟩
  go_wp2_with fail
  go_at_call 18
  refine (HD0.out W7 _ _ HR7.out HL7.out).mono ?_
  rintro e w8 ⟨rfl, hb8⟩
  have HW8 := Lib.hid hb8
  clear hb8 z0 z1 HF7 HR7 HL7 HG7
  go_wp2_with fail
  go_at_call 18
  refine (HD1.out w8 _ _ (HK7.out w8 HW8.out).1 (HK7.out w8 HW8.out).2.1).mono ?_
  rintro e w9 ⟨rfl, hb9⟩
  have HW9 := Lib.hid (below_trans HW8.out hb9)
  clear hb9
  go_wp2_with fail
  go_at_call 18
  refine (HD2.out w9 _ _ (HK7.out w9 HW9.out).1 (HK7.out w9 HW9.out).2.1).mono ?_
  rintro e w10 ⟨rfl, hb10⟩
  have HW10 := Lib.hid (below_trans HW9.out hb10)
  obtain ⟨-, -, hg⟩ := HK7.out w10 HW10.out
  obtain ⟨y0, y1, -, -⟩ := box_two hg
  clear hb10 hg
  go_wp2_with (go_at_call 13; refine (HCk.out _).mono ?_; rintro e w11 ⟨rfl, hb11⟩; have HB11 := Lib.hid (below_trans HB7.out (below_trans HW10.out hb11)); clear hb11)
  go_ret
  exact ⟨rfl, HB11.out⟩
theorem cls_one {w : World} {g : Nat} {l : List Ln} {m : Value} (h : w.heap[g]? = some (.cells #[.string ⟨#[]⟩, .string ⟨#[]⟩, .string ⟨#[]⟩, .int .i64 0, .int .i64 0, .string ⟨#[]⟩, m] 46 (0, 0))) (hl : LnsAt All w m l) : ClsAt All w (.slice (some ⟨g, 0, none⟩) 1 1) [⟨[], [], [], 0, 0, [], l⟩] := by
  refine ⟨_, 1, rfl, by simp, by simp [maxLen], Or.inr ⟨g, 0, rfl, trivial, (Array.getElem?_eq_some_iff.1 h).1, fun j x hj => ?_⟩⟩
  match j, hj with
  | 0, hj =>
    obtain rfl := Option.some.inj hj
    refine ⟨m, ⟨?_, ?_, ?_, ?_, ?_, ?_, ?_⟩, hl⟩ <;> (rw [cell_of_row w g _ _ _ (0, 0) h]; rfl)
  | n + 1, hj => simp at hj
def LtV (t : List Ed) (e : Ending) : Prop := ∃ b : Bool, e = .returned (.bool b) ∧ (b = true → t.length ≤ 300)
theorem cl_ok {l : List Ln} (hn : l.length ≤ 281474976710656) (hok : ∀ x ∈ l, Cm.LnOk x) : ∀ c ∈ [(⟨[], [], [], 0, 0, [], l⟩ : Cl)], Cm.ClOk c := fun c hc => by
  simp only [List.mem_singleton] at hc
  subst hc
  exact ⟨show Cm.I64 0 from ⟨by decide, by decide⟩, show Cm.I64 0 from ⟨by decide, by decide⟩, by simp, by simp, by simp, by simp, hn, hok⟩
set_option maxHeartbeats 8000000 in
theorem light_any (t : List Ed) (u : Value) (l : List Ln) (v : Value) (w : World) (ht : EdsAt All w u t) (hl : LnsAt All w v l) (hok : ∀ f ∈ t, EdOk f) (hn : t.length ≤ 281474976710656) (hln : l.length ≤ 281474976710656) (hlk : ∀ x ∈ l, Cm.LnOk x) : Calls Tryd.prog 9 #[u, v] w fun e w' => LtV t e ∧ Below w.heap.size w w' := by
  have HF := Lib.hid ht
  have HOK := Lib.hid hok
  have HCO := Lib.hid (cl_ok hln hlk)
  obtain ⟨fa, fk, rfl, hm1, hm2⟩ := ht.form
  by_cases hbig : 300 < t.length
  · have hz : (300 : Int) < (t.length : Int) := by omega
    obtain ⟨la, lc, rfl, -, -⟩ := Cm.LnsAt.form hl
    clear ht hl hok hlk
    go_enter Tryd.func9, Tryd.ntmps9
    go_wp2
    go_ret
    exact ⟨⟨false, rfl, fun h => by cases h⟩, Below.refl _ _⟩
  have hz : ¬ (300 : Int) < (t.length : Int) := by omega
  have hz' : decide ((300 : Int) < (t.length : Int)) = false := decide_eq_false hz
  obtain ⟨la, lc, rfl, -, -⟩ := Cm.LnsAt.form hl
  have hb1 := below_alloc w (.cells #[.string ⟨#[]⟩, .string ⟨#[]⟩, .string ⟨#[]⟩, .int .i64 0, .int .i64 0, .string ⟨#[]⟩, .slice la l.length lc] 46)
  have HWt := Lib.hid (Cm.weight_any 300 (by decide) (by decide) _ _ (w.alloc (.cells #[.string ⟨#[]⟩, .string ⟨#[]⟩, .string ⟨#[]⟩, .int .i64 0, .int .i64 0, .string ⟨#[]⟩, .slice la l.length lc] 46)) (cls_one (heap_alloc_new w (.cells #[.string ⟨#[]⟩, .string ⟨#[]⟩, .string ⟨#[]⟩, .int .i64 0, .int .i64 0, .string ⟨#[]⟩, .slice la l.length lc] 46)) (lns_grw hl hb1)) HCO.out)
  have HB1 := Lib.hid hb1
  clear ht hl hok hlk hb1 HCO
  go_enter Tryd.func9, Tryd.ntmps9
  go_wp2_with fail
  go_at_call 20
  refine HWt.out.mono ?_
  rintro e w3 ⟨⟨N, rfl, -⟩, hb3⟩
  have HB3 := Lib.hid (below_trans HB1.out hb3)
  clear hb3 HWt HB1
  by_cases hN : 300 < N
  · go_wp2
    go_ret
    exact ⟨⟨false, rfl, fun h => by cases h⟩, HB3.out⟩
  have hNz : decide (300 < N) = false := decide_eq_false hN
  go_wp2
  go_loopg [5] (t.length) (fun g i wr => ∃ n : Nat, n ≤ t.length ∧ g = t.length - n ∧ i = .int .i64 (n : Nat) ∧ Hid (Below w.heap.size w wr))
  case atStart => exact ⟨0, Nat.zero_le _, rfl, rfl, HB3.out⟩
  case round =>
    clear HB3
    obtain ⟨n, hn', hgk, rfl, HBn⟩ := hrel
    by_cases hlt : n < t.length
    · obtain ⟨b, oo, rfl, hbs, -, hcc⟩ := EdsAt.get (HF.out.grw HBn.out) n hlt
      have HO := HOK.out t[n] (List.getElem_mem hlt)
      generalize t[n] = x at *
      obtain ⟨c0, c1, c2, c3, c4⟩ := hcc
      obtain ⟨⟨o1, o2⟩, -⟩ := HO
      have s1 := mk_size x.a
      have s2 := mk_size x.b
      by_cases h1 : 50 < x.a.length
      · have h1z : (50 : Int) < (x.a.length : Int) := by omega
        go_wp2
        go_ret
        exact ⟨⟨false, rfl, fun h => by cases h⟩, HBn.out⟩
      have h1z : ¬ (50 : Int) < (x.a.length : Int) := by omega
      have h1d : decide ((50 : Int) < (x.a.length : Int)) = false := decide_eq_false h1z
      by_cases h2 : 50 < x.b.length
      · have h2z : (50 : Int) < (x.b.length : Int) := by omega
        go_wp2
        go_ret
        exact ⟨⟨false, rfl, fun h => by cases h⟩, HBn.out⟩
      have h2z : ¬ (50 : Int) < (x.b.length : Int) := by omega
      have h2d : decide ((50 : Int) < (x.b.length : Int)) = false := decide_eq_false h2z
      go_wp2
      go_roundg (t.length - (n + 1))
      case measure => omega
      case rel => exact ⟨n + 1, by omega, rfl, by first | rfl | go_num | (congr 1; omega), HBn.out⟩
    · have hltz : ¬ (n : Int) < (t.length : Int) := by omega
      have HT : Hid (t.length ≤ 300) := by show _ ≤ _; omega
      go_wp2
      go_ret
      exact ⟨⟨true, rfl, fun _ => HT.out⟩, HBn.out⟩
end Go.Proofs.YtgloihilnbjmeaaDoor.Ex
end
