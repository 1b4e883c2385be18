/-
  Texts put together (merge.py): ZWorks, ZSame, ZTwo, ZUni.
-/
import Derived.Test.YtmoldgmfhcmceaaDoorMb29
import Derived.Test.YtmoldgmfhcmceaaDoorMb32
import Derived.Test.YtmoldgmfhcmceaaDoorMb30
import Derived.Test.YtmoldgmfhcmceaaDoorMb9
import Derived.Test.YtmoldgmfhcmceaaDoorMb27
/-
  What layer 12's works answers: true. And what light tells.
-/
section
set_option linter.unusedSimpArgs false
set_option linter.unusedVariables false
set_option maxRecDepth 100000
namespace Go.Proofs.YtmoldgmfhcmceaaDoor.Fe
open Go.RowKit
open Wo (Wd WdsAt box_cell box_two keepB heap_far below_alloc below_trans)
open Cm (Ln)

def wkT1 : Tx := [102, 101, 101, 32, 57, 57, 50, 49, 51, 32, 110, 111, 110, 101, 32, 105, 110, 32, 50, 48, 50, 52, 48, 54, 48, 49, 32, 56, 48, 32, 102, 101, 101, 32, 57, 57, 50, 49, 51, 32, 110, 111, 110, 101, 32, 105, 110, 32, 50, 48, 50, 52, 48, 49, 48, 49, 32, 55, 53, 46, 53]
def wkT2 : Tx := [102, 101, 101, 32, 57, 57, 50, 49, 51, 32, 110, 111, 110, 101, 32, 105, 110, 32, 50, 48, 50, 52, 48, 49, 48, 49, 32, 55, 53, 46, 53, 48, 32, 102, 101, 101, 32, 57, 57, 50, 49, 51, 32, 110, 111, 110, 101, 32, 105, 110, 32, 50, 48, 50, 52, 48, 54, 48, 49, 32, 56, 48, 46, 48, 48]
def wkT3 : Tx := [102, 101, 101, 32, 120]
def wkR : List Fee := [⟨[57, 57, 50, 49, 51], [], 0, 20240101, 7550⟩, ⟨[57, 57, 50, 49, 51], [], 0, 20240601, 8000⟩]
def wkX : Ln := ⟨[57, 57, 50, 49, 51], [], 20240701, 2, 10000, 0⟩
theorem wk_parse : paR wkT1 = .ok wkR := by kernel_rfl
theorem wk_fault : paR wkT3 = .error (4, 5) := by kernel_rfl
theorem wk_print : prV wkR = wkT2 := by kernel_rfl
theorem wkR_check : checkE wkR = 0 := by kernel_rfl
theorem wk_look : lookV ⟨[57, 57, 50, 49, 51], [], 0, 20240531⟩ wkR = 7550 ∧ lookB ⟨[57, 57, 50, 49, 51], [], 0, 20240531⟩ wkR = true := ⟨by kernel_rfl, by kernel_rfl⟩
theorem wk_allow : allowV wkR wkX 0 = 10000 ∧ priceB wkR wkX 0 = true := ⟨by kernel_rfl, by kernel_rfl⟩
theorem wk_nil : checkE [] = 0 := by kernel_rfl
theorem wk_ok : ∀ f ∈ wkR, FeOk f := fun f hf => ok_of_one ((check_facts wkR_check).2.1 f hf)
set_option maxHeartbeats 16000000 in
theorem works_any (w : World) (hT : Da.Tab w) (hN : Nu.Tab w) : Calls Tryd.prog 6 #[] w fun e w' => e = .returned (.bool true) ∧ Below w.heap.size w w' := by
  have HT := Lib.hid hT
  have HN := Lib.hid hN
  have HS1 : Hid (∀ W, Below w.heap.size w W → Calls Tryd.prog 8 #[.string (mk wkT1)] W fun e w' => (∃ (a : Option Addr) (c : Nat), e = .returned (.tuple #[.slice a 2 c, .agg #[.int .i64 0, .int .i64 0]]) ∧ FesAt All w' (.slice a 2 c) wkR) ∧ Below W.heap.size W w') := fun W hW => by
    refine (parse_any (mk wkT1) W (by rw [mk_size]; decide +kernel) (Cm.tab_below HT.out hW)).mono ?_
    rintro e w' ⟨h1, h2⟩
    rw [mk_list, wk_parse] at h1
    obtain ⟨v, rfl, h3⟩ := h1
    obtain ⟨a, c, rfl, -, -⟩ := h3.form
    exact ⟨⟨a, c, rfl, h3⟩, h2⟩
  have HS3 : Hid (∀ W, Below w.heap.size w W → Calls Tryd.prog 8 #[.string (mk wkT3)] W fun e w' => e = .returned (.tuple #[.slice none 0 0, .agg #[.int .i64 4, .int .i64 5]]) ∧ Below W.heap.size W w') := fun W hW => by
    refine (parse_any (mk wkT3) W (by rw [mk_size]; decide +kernel) (Cm.tab_below HT.out hW)).mono ?_
    rintro e w' ⟨h1, h2⟩
    rw [mk_list, wk_fault] at h1
    exact ⟨h1, h2⟩
  have HPr : Hid (∀ (W : World) v, FesAt All W v wkR → Below w.heap.size w W → Calls Tryd.prog 7 #[v] W fun e w' => e = .returned (.tuple #[.string (mk wkT2), .int .i64 0]) ∧ Below W.heap.size W w') := fun W v h hW => by
    have := print_any wkR v W h wk_ok (by decide) (Cm.tab_below HT.out hW) (Nu.tab_grw HN.out hW)
    rw [wk_print, wkR_check] at this
    exact this
  have HLk : Hid (∀ (W : World) v, FesAt All W v wkR → Calls Tryd.prog 10 #[v, .string ⟨#[57, 57, 50, 49, 51]⟩, .string ⟨#[]⟩, .int .i64 0, .int .i64 20240531] W fun e w' => e = .returned (.tuple #[.int .i64 7550, .bool true]) ∧ Below W.heap.size W w') := fun W v h => by
    have := look_any wkR ⟨[57, 57, 50, 49, 51], [], 0, 20240531⟩ v W h (by decide) (check_facts wkR_check).2.2
    rw [wk_look.1, wk_look.2] at this
    exact this
  have HAl : Hid (∀ (W : World) v, FesAt All W v wkR → Calls Tryd.prog 11 #[v, .agg #[.string ⟨#[57, 57, 50, 49, 51]⟩, .slice none 0 0, .int .i64 20240701, .int .i64 2, .int .i64 10000, .int .i64 0], .int .i64 0] W fun e w' => e = .returned (.tuple #[.int .i64 10000, .bool true]) ∧ Below W.heap.size W w') := fun W v h => by
    have := allowed_any wkR v wkX (.slice none 0 0) 0 W h (by decide) (check_facts wkR_check).2.2 (TxAt.nil _ _) (by decide) (by decide)
    rw [wk_allow.1, wk_allow.2] at this
    exact this
  have HCk : Hid (∀ W, Below w.heap.size w W → Calls Tryd.prog 12 #[.slice none 0 0] W fun e w' => e = .returned (.int .i64 0) ∧ Below W.heap.size W w') := fun W hW => by
    have := check_any [] (.slice none 0 0) W (FesAt.nil _ _) (by simp) (by simp) (Cm.tab_below HT.out hW)
    rw [wk_nil] at this
    exact this
  have hT2 : (mk wkT2).toList = wkT2 := mk_list' wkT2
  have HB0 := Lib.hid (Below.refl w.heap.size w)
  clear hT hN
  go_enter Tryd.func6, Tryd.ntmps6
  go_wp2_with fail
  go_at_call 8
  refine (HS1.out _ HB0.out).mono ?_
  rintro e w1 ⟨⟨a, c, rfl, hr⟩, hb1⟩
  have hb2 := below_alloc w1 (.cells #[.int .i64 0, .int .i64 0] 29)
  have HR2 := Lib.hid (hr.grw hb2)
  have HB2 := Lib.hid (below_trans hb1 hb2)
  have HF2 := Lib.hid (heap_alloc_new w1 (.cells #[.int .i64 0, .int .i64 0] 29))
  clear hb1 hb2 hr
  go_upto_region 2 with fail
  generalize w1.alloc (.cells #[.int .i64 0, .int .i64 0] 29) = W2 at *
  generalize w1.heap.size = b1 at *
  go_wp2_with fail
  go_at_call 7
  refine (HPr.out W2 _ HR2.out HB2.out).mono ?_
  rintro e w3 ⟨rfl, hb3⟩
  have HR3 := Lib.hid (HR2.out.grw hb3)
  have HF3 := Lib.hid (keepB HF2.out hb3)
  have HB3 := Lib.hid (below_trans HB2.out hb3)
  clear hb3 HF2 HB2 HR2 HPr
  go_wp2_with fail
  go_at_call 10
  refine (HLk.out w3 _ HR3.out).mono ?_
  rintro e w4 ⟨rfl, hb4⟩
  have HR4 := Lib.hid (HR3.out.grw hb4)
  have HF4 := Lib.hid (keepB HF3.out hb4)
  have HB4 := Lib.hid (below_trans HB3.out hb4)
  clear hb4 HF3 HB3 HR3 HLk
  go_wp2_with fail
  go_at_call 11
  refine (HAl.out w4 _ HR4.out).mono ?_
  rintro e w5 ⟨rfl, hb5⟩
  have HF5 := Lib.hid (keepB HF4.out hb5)
  have HB5 := Lib.hid (below_trans HB4.out hb5)
  clear hb5 HF4 HB4 HR4 HAl
  go_wp2_with fail
  go_at_call 8
  refine (HS3.out w5 HB5.out).mono ?_
  rintro e w6 ⟨rfl, hb6⟩
  have hb7 := below_alloc w6 (.cells #[.int .i64 4, .int .i64 5] 29)
  have HF7 := Lib.hid (keepB HF5.out (below_trans hb6 hb7))
  have HG7 := Lib.hid (heap_alloc_new w6 (.cells #[.int .i64 4, .int .i64 5] 29))
  have HB7 := Lib.hid (below_trans HB5.out (below_trans hb6 hb7))
  clear hb6 hb7 HF5 HB5 HS3 HS1
  go_upto_region 6 with fail
  generalize w6.alloc (.cells #[.int .i64 4, .int .i64 5] 29) = W7 at *
  generalize w6.heap.size = b6 at *
  obtain ⟨z0, z1, -, -⟩ := box_two HF7.out
  obtain ⟨y0, y1, -, -⟩ := box_two HG7.out
  have hLit : (mk wkT2).toList = [102, 101, 101, 32, 57, 57, 50, 49, 51, 32, 110, 111, 110, 101, 32, 105, 110, 32, 50, 48, 50, 52, 48, 49, 48, 49, 32, 55, 53, 46, 53, 48, 32, 102, 101, 101, 32, 57, 57, 50, 49, 51, 32, 110, 111, 110, 101, 32, 105, 110, 32, 50, 48, 50, 52, 48, 54, 48, 49, 32, 56, 48, 46, 48, 48] := mk_list' wkT2
  have HCk7 := Lib.hid (HCk.out W7 HB7.out)
  clear HCk
  go_wp2_with (go_at_call 12; refine HCk7.out.mono ?_; rintro e w8 ⟨rfl, hb8⟩; have HB8 := Lib.hid (below_trans HB7.out hb8); clear hb8)
  go_ret
  exact ⟨rfl, HB8.out⟩
def LtV (l : List Fee) (e : Ending) : Prop := ∃ b : Bool, e = .returned (.bool b) ∧ (b = true → l.length ≤ 600)
set_option maxHeartbeats 4000000 in
theorem light_any (l : List Fee) (v : Value) (w : World) (h : FesAt All w v l) (hok : ∀ f ∈ l, FeOk f) (hl : l.length ≤ 281474976710656) : Calls Tryd.prog 5 #[v] w fun e w' => LtV l e ∧ w' = w := by
  have HF := Lib.hid h
  have HOK := Lib.hid hok
  obtain ⟨fa, fk, rfl, hm1, hm2⟩ := h.form
  clear h hok
  by_cases hbig : 600 < l.length
  · have hz : (600 : Int) < (l.length : Int) := by omega
    go_enter Tryd.func5, Tryd.ntmps5
    go_wp2
    go_ret
    exact ⟨⟨false, rfl, fun h => by cases h⟩, rfl⟩
  have hz : ¬ (600 : Int) < (l.length : Int) := by omega
  go_enter Tryd.func5, Tryd.ntmps5
  go_wp2
  go_loopg [3] (l.length) (fun g i wr => ∃ n : Nat, n ≤ l.length ∧ g = l.length - n ∧ i = .int .i64 (n : Nat) ∧ wr = w)
  case atStart => exact ⟨0, Nat.zero_le _, rfl, rfl, rfl⟩
  case round =>
    obtain ⟨n, hn, hgk, rfl, hwr⟩ := hrel
    subst hwr
    by_cases hlt : n < l.length
    · obtain ⟨b, oo, rfl, hbs, -, hcc⟩ := FesAt.get HF.out n hlt
      have HO := HOK.out l[n] (List.getElem_mem hlt)
      generalize l[n] = x at *
      obtain ⟨c0, c1, c2, c3, c4⟩ := hcc
      obtain ⟨⟨o1, o2⟩, -⟩ := HO
      have s1 := mk_size x.proc
      have s2 := mk_size x.mod
      by_cases h1 : 50 < x.proc.length
      · have h1z : (50 : Int) < (x.proc.length : Int) := by omega
        go_wp2
        go_ret
        exact ⟨⟨false, rfl, fun h => by cases h⟩, rfl⟩
      · have h1z : ¬ (50 : Int) < (x.proc.length : Int) := by omega
        by_cases h2 : 50 < x.mod.length
        · have h2z : (50 : Int) < (x.mod.length : Int) := by omega
          go_wp2
          go_ret
          exact ⟨⟨false, rfl, fun h => by cases h⟩, rfl⟩
        · have h2z : ¬ (50 : Int) < (x.mod.length : Int) := by omega
          go_wp2
          go_roundg (l.length - (n + 1))
          case measure => omega
          case rel => exact ⟨n + 1, by omega, rfl, by first | rfl | go_num | (congr 1; omega), rfl⟩
    · have hltz : ¬ (n : Int) < (l.length : Int) := by omega
      go_wp2
      go_ret
      exact ⟨⟨true, rfl, fun _ => by omega⟩, rfl⟩
end Go.Proofs.YtmoldgmfhcmceaaDoor.Fe
end

/-
  What the reference's Same answers of two tables of equal rows, as a contract.
-/
section
set_option linter.unusedSimpArgs false
set_option linter.unusedVariables false
set_option maxRecDepth 100000
namespace Go.Proofs.YtmoldgmfhcmceaaDoor.Fe
open Go.RowKit
open Wo (keepB box_cell box_two heap_far below_alloc below_trans)

set_option maxHeartbeats 8000000 in
theorem same_eq (l : List Fee) (u v : Value) (w : World) (hu : FesAt All w u l) (hv : FesAt All w v l) (hl : l.length ≤ 281474976710656) : Calls Tryd.prog 9 #[u, v] w fun e w' => e = .returned (.bool true) ∧ Below w.heap.size w w' := by
  have HU := Lib.hid hu
  have HV := Lib.hid hv
  obtain ⟨ua, uk, rfl, -, -⟩ := hu.form
  obtain ⟨va, vk, rfl, -, -⟩ := hv.form
  clear hu hv
  go_enter Tryd.func9, Tryd.ntmps9
  go_wp2
  go_loopg [5] (l.length) (fun g i wr => ∃ n : Nat, n ≤ l.length ∧ g = l.length - n ∧ i = .int .i64 (n : Nat) ∧ Hid (Below w.heap.size w wr))
  case atStart => exact ⟨0, Nat.zero_le _, rfl, rfl, Below.refl _ _⟩
  case round =>
    obtain ⟨n, hn, hgk, rfl, HBn⟩ := hrel
    by_cases hlt : n < l.length
    · have hltz : (n : Int) < (l.length : Int) := by omega
      obtain ⟨b, oo, rfl, -, -, -⟩ := FesAt.get HU.out n hlt
      obtain ⟨b2, o2, rfl, -, -, -⟩ := FesAt.get HV.out n hlt
      have HXK := Lib.hid fun W' (hW : Below wr.heap.size wr W') => And.intro (cell_keep (HU.out.grw (below_trans HBn.out hW)) n hlt) (cell_keep (HV.out.grw (below_trans HBn.out hW)) n hlt)
      generalize l[n] = x at *
      have HD := Lib.hid (Below.drew (Below.refl wr.heap.size wr))
      obtain ⟨wo, hwo⟩ : ∃ z, z = wr := ⟨_, rfl⟩
      subst hwo
      go_upto_region 6 with fail
      refine Ri.wp_region_lasting (by kernel_rfl) (by kernel_rfl) (by kernel_rfl) (fun Wx => Below wo.heap.size wo Wx) (fun kz vs wz => (fun kx vx wx => match kx with | 0 => vx = .slice (some ⟨b, oo, none⟩) l.length uk | 1 => vx = .int .i64 (n : Nat) | 2 => vx = .pointer (some ⟨b, oo + n * 5, none⟩) | 3 => vx = fev x | 4 => vx = .slice (some ⟨b2, o2, none⟩) l.length vk | 5 => vx = .int .i64 (n : Nat) | 6 => vx = .pointer (some ⟨b2, o2 + n * 5, none⟩) | 7 => vx = fev x | 8 => vx = .bool false | _ => True : Nat → Value → World → Prop) kz (vs kz) wz) (fun kz => [kz]) (by kernel_rfl) (fun jz vs iz vz wz hiz hz => Ri.loc_own (F := (fun kx vx wx => match kx with | 0 => vx = .slice (some ⟨b, oo, none⟩) l.length uk | 1 => vx = .int .i64 (n : Nat) | 2 => vx = .pointer (some ⟨b, oo + n * 5, none⟩) | 3 => vx = fev x | 4 => vx = .slice (some ⟨b2, o2, none⟩) l.length vk | 5 => vx = .int .i64 (n : Nat) | 6 => vx = .pointer (some ⟨b2, o2 + n * 5, none⟩) | 7 => vx = fev x | 8 => vx = .bool false | _ => True : Nat → Value → World → Prop)) jz vs iz vz wz hiz hz) HD.out ⟨⟨rfl, ?_⟩, ⟨rfl, ?_⟩, ⟨rfl, ?_⟩, ⟨rfl, ?_⟩, ⟨rfl, ?_⟩, ⟨rfl, ?_⟩, ⟨rfl, ?_⟩, ⟨rfl, ?_⟩, ⟨rfl, ?_⟩, trivial⟩ ?_
      · intro vs Wx A hA hB hpre K hK
        have e0 := (hA 0).trans (show _ = Value.slice (some ⟨b, oo, none⟩) l.length uk by kernel_rfl)
        clear hA hpre
        go_simp
        first | exact hK _ _ hB rfl (fun _ _ h => h) | exact hK _ _ hB trivial (fun _ _ h => h) | (rw [if_neg (by omega)]; go_simp; exact hK _ _ hB rfl (fun _ _ h => h))
      · intro vs Wx A hA hB hpre K hK
        have e5 := (hA 5).trans (show _ = Value.int .i64 (n : Nat) by kernel_rfl)
        clear hA hpre
        go_simp
        first | exact hK _ _ hB rfl (fun _ _ h => h) | exact hK _ _ hB trivial (fun _ _ h => h) | (rw [if_neg (by omega)]; go_simp; exact hK _ _ hB rfl (fun _ _ h => h))
      · intro vs Wx A hA hB hpre K hK
        have e17 := ((hA 17).trans (show _ = vs 0 by kernel_rfl)).trans (by first | exact hpre.1 rfl | exact hpre.2.1 rfl | exact hpre.2.2.1 rfl | exact hpre.2.2.2.1 rfl | exact hpre.2.2.2.2.1 rfl | exact hpre.2.2.2.2.2.1 rfl | exact hpre.2.2.2.2.2.2.1 rfl | exact hpre.2.2.2.2.2.2.2.1 rfl | exact hpre.2.2.2.2.2.2.2.2.1 rfl | exact hpre.2.2.2.2.2.2.2.2.2.1 rfl)
        have e18 := ((hA 18).trans (show _ = vs 1 by kernel_rfl)).trans (by first | exact hpre.1 rfl | exact hpre.2.1 rfl | exact hpre.2.2.1 rfl | exact hpre.2.2.2.1 rfl | exact hpre.2.2.2.2.1 rfl | exact hpre.2.2.2.2.2.1 rfl | exact hpre.2.2.2.2.2.2.1 rfl | exact hpre.2.2.2.2.2.2.2.1 rfl | exact hpre.2.2.2.2.2.2.2.2.1 rfl | exact hpre.2.2.2.2.2.2.2.2.2.1 rfl)
        clear hA hpre
        go_simp
        first | exact hK _ _ hB rfl (fun _ _ h => h) | exact hK _ _ hB trivial (fun _ _ h => h) | (rw [if_neg (by omega)]; go_simp; exact hK _ _ hB rfl (fun _ _ h => h))
      · intro vs Wx A hA hB hpre K hK
        have e19 := ((hA 19).trans (show _ = vs 2 by kernel_rfl)).trans (by first | exact hpre.1 rfl | exact hpre.2.1 rfl | exact hpre.2.2.1 rfl | exact hpre.2.2.2.1 rfl | exact hpre.2.2.2.2.1 rfl | exact hpre.2.2.2.2.2.1 rfl | exact hpre.2.2.2.2.2.2.1 rfl | exact hpre.2.2.2.2.2.2.2.1 rfl | exact hpre.2.2.2.2.2.2.2.2.1 rfl | exact hpre.2.2.2.2.2.2.2.2.2.1 rfl)
        obtain ⟨⟨x0, x1, x2, x3, x4⟩, ⟨y0, y1, y2, y3, y4⟩⟩ := HXK.out Wx hB
        clear hA hpre
        go_simp
        first | exact hK _ _ hB rfl (fun _ _ h => h) | exact hK _ _ hB trivial (fun _ _ h => h) | (rw [if_neg (by omega)]; go_simp; exact hK _ _ hB rfl (fun _ _ h => h))
      · intro vs Wx A hA hB hpre K hK
        have e1 := (hA 1).trans (show _ = Value.slice (some ⟨b2, o2, none⟩) l.length vk by kernel_rfl)
        clear hA hpre
        go_simp
        first | exact hK _ _ hB rfl (fun _ _ h => h) | exact hK _ _ hB trivial (fun _ _ h => h) | (rw [if_neg (by omega)]; go_simp; exact hK _ _ hB rfl (fun _ _ h => h))
      · intro vs Wx A hA hB hpre K hK
        have e5 := (hA 5).trans (show _ = Value.int .i64 (n : Nat) by kernel_rfl)
        clear hA hpre
        go_simp
        first | exact hK _ _ hB rfl (fun _ _ h => h) | exact hK _ _ hB trivial (fun _ _ h => h) | (rw [if_neg (by omega)]; go_simp; exact hK _ _ hB rfl (fun _ _ h => h))
      · intro vs Wx A hA hB hpre K hK
        have e21 := ((hA 21).trans (show _ = vs 4 by kernel_rfl)).trans (by first | exact hpre.1 rfl | exact hpre.2.1 rfl | exact hpre.2.2.1 rfl | exact hpre.2.2.2.1 rfl | exact hpre.2.2.2.2.1 rfl | exact hpre.2.2.2.2.2.1 rfl | exact hpre.2.2.2.2.2.2.1 rfl | exact hpre.2.2.2.2.2.2.2.1 rfl | exact hpre.2.2.2.2.2.2.2.2.1 rfl | exact hpre.2.2.2.2.2.2.2.2.2.1 rfl)
        have e22 := ((hA 22).trans (show _ = vs 5 by kernel_rfl)).trans (by first | exact hpre.1 rfl | exact hpre.2.1 rfl | exact hpre.2.2.1 rfl | exact hpre.2.2.2.1 rfl | exact hpre.2.2.2.2.1 rfl | exact hpre.2.2.2.2.2.1 rfl | exact hpre.2.2.2.2.2.2.1 rfl | exact hpre.2.2.2.2.2.2.2.1 rfl | exact hpre.2.2.2.2.2.2.2.2.1 rfl | exact hpre.2.2.2.2.2.2.2.2.2.1 rfl)
        clear hA hpre
        go_simp
        first | exact hK _ _ hB rfl (fun _ _ h => h) | exact hK _ _ hB trivial (fun _ _ h => h) | (rw [if_neg (by omega)]; go_simp; exact hK _ _ hB rfl (fun _ _ h => h))
      · intro vs Wx A hA hB hpre K hK
        have e23 := ((hA 23).trans (show _ = vs 6 by kernel_rfl)).trans (by first | exact hpre.1 rfl | exact hpre.2.1 rfl | exact hpre.2.2.1 rfl | exact hpre.2.2.2.1 rfl | exact hpre.2.2.2.2.1 rfl | exact hpre.2.2.2.2.2.1 rfl | exact hpre.2.2.2.2.2.2.1 rfl | exact hpre.2.2.2.2.2.2.2.1 rfl | exact hpre.2.2.2.2.2.2.2.2.1 rfl | exact hpre.2.2.2.2.2.2.2.2.2.1 rfl)
        obtain ⟨⟨x0, x1, x2, x3, x4⟩, ⟨y0, y1, y2, y3, y4⟩⟩ := HXK.out Wx hB
        clear hA hpre
        go_simp
        first | exact hK _ _ hB rfl (fun _ _ h => h) | exact hK _ _ hB trivial (fun _ _ h => h) | (rw [if_neg (by omega)]; go_simp; exact hK _ _ hB rfl (fun _ _ h => h))
      · intro vs Wx A hA hB hpre K hK
        have e20 := ((hA 20).trans (show _ = vs 3 by kernel_rfl)).trans (by first | exact hpre.1 rfl | exact hpre.2.1 rfl | exact hpre.2.2.1 rfl | exact hpre.2.2.2.1 rfl | exact hpre.2.2.2.2.1 rfl | exact hpre.2.2.2.2.2.1 rfl | exact hpre.2.2.2.2.2.2.1 rfl | exact hpre.2.2.2.2.2.2.2.1 rfl | exact hpre.2.2.2.2.2.2.2.2.1 rfl | exact hpre.2.2.2.2.2.2.2.2.2.1 rfl)
        have e24 := ((hA 24).trans (show _ = vs 7 by kernel_rfl)).trans (by first | exact hpre.1 rfl | exact hpre.2.1 rfl | exact hpre.2.2.1 rfl | exact hpre.2.2.2.1 rfl | exact hpre.2.2.2.2.1 rfl | exact hpre.2.2.2.2.2.1 rfl | exact hpre.2.2.2.2.2.2.1 rfl | exact hpre.2.2.2.2.2.2.2.1 rfl | exact hpre.2.2.2.2.2.2.2.2.1 rfl | exact hpre.2.2.2.2.2.2.2.2.2.1 rfl)
        clear hA hpre
        go_simp
        first | exact hK _ _ hB rfl (fun _ _ h => h) | exact hK _ _ hB trivial (fun _ _ h => h) | (rw [if_neg (by omega)]; go_simp; exact hK _ _ hB rfl (fun _ _ h => h))
      · intro vs Wx hB hF
        have hL : vs 8 = .bool false := hF 8 (by decide)
        have HB3 := Lib.hid (below_trans HBn.out hB)
        clear hF hB HXK HD
        simp only [Ri.puts]
        rw [hL]
        clear hL
        go_simp
        go_wp2
        go_roundg (l.length - (n + 1))
        case measure => omega
        case rel => exact ⟨n + 1, by omega, rfl, by first | rfl | go_num | (congr 1; omega), HB3.out⟩
    · have hltz : ¬ (n : Int) < (l.length : Int) := by omega
      go_wp2
      go_ret
      exact ⟨rfl, HBn.out⟩
end Go.Proofs.YtmoldgmfhcmceaaDoor.Fe
end

/-
  Two texts of rows, one behind the other: plain.
-/
section
set_option linter.unusedSimpArgs false
set_option linter.unusedVariables false
namespace Go.Proofs.YtmoldgmfhcmceaaDoor.Fe
open Wo (Wd wds txs)

theorem rows_more (E E' : Nat) : ∀ (n : Nat) (f : Nat) (acc l : List Fee) (a b : List Wd), a.length ≤ n → txs a = txs b → pRows E f acc a = .ok l → ∃ r, l = acc ++ r ∧ (∀ x ∈ r, oneE x = 0) ∧ ∀ (g : Nat) (acc' : List Fee), (r.length ≤ g → pRows E' g acc' b = .ok (acc' ++ r)) ∧ (g < r.length → ∃ p, pRows E' g acc' b = .error (10, p))
  | n, f, acc, l, [], b, hn, ht, h => by
    obtain rfl : b = [] := Pl.map_nil ht.symm
    have : acc = l := by cases f <;> (simp only [pRows, Except.ok.injEq] at h; exact h)
    subst this
    exact ⟨[], by simp, by simp, fun g acc' => ⟨fun _ => by cases g <;> simp [pRows], fun h => by simp at h⟩⟩
  | n, 0, acc, l, x :: r, b, hn, ht, h => by simp [pRows] at h
  | 0, f + 1, acc, l, x :: r, b, hn, ht, h => by simp at hn
  | n + 1, f + 1, acc, l, x1 :: x2 :: x3 :: x4 :: x5 :: x6 :: r, b, hn, ht, h => by
    obtain ⟨p1, r1, rfl, g1⟩ := Pl.map_cons (show b.map (·.1) = x1.1 :: _ from ht.symm)
    obtain ⟨p2, r2, rfl, g2⟩ := Pl.map_cons g1
    obtain ⟨p3, r3, rfl, g3⟩ := Pl.map_cons g2
    obtain ⟨p4, r4, rfl, g4⟩ := Pl.map_cons g3
    obtain ⟨p5, r5, rfl, g5⟩ := Pl.map_cons g4
    obtain ⟨p6, r6, rfl, g6⟩ := Pl.map_cons g5
    unfold pRows at h
    split at h
    · cases h
    · next y hy =>
      obtain ⟨q, hq, ho, hg⟩ := rows_more E E' n f (acc ++ [y]) l r r6 (by simp at hn; omega) g6.symm h
      have hy' := row_txs hy (a' := (x1.1, p1)) (b' := (x2.1, p2)) (c' := (x3.1, p3)) (d' := (x4.1, p4)) (e' := (x5.1, p5)) (g' := (x6.1, p6)) rfl rfl rfl rfl rfl rfl
      refine ⟨y :: q, by rw [hq]; simp, fun x hx => ?_, fun g acc' => ?_⟩
      · rcases List.mem_cons.1 hx with rfl | hx
        · exact row_one hy
        · exact ho x hx
      · cases g with
        | zero => exact ⟨fun h => by simp at h, fun _ => ⟨p1, by simp [pRows]⟩⟩
        | succ g =>
          have e : pRows E' (g + 1) acc' ((x1.1, p1) :: (x2.1, p2) :: (x3.1, p3) :: (x4.1, p4) :: (x5.1, p5) :: (x6.1, p6) :: r6) = pRows E' g (acc' ++ [y]) r6 := by
            conv => lhs; unfold pRows
            simp only [hy']
          rw [e]
          obtain ⟨k1, k2⟩ := hg g (acc' ++ [y])
          exact ⟨fun h => by rw [k1 (by simp at h; omega)]; simp, fun h => k2 (by simp at h; omega)⟩
  | n + 1, f + 1, acc, l, [x1], b, hn, ht, h => by simp [pRows] at h
  | n + 1, f + 1, acc, l, [x1, x2], b, hn, ht, h => by simp [pRows] at h
  | n + 1, f + 1, acc, l, [x1, x2, x3], b, hn, ht, h => by simp [pRows] at h
  | n + 1, f + 1, acc, l, [x1, x2, x3, x4], b, hn, ht, h => by simp [pRows] at h
  | n + 1, f + 1, acc, l, [x1, x2, x3, x4, x5], b, hn, ht, h => by simp [pRows] at h
/-- What a text that is parsed tells. -/
theorem par_tells {s : Tx} {L : List Fee} (h : paR s = .ok L) : s.length ≤ 65536 ∧ Wo.good s = true ∧ ∃ l, pRows s.length 512 [] (wds 0 s) = .ok l ∧ L = srt l ∧ checkE (srt l) = 0 := by
  unfold paR at h
  split at h
  · next he =>
    unfold Wo.spE at he
    split at he
    · cases he
    · next hl =>
      split at he
      · next hg =>
        obtain ⟨-, q⟩ := Wo.sp_fine (l := s) (by omega) hg
        rw [q] at h
        split at h
        · cases h
        · next l hr =>
          split at h
          · next hc => exact ⟨by omega, hg, l, hr, (Except.ok.inj h).symm, hc⟩
          · cases h
      · cases he
  · cases h
/-- Two texts that are parsed, one behind the other. -/
theorem par_both {s t : Tx} {l r : List Fee} (hs : Wo.good s = true) (ht : Wo.good t = true) (hl : s.length + t.length ≤ 65000) (h1 : pRows s.length 512 [] (wds 0 s) = .ok l) (h2 : pRows t.length 512 [] (wds 0 t) = .ok r) :
    (l.length + r.length ≤ 512 → paR (s ++ 32 :: t) = if checkE (srt (l ++ r)) = 0 then .ok (srt (l ++ r)) else .error (checkE (srt (l ++ r)), 0)) ∧ (512 < l.length + r.length → ∃ p, paR (s ++ 32 :: t) = .error (10, p)) := by
  have hgd : Wo.good (s ++ 32 :: t) = true := by
    have e : 32 :: t = [32] ++ t := rfl
    rw [e, Wo.good_app, Wo.good_app, hs, ht]; rfl
  have hln : (s ++ 32 :: t).length = s.length + t.length + 1 := by simp; omega
  obtain ⟨q1, q2⟩ := Wo.sp_fine (l := s ++ 32 :: t) (by omega) hgd
  have hw : wds 0 (s ++ 32 :: t) = wds 0 s ++ wds (0 + s.length + 1) t := by
    rw [Wo.wds_app _ _ _ (Or.inr (Wo.headI_blank (by decide))), Wo.wds_blank _ _ _ (by decide)]
  obtain ⟨e0, e2, -, -⟩ := rows_two s.length (s ++ 32 :: t).length _ 512 [] l (wds 0 s) (wds 0 s) (wds (0 + s.length + 1) t) (Nat.le_refl _) rfl h1
  obtain ⟨k, hk, -, hg⟩ := rows_more t.length (s ++ 32 :: t).length _ 512 [] r (wds 0 t) (wds (0 + s.length + 1) t) (Nat.le_refl _) (Wo.txs_pos _ _ _) h2
  rw [List.nil_append] at hk
  subst hk
  obtain ⟨g1, g2⟩ := hg (512 - (l.length - ([] : List Fee).length)) l
  simp only [List.length_nil, Nat.sub_zero, Nat.add_zero, Nat.zero_add] at e0
  simp only [List.length_nil, Nat.sub_zero] at g1 g2 e2
  refine ⟨fun h => ?_, fun h => ?_⟩
  · unfold paR
    rw [if_pos q1, q2, hw, e2, g1 (by omega)]
  · by_cases h5 : 512 - l.length < r.length
    · obtain ⟨p, hp⟩ := g2 h5
      exact ⟨p, by unfold paR; rw [if_pos q1, q2, hw, e2, hp]⟩
    · omega
theorem rows_oks {s : Tx} {l : List Fee} (h : pRows s.length 512 [] (wds 0 s) = .ok l) : ∀ x ∈ l, oneE x = 0 := by
  obtain ⟨r, hr, ho, -⟩ := rows_more s.length 0 _ 512 [] l (wds 0 s) (wds 0 s) (Nat.le_refl _) rfl h
  rw [List.nil_append] at hr
  subst hr
  exact ho
/-- Both ways round. -/
theorem order_two {s t : Tx} {L R : List Fee} (hl : s.length + t.length ≤ 65000) (h1 : paR s = .ok L) (h2 : paR t = .ok R) :
    (∃ p q, paR (s ++ 32 :: t) = .error (10, p) ∧ paR (t ++ 32 :: s) = .error (10, q)) ∨ (∃ l, paR (s ++ 32 :: t) = .ok l ∧ paR (t ++ 32 :: s) = .ok l ∧ l.length ≤ 512) ∨ (paR (s ++ 32 :: t) = .error (12, 0) ∧ paR (t ++ 32 :: s) = .error (12, 0)) := by
  obtain ⟨-, a2, l, a3, -, -⟩ := par_tells h1
  obtain ⟨-, b2, r, b3, -, -⟩ := par_tells h2
  obtain ⟨c1, c2⟩ := par_both a2 b2 hl a3 b3
  obtain ⟨d1, d2⟩ := par_both b2 a2 (by omega) b3 a3
  by_cases h : l.length + r.length ≤ 512
  · have ho : ∀ f ∈ l ++ r, oneE f = 0 := fun f hf => (List.mem_append.1 hf).elim (rows_oks a3 f) (rows_oks b3 f)
    obtain ⟨e1, e2⟩ := srt_two l r ho
    have hp := srt_perm (l ++ r)
    have hlen : (srt (l ++ r)).length ≤ 512 := by rw [hp.length_eq, List.length_append]; exact h
    rw [c1 h, d1 (by omega), ← e1]
    by_cases hc : checkE (srt (l ++ r)) = 0
    · rw [if_pos hc, if_pos hc, ← e2 hc]
      exact Or.inr (Or.inl ⟨_, rfl, rfl, hlen⟩)
    · rw [if_neg hc, if_neg hc]
      have : checkE (srt (l ++ r)) = 12 := by
        have hf : firstE (srt (l ++ r)) = 0 := (first_all _).2 fun f hf => ho f (hp.mem_iff.1 hf)
        unfold checkE at hc ⊢
        rw [if_neg (by omega), if_pos hf] at hc ⊢
        exact (nb_wk _ (srt_wk _)).resolve_left hc
      rw [this]
      exact Or.inr (Or.inr ⟨rfl, rfl⟩)
  · obtain ⟨p, hp⟩ := c2 (by omega)
    obtain ⟨q, hq⟩ := d2 (by omega)
    exact Or.inl ⟨p, q, hp, hq⟩
theorem row_not {a b c d e g : Wd} {x : Int × Nat} (h : pRow a b c d e g = .error x) : x.1 ≠ 0 := by
  unfold pRow at h
  split at h
  · split at h
    · split at h
      · split at h
        · split at h
          · split at h
            · cases h
            · next hm => obtain rfl := Except.error.inj h; exact hm
          · obtain rfl := Except.error.inj h; simp
        · obtain rfl := Except.error.inj h; simp
      · obtain rfl := Except.error.inj h; simp
    · obtain rfl := Except.error.inj h; simp
  · obtain rfl := Except.error.inj h; simp
theorem rows_not (E : Nat) : ∀ (n f : Nat) (acc : List Fee) (a : List Wd) (x : Int × Nat), a.length ≤ n → pRows E f acc a = .error x → x.1 ≠ 0
  | n, f, acc, [], x, hn, h => by cases f <;> simp [pRows] at h
  | n, 0, acc, y :: r, x, hn, h => by simp only [pRows] at h; obtain rfl := Except.error.inj h; simp
  | 0, f + 1, acc, y :: r, x, hn, h => by simp at hn
  | n + 1, f + 1, acc, x1 :: x2 :: x3 :: x4 :: x5 :: x6 :: r, x, hn, h => by
    unfold pRows at h
    split at h
    · next hr => obtain rfl := Except.error.inj h; exact row_not hr
    · exact rows_not E n f _ r x (by simp at hn; omega) h
  | n + 1, f + 1, acc, [x1], x, hn, h => by simp only [pRows] at h; obtain rfl := Except.error.inj h; simp
  | n + 1, f + 1, acc, [x1, x2], x, hn, h => by simp only [pRows] at h; obtain rfl := Except.error.inj h; simp
  | n + 1, f + 1, acc, [x1, x2, x3], x, hn, h => by simp only [pRows] at h; obtain rfl := Except.error.inj h; simp
  | n + 1, f + 1, acc, [x1, x2, x3, x4], x, hn, h => by simp only [pRows] at h; obtain rfl := Except.error.inj h; simp
  | n + 1, f + 1, acc, [x1, x2, x3, x4, x5], x, hn, h => by simp only [pRows] at h; obtain rfl := Except.error.inj h; simp
theorem par_not {s : Tx} {x : Int × Nat} (h : paR s = .error x) : x.1 ≠ 0 := by
  unfold paR at h
  split at h
  · split at h
    · next hr => obtain rfl := Except.error.inj h; exact rows_not _ _ _ _ _ _ (Nat.le_refl _) hr
    · split at h
      · cases h
      · next hc => obtain rfl := Except.error.inj h; exact hc
  · next hs => obtain rfl := Except.error.inj h; exact hs
end Go.Proofs.YtmoldgmfhcmceaaDoor.Fe
end

/-
  What Parse answers, all in one.
-/
section
set_option linter.unusedSimpArgs false
set_option linter.unusedVariables false
namespace Go.Proofs.YtmoldgmfhcmceaaDoor.Fe
open Go.RowKit

theorem parse_uni (s : ByteArray) (w : World) (hs : s.size ≤ maxLen) (hT : Da.Tab w) :
    Calls Tryd.prog 8 #[.string s] w fun e w' => (∃ (a : Option Addr) (n c : Nat) (E A : Int), e = .returned (.tuple #[.slice a n c, .agg #[.int .i64 E, .int .i64 A]]) ∧ (E = 0 → ∃ l, paR s.data.toList = .ok l)) ∧ Below w.heap.size w w' := by
  refine (parse_any s w hs hT).mono ?_
  rintro e w' ⟨h1, h2⟩
  refine ⟨?_, h2⟩
  cases hp : paR s.data.toList with
  | ok l =>
    rw [hp] at h1
    obtain ⟨v, rfl, h3⟩ := h1
    obtain ⟨a, c, rfl, -, -⟩ := h3.form
    exact ⟨a, _, c, 0, 0, rfl, fun _ => ⟨l, rfl⟩⟩
  | error x =>
    rw [hp] at h1
    exact ⟨none, 0, 0, x.1, (x.2 : Nat), h1, fun h => absurd h (par_not hp)⟩
theorem parse_same (s : ByteArray) (w : World) (hs : s.size ≤ maxLen) (hT : Da.Tab w) (l : List Fee) (E : Int) (h : (paR s.data.toList = .ok l ∧ E = 0) ∨ (paR s.data.toList = .error (E, 0) ∧ l = [])) :
    Calls Tryd.prog 8 #[.string s] w fun e w' => (∃ (a : Option Addr) (c : Nat), e = .returned (.tuple #[.slice a l.length c, .agg #[.int .i64 E, .int .i64 0]]) ∧ FesAt All w' (.slice a l.length c) l) ∧ Below w.heap.size w w' := by
  refine (parse_any s w hs hT).mono ?_
  rintro e w' ⟨h1, h2⟩
  refine ⟨?_, h2⟩
  rcases h with ⟨hp, rfl⟩ | ⟨hp, rfl⟩
  · rw [hp] at h1
    obtain ⟨v, rfl, h3⟩ := h1
    obtain ⟨a, c, rfl, -, -⟩ := h3.form
    exact ⟨a, c, rfl, h3⟩
  · rw [hp] at h1
    exact ⟨none, 0, h1, FesAt.nil _ _⟩
theorem parse_lim (s : ByteArray) (w : World) (hs : s.size ≤ maxLen) (hT : Da.Tab w) (E : Int) (A : Nat) (h : paR s.data.toList = .error (E, A)) :
    Calls Tryd.prog 8 #[.string s] w fun e w' => e = .returned (.tuple #[.slice none 0 0, .agg #[.int .i64 E, .int .i64 (A : Nat)]]) ∧ Below w.heap.size w w' := by
  refine (parse_any s w hs hT).mono ?_
  rintro e w' ⟨h1, h2⟩
  rw [h] at h1
  exact ⟨h1, h2⟩
end Go.Proofs.YtmoldgmfhcmceaaDoor.Fe
end
