/-
  The laws' light and works, as contracts.
-/
import Derived.Test.YtbokhiaiihpeeaaURes
import Derived.Test.YtbokhiaiihpeeaaPWgt
set_option linter.unusedSimpArgs false
set_option linter.unusedVariables false
set_option maxRecDepth 100000
namespace Go.Proofs.Ytbokhiaiihpeeaa.Ul
open Go.RowKit
open Pl (Cd St Ru Pn KsAt StsAt RusAt RuIn Ok1 cdv stv ruv pnv below_alloc below_trans bfive bsix beight below_tr)
open Wo (box_cell box_two keepB heap_far)
open Cm (Ln)

def LtV (p : Pn) (e : Ending) : Prop := ∃ b : Bool, e = .returned (.bool b) ∧ (b = true → p.rules.length ≤ 300)
set_option maxHeartbeats 8000000 in
theorem light_any (p : Pn) (m : Value) (x : Ln) (ml : Value) (w : World) (h : RusAt All w m p.rules) (hx : TxAt All w ml x.mods) :
    Calls Try.prog 9 #[pnv p m, lnv x ml] w fun e w' => LtV p e ∧ Below w.heap.size w w' := by
  obtain ⟨hb, hz1, hz2⟩ := box_pl w p m x ml
  have HB := Lib.hid hb
  have HX := Lib.hid hz1
  have HL := Lib.hid hz2
  have HWT := Lib.hid (Pl.weight_any p m _ (h.grw hb))
  obtain ⟨ma, mc, rfl, hm1, hm2, hm3⟩ := h.form
  have hm3 : p.rules.length ≤ 281474976710656 := hm3
  obtain ⟨la, lk, rfl, hl1, hl2⟩ := tx_form hx
  clear h hx hb hz1 hz2
  go_enter Try.func9, Try.ntmps9
  go_upto_region 1 with fail
  generalize (w.alloc (.cells #[.int .i64 p.mode, .int .i64 p.indDed, .int .i64 p.famDed, .int .i64 p.indOop, .int .i64 p.famOop, .slice ma p.rules.length mc] 34)).alloc (.cells #[.string (mk x.proc), .slice la x.mods.length lk, .int .i64 x.date, .int .i64 x.units, .int .i64 x.billed, .int .i64 x.prior] 30) = W at *
  generalize hp : w.heap.size = p0 at *
  obtain ⟨q1, hq1⟩ : ∃ q1, q1 = p0 + 1 := ⟨_, rfl⟩
  rw [← hq1] at HL ⊢
  clear hq1
  obtain ⟨x0, x1, x2, x3, x4, x5⟩ := bsix HX.out
  go_wp2_with fail
  go_at_call 17
  refine HWT.out.mono ?_
  rintro e w3 ⟨⟨N, rfl, -⟩, hb3⟩
  have HB3 := Lib.hid (below_tr hp HB.out hb3)
  have HX3 := Lib.hid (keepB HX.out hb3)
  have HL3 := Lib.hid (keepB HL.out hb3)
  clear hb3 HB HX HL HWT x0 x1 x2 x3 x4 x5
  obtain ⟨x0, x1, x2, x3, x4, x5⟩ := bsix HX3.out
  obtain ⟨y0, y1, y2, y3, y4, y5⟩ := bsix HL3.out
  have HF : Hid (LtV p (Ending.returned (.bool false))) := ⟨false, rfl, fun h => by cases h⟩
  by_cases hN : N ≤ 600
  · by_cases hR : (p.rules.length : Int) ≤ 300
    · have HT : Hid (p.rules.length ≤ 300) := by show _ ≤ _; omega
      by_cases hM : (x.mods.length : Int) ≤ 300
      all_goals
        go_wp2_with fail
        go_ret
        exact ⟨⟨_, rfl, fun _ => HT.out⟩, by first | exact HB3.out | (rw [hp]; exact HB3.out)⟩
    · go_wp2_with fail
      go_ret
      exact ⟨HF.out, by first | exact HB3.out | (rw [hp]; exact HB3.out)⟩
  · go_wp2_with fail
    go_ret
    exact ⟨HF.out, by first | exact HB3.out | (rw [hp]; exact HB3.out)⟩

/-! ### works -/
def wkR0 : Ru := ⟨1, ⟨0, [], [], 0, []⟩, [], [⟨1, 1⟩, ⟨4, 2000⟩]⟩
def wkR1 : Ru := ⟨5, ⟨2, [53, 57], [], 0, []⟩, [], [⟨4, 100⟩]⟩
def wkP : Pn := ⟨0, 0, 0, 0, 0, [wkR0, wkR1]⟩
def wkX : Ln := ⟨[57, 57, 50, 49, 51], [], 0, 0, 0, 0⟩
def wkY : Ln := ⟨[57, 57, 50, 49, 51], [[53, 57]], 0, 0, 0, 0⟩
def wkZ : Ln := ⟨[], [], 0, 0, 0, 0⟩
theorem wk_a : benV wkX 0 wkP.rules = .agg #[.bool true, .bool false, .int .i64 0, .int .i64 2000] := by
  have e1 : valV wkX 0 1 wkP.rules = 1 := by decide +kernel
  have e2 : valV wkX 0 2 wkP.rules = 0 := by decide +kernel
  have e3 : valV wkX 0 3 wkP.rules = 0 := by decide +kernel
  have e4 : valV wkX 0 4 wkP.rules = 2000 := by decide +kernel
  show benv _ _ _ _ = _
  rw [e1, e2, e3, e4]
  rfl
theorem wk_b : benV wkY 0 wkP.rules = .agg #[.bool true, .bool false, .int .i64 0, .int .i64 100] := by
  have e1 : valV wkY 0 1 wkP.rules = 1 := by decide +kernel
  have e2 : valV wkY 0 2 wkP.rules = 0 := by decide +kernel
  have e3 : valV wkY 0 3 wkP.rules = 0 := by decide +kernel
  have e4 : valV wkY 0 4 wkP.rules = 100 := by decide +kernel
  show benv _ _ _ _ = _
  rw [e1, e2, e3, e4]
  rfl
theorem wk_h : holdsB wkZ 1 ⟨5, [], [], 0, []⟩ = true := by decide +kernel
theorem wk_r : appB wkZ 0 wkR1 = false := by decide +kernel
theorem sts_of {w : World} {b : Nat} {T : TypeId} {l : List St} {cs : Array Value} (h : w.heap[b]? = some (.cells cs T (0, 0))) (hl : l.length ≤ 1000) (hi : ∀ x ∈ l, Cm.I64 x.what ∧ Cm.I64 x.n) (hc : ∀ (j : Nat) x, l[j]? = some x → cs[j * 2]? = some (.int .i64 x.what) ∧ cs[j * 2 + 1]? = some (.int .i64 x.n)) : StsAt All w (.slice (some ⟨b, 0, none⟩) l.length l.length) l := by
  refine ⟨_, _, rfl, Nat.le_refl _, by unfold maxLen; omega, by unfold Pl.Big; omega, hi, Or.inr ⟨b, 0, rfl, trivial, (Array.getElem?_eq_some_iff.1 h).1, fun j x hj => ?_⟩⟩
  obtain ⟨h1, h2⟩ := hc j x hj
  rw [cell_of_row w b _ _ _ (0, 0) h, cell_of_row w b _ _ _ (0, 0) h, Nat.zero_add]
  exact ⟨h1, h2⟩
theorem wk_mem (w : World) :
    Below w.heap.size w ((((w.alloc (.cells #[.int .i64 1, .int .i64 1, .int .i64 4, .int .i64 2000] 45)).alloc (.cells #[.int .i64 4, .int .i64 100] 45)).alloc (.cells #[.int .i64 1, .int .i64 0, .string ⟨#[]⟩, .string ⟨#[]⟩, .int .i64 0, .slice none 0 0, .slice none 0 0, .slice (some ⟨w.heap.size, 0, none⟩) 2 2, .int .i64 5, .int .i64 2, .string ⟨#[53, 57]⟩, .string ⟨#[]⟩, .int .i64 0, .slice none 0 0, .slice none 0 0, .slice (some ⟨w.heap.size + 1, 0, none⟩) 1 1] 27)).alloc (.cells #[.int .i64 0, .int .i64 0, .int .i64 0, .int .i64 0, .int .i64 0, .slice (some ⟨w.heap.size + 1 + 1, 0, none⟩) 2 2] 34)) ∧ ((((w.alloc (.cells #[.int .i64 1, .int .i64 1, .int .i64 4, .int .i64 2000] 45)).alloc (.cells #[.int .i64 4, .int .i64 100] 45)).alloc (.cells #[.int .i64 1, .int .i64 0, .string ⟨#[]⟩, .string ⟨#[]⟩, .int .i64 0, .slice none 0 0, .slice none 0 0, .slice (some ⟨w.heap.size, 0, none⟩) 2 2, .int .i64 5, .int .i64 2, .string ⟨#[53, 57]⟩, .string ⟨#[]⟩, .int .i64 0, .slice none 0 0, .slice none 0 0, .slice (some ⟨w.heap.size + 1, 0, none⟩) 1 1] 27)).alloc (.cells #[.int .i64 0, .int .i64 0, .int .i64 0, .int .i64 0, .int .i64 0, .slice (some ⟨w.heap.size + 1 + 1, 0, none⟩) 2 2] 34)).heap[w.heap.size + 1 + 1 + 1]? = some (.cells #[.int .i64 0, .int .i64 0, .int .i64 0, .int .i64 0, .int .i64 0, .slice (some ⟨w.heap.size + 1 + 1, 0, none⟩) 2 2] 34 (0, 0)) ∧ RusAt All ((((w.alloc (.cells #[.int .i64 1, .int .i64 1, .int .i64 4, .int .i64 2000] 45)).alloc (.cells #[.int .i64 4, .int .i64 100] 45)).alloc (.cells #[.int .i64 1, .int .i64 0, .string ⟨#[]⟩, .string ⟨#[]⟩, .int .i64 0, .slice none 0 0, .slice none 0 0, .slice (some ⟨w.heap.size, 0, none⟩) 2 2, .int .i64 5, .int .i64 2, .string ⟨#[53, 57]⟩, .string ⟨#[]⟩, .int .i64 0, .slice none 0 0, .slice none 0 0, .slice (some ⟨w.heap.size + 1, 0, none⟩) 1 1] 27)).alloc (.cells #[.int .i64 0, .int .i64 0, .int .i64 0, .int .i64 0, .int .i64 0, .slice (some ⟨w.heap.size + 1 + 1, 0, none⟩) 2 2] 34)) (.slice (some ⟨w.heap.size + 1 + 1, 0, none⟩) 2 2) wkP.rules ∧ RuIn All ((((w.alloc (.cells #[.int .i64 1, .int .i64 1, .int .i64 4, .int .i64 2000] 45)).alloc (.cells #[.int .i64 4, .int .i64 100] 45)).alloc (.cells #[.int .i64 1, .int .i64 0, .string ⟨#[]⟩, .string ⟨#[]⟩, .int .i64 0, .slice none 0 0, .slice none 0 0, .slice (some ⟨w.heap.size, 0, none⟩) 2 2, .int .i64 5, .int .i64 2, .string ⟨#[53, 57]⟩, .string ⟨#[]⟩, .int .i64 0, .slice none 0 0, .slice none 0 0, .slice (some ⟨w.heap.size + 1, 0, none⟩) 1 1] 27)).alloc (.cells #[.int .i64 0, .int .i64 0, .int .i64 0, .int .i64 0, .int .i64 0, .slice (some ⟨w.heap.size + 1 + 1, 0, none⟩) 2 2] 34)) wkR1 (.slice none 0 0) (.slice none 0 0) (.slice (some ⟨w.heap.size + 1, 0, none⟩) 1 1) ∧ ((((w.alloc (.cells #[.int .i64 1, .int .i64 1, .int .i64 4, .int .i64 2000] 45)).alloc (.cells #[.int .i64 4, .int .i64 100] 45)).alloc (.cells #[.int .i64 1, .int .i64 0, .string ⟨#[]⟩, .string ⟨#[]⟩, .int .i64 0, .slice none 0 0, .slice none 0 0, .slice (some ⟨w.heap.size, 0, none⟩) 2 2, .int .i64 5, .int .i64 2, .string ⟨#[53, 57]⟩, .string ⟨#[]⟩, .int .i64 0, .slice none 0 0, .slice none 0 0, .slice (some ⟨w.heap.size + 1, 0, none⟩) 1 1] 27)).alloc (.cells #[.int .i64 0, .int .i64 0, .int .i64 0, .int .i64 0, .int .i64 0, .slice (some ⟨w.heap.size + 1 + 1, 0, none⟩) 2 2] 34)).heap[w.heap.size + 1 + 1]? = some (.cells #[.int .i64 1, .int .i64 0, .string ⟨#[]⟩, .string ⟨#[]⟩, .int .i64 0, .slice none 0 0, .slice none 0 0, .slice (some ⟨w.heap.size, 0, none⟩) 2 2, .int .i64 5, .int .i64 2, .string ⟨#[53, 57]⟩, .string ⟨#[]⟩, .int .i64 0, .slice none 0 0, .slice none 0 0, .slice (some ⟨w.heap.size + 1, 0, none⟩) 1 1] 27 (0, 0)) := by
  have b1 := below_alloc w (.cells #[.int .i64 1, .int .i64 1, .int .i64 4, .int .i64 2000] 45)
  have b2 := below_alloc (w.alloc (.cells #[.int .i64 1, .int .i64 1, .int .i64 4, .int .i64 2000] 45)) (.cells #[.int .i64 4, .int .i64 100] 45)
  have b3 := below_alloc ((w.alloc (.cells #[.int .i64 1, .int .i64 1, .int .i64 4, .int .i64 2000] 45)).alloc (.cells #[.int .i64 4, .int .i64 100] 45)) (.cells #[.int .i64 1, .int .i64 0, .string ⟨#[]⟩, .string ⟨#[]⟩, .int .i64 0, .slice none 0 0, .slice none 0 0, .slice (some ⟨w.heap.size, 0, none⟩) 2 2, .int .i64 5, .int .i64 2, .string ⟨#[53, 57]⟩, .string ⟨#[]⟩, .int .i64 0, .slice none 0 0, .slice none 0 0, .slice (some ⟨w.heap.size + 1, 0, none⟩) 1 1] 27)
  have b4 := below_alloc (((w.alloc (.cells #[.int .i64 1, .int .i64 1, .int .i64 4, .int .i64 2000] 45)).alloc (.cells #[.int .i64 4, .int .i64 100] 45)).alloc (.cells #[.int .i64 1, .int .i64 0, .string ⟨#[]⟩, .string ⟨#[]⟩, .int .i64 0, .slice none 0 0, .slice none 0 0, .slice (some ⟨w.heap.size, 0, none⟩) 2 2, .int .i64 5, .int .i64 2, .string ⟨#[53, 57]⟩, .string ⟨#[]⟩, .int .i64 0, .slice none 0 0, .slice none 0 0, .slice (some ⟨w.heap.size + 1, 0, none⟩) 1 1] 27)) (.cells #[.int .i64 0, .int .i64 0, .int .i64 0, .int .i64 0, .int .i64 0, .slice (some ⟨w.heap.size + 1 + 1, 0, none⟩) 2 2] 34)
  have z1 : (w.alloc (.cells #[.int .i64 1, .int .i64 1, .int .i64 4, .int .i64 2000] 45)).heap.size = w.heap.size + 1 := by simp
  have z2 : ((w.alloc (.cells #[.int .i64 1, .int .i64 1, .int .i64 4, .int .i64 2000] 45)).alloc (.cells #[.int .i64 4, .int .i64 100] 45)).heap.size = w.heap.size + 1 + 1 := by simp
  have z3 : (((w.alloc (.cells #[.int .i64 1, .int .i64 1, .int .i64 4, .int .i64 2000] 45)).alloc (.cells #[.int .i64 4, .int .i64 100] 45)).alloc (.cells #[.int .i64 1, .int .i64 0, .string ⟨#[]⟩, .string ⟨#[]⟩, .int .i64 0, .slice none 0 0, .slice none 0 0, .slice (some ⟨w.heap.size, 0, none⟩) 2 2, .int .i64 5, .int .i64 2, .string ⟨#[53, 57]⟩, .string ⟨#[]⟩, .int .i64 0, .slice none 0 0, .slice none 0 0, .slice (some ⟨w.heap.size + 1, 0, none⟩) 1 1] 27)).heap.size = w.heap.size + 1 + 1 + 1 := by simp
  have h1 := keepB (keepB (keepB (heap_alloc_new w (.cells #[.int .i64 1, .int .i64 1, .int .i64 4, .int .i64 2000] 45)) b2) b3) b4
  have h2 := heap_alloc_new (w.alloc (.cells #[.int .i64 1, .int .i64 1, .int .i64 4, .int .i64 2000] 45)) (.cells #[.int .i64 4, .int .i64 100] 45)
  rw [z1] at h2
  have h2 := keepB (keepB h2 b3) b4
  have h3 := heap_alloc_new ((w.alloc (.cells #[.int .i64 1, .int .i64 1, .int .i64 4, .int .i64 2000] 45)).alloc (.cells #[.int .i64 4, .int .i64 100] 45)) (.cells #[.int .i64 1, .int .i64 0, .string ⟨#[]⟩, .string ⟨#[]⟩, .int .i64 0, .slice none 0 0, .slice none 0 0, .slice (some ⟨w.heap.size, 0, none⟩) 2 2, .int .i64 5, .int .i64 2, .string ⟨#[53, 57]⟩, .string ⟨#[]⟩, .int .i64 0, .slice none 0 0, .slice none 0 0, .slice (some ⟨w.heap.size + 1, 0, none⟩) 1 1] 27)
  rw [z2] at h3
  have h3 := keepB h3 b4
  have h4 := heap_alloc_new (((w.alloc (.cells #[.int .i64 1, .int .i64 1, .int .i64 4, .int .i64 2000] 45)).alloc (.cells #[.int .i64 4, .int .i64 100] 45)).alloc (.cells #[.int .i64 1, .int .i64 0, .string ⟨#[]⟩, .string ⟨#[]⟩, .int .i64 0, .slice none 0 0, .slice none 0 0, .slice (some ⟨w.heap.size, 0, none⟩) 2 2, .int .i64 5, .int .i64 2, .string ⟨#[53, 57]⟩, .string ⟨#[]⟩, .int .i64 0, .slice none 0 0, .slice none 0 0, .slice (some ⟨w.heap.size + 1, 0, none⟩) 1 1] 27)) (.cells #[.int .i64 0, .int .i64 0, .int .i64 0, .int .i64 0, .int .i64 0, .slice (some ⟨w.heap.size + 1 + 1, 0, none⟩) 2 2] 34)
  rw [z3] at h4
  generalize (((w.alloc (.cells #[.int .i64 1, .int .i64 1, .int .i64 4, .int .i64 2000] 45)).alloc (.cells #[.int .i64 4, .int .i64 100] 45)).alloc (.cells #[.int .i64 1, .int .i64 0, .string ⟨#[]⟩, .string ⟨#[]⟩, .int .i64 0, .slice none 0 0, .slice none 0 0, .slice (some ⟨w.heap.size, 0, none⟩) 2 2, .int .i64 5, .int .i64 2, .string ⟨#[53, 57]⟩, .string ⟨#[]⟩, .int .i64 0, .slice none 0 0, .slice none 0 0, .slice (some ⟨w.heap.size + 1, 0, none⟩) 1 1] 27)).alloc (.cells #[.int .i64 0, .int .i64 0, .int .i64 0, .int .i64 0, .int .i64 0, .slice (some ⟨w.heap.size + 1 + 1, 0, none⟩) 2 2] 34) = W at *
  have s1 : StsAt All W (.slice (some ⟨w.heap.size, 0, none⟩) 2 2) wkR0.sets := sts_of (l := [⟨1, 1⟩, ⟨4, 2000⟩]) h1 (by decide) (by simp [Cm.I64]) (fun j x hj => by
    match j, hj with
    | 0, hj => simp at hj; subst hj; exact ⟨rfl, rfl⟩
    | 1, hj => simp at hj; subst hj; exact ⟨rfl, rfl⟩
    | n + 2, hj => simp at hj)
  have s2 : StsAt All W (.slice (some ⟨w.heap.size + 1, 0, none⟩) 1 1) wkR1.sets := sts_of (l := [⟨4, 100⟩]) h2 (by decide) (by simp [Cm.I64]) (fun j x hj => by
    match j, hj with
    | 0, hj => simp at hj; subst hj; exact ⟨rfl, rfl⟩
    | n + 1, hj => simp at hj)
  have i0 : RuIn All W wkR0 (.slice none 0 0) (.slice none 0 0) (.slice (some ⟨w.heap.size, 0, none⟩) 2 2) := ⟨by unfold Cm.I64; decide, ⟨by unfold Cm.I64; decide, by unfold Cm.I64; decide, by decide, by decide, by decide⟩, by decide, KsAt.nil _ _, KsAt.nil _ _, s1⟩
  have i1 : RuIn All W wkR1 (.slice none 0 0) (.slice none 0 0) (.slice (some ⟨w.heap.size + 1, 0, none⟩) 1 1) := ⟨by unfold Cm.I64; decide, ⟨by unfold Cm.I64; decide, by unfold Cm.I64; decide, by decide, by decide, by decide⟩, by decide, KsAt.nil _ _, KsAt.nil _ _, s2⟩
  refine ⟨below_trans (below_trans (below_trans b1 b2) b3) b4, h4, ⟨_, _, rfl, Nat.le_refl _, by decide, by decide, Or.inr ⟨_, _, rfl, trivial, (Array.getElem?_eq_some_iff.1 h3).1, fun j x hj => ?_⟩⟩, i1, h3⟩
  have c := fun j => cell_of_row W (w.heap.size + 1 + 1) j _ _ (0, 0) h3
  match j, hj with
  | 0, hj =>
    obtain rfl : wkR0 = x := Option.some.inj hj
    exact ⟨_, _, _, ⟨c 0, c 1, c 2, c 3, c 4, c 5, c 6, c 7⟩, i0⟩
  | 1, hj =>
    obtain rfl : wkR1 = x := Option.some.inj hj
    exact ⟨_, _, _, ⟨c 8, c 9, c 10, c 11, c 12, c 13, c 14, c 15⟩, i1⟩
  | n + 2, hj => simp [wkP] at hj
end Go.Proofs.Ytbokhiaiihpeeaa.Ul
