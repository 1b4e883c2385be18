/-
  Texts put together (merge.py): ZPrice, CDiv0, CScl.
-/
import Derived.RegionTactic
import Derived.ChangeAlike
import Derived.Deep.QuietTactic
import Derived.BigQuiet
import Derived.Test.YtmoldgmfhcmceaaGreatDoorMp9
import Derived.Test.YtmoldgmfhcmceaaGreatDoorMp3
import Derived.Test.YtmoldgmfhcmceaaGreatDoorMp14
import Derived.Test.YtmoldgmfhcmceaaGreatDoorShelf
/-
  What a unit of a service costs with the first of its modifiers that the table has, or with none; what the service is allowed: over plain lists.
-/
section
set_option linter.unusedSimpArgs false
set_option linter.unusedVariables false
namespace Go.Proofs.YtmoldgmfhcmceaaGreatDoor.Fe
open Cm (Ln)

def firstF (l : List Fee) (x : Ln) (net : Int) : List Tx → Option Fee
  | [] => none
  | t :: r => if lookB ⟨x.proc, t, net, x.date⟩ l = true then lookF ⟨x.proc, t, net, x.date⟩ l else firstF l x net r
def priceF (l : List Fee) (x : Ln) (net : Int) : Option Fee := firstF l x net (x.mods ++ [[]])
def priceV (l : List Fee) (x : Ln) (net : Int) : Int := ((priceF l x net).map (·.cents)).getD 0
def priceB (l : List Fee) (x : Ln) (net : Int) : Bool := (priceF l x net).isSome
def allowV (l : List Fee) (x : Ln) (net : Int) : Int := if priceB l x net = true then (if Ce.scaleE (priceV l x net) x.units 1 ≠ 0 ∨ x.billed < Ce.scaleV (priceV l x net) x.units 1 then x.billed else Ce.scaleV (priceV l x net) x.units 1) else 0
theorem first_drop {l : List Fee} {x : Ln} {net : Int} {n : Nat} (h : n < x.mods.length) : firstF l x net (x.mods.drop n ++ [[]]) = if lookB ⟨x.proc, x.mods[n], net, x.date⟩ l = true then lookF ⟨x.proc, x.mods[n], net, x.date⟩ l else firstF l x net (x.mods.drop (n + 1) ++ [[]]) := by
  rw [List.drop_eq_getElem_cons h]; rfl
theorem price_hit {l : List Fee} {x : Ln} {net : Int} {b : Option Fee} {t : Tx} {V : Int} {s : List Tx} (h1 : firstF l x net s = firstF l x net (x.mods ++ [[]])) (h2 : firstF l x net s = if true = true then lookF ⟨x.proc, t, net, x.date⟩ l else b) (h3 : lookB ⟨x.proc, t, net, x.date⟩ l = true) (h4 : lookV ⟨x.proc, t, net, x.date⟩ l = V) : priceV l x net = V ∧ priceB l x net = true := by
  unfold priceV priceB priceF
  rw [← h1, h2, if_pos rfl]
  exact ⟨h4, h3⟩
theorem price_none {l : List Fee} {x : Ln} {net : Int} {n : Nat} (h : x.mods.length ≤ n) (h1 : firstF l x net (x.mods.drop n ++ [[]]) = firstF l x net (x.mods ++ [[]])) : priceV l x net = lookV ⟨x.proc, [], net, x.date⟩ l ∧ priceB l x net = lookB ⟨x.proc, [], net, x.date⟩ l := by
  rw [List.drop_eq_nil_of_le h] at h1
  unfold priceV priceB priceF
  rw [← h1]
  show ((if lookB ⟨x.proc, [], net, x.date⟩ l = true then lookF ⟨x.proc, [], net, x.date⟩ l else none).map (·.cents)).getD 0 = _ ∧ (if lookB ⟨x.proc, [], net, x.date⟩ l = true then lookF ⟨x.proc, [], net, x.date⟩ l else none).isSome = _
  cases hb : lookB ⟨x.proc, [], net, x.date⟩ l
  · rw [if_neg (by decide)]
    refine ⟨?_, rfl⟩
    unfold lookB at hb
    unfold lookV
    cases hf : lookF ⟨x.proc, [], net, x.date⟩ l with
    | none => rfl
    | some f => rw [hf] at hb; cases hb
  · rw [if_pos rfl]
    exact ⟨rfl, hb⟩
end Go.Proofs.YtmoldgmfhcmceaaGreatDoor.Fe
end

/-
  What bits.Mul64 and bits.Div64 answer where the product has at most 64 bits, as contracts.
-/
section
namespace Go.Proofs.YtmoldgmfhcmceaaGreatDoor.Ce
open Go.RowKit

theorem mul_any (x y : Int) (w : World) (x0 : 0 ≤ x) (x1 : x < 18446744073709551616) (y0 : 0 ≤ y) (y1 : y < 18446744073709551616) :
    Calls Tryz.prog 69 #[.int .u64 x, .int .u64 y] w fun e w' => e = .returned (.tuple #[.int .u64 (x * y / 18446744073709551616), .int .u64 (x * y % 18446744073709551616)]) ∧ w' = w := by
  have h := Tryz.bits_Mul64 x.toNat y.toNat (by omega) (by omega) w
  have ex : ((x.toNat : Nat) : Int) = x := by omega
  have ey : ((y.toNat : Nat) : Int) = y := by omega
  simp only [Int.natCast_ediv, Int.natCast_emod, Int.natCast_mul, ex, ey] at h
  exact h

theorem mul_small (x y p : Int) (w : World) (x0 : 0 ≤ x) (x1 : x < 18446744073709551616) (y0 : 0 ≤ y) (y1 : y < 18446744073709551616) (h : x * y = p) (hp : p < 18446744073709551616) :
    Calls Tryz.prog 69 #[.int .u64 x, .int .u64 y] w fun e w' => e = .returned (.tuple #[.int .u64 0, .int .u64 p]) ∧ w' = w := by
  refine (mul_any x y w x0 x1 y0 y1).mono ?_
  rintro e w' ⟨rfl, rfl⟩
  have p0 : 0 ≤ p := by rw [← h]; exact Int.mul_nonneg x0 y0
  have e1 : x * y / 18446744073709551616 = 0 := by rw [h]; omega
  have e2 : x * y % 18446744073709551616 = p := by rw [h]; omega
  rw [e1, e2]
  exact ⟨rfl, rfl⟩

theorem div_small (lo d : Int) (w : World) (l0 : 0 ≤ lo) (l1 : lo < 18446744073709551616) (d0 : 1 ≤ d) (d1 : d ≤ 9223372036854775807) :
    Calls Tryz.prog 70 #[.int .u64 0, .int .u64 lo, .int .u64 d] w fun e w' => e = .returned (.tuple #[.int .u64 (lo / d), .int .u64 (lo % d)]) ∧ ∃ k, w' = w.drewN k := by
  have hd : (d == 0) = false := by simp; omega
  go_enter Tryz.func70, Tryz.ntmps70
  go_wp2
  go_quiet (fail)
  go_wp2
  go_ret2
  exact ⟨rfl, _, rfl⟩

end Go.Proofs.YtmoldgmfhcmceaaGreatDoor.Ce
end

/-
  What cents.Scale and cents.Part answer where the product has at most 64 bits (so for every part, and wherever an argument is wrong), and what the law's own example 'works' answers, as contracts.
-/
section
namespace Go.Proofs.YtmoldgmfhcmceaaGreatDoor.Ce
open Go.RowKit

/-- A wrong argument: answered at once. -/
theorem scale_arg (a n d : Int) (w : World) (h : ¬ (good a = true ∧ 0 ≤ n ∧ 1 ≤ d)) :
    Calls Tryz.prog 44 #[.int .i64 a, .int .i64 n, .int .i64 d] w fun e w' => e = .returned (.tuple #[.int .i64 (scaleV a n d), .int .i64 (scaleE a n d)]) ∧ w' = w := by
  have e1 : scaleV a n d = 0 := by unfold scaleV; rw [if_neg]; intro hh; exact h ⟨hh.1, hh.2.1, hh.2.2.1⟩
  have e2 : scaleE a n d = 1 := by unfold scaleE; rw [if_neg h]
  rw [e1, e2]
  cases ga : good a
  · clear h
    go_enter Tryz.func44, Tryz.ntmps44
    go_wp2_with (go_at_call 55; refine (good_any _ _).mono ?_; rintro e w' ⟨rfl, rfl⟩)
    go_ret2
    exact ⟨rfl, rfl⟩
  · by_cases hn : n < 0
    · clear h
      go_enter Tryz.func44, Tryz.ntmps44
      go_wp2_with (go_at_call 55; refine (good_any _ _).mono ?_; rintro e w' ⟨rfl, rfl⟩)
      go_ret2
      exact ⟨rfl, rfl⟩
    · have hd : d < 1 := by
        refine Int.not_le.1 fun hh => h ⟨ga, by omega, by omega⟩
      clear h
      go_enter Tryz.func44, Tryz.ntmps44
      go_wp2_with (go_at_call 55; refine (good_any _ _).mono ?_; rintro e w' ⟨rfl, rfl⟩)
      go_ret2
      exact ⟨rfl, rfl⟩

/-- The product has at most 64 bits. -/
theorem scale_small (a n d p : Int) (w : World) (ga : good a = true) (n0 : 0 ≤ n) (n1 : n ≤ 9223372036854775807) (d0 : 1 ≤ d) (d1 : d ≤ 9223372036854775807) (hp : a * n = p) (hs : p < 18446744073709551616) :
    Calls Tryz.prog 44 #[.int .i64 a, .int .i64 n, .int .i64 d] w fun e w' => e = .returned (.tuple #[.int .i64 (scaleV a n d), .int .i64 (scaleE a n d)]) ∧ ∃ k, w' = w.drewN k := by
  obtain ⟨a0, a1⟩ := (good_iff a).1 ga
  have p0 : 0 ≤ p := by rw [← hp]; exact Int.mul_nonneg a0 n0
  have q0 : 0 ≤ p / d := Int.ediv_nonneg p0 (by omega)
  have q1 : p / d ≤ p := Int.ediv_le_self d p0
  by_cases hq : 10000000000000 < p / d
  · have gq : good (a * n / d) = false := (good_not _).2 (by rw [hp]; omega)
    have e1 : scaleV a n d = 0 := by simp [scaleV, gq]
    have e2 : scaleE a n d = 2 := by unfold scaleE; rw [if_pos ⟨ga, n0, d0⟩, if_neg (by simp [gq])]
    rw [e1, e2]
    clear gq e1 e2
    have H : Hid (a * n = p) := hp
    clear hp
    go_enter Tryz.func44, Tryz.ntmps44
    go_wp2_with (first | (go_at_call 55; refine (good_any _ _).mono ?_; rintro e w' ⟨rfl, rfl⟩) | (go_at_call 69; refine (mul_small _ _ p _ (by omega) (by omega) (by omega) (by omega) H.out hs).mono ?_; rintro e w' ⟨rfl, rfl⟩) | (go_at_call 70; refine (div_small _ _ _ (by omega) (by omega) (by omega) (by omega)).mono ?_; rintro e w' ⟨rfl, k, rfl⟩))
    go_ret2
    exact ⟨rfl, _, rfl⟩
  · have gq : good (a * n / d) = true := (good_iff _).2 (by rw [hp]; omega)
    have e1 : scaleV a n d = p / d := by unfold scaleV; rw [if_pos ⟨ga, n0, d0, gq⟩, hp]
    have e2 : scaleE a n d = 0 := by unfold scaleE; rw [if_pos ⟨ga, n0, d0⟩, if_pos gq]
    rw [e1, e2]
    clear gq e1 e2
    have H : Hid (a * n = p) := hp
    clear hp
    go_enter Tryz.func44, Tryz.ntmps44
    go_wp2_with (first | (go_at_call 55; refine (good_any _ _).mono ?_; rintro e w' ⟨rfl, rfl⟩) | (go_at_call 69; refine (mul_small _ _ p _ (by omega) (by omega) (by omega) (by omega) H.out hs).mono ?_; rintro e w' ⟨rfl, rfl⟩) | (go_at_call 70; refine (div_small _ _ _ (by omega) (by omega) (by omega) (by omega)).mono ?_; rintro e w' ⟨rfl, k, rfl⟩))
    go_ret2
    exact ⟨rfl, _, rfl⟩

/-- By 1, whatever comes in. -/
theorem scale_one (a n : Int) (w : World) (n1 : n ≤ 9223372036854775807) :
    Calls Tryz.prog 44 #[.int .i64 a, .int .i64 n, .int .i64 1] w fun e w' => e = .returned (.tuple #[.int .i64 (scaleV a n 1), .int .i64 (scaleE a n 1)]) ∧ ∃ k, w' = w.drewN k := by
  by_cases h : good a = true ∧ 0 ≤ n ∧ (1 : Int) ≤ 1
  · obtain ⟨ga, n0, -⟩ := h
    obtain ⟨a0, a1⟩ := (good_iff a).1 ga
    have p0 : 0 ≤ a * n := Int.mul_nonneg a0 n0
    by_cases hs : a * n < 18446744073709551616
    · exact scale_small a n 1 (a * n) w ga n0 n1 (by omega) (by omega) rfl hs
    · have gq : good (a * n / 1) = false := (good_not _).2 (by rw [Int.ediv_one]; omega)
      have e1 : scaleV a n 1 = 0 := by unfold scaleV; rw [if_neg]; intro h; rw [gq] at h; exact absurd h.2.2.2 (by decide)
      have e2 : scaleE a n 1 = 2 := by unfold scaleE; rw [if_pos ⟨ga, n0, by omega⟩, if_neg (by rw [gq]; decide)]
      rw [e1, e2]
      have hm := fun w => mul_any a n w a0 (by omega) n0 (by omega)
      obtain ⟨p, hp⟩ : ∃ p, Hid (a * n = p) := ⟨_, rfl⟩
      rw [hp.out] at p0 hm hs
      obtain ⟨hi, eh⟩ : ∃ hi, p / 18446744073709551616 = hi := ⟨_, rfl⟩
      obtain ⟨lo, el⟩ : ∃ lo, p % 18446744073709551616 = lo := ⟨_, rfl⟩
      rw [eh, el] at hm
      have h0 : 1 ≤ hi := by omega
      clear gq e1 e2 eh el
      go_enter Tryz.func44, Tryz.ntmps44
      go_wp2_with (first | (go_at_call 55; refine (good_any _ _).mono ?_; rintro e w' ⟨rfl, rfl⟩) | (go_at_call 69; refine (hm _).mono ?_; rintro e w' ⟨rfl, rfl⟩))
      go_ret2
      exact ⟨rfl, 0, rfl⟩
  · refine (scale_arg a n 1 w h).mono ?_
    rintro e w' ⟨rfl, rfl⟩
    exact ⟨rfl, 0, rfl⟩
end Go.Proofs.YtmoldgmfhcmceaaGreatDoor.Ce
end
