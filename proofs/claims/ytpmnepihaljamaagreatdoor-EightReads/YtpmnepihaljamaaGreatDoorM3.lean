/-
  Texts put together (merge.py): DDate, LMem, LTexts, LSameLn.
-/
import Derived.WalkKit
import Derived.Lib.Hide
import Derived.BigQuiet
import Derived.Deep.LoopGhost
import Derived.Deep.RegionHeld3
import Derived.WalkLawsBesides
import Derived.Test.YtpmnepihaljamaaGreatDoorProg
import Derived.Test.YtpmnepihaljamaaGreatDoorM1
import Derived.Test.YtpmnepihaljamaaGreatDoorM2
/-
  What date.leap, length, split, Good and Year answer, as contracts.
-/
section
namespace Go.Proofs.YtpmnepihaljamaaGreatDoor.Da
open Go.RowKit

/-- The table of the months' lengths lies in the program's first variable. -/
def Tab (w : World) : Prop := ∀ i : Nat, i < 12 → w.cell? ⟨1, i, none⟩ = some (.int .i64 (lens.getD i 0))

theorem leap_any (y : Int) (w : World) (h : 0 ≤ y) :
    Calls Tryz.prog 160 #[.int .i64 y] w fun e w' => e = .returned (.bool (leapB y)) ∧ w' = w := by
  unfold leapB
  cases h1 : (y % 4 == 0) <;> cases h2 : (y % 100 != 0) <;> cases h3 : (y % 400 == 0) <;>
  · go_enter Tryz.func160, Tryz.ntmps160
    go_wp2
    go_ret
    exact ⟨by first | rfl | simp [h1, h2, h3], rfl⟩

theorem tab_cells {w : World} (hT : Tab w) : w.cell? ⟨1, 0, none⟩ = some (.int .i64 31) ∧ w.cell? ⟨1, 1, none⟩ = some (.int .i64 28) ∧ w.cell? ⟨1, 2, none⟩ = some (.int .i64 31) ∧ w.cell? ⟨1, 3, none⟩ = some (.int .i64 30) ∧ w.cell? ⟨1, 4, none⟩ = some (.int .i64 31) ∧ w.cell? ⟨1, 5, none⟩ = some (.int .i64 30) ∧
    w.cell? ⟨1, 6, none⟩ = some (.int .i64 31) ∧ w.cell? ⟨1, 7, none⟩ = some (.int .i64 31) ∧ w.cell? ⟨1, 8, none⟩ = some (.int .i64 30) ∧ w.cell? ⟨1, 9, none⟩ = some (.int .i64 31) ∧ w.cell? ⟨1, 10, none⟩ = some (.int .i64 30) ∧ w.cell? ⟨1, 11, none⟩ = some (.int .i64 31) :=
  ⟨hT 0 (by decide), hT 1 (by decide), hT 2 (by decide), hT 3 (by decide), hT 4 (by decide), hT 5 (by decide), hT 6 (by decide), hT 7 (by decide), hT 8 (by decide), hT 9 (by decide), hT 10 (by decide), hT 11 (by decide)⟩

set_option maxHeartbeats 1000000 in
theorem length_any (y m : Int) (w : World) (hT : Tab w) (h : 0 ≤ y) (h1 : 1 ≤ m) (h2 : m ≤ 12) :
    Calls Tryz.prog 148 #[.int .i64 y, .int .i64 m] w fun e w' => e = .returned (.int .i64 (lenM y m)) ∧ w' = w := by
  obtain ⟨c0, c1, c2, c3, c4, c5, c6, c7, c8, c9, c10, c11⟩ := tab_cells hT
  clear hT
  rcases month_cases m h1 h2 with rfl | rfl | rfl | rfl | rfl | rfl | rfl | rfl | rfl | rfl | rfl | rfl
  case inr.inl =>
    cases b : leapB y
    · go_enter Tryz.func148, Tryz.ntmps148
      go_wp2_with (go_at_call 160; refine (leap_any _ _ h).mono ?_; rintro e w' ⟨rfl, rfl⟩)
      go_ret
      exact ⟨by simp [lenM, b, lenT, lens], rfl⟩
    · go_enter Tryz.func148, Tryz.ntmps148
      go_wp2_with (go_at_call 160; refine (leap_any _ _ h).mono ?_; rintro e w' ⟨rfl, rfl⟩)
      go_ret
      exact ⟨by simp [lenM, b], rfl⟩
  all_goals
    go_enter Tryz.func148, Tryz.ntmps148
    go_wp2
    go_ret
    exact ⟨rfl, rfl⟩

theorem quo_bd (n k : Int) (h : -9223372036854775808 ≤ n) (h' : n ≤ 9223372036854775807) (hk : 1 ≤ k) : -9223372036854775808 ≤ n.tdiv k ∧ n.tdiv k ≤ 9223372036854775807 := by
  have l : ∀ a : Int, 0 ≤ a → 0 ≤ a.tdiv k ∧ a.tdiv k ≤ a := fun a ha => by
    rw [Int.tdiv_eq_ediv_of_nonneg ha]
    exact ⟨Int.ediv_nonneg ha (by omega), Int.ediv_le_self _ ha⟩
  rcases Int.lt_or_le n 0 with c | c
  · have := l (-n) (by omega)
    rw [Int.neg_tdiv] at this
    omega
  · have := l n c
    omega

theorem split_any (n : Int) (w : World) (h : -9223372036854775808 ≤ n) (h' : n ≤ 9223372036854775807) :
    Calls Tryz.prog 134 #[.int .i64 n] w fun e w' => e = .returned (.tuple #[.int .i64 (yr n), .int .i64 (mo n), .int .i64 (da n)]) ∧ w' = w := by
  unfold yr mo da
  obtain ⟨b1, b2⟩ := quo_bd n 10000 h h' (by omega)
  obtain ⟨b3, b4⟩ := quo_bd n 100 h h' (by omega)
  go_enter Tryz.func134, Tryz.ntmps134
  go_wp2
  exact bodyPost_ret (v := .tuple #[.int .i64 (n.tdiv 10000), .int .i64 ((n.tdiv 100).tmod 100), .int .i64 (n.tmod 100)]) (by simp [results, Tryz.results134, go_sem]) rfl ⟨rfl, rfl⟩

theorem good_any (n : Int) (w : World) (hT : Tab w) (h : -9223372036854775808 ≤ n) (h' : n ≤ 9223372036854775807) :
    Calls Tryz.prog 132 #[.int .i64 n] w fun e w' => e = .returned (.bool (good n)) ∧ w' = w := by
  by_cases c1 : yr n < 1
  · have g : good n = false := by simp [good]; omega
    rw [g]
    go_enter Tryz.func132, Tryz.ntmps132
    go_wp2_with (go_at_call 134; refine (split_any _ _ h h').mono ?_; rintro e w' ⟨rfl, rfl⟩)
    go_ret
    exact ⟨rfl, rfl⟩
  by_cases c2 : yr n > 9999
  · have g : good n = false := by simp [good]; omega
    rw [g]
    go_enter Tryz.func132, Tryz.ntmps132
    go_wp2_with (go_at_call 134; refine (split_any _ _ h h').mono ?_; rintro e w' ⟨rfl, rfl⟩)
    go_ret
    exact ⟨rfl, rfl⟩
  by_cases c3 : mo n < 1
  · have g : good n = false := by simp [good]; omega
    rw [g]
    go_enter Tryz.func132, Tryz.ntmps132
    go_wp2_with (go_at_call 134; refine (split_any _ _ h h').mono ?_; rintro e w' ⟨rfl, rfl⟩)
    go_ret
    exact ⟨rfl, rfl⟩
  by_cases c4 : mo n > 12
  · have g : good n = false := by simp [good]; omega
    rw [g]
    go_enter Tryz.func132, Tryz.ntmps132
    go_wp2_with (go_at_call 134; refine (split_any _ _ h h').mono ?_; rintro e w' ⟨rfl, rfl⟩)
    go_ret
    exact ⟨rfl, rfl⟩
  by_cases c5 : 1 ≤ da n
  · by_cases c6 : da n ≤ lenM (yr n) (mo n)
    · have g : good n = true := by simp [good]; omega
      rw [g]
      go_enter Tryz.func132, Tryz.ntmps132
      go_wp2_with (first | (go_at_call 134; refine (split_any _ _ h h').mono ?_; rintro e w' ⟨rfl, rfl⟩) | (go_at_call 148; refine (length_any _ _ _ hT (by omega) (by omega) (by omega)).mono ?_; rintro e w' ⟨rfl, rfl⟩))
      go_ret
      exact ⟨rfl, rfl⟩
    · have g : good n = false := by simp [good]; omega
      have d6 : decide (da n ≤ lenM (yr n) (mo n)) = false := by simpa using c6
      rw [g]
      go_enter Tryz.func132, Tryz.ntmps132
      go_wp2_with (first | (go_at_call 134; refine (split_any _ _ h h').mono ?_; rintro e w' ⟨rfl, rfl⟩) | (go_at_call 148; refine (length_any _ _ _ hT (by omega) (by omega) (by omega)).mono ?_; rintro e w' ⟨rfl, rfl⟩))
      go_ret
      exact ⟨rfl, rfl⟩
  · have g : good n = false := by simp [good]; omega
    rw [g]
    go_enter Tryz.func132, Tryz.ntmps132
    go_wp2_with (go_at_call 134; refine (split_any _ _ h h').mono ?_; rintro e w' ⟨rfl, rfl⟩)
    go_ret
    exact ⟨rfl, rfl⟩

def yearV (n : Int) : Int := if good n = true then yr n else 0
theorem year_any (n : Int) (w : World) (hT : Tab w) (h : -9223372036854775808 ≤ n) (h' : n ≤ 9223372036854775807) :
    Calls Tryz.prog 109 #[.int .i64 n] w fun e w' => e = .returned (.int .i64 (yearV n)) ∧ w' = w := by
  cases g : good n
  · have e : yearV n = 0 := by simp [yearV, g]
    go_enter Tryz.func109, Tryz.ntmps109
    go_wp2_with (go_at_call 132; refine (good_any _ _ hT h h').mono ?_; rintro e w' ⟨rfl, rfl⟩)
    go_ret
    exact ⟨by rw [e]; rfl, rfl⟩
  · have e : yearV n = yr n := by simp [yearV, g]
    go_enter Tryz.func109, Tryz.ntmps109
    go_wp2_with (first | (go_at_call 132; refine (good_any _ _ hT h h').mono ?_; rintro e w' ⟨rfl, rfl⟩) | (go_at_call 134; refine (split_any _ _ h h').mono ?_; rintro e w' ⟨rfl, rfl⟩))
    go_ret
    exact ⟨by rw [e]; rfl, rfl⟩
end Go.Proofs.YtpmnepihaljamaaGreatDoor.Da
end

/-
  Services and claims as they lie in memory; what stands while the rest is written.
-/
section
set_option linter.unusedSimpArgs false
namespace Go.Proofs.YtpmnepihaljamaaGreatDoor.Cm
open Go.RowKit

abbrev lnv (x : Ln) (m : Value) : Value := .agg #[.string (mk x.proc), m, .int .i64 x.date, .int .i64 x.units, .int .i64 x.billed, .int .i64 x.prior]
abbrev clv (c : Cl) (m : Value) : Value := .agg #[.string (mk c.id), .string (mk c.mem), .string (mk c.fam), .int .i64 c.net, .int .i64 c.does, .string (mk c.ref), m]
def LnCells (w : World) (b o : Nat) (x : Ln) (m : Value) : Prop :=
  w.cell? ⟨b, o, none⟩ = some (.string (mk x.proc)) ∧ w.cell? ⟨b, o + 1, none⟩ = some m ∧ w.cell? ⟨b, o + 2, none⟩ = some (.int .i64 x.date) ∧ w.cell? ⟨b, o + 3, none⟩ = some (.int .i64 x.units) ∧ w.cell? ⟨b, o + 4, none⟩ = some (.int .i64 x.billed) ∧ w.cell? ⟨b, o + 5, none⟩ = some (.int .i64 x.prior)
def ClCells (w : World) (b o : Nat) (c : Cl) (m : Value) : Prop :=
  w.cell? ⟨b, o, none⟩ = some (.string (mk c.id)) ∧ w.cell? ⟨b, o + 1, none⟩ = some (.string (mk c.mem)) ∧ w.cell? ⟨b, o + 2, none⟩ = some (.string (mk c.fam)) ∧ w.cell? ⟨b, o + 3, none⟩ = some (.int .i64 c.net) ∧ w.cell? ⟨b, o + 4, none⟩ = some (.int .i64 c.does) ∧ w.cell? ⟨b, o + 5, none⟩ = some (.string (mk c.ref)) ∧ w.cell? ⟨b, o + 6, none⟩ = some m
def LnsAt (K : Nat → Prop) (w : World) (v : Value) (ls : List Ln) : Prop :=
  ∃ a c, v = .slice a ls.length c ∧ ls.length ≤ c ∧ c ≤ maxLen ∧ (ls = [] ∨ ∃ b o, a = some ⟨b, o, none⟩ ∧ K b ∧ b < w.heap.size ∧ ∀ (j : Nat) x, ls[j]? = some x → ∃ m, LnCells w b (o + j * 6) x m ∧ TxAt K w m x.mods)
def ClsAt (K : Nat → Prop) (w : World) (v : Value) (cs : List Cl) : Prop :=
  ∃ a c, v = .slice a cs.length c ∧ cs.length ≤ c ∧ c ≤ maxLen ∧ (cs = [] ∨ ∃ b o, a = some ⟨b, o, none⟩ ∧ K b ∧ b < w.heap.size ∧ ∀ (j : Nat) x, cs[j]? = some x → ∃ m, ClCells w b (o + j * 7) x m ∧ LnsAt K w m x.lines)

theorem LnCells.of {w w' : World} {b o : Nat} {x : Ln} {m : Value} (h : LnCells w b o x m) (he : w'.heap[b]? = w.heap[b]?) : LnCells w' b o x m := by
  obtain ⟨h0, h1, h2, h3, h4, h5⟩ := h
  refine ⟨?_, ?_, ?_, ?_, ?_, ?_⟩ <;> rw [World.cell?_of_block (w := w) he] <;> assumption
theorem ClCells.of {w w' : World} {b o : Nat} {x : Cl} {m : Value} (h : ClCells w b o x m) (he : w'.heap[b]? = w.heap[b]?) : ClCells w' b o x m := by
  obtain ⟨h0, h1, h2, h3, h4, h5, h6⟩ := h
  refine ⟨?_, ?_, ?_, ?_, ?_, ?_, ?_⟩ <;> rw [World.cell?_of_block (w := w) he] <;> assumption
theorem LnsAt.move {K K' : Nat → Prop} {w w' : World} {v : Value} {ls : List Ln} (h : LnsAt K w v ls) (hm : Moves K K' w w') : LnsAt K' w' v ls := by
  obtain ⟨a, c, rfl, h1, h2, h3⟩ := h
  refine ⟨a, c, rfl, h1, h2, h3.imp id ?_⟩
  rintro ⟨b, o, rfl, hk, hb, hc⟩
  obtain ⟨k', hh⟩ := hm.2 b hb hk
  refine ⟨b, o, rfl, k', Nat.lt_of_lt_of_le hb hm.1, fun j x hj => ?_⟩
  obtain ⟨m, hu, hr⟩ := hc j x hj
  exact ⟨m, hu.of hh, TxAt.move hr hm⟩
theorem ClsAt.move {K K' : Nat → Prop} {w w' : World} {v : Value} {cs : List Cl} (h : ClsAt K w v cs) (hm : Moves K K' w w') : ClsAt K' w' v cs := by
  obtain ⟨a, c, rfl, h1, h2, h3⟩ := h
  refine ⟨a, c, rfl, h1, h2, h3.imp id ?_⟩
  rintro ⟨b, o, rfl, hk, hb, hc⟩
  obtain ⟨k', hh⟩ := hm.2 b hb hk
  refine ⟨b, o, rfl, k', Nat.lt_of_lt_of_le hb hm.1, fun j x hj => ?_⟩
  obtain ⟨m, hu, hr⟩ := hc j x hj
  exact ⟨m, hu.of hh, LnsAt.move hr hm⟩
theorem LnsAt.get {K : Nat → Prop} {w : World} {a : Option Addr} {n c : Nat} {ls : List Ln} (h : LnsAt K w (.slice a n c) ls) (k : Nat) (hk : k < ls.length) :
    ∃ b o m, a = some ⟨b, o, none⟩ ∧ ls[k]? = some ls[k] ∧ LnCells w b (o + k * 6) ls[k] m ∧ TxAt K w m ls[k].mods := by
  obtain ⟨a', c', he, h1, h2, h3⟩ := h
  have ha : a = a' := by injection he
  subst ha
  rcases h3 with h | ⟨b, o, ha, _, _, hc⟩
  · subst h; simp at hk
  · have hx := List.getElem?_eq_getElem hk
    obtain ⟨m, q1, q2⟩ := hc k _ hx
    exact ⟨b, o, m, ha, hx, q1, q2⟩
theorem ClsAt.get {K : Nat → Prop} {w : World} {a : Option Addr} {n c : Nat} {ls : List Cl} (h : ClsAt K w (.slice a n c) ls) (k : Nat) (hk : k < ls.length) :
    ∃ b o m, a = some ⟨b, o, none⟩ ∧ ls[k]? = some ls[k] ∧ ClCells w b (o + k * 7) ls[k] m ∧ LnsAt K w m ls[k].lines := by
  obtain ⟨a', c', he, h1, h2, h3⟩ := h
  have ha : a = a' := by injection he
  subst ha
  rcases h3 with h | ⟨b, o, ha, _, _, hc⟩
  · subst h; simp at hk
  · have hx := List.getElem?_eq_getElem hk
    obtain ⟨m, q1, q2⟩ := hc k _ hx
    exact ⟨b, o, m, ha, hx, q1, q2⟩
theorem tx_get {K : Nat → Prop} {w : World} {a : Option Addr} {n c : Nat} {xs : List Tx} (h : TxAt K w (.slice a n c) xs) (k : Nat) (hk : k < xs.length) :
    ∃ b o, a = some ⟨b, o, none⟩ ∧ xs[k]? = some xs[k] ∧ w.cell? ⟨b, o + k, none⟩ = some (.string (mk xs[k])) := by
  obtain ⟨a', c', he, h1, h2, h3⟩ := h
  have ha : a = a' := by injection he
  subst ha
  rcases h3 with h | ⟨b, o, ha, _, _, hc⟩
  · subst h; simp at hk
  · have hx := List.getElem?_eq_getElem hk
    obtain ⟨m, q1, rfl⟩ := hc k _ hx
    exact ⟨b, o, ha, hx, q1⟩
theorem TxAt.form {K : Nat → Prop} {w : World} {v : Value} {xs : List Tx} (h : TxAt K w v xs) : ∃ a c, v = .slice a xs.length c ∧ xs.length ≤ c ∧ c ≤ 9223372036854775807 := by
  obtain ⟨a, c, rfl, h1, h2, _⟩ := h
  exact ⟨a, c, rfl, h1, by unfold maxLen at h2; exact h2⟩
theorem LnsAt.form {K : Nat → Prop} {w : World} {v : Value} {xs : List Ln} (h : LnsAt K w v xs) : ∃ a c, v = .slice a xs.length c ∧ xs.length ≤ c ∧ c ≤ 9223372036854775807 := by
  obtain ⟨a, c, rfl, h1, h2, _⟩ := h
  exact ⟨a, c, rfl, h1, by unfold maxLen at h2; exact h2⟩
theorem ClsAt.form {K : Nat → Prop} {w : World} {v : Value} {xs : List Cl} (h : ClsAt K w v xs) : ∃ a c, v = .slice a xs.length c ∧ xs.length ≤ c ∧ c ≤ 9223372036854775807 := by
  obtain ⟨a, c, rfl, h1, h2, _⟩ := h
  exact ⟨a, c, rfl, h1, by unfold maxLen at h2; exact h2⟩
theorem below_alloc (w : World) (o : Obj) : Below w.heap.size w (w.alloc o) := (Below.refl _ w).alloc (Nat.le_refl _) o
theorem below_trans {a b c : World} (h : Below a.heap.size a b) (k : Below b.heap.size b c) : Below a.heap.size a c := h.trans (k.mono h.size)
theorem below_drewq {w w' : World} (h : ∃ q, w' = w.drewN q) : Below w.heap.size w w' := by
  obtain ⟨q, rfl⟩ := h
  exact (Below.refl _ _).trans ⟨rfl, rfl, rfl, Nat.le_refl _, fun _ _ => rfl⟩
theorem below_eq {w w' : World} (h : w' = w) : Below w.heap.size w w' := by rw [h]; exact Below.refl _ _
theorem tab_below {w w' : World} (h : Da.Tab w) (hb : Below w.heap.size w w') : Da.Tab w' := fun i hi => by
  have c := h i hi
  rw [hb.cell (p := ⟨1, i, none⟩) (World.block_lt_of_cell? w ⟨1, i, none⟩ c)]
  exact c
/-- A service, a claim, in a box of the call's own. -/
def LnBox (w : World) (b : Nat) (x : Ln) (m : Value) : Prop :=
  w.cell? ⟨b, 0, none⟩ = some (.string (mk x.proc)) ∧ w.cell? ⟨b, 1, none⟩ = some m ∧ w.cell? ⟨b, 2, none⟩ = some (.int .i64 x.date) ∧ w.cell? ⟨b, 3, none⟩ = some (.int .i64 x.units) ∧ w.cell? ⟨b, 4, none⟩ = some (.int .i64 x.billed) ∧ w.cell? ⟨b, 5, none⟩ = some (.int .i64 x.prior)
def ClBox (w : World) (b : Nat) (c : Cl) (m : Value) : Prop :=
  w.cell? ⟨b, 0, none⟩ = some (.string (mk c.id)) ∧ w.cell? ⟨b, 1, none⟩ = some (.string (mk c.mem)) ∧ w.cell? ⟨b, 2, none⟩ = some (.string (mk c.fam)) ∧ w.cell? ⟨b, 3, none⟩ = some (.int .i64 c.net) ∧ w.cell? ⟨b, 4, none⟩ = some (.int .i64 c.does) ∧ w.cell? ⟨b, 5, none⟩ = some (.string (mk c.ref)) ∧ w.cell? ⟨b, 6, none⟩ = some m
theorem LnBox.new (w : World) (x : Ln) (m : Value) (t : TypeId) : LnBox (w.alloc (.cells #[.string (mk x.proc), m, .int .i64 x.date, .int .i64 x.units, .int .i64 x.billed, .int .i64 x.prior] t)) w.heap.size x m := by
  refine ⟨?_, ?_, ?_, ?_, ?_, ?_⟩ <;> simp
theorem ClBox.new (w : World) (c : Cl) (m : Value) (t : TypeId) : ClBox (w.alloc (.cells #[.string (mk c.id), .string (mk c.mem), .string (mk c.fam), .int .i64 c.net, .int .i64 c.does, .string (mk c.ref), m] t)) w.heap.size c m := by
  refine ⟨?_, ?_, ?_, ?_, ?_, ?_, ?_⟩ <;> simp
theorem LnBox.grw {w w' : World} {b : Nat} {x : Ln} {m : Value} (h : LnBox w b x m) (hb : Below w.heap.size w w') : LnBox w' b x m := by
  obtain ⟨h0, h1, h2, h3, h4, h5⟩ := h
  have hl := World.block_lt_of_cell? w _ h0
  refine ⟨?_, ?_, ?_, ?_, ?_, ?_⟩ <;> rw [World.cell?_of_block (w := w) (hb.block b hl)] <;> assumption
theorem ClBox.grw {w w' : World} {b : Nat} {x : Cl} {m : Value} (h : ClBox w b x m) (hb : Below w.heap.size w w') : ClBox w' b x m := by
  obtain ⟨h0, h1, h2, h3, h4, h5, h6⟩ := h
  have hl := World.block_lt_of_cell? w _ h0
  refine ⟨?_, ?_, ?_, ?_, ?_, ?_, ?_⟩ <;> rw [World.cell?_of_block (w := w) (hb.block b hl)] <;> assumption
end Go.Proofs.YtpmnepihaljamaaGreatDoor.Cm
end

/-
  What slices.Equal (at texts) and the reference's Texts answer, as contracts: whether two rows are the same, part by part.
-/
section
set_option linter.unusedSimpArgs false
namespace Go.Proofs.YtpmnepihaljamaaGreatDoor.Cm
open Go.RowKit

theorem takes_eq {α : Type} [DecidableEq α] (xs ys : List α) (k : Nat) (x y : α) (hx : xs[k]? = some x) (hy : ys[k]? = some y) (h : xs.take k = ys.take k) (he : x = y) : xs.take (k + 1) = ys.take (k + 1) := by
  rw [List.take_add_one, List.take_add_one, hx, hy, h, he]
theorem takes_ne {α : Type} [DecidableEq α] (xs ys : List α) (k : Nat) (x y : α) (hx : xs[k]? = some x) (hy : ys[k]? = some y) (he : x ≠ y) : decide (xs = ys) = false := by
  rw [decide_eq_false_iff_not]
  rintro rfl
  rw [hx] at hy
  exact he (Option.some.inj hy)
theorem takes_all {α : Type} [DecidableEq α] (xs ys : List α) (k : Nat) (hx : xs.length ≤ k) (hl : xs.length = ys.length) (h : xs.take k = ys.take k) : decide (xs = ys) = true := by
  rw [decide_eq_true_iff]
  rwa [List.take_of_length_le hx, List.take_of_length_le (by omega)] at h
theorem lens_ne {α : Type} [DecidableEq α] (xs ys : List α) (h : xs.length ≠ ys.length) : decide (xs = ys) = false := by
  rw [decide_eq_false_iff_not]
  rintro rfl
  exact h rfl
theorem mk_ne (x y : Tx) : ((mk x).toList == (mk y).toList) = decide (x = y) := by
  rw [Lib.toList_data, Lib.toList_data, mk_list, mk_list]
  rw [Bool.eq_iff_iff]
  simp
theorem rowAt_at {α : Type} {K : Nat → Prop} {R : World → Value → α → Prop} {w : World} {a : Option Addr} {xs : List α} (h : xs = [] ∨ ∃ b o, a = some ⟨b, o, none⟩ ∧ K b ∧ b < w.heap.size ∧ ∀ (j : Nat) x, xs[j]? = some x → ∃ u, w.cell? ⟨b, o + j, none⟩ = some u ∧ R w u x) (k : Nat) (hk : k < xs.length) :
    ∃ b o u, a = some ⟨b, o, none⟩ ∧ xs[k]? = some xs[k] ∧ w.cell? ⟨b, o + k, none⟩ = some u ∧ R w u xs[k] := by
  rcases h with h | ⟨b, o, ha, _, _, hc⟩
  · subst h; simp at hk
  · have hx := List.getElem?_eq_getElem hk
    obtain ⟨u, h1, h2⟩ := hc k _ hx
    exact ⟨b, o, u, ha, hx, h1, h2⟩

theorem quiet_sum {P : Program} {f : FuncId} {args : Array Value} {w : World} {q n : Nat} {v : Value}
    (h : Calls P f args (w.drewN (q + n)) fun e w' => e = .returned v ∧ ∃ m, w' = (w.drewN (q + n)).drewN m) : Calls P f args (w.drewN (q + n)) fun e w'' => e = .returned v ∧ ∃ n, w'' = w.drewN (q + n) :=
  h.mono fun _ _ ⟨he, m, hm⟩ => ⟨he, n + m, by rw [hm, World.drewN_drewN, Nat.add_assoc]⟩
set_option maxHeartbeats 2000000 in
theorem texts_any (v v' : Value) (xs ys : List Tx) (w : World) (h : TxAt All w v xs) (h' : TxAt All w v' ys) :
    Calls Tryz.prog 74 #[v, v'] w fun e w' => e = .returned (.bool (decide (xs = ys))) ∧ ∃ q, w' = w.drewN q := by
  obtain ⟨a, c, rfl, h1, h2, h3⟩ := h
  obtain ⟨a', c', rfl, h1', h2', h3'⟩ := h'
  have H3 := Lib.hid h3
  have H3' := Lib.hid h3'
  clear h3 h3'
  unfold maxLen at h2 h2'
  by_cases hl : xs.length = ys.length
  · have hlb : ((xs.length : Int) != (ys.length : Int)) = false := by rw [hl]; simp
    have HL := Lib.hid hl
    have hl2 : xs.length ≤ ys.length := by omega
    clear hl
    go_enter Tryz.func74, Tryz.ntmps74
    go_wp2
    go_loopg [5] (xs.length) (fun g i wr => ∃ (k q : Nat), k ≤ xs.length ∧ g = xs.length - k ∧ i = .int .i64 k ∧ wr = w.drewN q ∧ Hid (xs.take k = ys.take k))
    case atStart => exact ⟨0, 0, Nat.zero_le _, rfl, rfl, rfl, rfl⟩
    case round =>
      obtain ⟨k, q, hk, hg, rfl, rfl, HA⟩ := hrel
      by_cases hlt : k < xs.length
      · obtain ⟨b, o, u, rfl, hx, hu, hr⟩ := rowAt_at (K := All) (R := StrAt) H3.out k hlt
        have hlt' : k < ys.length := by omega
        obtain ⟨b', o', u', rfl, hx', hu', hr'⟩ := rowAt_at (K := All) (R := StrAt) H3'.out k hlt'
        obtain rfl : u = .string (mk xs[k]) := hr
        obtain rfl : u' = .string (mk ys[k]) := hr'
        have hn := mk_ne xs[k] ys[k]
        have HX := Lib.hid hx
        have HX' := Lib.hid hx'
        have HE := Lib.hid (takes_eq xs ys k _ _ hx hx' HA.out)
        have HN := Lib.hid (takes_ne xs ys k _ _ hx hx')
        clear hx hx'
        generalize mk xs[k] = X at *
        generalize mk ys[k] = Y at *
        by_cases he : xs[k] = ys[k]
        · rw [decide_eq_true he] at hn
          have HE2 := Lib.hid (HE.out he)
          clear he
          go_wp2_with fail
          go_quiet (fail)
          go_wp2
          go_roundg (xs.length - (k + 1))
          case rel => exact ⟨k + 1, q + nq, by omega, rfl, by go_num, by first | rfl | rw [World.drewN_drewN], HE2.out⟩
          case measure => omega
        · rw [decide_eq_false he] at hn
          have HE2 := Lib.hid (HN.out he)
          clear he
          go_wp2_with fail
          go_quiet (fail)
          go_wp2
          go_ret
          exact ⟨by rw [HE2.out]; rfl, q + nq, by first | rfl | rw [World.drewN_drewN]⟩
      · go_wp2
        go_ret
        exact ⟨by rw [takes_all xs ys k (by omega) HL.out HA.out]; rfl, _, rfl⟩
  · have hlb : ((xs.length : Int) != (ys.length : Int)) = true := by simp; omega
    have HN := Lib.hid (lens_ne xs ys hl)
    clear hl
    go_enter Tryz.func74, Tryz.ntmps74
    go_wp2
    go_ret
    exact ⟨by rw [HN.out]; rfl, 0, rfl⟩

set_option maxHeartbeats 2000000 in
theorem equal_any (v v' : Value) (xs ys : List Tx) (w : World) (h : TxAt All w v xs) (h' : TxAt All w v' ys) :
    Calls Tryz.prog 125 #[v, v'] w fun e w' => e = .returned (.bool (decide (xs = ys))) ∧ ∃ q, w' = w.drewN q := by
  obtain ⟨a, c, rfl, h1, h2, h3⟩ := h
  obtain ⟨a', c', rfl, h1', h2', h3'⟩ := h'
  have H3 := Lib.hid h3
  have H3' := Lib.hid h3'
  clear h3 h3'
  unfold maxLen at h2 h2'
  by_cases hl : xs.length = ys.length
  · have hlb : ((xs.length : Int) != (ys.length : Int)) = false := by rw [hl]; simp
    have HL := Lib.hid hl
    have hl2 : xs.length ≤ ys.length := by omega
    clear hl
    go_enter Tryz.func125, Tryz.ntmps125
    go_wp2
    go_loopg [13] (xs.length) (fun g i wr => ∃ (k q : Nat), k ≤ xs.length ∧ g = xs.length - k ∧ i = .int .i64 k ∧ wr = w.drewN q ∧ Hid (xs.take k = ys.take k))
    case atStart => exact ⟨0, 0, Nat.zero_le _, rfl, rfl, rfl, rfl⟩
    case round =>
      obtain ⟨k, q, hk, hg, rfl, rfl, HA⟩ := hrel
      by_cases hlt : k < xs.length
      · obtain ⟨b, o, u, rfl, hx, hu, hr⟩ := rowAt_at (K := All) (R := StrAt) H3.out k hlt
        have hlt' : k < ys.length := by omega
        obtain ⟨b', o', u', rfl, hx', hu', hr'⟩ := rowAt_at (K := All) (R := StrAt) H3'.out k hlt'
        obtain rfl : u = .string (mk xs[k]) := hr
        obtain rfl : u' = .string (mk ys[k]) := hr'
        have hn := mk_ne xs[k] ys[k]
        have HE := Lib.hid (takes_eq xs ys k _ _ hx hx' HA.out)
        have HN := Lib.hid (takes_ne xs ys k _ _ hx hx')
        clear hx hx'
        generalize mk xs[k] = X at *
        generalize mk ys[k] = Y at *
        by_cases he : xs[k] = ys[k]
        · rw [decide_eq_true he] at hn
          have HE2 := Lib.hid (HE.out he)
          clear he
          go_wp2_with fail
          go_quiet (fail)
          go_wp2
          go_roundg (xs.length - (k + 1))
          case rel => exact ⟨k + 1, q + nq, by omega, rfl, by go_num, by first | rfl | rw [World.drewN_drewN], HE2.out⟩
          case measure => omega
        · rw [decide_eq_false he] at hn
          have HE2 := Lib.hid (HN.out he)
          clear he
          go_wp2_with fail
          go_quiet (fail)
          go_wp2
          go_ret
          exact ⟨by rw [HE2.out]; rfl, q + nq, by first | rfl | rw [World.drewN_drewN]⟩
      · go_wp2
        go_ret
        exact ⟨by rw [takes_all xs ys k (by omega) HL.out HA.out]; rfl, _, rfl⟩
  · have hlb : ((xs.length : Int) != (ys.length : Int)) = true := by simp; omega
    have HN := Lib.hid (lens_ne xs ys hl)
    clear hl
    go_enter Tryz.func125, Tryz.ntmps125
    go_wp2
    go_ret
    exact ⟨by rw [HN.out]; rfl, 0, rfl⟩

theorem texts_b (v v' : Value) (xs ys : List Tx) (w : World) (h : TxAt All w v xs) (h' : TxAt All w v' ys) :
    Calls Tryz.prog 74 #[v, v'] w fun e w' => e = .returned (.bool (decide (xs = ys))) ∧ Below w.heap.size w w' :=
  (texts_any v v' xs ys w h h').mono fun _ _ ⟨h1, h2⟩ => ⟨h1, below_drewq h2⟩
theorem equal_b (v v' : Value) (xs ys : List Tx) (w : World) (h : TxAt All w v xs) (h' : TxAt All w v' ys) :
    Calls Tryz.prog 125 #[v, v'] w fun e w' => e = .returned (.bool (decide (xs = ys))) ∧ Below w.heap.size w w' :=
  (equal_any v v' xs ys w h h').mono fun _ _ ⟨h1, h2⟩ => ⟨h1, below_drewq h2⟩
end Go.Proofs.YtpmnepihaljamaaGreatDoor.Cm
end

/-
  What claim.sameLine and the reference's SameLine answer, as contracts: whether two services are the same.
-/
section
set_option linter.unusedSimpArgs false
namespace Go.Proofs.YtpmnepihaljamaaGreatDoor.Cm
open Go.RowKit
open Classical

abbrev boxl (x : Ln) (m : Value) : Obj := .cells #[.string (mk x.proc), m, .int .i64 x.date, .int .i64 x.units, .int .i64 x.billed, .int .i64 x.prior] 47
theorem ln_ne (x y : Ln) (h : decide (x.proc = y.proc) = false ∨ decide (x.mods = y.mods) = false ∨ decide (x.date = y.date) = false ∨ decide (x.units = y.units) = false ∨ decide (x.billed = y.billed) = false ∨ decide (x.prior = y.prior) = false) : decide (x = y) = false := by
  rw [decide_eq_false_iff_not]
  rintro rfl
  simp at h
theorem ln_same (x y : Ln) (h1 : decide (x.proc = y.proc) = true) (h3 : decide (x.date = y.date) = true) (h4 : decide (x.units = y.units) = true) (h5 : decide (x.billed = y.billed) = true) (h6 : decide (x.prior = y.prior) = true) (h2 : decide (x.mods = y.mods) = true) : decide (x = y) = true := by
  rw [decide_eq_true_eq] at *
  obtain ⟨p, m, d, u, b, r⟩ := x
  obtain ⟨p', m', d', u', b', r'⟩ := y
  simp at h1 h2 h3 h4 h5 h6
  simp [h1, h2, h3, h4, h5, h6]

set_option maxHeartbeats 4000000 in
theorem rsameLine_any (x y : Ln) (m m' : Value) (w : World) (hm : TxAt All w m x.mods) (hm' : TxAt All w m' y.mods) :
    Calls Tryz.prog 39 #[lnv x m, lnv y m'] w fun e w' => e = .returned (.bool (decide (x = y))) ∧ Below w.heap.size w w' := by
  have HG : Hid (∀ o1 o2, Below w.heap.size w ((w.alloc o1).alloc o2)) := fun o1 o2 => below_trans (below_alloc w o1) (below_alloc _ o2)
  have HE := Lib.hid fun o1 o2 => texts_b m m' x.mods y.mods ((w.alloc o1).alloc o2) (TxAt.move hm (Below.moves (HG.out o1 o2))) (TxAt.move hm' (Below.moves (HG.out o1 o2)))
  have HX : Hid (∀ w1, Below ((w.alloc (boxl x m)).alloc (boxl y m')).heap.size ((w.alloc (boxl x m)).alloc (boxl y m')) w1 → LnBox w1 w.heap.size x m ∧ LnBox w1 (w.heap.size + 1) y m') := fun w1 hb => by
    refine ⟨(LnBox.new w x m _).grw (below_trans (below_alloc _ _) hb), ?_⟩
    have := (LnBox.new (w.alloc (boxl x m)) y m' 47).grw hb
    rwa [show (w.alloc (boxl x m)).heap.size = w.heap.size + 1 from by simp] at this
  obtain ⟨a, c, rfl, -, -⟩ := TxAt.form hm
  obtain ⟨a', c', rfl, -, -⟩ := TxAt.form hm'
  clear hm hm'
  have e_proc := mk_ne x.proc y.proc
  have e_date : (x.date == y.date) = decide (x.date = y.date) := by rw [Bool.eq_iff_iff]; simp
  have n_date : (x.date != y.date) = !decide (x.date = y.date) := by rw [Bool.eq_iff_iff]; simp
  have e_units : (x.units == y.units) = decide (x.units = y.units) := by rw [Bool.eq_iff_iff]; simp
  have n_units : (x.units != y.units) = !decide (x.units = y.units) := by rw [Bool.eq_iff_iff]; simp
  have e_billed : (x.billed == y.billed) = decide (x.billed = y.billed) := by rw [Bool.eq_iff_iff]; simp
  have n_billed : (x.billed != y.billed) = !decide (x.billed = y.billed) := by rw [Bool.eq_iff_iff]; simp
  have e_prior : (x.prior == y.prior) = decide (x.prior = y.prior) := by rw [Bool.eq_iff_iff]; simp
  have n_prior : (x.prior != y.prior) = !decide (x.prior = y.prior) := by rw [Bool.eq_iff_iff]; simp
  cases h_proc : decide (x.proc = y.proc)
  · rw [h_proc] at e_proc
    have hF : decide (x = y) = false := ln_ne x y (by simp [h_proc])
    rw [hF]
    clear hF
    clear e_date e_units e_billed e_prior n_date n_units n_billed n_prior h_proc
    go_enter Tryz.func39, Tryz.ntmps39
    go_wp2
    go_ret
    exact ⟨rfl, HG.out _ _⟩
  rw [h_proc] at e_proc
  cases h_mods : decide (x.mods = y.mods)
  · rw [h_mods] at HE
    have hF : decide (x = y) = false := ln_ne x y (by simp [h_mods])
    rw [hF]
    clear hF
    clear e_date e_units e_billed e_prior n_date n_units n_billed n_prior h_proc h_mods
    go_enter Tryz.func39, Tryz.ntmps39
    go_wp2_with (first | (go_at_call 74; refine (HE.out _ _).mono ?_; rintro e w' ⟨rfl, hb⟩; have HB2 := Lib.hid (below_trans (HG.out _ _) hb); obtain ⟨⟨p0, p1, p2, p3, p4, p5⟩, r0, r1, r2, r3, r4, r5⟩ := HX.out _ hb; clear hb))
    go_ret
    exact ⟨rfl, HB2.out⟩
  rw [h_mods] at HE
  cases h_date : decide (x.date = y.date)
  · rw [h_date] at e_date n_date
    have hF : decide (x = y) = false := ln_ne x y (by simp [h_date])
    rw [hF]
    clear hF
    clear e_units e_billed e_prior n_units n_billed n_prior h_proc h_mods h_date
    go_enter Tryz.func39, Tryz.ntmps39
    go_wp2_with (first | (go_at_call 74; refine (HE.out _ _).mono ?_; rintro e w' ⟨rfl, hb⟩; have HB2 := Lib.hid (below_trans (HG.out _ _) hb); obtain ⟨⟨p0, p1, p2, p3, p4, p5⟩, r0, r1, r2, r3, r4, r5⟩ := HX.out _ hb; clear hb))
    go_ret
    exact ⟨rfl, HB2.out⟩
  rw [h_date] at e_date n_date
  cases h_units : decide (x.units = y.units)
  · rw [h_units] at e_units n_units
    have hF : decide (x = y) = false := ln_ne x y (by simp [h_units])
    rw [hF]
    clear hF
    clear e_billed e_prior n_billed n_prior h_proc h_mods h_date h_units
    go_enter Tryz.func39, Tryz.ntmps39
    go_wp2_with (first | (go_at_call 74; refine (HE.out _ _).mono ?_; rintro e w' ⟨rfl, hb⟩; have HB2 := Lib.hid (below_trans (HG.out _ _) hb); obtain ⟨⟨p0, p1, p2, p3, p4, p5⟩, r0, r1, r2, r3, r4, r5⟩ := HX.out _ hb; clear hb))
    go_ret
    exact ⟨rfl, HB2.out⟩
  rw [h_units] at e_units n_units
  cases h_billed : decide (x.billed = y.billed)
  · rw [h_billed] at e_billed n_billed
    have hF : decide (x = y) = false := ln_ne x y (by simp [h_billed])
    rw [hF]
    clear hF
    clear e_prior n_prior h_proc h_mods h_date h_units h_billed
    go_enter Tryz.func39, Tryz.ntmps39
    go_wp2_with (first | (go_at_call 74; refine (HE.out _ _).mono ?_; rintro e w' ⟨rfl, hb⟩; have HB2 := Lib.hid (below_trans (HG.out _ _) hb); obtain ⟨⟨p0, p1, p2, p3, p4, p5⟩, r0, r1, r2, r3, r4, r5⟩ := HX.out _ hb; clear hb))
    go_ret
    exact ⟨rfl, HB2.out⟩
  rw [h_billed] at e_billed n_billed
  cases h_prior : decide (x.prior = y.prior)
  · rw [h_prior] at e_prior n_prior
    have hF : decide (x = y) = false := ln_ne x y (by simp [h_prior])
    rw [hF]
    clear hF
    clear h_proc h_mods h_date h_units h_billed h_prior
    go_enter Tryz.func39, Tryz.ntmps39
    go_wp2_with (first | (go_at_call 74; refine (HE.out _ _).mono ?_; rintro e w' ⟨rfl, hb⟩; have HB2 := Lib.hid (below_trans (HG.out _ _) hb); obtain ⟨⟨p0, p1, p2, p3, p4, p5⟩, r0, r1, r2, r3, r4, r5⟩ := HX.out _ hb; clear hb))
    go_ret
    exact ⟨rfl, HB2.out⟩
  rw [h_prior] at e_prior n_prior
  have hF : decide (x = y) = true := ln_same x y h_proc h_date h_units h_billed h_prior h_mods
  rw [hF]
  clear hF h_proc h_mods h_date h_units h_billed h_prior
  go_enter Tryz.func39, Tryz.ntmps39
  go_wp2_with (first | (go_at_call 74; refine (HE.out _ _).mono ?_; rintro e w' ⟨rfl, hb⟩; have HB2 := Lib.hid (below_trans (HG.out _ _) hb); obtain ⟨⟨p0, p1, p2, p3, p4, p5⟩, r0, r1, r2, r3, r4, r5⟩ := HX.out _ hb; clear hb))
  go_ret
  exact ⟨rfl, HB2.out⟩
end Go.Proofs.YtpmnepihaljamaaGreatDoor.Cm
end
