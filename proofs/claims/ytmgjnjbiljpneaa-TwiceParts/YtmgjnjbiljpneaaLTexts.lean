/-
  What slices.Equal (at texts) and the reference's Texts answer, as contracts: whether two rows are the same, part by part.
-/
import Derived.Test.YtmgjnjbiljpneaaLMem
set_option linter.unusedSimpArgs false
namespace Go.Proofs.Ytmgjnjbiljpneaa.Cm
open Go.RowKit

theorem takes_eq {α : Type} [DecidableEq α] (xs ys : List α) (k : Nat) (x y : α) (hx : xs[k]? = some x) (hy : ys[k]? = some y) (h : xs.take k = ys.take k) (he : x = y) : xs.take (k + 1) = ys.take (k + 1) := by
  rw [List.take_add_one, List.take_add_one, hx, hy, h, he]
theorem takes_ne {α : Type} [DecidableEq α] (xs ys : List α) (k : Nat) (x y : α) (hx : xs[k]? = some x) (hy : ys[k]? = some y) (he : x ≠ y) : decide (xs = ys) = false := by
  rw [decide_eq_false_iff_not]
  rintro rfl
  rw [hx] at hy
  exact he (Option.some.inj hy)
theorem takes_all {α : Type} [DecidableEq α] (xs ys : List α) (k : Nat) (hx : xs.length ≤ k) (hl : xs.length = ys.length) (h : xs.take k = ys.take k) : decide (xs = ys) = true := by
  rw [decide_eq_true_iff]
  rwa [List.take_of_length_le hx, List.take_of_length_le (by omega)] at h
theorem lens_ne {α : Type} [DecidableEq α] (xs ys : List α) (h : xs.length ≠ ys.length) : decide (xs = ys) = false := by
  rw [decide_eq_false_iff_not]
  rintro rfl
  exact h rfl
theorem mk_ne (x y : Tx) : ((mk x).toList == (mk y).toList) = decide (x = y) := by
  rw [Lib.toList_data, Lib.toList_data, mk_list, mk_list]
  rw [Bool.eq_iff_iff]
  simp
theorem rowAt_at {α : Type} {K : Nat → Prop} {R : World → Value → α → Prop} {w : World} {a : Option Addr} {xs : List α} (h : xs = [] ∨ ∃ b o, a = some ⟨b, o, none⟩ ∧ K b ∧ b < w.heap.size ∧ ∀ (j : Nat) x, xs[j]? = some x → ∃ u, w.cell? ⟨b, o + j, none⟩ = some u ∧ R w u x) (k : Nat) (hk : k < xs.length) :
    ∃ b o u, a = some ⟨b, o, none⟩ ∧ xs[k]? = some xs[k] ∧ w.cell? ⟨b, o + k, none⟩ = some u ∧ R w u xs[k] := by
  rcases h with h | ⟨b, o, ha, _, _, hc⟩
  · subst h; simp at hk
  · have hx := List.getElem?_eq_getElem hk
    obtain ⟨u, h1, h2⟩ := hc k _ hx
    exact ⟨b, o, u, ha, hx, h1, h2⟩

theorem quiet_sum {P : Program} {f : FuncId} {args : Array Value} {w : World} {q n : Nat} {v : Value}
    (h : Calls P f args (w.drewN (q + n)) fun e w' => e = .returned v ∧ ∃ m, w' = (w.drewN (q + n)).drewN m) : Calls P f args (w.drewN (q + n)) fun e w'' => e = .returned v ∧ ∃ n, w'' = w.drewN (q + n) :=
  h.mono fun _ _ ⟨he, m, hm⟩ => ⟨he, n + m, by rw [hm, World.drewN_drewN, Nat.add_assoc]⟩
set_option maxHeartbeats 2000000 in
theorem texts_any (v v' : Value) (xs ys : List Tx) (w : World) (h : TxAt All w v xs) (h' : TxAt All w v' ys) :
    Calls Try.prog 17 #[v, v'] w fun e w' => e = .returned (.bool (decide (xs = ys))) ∧ ∃ q, w' = w.drewN q := by
  obtain ⟨a, c, rfl, h1, h2, h3⟩ := h
  obtain ⟨a', c', rfl, h1', h2', h3'⟩ := h'
  have H3 := Lib.hid h3
  have H3' := Lib.hid h3'
  clear h3 h3'
  unfold maxLen at h2 h2'
  by_cases hl : xs.length = ys.length
  · have hlb : ((xs.length : Int) != (ys.length : Int)) = false := by rw [hl]; simp
    have HL := Lib.hid hl
    have hl2 : xs.length ≤ ys.length := by omega
    clear hl
    go_enter Try.func17, Try.ntmps17
    go_wp2
    go_loopg [5] (xs.length) (fun g i wr => ∃ (k q : Nat), k ≤ xs.length ∧ g = xs.length - k ∧ i = .int .i64 k ∧ wr = w.drewN q ∧ Hid (xs.take k = ys.take k))
    case atStart => exact ⟨0, 0, Nat.zero_le _, rfl, rfl, rfl, rfl⟩
    case round =>
      obtain ⟨k, q, hk, hg, rfl, rfl, HA⟩ := hrel
      by_cases hlt : k < xs.length
      · obtain ⟨b, o, u, rfl, hx, hu, hr⟩ := rowAt_at (K := All) (R := StrAt) H3.out k hlt
        have hlt' : k < ys.length := by omega
        obtain ⟨b', o', u', rfl, hx', hu', hr'⟩ := rowAt_at (K := All) (R := StrAt) H3'.out k hlt'
        obtain rfl : u = .string (mk xs[k]) := hr
        obtain rfl : u' = .string (mk ys[k]) := hr'
        have hn := mk_ne xs[k] ys[k]
        have HX := Lib.hid hx
        have HX' := Lib.hid hx'
        have HE := Lib.hid (takes_eq xs ys k _ _ hx hx' HA.out)
        have HN := Lib.hid (takes_ne xs ys k _ _ hx hx')
        clear hx hx'
        generalize mk xs[k] = X at *
        generalize mk ys[k] = Y at *
        by_cases he : xs[k] = ys[k]
        · rw [decide_eq_true he] at hn
          have HE2 := Lib.hid (HE.out he)
          clear he
          go_wp2_with fail
          go_quiet (fail)
          go_wp2
          go_roundg (xs.length - (k + 1))
          case rel => exact ⟨k + 1, q + nq, by omega, rfl, by go_num, by first | rfl | rw [World.drewN_drewN], HE2.out⟩
          case measure => omega
        · rw [decide_eq_false he] at hn
          have HE2 := Lib.hid (HN.out he)
          clear he
          go_wp2_with fail
          go_quiet (fail)
          go_wp2
          go_ret
          exact ⟨by rw [HE2.out]; rfl, q + nq, by first | rfl | rw [World.drewN_drewN]⟩
      · go_wp2
        go_ret
        exact ⟨by rw [takes_all xs ys k (by omega) HL.out HA.out]; rfl, _, rfl⟩
  · have hlb : ((xs.length : Int) != (ys.length : Int)) = true := by simp; omega
    have HN := Lib.hid (lens_ne xs ys hl)
    clear hl
    go_enter Try.func17, Try.ntmps17
    go_wp2
    go_ret
    exact ⟨by rw [HN.out]; rfl, 0, rfl⟩

theorem texts_b (v v' : Value) (xs ys : List Tx) (w : World) (h : TxAt All w v xs) (h' : TxAt All w v' ys) :
    Calls Try.prog 17 #[v, v'] w fun e w' => e = .returned (.bool (decide (xs = ys))) ∧ Below w.heap.size w w' :=
  (texts_any v v' xs ys w h h').mono fun _ _ ⟨h1, h2⟩ => ⟨h1, below_drewq h2⟩
end Go.Proofs.Ytmgjnjbiljpneaa.Cm
