/-
  What words.Join, and the reference's Join and Same, answer, as contracts; the example of the statements holds.
-/
import Derived.Test.YtlabekdigehnnaaWRef
import Derived.Test.YtlabekdigehnnaaShelf
import Derived.BigQuiet
import Derived.Deep.DeepCutAuto
set_option linter.unusedSimpArgs false
set_option linter.unusedVariables false
namespace Go.Proofs.Ytlabekdigehnnaa.Wo
open Go.RowKit

theorem sum_many : ∀ xs : List Tx, xs.length ≤ (xs.map fun x => 1 + x.length).sum
  | [] => by simp
  | x :: r => by have := sum_many r; simp only [List.length_cons, List.map_cons, List.sum_cons]; omega
theorem join_many (c : UInt8) (xs : List Tx) : xs.length ≤ (joinC c xs).length + 1 := by
  by_cases h : xs = []
  · subst h; simp
  · rw [join_len c xs h]; exact sum_many xs
theorem strings_join (v : Value) (xs : List Tx) (c : UInt8) (w : World) (h : TxAt All w v xs) (hl : (joinC c xs).length ≤ 1000000) :
    Calls Try.prog 20 #[v, .string (mk [c])] w fun e w' => e = .returned (.string (mk (joinC c xs))) ∧ Below w.heap.size w w' := by
  obtain ⟨a, cap, rfl, h1, h2, h3⟩ := h
  rcases h3 with rfl | ⟨b, o, rfl, _, hb, hc⟩
  · refine (Try.strings_Join_none a cap _ w).mono ?_
    rintro e w' ⟨rfl, rfl⟩
    exact ⟨rfl, Below.refl _ _⟩
  · have e1 : (xs.map mk).map (·.data.toList) = xs := by
      rw [List.map_map]
      conv => rhs; rw [← List.map_id xs]
      exact List.map_congr_left fun x _ => mk_list x
    have e2 : (xs.map mk).length = xs.length := List.length_map ..
    have e3 : (mk [c]).data.toList = [c] := mk_list _
    have := Try.strings_Join b o cap (xs.map mk) (mk [c]) w (fun j x hx => by
      rw [List.getElem?_map, Option.map_eq_some_iff] at hx
      obtain ⟨y, hy, rfl⟩ := hx
      obtain ⟨u, hu, rfl⟩ := hc j y hy
      exact hu) hb (by rw [e2]; have := join_many c xs; omega) (by rw [e2]; exact h1) (by rw [e1, e3]; exact Nat.le_trans hl (by omega))
    rw [e1, e2, e3] at this
    exact this
set_option maxHeartbeats 1000000 in
theorem join_any (v : Value) (xs : List Tx) (w : World) (h : TxAt All w v xs) (hl : (joinC 32 xs).length ≤ 1000000) :
    Calls Try.prog 12 #[v] w fun e w' => e = .returned (.string (mk (joinC 32 xs))) ∧ Below w.heap.size w w' := by
  have HJ : Hid (Calls Try.prog 20 #[v, .string ⟨#[32]⟩] w _) := strings_join v xs 32 w h hl
  obtain ⟨a, c, rfl, -, -, -⟩ := h
  go_enter Try.func12, Try.ntmps12
  go_wp2_with (go_at_call 20; refine HJ.out.mono ?_; rintro e w1 ⟨rfl, hb⟩; have HB := Lib.hid hb; clear hb)
  go_ret
  exact ⟨rfl, HB.out⟩

theorem mk_cat (a b : Tx) : mk a ++ mk b = mk (a ++ b) := by
  apply ByteArray.ext
  simp [mk]
theorem join_take (c : UInt8) (xs : List Tx) (k : Nat) (x : Tx) (hx : xs[k]? = some x) : joinC c (xs.take (k + 1)) = (if k = 0 then [] else joinC c (xs.take k) ++ [c]) ++ x := by
  cases xs with
  | nil => simp at hx
  | cons y r =>
    cases k with
    | zero =>
      simp at hx
      subst hx
      simp [joinC_one]
    | succ k =>
      rw [List.getElem?_cons_succ] at hx
      unfold joinC
      rw [List.take_succ_cons, Lib.join_cons, List.take_succ_cons, Lib.join_cons, Lib.joinTail_take_succ [c] r k x hx, if_neg (by omega)]
      simp
theorem tx_get {K : Nat → Prop} {w : World} {a : Option Addr} {n c : Nat} {xs : List Tx} (h : TxAt K w (.slice a n c) xs) (k : Nat) (hk : k < xs.length) :
    ∃ b o, a = some ⟨b, o, none⟩ ∧ xs[k]? = some xs[k] ∧ w.cell? ⟨b, o + k, none⟩ = some (.string (mk xs[k])) := by
  obtain ⟨a', c', he, h1, h2, h3⟩ := h
  have ha : a = a' := by injection he
  subst ha
  rcases h3 with h | ⟨b, o, ha, _, _, hc⟩
  · subst h; simp at hk
  · have hx := List.getElem?_eq_getElem hk
    obtain ⟨m, q1, rfl⟩ := hc k _ hx
    exact ⟨b, o, ha, hx, q1⟩
theorem join_len_take (c : UInt8) (xs : List Tx) (k : Nat) : (joinC c (xs.take k)).length ≤ (joinC c xs).length := by
  by_cases h : xs.take k = []
  · rw [h]; exact Nat.zero_le _
  · have h' : xs ≠ [] := fun e => h (by rw [e]; simp)
    have e1 := join_len c _ h
    have e2 := join_len c _ h'
    have e3 : ((xs.take k).map fun x => 1 + x.length).sum ≤ (xs.map fun x => 1 + x.length).sum := by
      conv => rhs; rw [← List.take_append_drop k xs]
      rw [List.map_append, List.sum_append]
      omega
    omega
set_option maxHeartbeats 2000000 in
theorem rjoin_any (v : Value) (xs : List Tx) (w : World) (h : TxAt All w v xs) (hl : (joinC 32 xs).length ≤ 1000000) :
    Calls Try.prog 13 #[v] w fun e w' => e = .returned (.string (mk (joinC 32 xs))) ∧ w' = w := by
  have HT := Lib.hid h
  obtain ⟨a, c, rfl, h1, h2, -⟩ := h
  unfold maxLen at h2
  go_enter Try.func13, Try.ntmps13
  go_wp2
  go_loop [3, 4] (fun o i => ∃ (k : Nat) (O : ByteArray), k ≤ xs.length ∧ i = .int .i64 k ∧ o = .string O ∧ O.size ≤ 1000000 ∧ Hid (O = mk (joinC 32 (xs.take k)))) (fun _ i => xs.length - (intOf i).toNat)
  case atStart => exact ⟨0, ⟨#[]⟩, Nat.zero_le _, rfl, rfl, by decide, rfl⟩
  case round =>
    obtain ⟨k, O, hk, rfl, rfl, hO, HO⟩ := hrel
    by_cases hlt : k < xs.length
    · obtain ⟨b, o, rfl, hx, hu⟩ := tx_get HT.out k hlt
      have hj := join_take 32 xs k _ hx
      have hjl := Nat.le_trans (join_len_take 32 xs (k + 1)) hl
      have HJL := Lib.hid hjl
      have hxs : (mk xs[k]).size ≤ 1000000 := by rw [mk_size]; rw [hj, List.length_append] at hjl; omega
      have HJ := Lib.hid hj
      generalize xs[k] = x at *
      clear hx hj hjl
      rcases Nat.eq_zero_or_pos k with hz | hz
      · have hk0 : ¬ 0 < (k : Int) := by omega
        have HZ := Lib.hid hz
        clear hz
        go_wp2
        go_round
        case rel =>
          have he : O ++ mk x = mk (joinC 32 (xs.take (k + 1))) := by rw [HJ.out, if_pos HZ.out, HO.out, HZ.out]; exact mk_cat _ _
          exact ⟨k + 1, _, by omega, by go_num, rfl, by rw [he, mk_size]; exact HJL.out, he⟩
        case measure => simp [intOf]; omega
      · have hk0 : 0 < (k : Int) := by omega
        have HZ : Hid (¬ k = 0) := by show ¬ _; omega
        clear hz
        go_wp2
        go_round
        case rel =>
          have he : O ++ ⟨#[32]⟩ ++ mk x = mk (joinC 32 (xs.take (k + 1))) := by rw [HJ.out, if_neg HZ.out, HO.out, ← mk_cat, ← mk_cat]; rfl
          exact ⟨k + 1, _, by omega, by go_num, rfl, by rw [he, mk_size]; exact HJL.out, he⟩
        case measure => simp [intOf]; omega
    · go_wp2
      go_ret
      exact ⟨by rw [HO.out, List.take_of_length_le (by omega)]; rfl, rfl⟩

set_option maxHeartbeats 2000000 in
theorem same_any (v u : Value) (ws : List Wd) (w : World) (h : WdsAt All w v ws) (h' : WdsAt All w u ws) (hl : ws.length ≤ 1000000) :
    Calls Try.prog 11 #[v, u] w fun e w' => e = .returned (.bool true) ∧ Below w.heap.size w w' := by
  have HT := Lib.hid h
  have HU := Lib.hid h'
  obtain ⟨a, c, rfl, h1, h2, -⟩ := h
  obtain ⟨a', c', rfl, h1', h2', -⟩ := h'
  unfold maxLen at h2 h2'
  go_enter Try.func11, Try.ntmps11
  go_wp2
  go_loopg [5] (ws.length) (fun g i wr => ∃ k : Nat, k ≤ ws.length ∧ g = ws.length - k ∧ i = .int .i64 k ∧ Hid (Below w.heap.size w wr))
  case atStart => exact ⟨0, Nat.zero_le _, rfl, rfl, Below.refl _ _⟩
  case round =>
    obtain ⟨k, hk, hg, rfl, HB⟩ := hrel
    by_cases hlt : k < ws.length
    · obtain ⟨b, o, rfl, -, -, c1, c2⟩ := WdsAt.get (WdsAt.move HT.out (Below.moves HB.out)) k hlt
      obtain ⟨b', o', rfl, -, -, d1, d2⟩ := WdsAt.get (WdsAt.move HU.out (Below.moves HB.out)) k hlt
      generalize mk ws[k].1 = x at *
      generalize ((ws[k].2 : Nat) : Int) = y at *
      go_wp2
      go_region
      all_goals
        go_wp2
        go_roundg (ws.length - (k + 1))
        case rel => exact ⟨k + 1, by omega, rfl, by go_num, Below.drew HB.out⟩
        case measure => omega
    · go_wp2
      go_ret
      exact ⟨rfl, HB.out⟩
theorem infoS : ∃ i, Try.prog.info? 9 = some i ∧ i.zero = some (.string ByteArray.empty) ∧ i.size = 1 ∧ i.bytes = 16 := by
  have hi : (Try.prog.info? 9).map (fun i => (i.zero, i.size, i.bytes)) = some (some (.string ByteArray.empty), 1, 16) := by kernel_rfl
  cases hq : Try.prog.info? 9 with
  | none => rw [hq] at hi; cases hi
  | some i =>
    rw [hq] at hi
    simp only [Option.map_some, Option.some.injEq, Prod.mk.injEq] at hi
    exact ⟨i, rfl, hi⟩
theorem lit1 : spE [114, 117, 108, 101, 32, 53, 32, 40, 97, 108, 108, 41, 10, 49, 50, 46, 53, 48] = 0 ∧ spA [114, 117, 108, 101, 32, 53, 32, 40, 97, 108, 108, 41, 10, 49, 50, 46, 53, 48] = 0 ∧ spV [114, 117, 108, 101, 32, 53, 32, 40, 97, 108, 108, 41, 10, 49, 50, 46, 53, 48] = [([114, 117, 108, 101], 0), ([53], 5), ([40], 7), ([97, 108, 108], 8), ([41], 11), ([49, 50, 46, 53, 48], 13)] := by decide
theorem lit2 : spE [97, 44, 98] = 4 ∧ spA [97, 44, 98] = 1 ∧ spV [97, 44, 98] = [] := by decide
theorem two_at (w : World) : TxAt All (w.alloc (.cells #[.string ⟨#[97]⟩, .string ⟨#[98]⟩] 9)) (.slice (some ⟨w.heap.size, 0, none⟩) 2 2) [[97], [98]] := by
  refine ⟨_, 2, rfl, by decide, by simp [maxLen], Or.inr ⟨w.heap.size, 0, rfl, trivial, by simp, fun j x hj => ?_⟩⟩
  have h := heap_alloc_new w (.cells #[.string ⟨#[97]⟩, .string ⟨#[98]⟩] 9)
  match j, hj with
  | 0, hj => simp at hj; subst hj; exact ⟨_, by rw [cell_of_row _ _ _ _ _ _ h]; rfl, rfl⟩
  | 1, hj => simp at hj; subst hj; exact ⟨_, by rw [cell_of_row _ _ _ _ _ _ h]; rfl, rfl⟩
set_option maxHeartbeats 4000000 in
theorem works_any (w : World) : Calls Try.prog 8 #[] w fun e w' => e = .returned (.bool true) ∧ Below w.heap.size w w' := by
  have HS1 : Hid (∀ W, Calls Try.prog 9 #[.string ⟨#[114, 117, 108, 101, 32, 53, 32, 40, 97, 108, 108, 41, 10, 49, 50, 46, 53, 48]⟩] W fun e w' => (∃ u, e = .returned (.tuple #[u, .agg #[.int .i64 0, .int .i64 0]]) ∧ WdsAt (fun b => W.heap.size ≤ b) w' u [([114, 117, 108, 101], 0), ([53], 5), ([40], 7), ([97, 108, 108], 8), ([41], 11), ([49, 50, 46, 53, 48], 13)]) ∧ Below W.heap.size W w') := fun W => by
    have := split_any ⟨#[114, 117, 108, 101, 32, 53, 32, 40, 97, 108, 108, 41, 10, 49, 50, 46, 53, 48]⟩ W (by decide)
    rw [lit1.1, lit1.2.1, lit1.2.2] at this
    exact this
  have HS2 : Hid (∀ W, Calls Try.prog 9 #[.string ⟨#[97, 44, 98]⟩] W fun e w' => (∃ u, e = .returned (.tuple #[u, .agg #[.int .i64 4, .int .i64 1]]) ∧ WdsAt (fun b => W.heap.size ≤ b) w' u []) ∧ Below W.heap.size W w') := fun W => by
    have := split_any ⟨#[97, 44, 98]⟩ W (by decide)
    rw [lit2.1, lit2.2.1, lit2.2.2] at this
    exact this
  have HJ : Hid (∀ W : World, Calls Try.prog 12 #[.slice (some ⟨W.heap.size, 0, none⟩) 2 2] (W.alloc (.cells #[.string ⟨#[97]⟩, .string ⟨#[98]⟩] 9)) fun e w' => e = .returned (.string ⟨#[97, 32, 98]⟩) ∧ Below (W.alloc (.cells #[.string ⟨#[97]⟩, .string ⟨#[98]⟩] 9)).heap.size (W.alloc (.cells #[.string ⟨#[97]⟩, .string ⟨#[98]⟩] 9)) w') := fun W => join_any _ _ _ (two_at W) (by decide)
  go_enter Try.func8, Try.ntmps8
  go_wp2_with fail
  go_at_call 9
  refine (HS1.out _).mono ?_
  rintro e w1 ⟨⟨u, rfl, hu⟩, hb1⟩
  have HB1 := Lib.hid hb1
  have HU := Lib.hid hu
  obtain ⟨a, c, rfl, q1, q2⟩ := WdsAt.form hu
  clear hb1 hu
  go_wp2_with fail
  go_at_call 9
  refine (HS2.out _).mono ?_
  rintro e w2 ⟨⟨u2, rfl, hu2⟩, hb2⟩
  have HB12 := Lib.hid (below_trans HB1.out (below_trans (below_alloc w1 _) hb2))
  have hb3 := below_alloc w2 (.cells #[.int .i64 4, .int .i64 1] 26)
  obtain ⟨k0, k1, -, -⟩ := box_two (keepB (heap_alloc_new w1 (.cells #[.int .i64 0, .int .i64 0] 26)) (below_trans hb2 hb3))
  obtain ⟨p0, p1, -, -⟩ := box_two (heap_alloc_new w2 (.cells #[.int .i64 4, .int .i64 1] 26))
  have HU2 := Lib.hid (WdsAt.move HU.out (K' := All) (Moves.trans (moves_weak w1 fun _ _ _ => trivial) (Below.moves (below_trans (below_alloc w1 _) (below_trans hb2 hb3)))))
  obtain ⟨b, o, rfl, hbs, -, c3, -⟩ := WdsAt.get HU2.out 3 (by decide)
  obtain ⟨b', o', eb, -, -, -, c5⟩ := WdsAt.get HU2.out 5 (by decide)
  simp only [Option.some.injEq, Addr.mk.injEq, and_true] at eb
  obtain ⟨rfl, rfl⟩ := eb
  have c3' : (w2.alloc (.cells #[.int .i64 4, .int .i64 1] 26)).cell? ⟨b, o + 6, none⟩ = some (.string ⟨#[97, 108, 108]⟩) := c3
  have c5' : (w2.alloc (.cells #[.int .i64 4, .int .i64 1] 26)).cell? ⟨b, o + 11, none⟩ = some (.int .i64 13) := c5
  obtain ⟨a2, c2, rfl, -, -⟩ := WdsAt.form hu2
  have HJ2 := Lib.hid (HJ.out (w2.alloc (.cells #[.int .i64 4, .int .i64 1] 26)))
  have HB3 := Lib.hid (below_trans HB12.out hb3)
  clear hu2 hb2 c3 c5 hbs HU HU2 HJ HS1 HS2 HB12 hb3 HB1
  go_upto_region 3 with fail
  generalize w2.alloc (.cells #[.int .i64 4, .int .i64 1] 26) = w4 at *
  go_wp2_with (go_at_call 12; refine HJ2.out.mono ?_; rintro e w3 ⟨rfl, hb3⟩; have HB4 := Lib.hid hb3; clear hb3)
  go_ret
  exact ⟨rfl, below_trans HB3.out (below_trans (below_alloc _ _) HB4.out)⟩
end Go.Proofs.Ytlabekdigehnnaa.Wo
