/-
  Texts put together (merge.py): NMon, WRef, WJoin.
-/
import Derived.BigQuiet
import Derived.Deep.DeepCutAuto
import Derived.Test.YtmoldgmfhcmceabGreatDoorMl28
import Derived.Test.YtmoldgmfhcmceabGreatDoorMl27
import Derived.Test.YtmoldgmfhcmceabGreatDoorShelf
/-
  What digits.Money answers, as a contract: for every int64.
-/
section
namespace Go.Proofs.YtmoldgmfhcmceabGreatDoor.Nu
open Go.RowKit Go.Sort Go.Lib

theorem formatUint_int (v : Int) (u : Nat) (h : v = (u : Int)) (hu : u < 18446744073709551616) (w : World) (hT : Tab w) (l : List UInt8) (hl : decDigits u = l) :
    Calls Tryz.prog 35 #[.int .u64 v, .int .i64 10] w fun e w' => e = .returned (.string ⟨l.toArray⟩) ∧ Grw w w' := by
  subst h; subst hl
  exact formatUint_any u hu w hT
theorem cents_one (u : Nat) (h : u % 100 < 10) : ∃ c, decDigits (u % 100) = [c] ∧ two u = [48, c] := by
  refine ⟨_, dec_small _ h, ?_⟩
  unfold two
  rw [show u / 10 % 10 = 0 by omega, show u % 10 = u % 100 by omega]
  rfl
theorem cents_two (u : Nat) (h : ¬ u % 100 < 10) : ∃ c d, decDigits (u % 100) = [c, d] ∧ two u = [c, d] := by
  refine ⟨UInt8.ofNat (48 + u % 100 / 10), UInt8.ofNat (48 + u % 100 % 10), Lib.decDigits_two h (by omega), ?_⟩
  unfold two
  rw [show u / 10 % 10 = u % 100 / 10 by omega, show u % 10 = u % 100 % 10 by omega]
theorem money_pos (u : Nat) (D t : List UInt8) (hD : decDigits (u / 100) = D) (ht : two u = t) : moneyL (u : Int) = D ++ 46 :: t := by
  unfold moneyL moneyU
  rw [if_neg (by omega), List.nil_append, show ((u : Int)).natAbs = u by omega, hD, ht]
theorem money_neg (u : Nat) (h : 1 ≤ u) (D t : List UInt8) (hD : decDigits (u / 100) = D) (ht : two u = t) : moneyL (-(u : Int)) = 45 :: (D ++ 46 :: t) := by
  unfold moneyL moneyU
  rw [if_pos (by omega), show (-(u : Int)).natAbs = u by omega, hD, ht]
  rfl

set_option maxHeartbeats 2000000 in
theorem money_any (a : Int) (h0 : -9223372036854775808 ≤ a) (h1 : a ≤ 9223372036854775807) (w : World) (hT : Tab w) :
    Calls Tryz.prog 17 #[.int .i64 a] w fun e w' => e = .returned (.string ⟨(moneyL a).toArray⟩) ∧ Grw w w' := by
  have hw : Grw w w := grw_refl w
  by_cases hn : a < 0
  · obtain ⟨u, rfl⟩ : ∃ u : Nat, a = -(u : Int) := ⟨a.natAbs, by omega⟩
    have hu1 : 1 ≤ u := by omega
    have hu : u < 18446744073709551616 := by omega
    have hwr : IntKind.u64.wrap (-IntKind.u64.wrap (-(u : Int))) = (u : Int) := by rw [IntKind.wrap_u64, IntKind.wrap_u64]; omega
    obtain ⟨D, hD⟩ : ∃ D, Hid (decDigits (u / 100) = D) := ⟨_, rfl⟩
    have hDl : D.length ≤ 20 := by rw [← hD.out]; exact dec_len _ 20 (by omega) (by omega)
    by_cases hc : u % 100 < 10
    · obtain ⟨c, ec, et⟩ := cents_one u hc
      have H : Hid ((⟨(moneyL (-(u : Int))).toArray⟩ : ByteArray) = ⟨#[45]⟩ ++ ⟨D.toArray⟩ ++ ⟨#[46]⟩ ++ (⟨#[48]⟩ ++ ⟨[c].toArray⟩)) := by
        show _ = _
        rw [money_neg u hu1 D _ hD.out et]
        apply ByteArray.ext; simp
      have EC := Lib.hid ec
      clear ec et
      go_enter Tryz.func17, Tryz.ntmps17
      go_wp2_with (first | (go_at_call 35; refine (formatUint_int _ (u % 100) (by omega) (by omega) _ hT _ EC.out).mono ?_; rintro e w1 ⟨rfl, g1⟩; replace hw := grw_trans hw g1; replace hT := tab_grw hT g1; clear g1 EC) | (go_at_call 35; refine (formatUint_int _ (u / 100) (by omega) (by omega) _ hT _ hD.out).mono ?_; rintro e w1 ⟨rfl, g1⟩; replace hw := grw_trans hw g1; replace hT := tab_grw hT g1; clear g1))
      go_ret
      exact ⟨by rw [H.out]; first | rfl | simp, hw⟩
    · obtain ⟨c, d, ec, et⟩ := cents_two u hc
      have H : Hid ((⟨(moneyL (-(u : Int))).toArray⟩ : ByteArray) = ⟨#[45]⟩ ++ ⟨D.toArray⟩ ++ ⟨#[46]⟩ ++ ⟨[c, d].toArray⟩) := by
        show _ = _
        rw [money_neg u hu1 D _ hD.out et]
        apply ByteArray.ext; simp
      have EC := Lib.hid ec
      clear ec et
      go_enter Tryz.func17, Tryz.ntmps17
      go_wp2_with (first | (go_at_call 35; refine (formatUint_int _ (u % 100) (by omega) (by omega) _ hT _ EC.out).mono ?_; rintro e w1 ⟨rfl, g1⟩; replace hw := grw_trans hw g1; replace hT := tab_grw hT g1; clear g1 EC) | (go_at_call 35; refine (formatUint_int _ (u / 100) (by omega) (by omega) _ hT _ hD.out).mono ?_; rintro e w1 ⟨rfl, g1⟩; replace hw := grw_trans hw g1; replace hT := tab_grw hT g1; clear g1))
      go_ret
      exact ⟨by rw [H.out]; first | rfl | simp, hw⟩
  · obtain ⟨u, rfl⟩ : ∃ u : Nat, a = (u : Int) := ⟨a.natAbs, by omega⟩
    have hu : u < 18446744073709551616 := by omega
    obtain ⟨D, hD⟩ : ∃ D, Hid (decDigits (u / 100) = D) := ⟨_, rfl⟩
    have hDl : D.length ≤ 20 := by rw [← hD.out]; exact dec_len _ 20 (by omega) (by omega)
    by_cases hc : u % 100 < 10
    · obtain ⟨c, ec, et⟩ := cents_one u hc
      have H : Hid ((⟨(moneyL (u : Int)).toArray⟩ : ByteArray) = ⟨#[]⟩ ++ ⟨D.toArray⟩ ++ ⟨#[46]⟩ ++ (⟨#[48]⟩ ++ ⟨[c].toArray⟩)) := by
        show _ = _
        rw [money_pos u D _ hD.out et]
        apply ByteArray.ext; simp
      have EC := Lib.hid ec
      clear ec et
      go_enter Tryz.func17, Tryz.ntmps17
      go_wp2_with (first | (go_at_call 35; refine (formatUint_int _ (u % 100) (by omega) (by omega) _ hT _ EC.out).mono ?_; rintro e w1 ⟨rfl, g1⟩; replace hw := grw_trans hw g1; replace hT := tab_grw hT g1; clear g1 EC) | (go_at_call 35; refine (formatUint_int _ (u / 100) (by omega) (by omega) _ hT _ hD.out).mono ?_; rintro e w1 ⟨rfl, g1⟩; replace hw := grw_trans hw g1; replace hT := tab_grw hT g1; clear g1))
      go_ret
      exact ⟨by rw [H.out]; first | rfl | simp, hw⟩
    · obtain ⟨c, d, ec, et⟩ := cents_two u hc
      have H : Hid ((⟨(moneyL (u : Int)).toArray⟩ : ByteArray) = ⟨#[]⟩ ++ ⟨D.toArray⟩ ++ ⟨#[46]⟩ ++ ⟨[c, d].toArray⟩) := by
        show _ = _
        rw [money_pos u D _ hD.out et]
        apply ByteArray.ext; simp
      have EC := Lib.hid ec
      clear ec et
      go_enter Tryz.func17, Tryz.ntmps17
      go_wp2_with (first | (go_at_call 35; refine (formatUint_int _ (u % 100) (by omega) (by omega) _ hT _ EC.out).mono ?_; rintro e w1 ⟨rfl, g1⟩; replace hw := grw_trans hw g1; replace hT := tab_grw hT g1; clear g1 EC) | (go_at_call 35; refine (formatUint_int _ (u / 100) (by omega) (by omega) _ hT _ hD.out).mono ?_; rintro e w1 ⟨rfl, g1⟩; replace hw := grw_trans hw g1; replace hT := tab_grw hT g1; clear g1))
      go_ret
      exact ⟨by rw [H.out]; first | rfl | simp, hw⟩
end Go.Proofs.YtmoldgmfhcmceabGreatDoor.Nu
end

/-
  What the reference's Split, Join and Same answer, as contracts.
-/
section
set_option linter.unusedSimpArgs false
set_option linter.unusedVariables false
set_option maxRecDepth 100000
namespace Go.Proofs.YtmoldgmfhcmceabGreatDoor.Wo
open Go.RowKit

/-- What the reference's Split has in memory: the answer's box and the row. -/
def RInv (B : Nat) (v : Value) (ws : List Wd) (w : World) : Prop :=
  w.heap[B]? = some (.cells #[.int .i64 0, .int .i64 0] 32 (0, 0)) ∧ w.ownsRow B 73 2 v ws.length (wcs ws)
theorem own_form2 {w : World} {B : Nat} {e : TypeId} {z : Nat} {v : Value} {n : Nat} {xs : List Value} (h : w.ownsRow B e z v n xs) : ∃ a c, v = .slice a n c ∧ n ≤ c ∧ c ≤ 9223372036854775807 := by
  rcases h.2 with ⟨rfl, rfl⟩ | ⟨g, c, cur, rfl, _, _, h1, h2, _⟩
  · exact ⟨_, _, rfl, by simp, by simp⟩
  · exact ⟨_, _, rfl, h1, by unfold maxLen at h2; exact h2⟩
theorem wcs_split (i : List Wd) (t : Tx) (q : Nat) : wcs (i ++ [(t, q)]) = wcs i ++ [.string (mk t), .int .i64 (q : Nat)] := by rw [wcs_app]; rfl
/-- A row of words whose last one grows. -/
theorem own_last {w : World} {B : Nat} {v : Value} {i : List Wd} {t : Tx} {q : Nat} (ho : w.ownsRow B 73 2 v (i.length + 1) (wcs (i ++ [(t, q)]))) :
    ∃ g c, v = .slice (some ⟨g, 0, none⟩) (i.length + 1) c ∧ B ≤ g ∧ g < w.heap.size ∧ i.length + 1 ≤ c ∧ c ≤ 9223372036854775807 ∧ w.cell? ⟨g, i.length * 2 + 1, none⟩ = some (.int .i64 (q : Nat)) ∧ w.cell? ⟨g, i.length * 2, none⟩ = some (.string (mk t)) ∧ w.frozen? ⟨g, i.length * 2, none⟩ = false ∧ (∃ cur, w.heap[g]? = some (.cells cur 73 (0, 0)))
      ∧ ∀ t', (w.setCell ⟨g, i.length * 2, none⟩ (.string (mk t'))).ownsRow B 73 2 v (i.length + 1) (wcs (i ++ [(t', q)])) := by
  obtain ⟨hl, h⟩ := ho
  rcases h with ⟨rfl, h0⟩ | ⟨g, cap, cur, rfl, hb, hg, h1, h2, hs, ht⟩
  · omega
  have hlen := wcs_len i
  have e0 : (wcs (i ++ [(t, q)]))[i.length * 2]? = some (.string (mk t)) := by rw [wcs_split, List.getElem?_append_right (by omega), hlen]; simp
  have e1 : (wcs (i ++ [(t, q)]))[i.length * 2 + 1]? = some (.int .i64 (q : Nat)) := by rw [wcs_split, List.getElem?_append_right (by omega), hlen]; simp
  rw [← ht, List.getElem?_take, if_pos (by omega)] at e0 e1
  refine ⟨g, cap, rfl, hb, (Array.getElem?_eq_some_iff.1 hg).1, h1, by unfold maxLen at h2; exact h2, ?_, ?_, Lib.frozen_of_heap hg _, ⟨cur, hg⟩, fun t' => ⟨?_, Or.inr ⟨g, cap, cur.set! (i.length * 2) (.string (mk t')), rfl, hb, ?_, h1, h2, by simpa using hs, ?_⟩⟩⟩
  · rw [cell_of_row w g _ cur _ (0, 0) hg]; simpa using e1
  · rw [cell_of_row w g _ cur _ (0, 0) hg]; simpa using e0
  · rw [wcs_len]; simp
  · exact heap_setCell_same w g _ cur _ _ hg
  · rw [show (cur.set! (i.length * 2) (.string (mk t'))).toList = cur.toList.set (i.length * 2) (.string (mk t')) by simp, List.take_set, ht, wcs_split, wcs_split, List.set_append_right _ _ (by omega), hlen]
    simp
theorem lastI_at (s : ByteArray) (p : Nat) (h : p < s.size) : lastI (s.data.toList.take (p + 1)) = inn s[p] := by
  rw [take_snoc s p h, lastI_app (by simp)]; rfl
theorem rinv_start (w : World) : RInv w.heap.size (.slice none 0 0) [] (w.alloc (.cells #[.int .i64 0, .int .i64 0] 32)) := ⟨heap_alloc_new _ _, World.ownsRow_nil _ _ _ _⟩
theorem step_app {s : ByteArray} {k : Nat} (h : k < s.size) (hg : good (s.data.toList.take k) = true) (hc : kd s[k] = 2 ∨ (kd s[k] = 3 ∧ lastI (s.data.toList.take k) = false)) : wds 0 (s.data.toList.take (k + 1)) = wds 0 (s.data.toList.take k) ++ [([s[k]], k)] ∧ good (s.data.toList.take (k + 1)) = true := by
  have hl : (s.data.toList.take k).length = k := by rw [List.length_take, ← Lib.size_eq]; omega
  rw [take_snoc s k h]
  refine ⟨?_, ?_⟩
  · rw [wds_app _ _ 0 (hc.elim (fun e => Or.inr (by simp [headI, inn, e])) fun e => Or.inl e.2), wds_one, if_pos (hc.imp id fun e => e.1), hl]; simp
  · rw [good_app, hg]; rcases hc with e | ⟨e, -⟩ <;> simp [good, e]

end Go.Proofs.YtmoldgmfhcmceabGreatDoor.Wo
end

/-
  What words.Join, and the reference's Join and Same, answer, as contracts; the example of the statements holds.
-/
section
set_option linter.unusedSimpArgs false
set_option linter.unusedVariables false
namespace Go.Proofs.YtmoldgmfhcmceabGreatDoor.Wo
open Go.RowKit

theorem sum_many : ∀ xs : List Tx, xs.length ≤ (xs.map fun x => 1 + x.length).sum
  | [] => by simp
  | x :: r => by have := sum_many r; simp only [List.length_cons, List.map_cons, List.sum_cons]; omega
theorem join_many (c : UInt8) (xs : List Tx) : xs.length ≤ (joinC c xs).length + 1 := by
  by_cases h : xs = []
  · subst h; simp
  · rw [join_len c xs h]; exact sum_many xs
theorem strings_join (v : Value) (xs : List Tx) (c : UInt8) (w : World) (h : TxAt All w v xs) (hl : (joinC c xs).length ≤ 1000000) :
    Calls Tryz.prog 36 #[v, .string (mk [c])] w fun e w' => e = .returned (.string (mk (joinC c xs))) ∧ Below w.heap.size w w' := by
  obtain ⟨a, cap, rfl, h1, h2, h3⟩ := h
  rcases h3 with rfl | ⟨b, o, rfl, _, hb, hc⟩
  · refine (Tryz.strings_Join_none a cap _ w).mono ?_
    rintro e w' ⟨rfl, rfl⟩
    exact ⟨rfl, Below.refl _ _⟩
  · have e1 : (xs.map mk).map (·.data.toList) = xs := by
      rw [List.map_map]
      conv => rhs; rw [← List.map_id xs]
      exact List.map_congr_left fun x _ => mk_list x
    have e2 : (xs.map mk).length = xs.length := List.length_map ..
    have e3 : (mk [c]).data.toList = [c] := mk_list _
    have := Tryz.strings_Join b o cap (xs.map mk) (mk [c]) w (fun j x hx => by
      rw [List.getElem?_map, Option.map_eq_some_iff] at hx
      obtain ⟨y, hy, rfl⟩ := hx
      obtain ⟨u, hu, rfl⟩ := hc j y hy
      exact hu) hb (by rw [e2]; have := join_many c xs; omega) (by rw [e2]; exact h1) (by rw [e1, e3]; exact Nat.le_trans hl (by omega))
    rw [e1, e2, e3] at this
    exact this
set_option maxHeartbeats 1000000 in
theorem join_any (v : Value) (xs : List Tx) (w : World) (h : TxAt All w v xs) (hl : (joinC 32 xs).length ≤ 1000000) :
    Calls Tryz.prog 18 #[v] w fun e w' => e = .returned (.string (mk (joinC 32 xs))) ∧ Below w.heap.size w w' := by
  have HJ : Hid (Calls Tryz.prog 36 #[v, .string ⟨#[32]⟩] w _) := strings_join v xs 32 w h hl
  obtain ⟨a, c, rfl, -, -, -⟩ := h
  go_enter Tryz.func18, Tryz.ntmps18
  go_wp2_with (go_at_call 36; refine HJ.out.mono ?_; rintro e w1 ⟨rfl, hb⟩; have HB := Lib.hid hb; clear hb)
  go_ret
  exact ⟨rfl, HB.out⟩

theorem mk_cat (a b : Tx) : mk a ++ mk b = mk (a ++ b) := by
  apply ByteArray.ext
  simp [mk]
theorem join_take (c : UInt8) (xs : List Tx) (k : Nat) (x : Tx) (hx : xs[k]? = some x) : joinC c (xs.take (k + 1)) = (if k = 0 then [] else joinC c (xs.take k) ++ [c]) ++ x := by
  cases xs with
  | nil => simp at hx
  | cons y r =>
    cases k with
    | zero =>
      simp at hx
      subst hx
      simp [joinC_one]
    | succ k =>
      rw [List.getElem?_cons_succ] at hx
      unfold joinC
      rw [List.take_succ_cons, Lib.join_cons, List.take_succ_cons, Lib.join_cons, Lib.joinTail_take_succ [c] r k x hx, if_neg (by omega)]
      simp
theorem tx_get {K : Nat → Prop} {w : World} {a : Option Addr} {n c : Nat} {xs : List Tx} (h : TxAt K w (.slice a n c) xs) (k : Nat) (hk : k < xs.length) :
    ∃ b o, a = some ⟨b, o, none⟩ ∧ xs[k]? = some xs[k] ∧ w.cell? ⟨b, o + k, none⟩ = some (.string (mk xs[k])) := by
  obtain ⟨a', c', he, h1, h2, h3⟩ := h
  have ha : a = a' := by injection he
  subst ha
  rcases h3 with h | ⟨b, o, ha, _, _, hc⟩
  · subst h; simp at hk
  · have hx := List.getElem?_eq_getElem hk
    obtain ⟨m, q1, rfl⟩ := hc k _ hx
    exact ⟨b, o, ha, hx, q1⟩
theorem join_len_take (c : UInt8) (xs : List Tx) (k : Nat) : (joinC c (xs.take k)).length ≤ (joinC c xs).length := by
  by_cases h : xs.take k = []
  · rw [h]; exact Nat.zero_le _
  · have h' : xs ≠ [] := fun e => h (by rw [e]; simp)
    have e1 := join_len c _ h
    have e2 := join_len c _ h'
    have e3 : ((xs.take k).map fun x => 1 + x.length).sum ≤ (xs.map fun x => 1 + x.length).sum := by
      conv => rhs; rw [← List.take_append_drop k xs]
      rw [List.map_append, List.sum_append]
      omega
    omega
theorem infoS : ∃ i, Tryz.prog.info? 9 = some i ∧ i.zero = some (.string ByteArray.empty) ∧ i.size = 1 ∧ i.bytes = 16 := by
  have hi : (Tryz.prog.info? 9).map (fun i => (i.zero, i.size, i.bytes)) = some (some (.string ByteArray.empty), 1, 16) := by kernel_rfl
  cases hq : Tryz.prog.info? 9 with
  | none => rw [hq] at hi; cases hi
  | some i =>
    rw [hq] at hi
    simp only [Option.map_some, Option.some.injEq, Prod.mk.injEq] at hi
    exact ⟨i, rfl, hi⟩
theorem lit1 : spE [114, 117, 108, 101, 32, 53, 32, 40, 97, 108, 108, 41, 10, 49, 50, 46, 53, 48] = 0 ∧ spA [114, 117, 108, 101, 32, 53, 32, 40, 97, 108, 108, 41, 10, 49, 50, 46, 53, 48] = 0 ∧ spV [114, 117, 108, 101, 32, 53, 32, 40, 97, 108, 108, 41, 10, 49, 50, 46, 53, 48] = [([114, 117, 108, 101], 0), ([53], 5), ([40], 7), ([97, 108, 108], 8), ([41], 11), ([49, 50, 46, 53, 48], 13)] := by decide
theorem lit2 : spE [97, 44, 98] = 4 ∧ spA [97, 44, 98] = 1 ∧ spV [97, 44, 98] = [] := by decide
theorem two_at (w : World) : TxAt All (w.alloc (.cells #[.string ⟨#[97]⟩, .string ⟨#[98]⟩] 9)) (.slice (some ⟨w.heap.size, 0, none⟩) 2 2) [[97], [98]] := by
  refine ⟨_, 2, rfl, by decide, by simp [maxLen], Or.inr ⟨w.heap.size, 0, rfl, trivial, by simp, fun j x hj => ?_⟩⟩
  have h := heap_alloc_new w (.cells #[.string ⟨#[97]⟩, .string ⟨#[98]⟩] 9)
  match j, hj with
  | 0, hj => simp at hj; subst hj; exact ⟨_, by rw [cell_of_row _ _ _ _ _ _ h]; rfl, rfl⟩
  | 1, hj => simp at hj; subst hj; exact ⟨_, by rw [cell_of_row _ _ _ _ _ _ h]; rfl, rfl⟩
end Go.Proofs.YtmoldgmfhcmceabGreatDoor.Wo
end
