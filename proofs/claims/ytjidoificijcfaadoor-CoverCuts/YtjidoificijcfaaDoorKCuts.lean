/-
  What the laws' has and ends answer, as contracts; they only read.
-/
import Derived.Test.YtjidoificijcfaaDoorKEq
import Derived.Test.YtjidoificijcfaaDoorQNamed
set_option linter.unusedSimpArgs false
namespace Go.Proofs.YtjidoificijcfaaDoor
open Go.RowKit

/-- Yes or no; where it is no, p. -/
def Says (x : Ending) (p : Prop) : Prop := ∃ b, x = .returned (.bool b) ∧ (b = false → p)
theorem says_yes (p : Prop) : Says (.returned (.bool true)) p := ⟨true, rfl, fun h => by cases h⟩
theorem says_no {p : Prop} (h : p) : Says (.returned (.bool false)) p := ⟨false, rfl, fun _ => h⟩
theorem has_false {s t : Tx} (h : ∀ i, i + t.length ≤ s.length → (s.drop i).take t.length ≠ t) : hasB s t = false := by
  refine List.any_eq_false.2 fun i _ => ?_
  simp only [Bool.and_eq_true, decide_eq_true_eq, not_and]
  exact h i
theorem ext_list (s : ByteArray) (i j : Nat) : (s.extract i j).toList = (s.data.toList.drop i).take (j - i) := by rw [Lib.toList_data, Lib.extract_data]
theorem end_nil : namesEnd [] = false := rfl
theorem end_none (r : Sg) : namesEnd ([] :: r) = false := rfl
theorem end_one (x : Tx) (y : List Tx) (r : Sg) : namesEnd ((x :: y) :: r) = decide (x = tIEA) := rfl
theorem ends_snoc (l : List Sg) (k : Nat) (g : Sg) (hx : l[k]? = some g) (h : endsB (l.take k) = false) (hg : namesEnd g = false) : endsB (l.take (k + 1)) = false := by
  unfold endsB at h ⊢
  rw [List.take_add_one, hx, List.any_append, h]
  simp [hg]

set_option maxHeartbeats 1000000 in
set_option maxRecDepth 100000 in
theorem has_any (s : ByteArray) (w : World) (hs : s.size ≤ 1000) :
    Calls Tryd.prog 17 #[.string s, .string ⟨#[73, 69, 65]⟩] w fun x w' => Says x (hasB s.data.toList tIEA = false) ∧ w' = w := by
  have hst := Lib.size_eq s
  have HST := Lib.hid hst
  clear hst
  go_enter Tryd.func17, Tryd.ntmps17
  go_wp2
  go_loopg [5] (s.size + 1) (fun gg i wr => ∃ k : Nat, k ≤ s.size + 1 ∧ gg = s.size + 1 - k ∧ i = .int .i64 k ∧ Hid (∀ i, i < k → i + 3 ≤ s.data.toList.length → (s.data.toList.drop i).take 3 ≠ tIEA) ∧ wr = w)
  case atStart => exact ⟨0, Nat.zero_le _, rfl, rfl, fun i hi => by omega, rfl⟩
  case round =>
    obtain ⟨k, hk, hgk, rfl, HA, hw⟩ := hrel
    rw [hw]
    clear hw wr
    by_cases hlt : k + 3 ≤ s.size
    · have hlt' : (k : Int) + 3 ≤ (s.size : Int) := by omega
      have j1 : (0 : Int) ≤ (k : Int) := by omega
      have j2 : (k : Int) ≤ (k : Int) + 3 := by omega
      have j4 : (0 : Int) ≤ (k : Int) + 3 := by omega
      have j5 : ((k : Int) + 3).toNat = k + 3 := by omega
      have he := ext_list s k (k + 3)
      rw [show k + 3 - k = 3 by omega] at he
      by_cases hq : (s.data.toList.drop k).take 3 = tIEA
      · rw [hq] at he
        have he2 : (s.extract k (k + 3)).toList = [73, 69, 65] := he
        clear he hq
        go_wp2
        go_ret
        exact ⟨says_yes _, rfl⟩
      · have he2 : ((s.extract k (k + 3)).toList == [73, 69, 65]) = false := by
          rw [he, beq_eq_false_iff_ne]
          exact hq
        have HQ := Lib.hid hq
        clear he hq
        go_wp2
        go_roundg (s.size + 1 - (k + 1))
        case rel =>
          refine ⟨k + 1, by omega, rfl, by go_num, fun i hi h3 => ?_, rfl⟩
          rcases Nat.lt_or_ge i k with h | h
          · exact HA.out i h h3
          · obtain rfl : i = k := by omega
            exact HQ.out
        case measure => omega
    · have hlt' : ¬ (k : Int) + 3 ≤ (s.size : Int) := by omega
      have HF : Hid (hasB s.data.toList tIEA = false) := has_false fun i hi => by
        have h3 : i + 3 ≤ s.data.toList.length := hi
        have hst := HST.out
        exact HA.out i (by omega) h3
      go_wp2
      go_ret
      exact ⟨says_no HF.out, rfl⟩

set_option maxHeartbeats 2000000 in
set_option maxRecDepth 100000 in
theorem ends_any (v : Value) (l : List Sg) (w : World) (h : SgAt All w v l) :
    Calls Tryd.prog 18 #[v] w fun x w' => Says x (endsB l = false) ∧ w' = w := by
  have hv := h
  obtain ⟨a, c, rfl, h1, h2, -⟩ := h
  unfold maxLen at h2
  have HV : Hid (SgAt All w (.slice a l.length c) l) := hv
  clear hv
  go_enter Tryd.func18, Tryd.ntmps18
  go_wp2
  go_loopg [3] (l.length) (fun gg i wr => ∃ k : Nat, k ≤ l.length ∧ gg = l.length - k ∧ i = .int .i64 k ∧ Hid (endsB (l.take k) = false) ∧ wr = w)
  case atStart => exact ⟨0, Nat.zero_le _, rfl, rfl, rfl, rfl⟩
  case round =>
    obtain ⟨k, hk, hgk, rfl, HA, hw⟩ := hrel
    rw [hw]
    clear hw wr
    by_cases hlt : k < l.length
    · obtain ⟨b, o, u, rfl, hx, hu, hr⟩ := RowAt.get HV.out k hlt
      have HS := Lib.hid (ends_snoc l k _ hx HA.out)
      clear hx
      generalize l[k] = g at *
      obtain ⟨ag, cg, rfl, hg1, hg2, hg3⟩ := hr
      unfold maxLen at hg2
      cases g with
      | nil =>
        have HS2 := Lib.hid (HS.out rfl)
        clear hg3
        go_wp2
        go_roundg (l.length - (k + 1))
        case rel => exact ⟨k + 1, by omega, rfl, by go_num, HS2, rfl⟩
        case measure => omega
      | cons ps r =>
        rcases hg3 with h | ⟨b', o', rfl, -, -, hc'⟩
        · cases h
        obtain ⟨u', hu', hr'⟩ := hc' 0 ps rfl
        rw [Nat.add_zero] at hu'
        obtain ⟨ap, cp, rfl, hp1, hp2, hp3⟩ := hr'
        unfold maxLen at hp2
        clear hc'
        rw [List.length_cons] at hg1 hu
        generalize r.length = nr at *
        cases ps with
        | nil =>
          have HS2 := Lib.hid (HS.out rfl)
          clear hp3
          go_wp2
          go_roundg (l.length - (k + 1))
          case rel => exact ⟨k + 1, by omega, rfl, by go_num, HS2, rfl⟩
          case measure => omega
        | cons x y =>
          rcases hp3 with h | ⟨b2, o2, rfl, -, -, hc2⟩
          · cases h
          obtain ⟨u2, hu2, rfl⟩ := hc2 0 x rfl
          rw [Nat.add_zero] at hu2
          clear hc2
          rw [List.length_cons] at hp1 hu'
          generalize y.length = ny at *
          have ht : (mk x).toList = x := by rw [Lib.toList_data, mk_list]
          by_cases hq : x = tIEA
          · have ht2 : (mk x).toList = [73, 69, 65] := by rw [ht, hq]; rfl
            clear ht hq HS
            generalize mk x = X at *
            go_wp2
            go_ret
            exact ⟨says_yes _, rfl⟩
          · have ht2 : ((mk x).toList == [73, 69, 65]) = false := by rw [ht, beq_eq_false_iff_ne]; exact hq
            have HS2 := Lib.hid (HS.out (by rw [end_one]; exact decide_eq_false hq))
            clear ht hq HS
            generalize mk x = X at *
            go_wp2
            go_roundg (l.length - (k + 1))
            case rel => exact ⟨k + 1, by omega, rfl, by go_num, HS2, rfl⟩
            case measure => omega
    · have HF : Hid (endsB l = false) := by show _ = _; rw [← HA.out, List.take_of_length_le (by omega)]
      go_wp2
      go_ret
      exact ⟨says_no HF.out, rfl⟩

/-- Where the law cuts. -/
theorem law_cut (a : Int) (n : Nat) (h1 : 0 < n) (h2 : n ≤ 65536) : ∃ j : Nat, wrap64 ((IntKind.u64.wrap a).tmod (n : Int)) = (j : Int) ∧ j < n := by
  have hw : 0 ≤ IntKind.u64.wrap a := by rw [IntKind.wrap_u64]; exact Int.emod_nonneg _ (by decide)
  have h3 : 0 ≤ (IntKind.u64.wrap a).tmod (n : Int) := Int.tmod_nonneg _ hw
  have h4 : (IntKind.u64.wrap a).tmod (n : Int) < (n : Int) := Int.tmod_lt_of_pos _ (by omega)
  generalize (IntKind.u64.wrap a).tmod (n : Int) = x at *
  refine ⟨x.toNat, ?_, by omega⟩
  unfold wrap64
  omega
end Go.Proofs.YtjidoificijcfaaDoor
