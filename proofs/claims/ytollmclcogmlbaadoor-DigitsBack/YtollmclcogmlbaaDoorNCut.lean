/-
  What strings.Cut at a dot answers at this program, of every text; digits.ReadMoney and digits.ReadSigned, as contracts: of every text.
-/
import Derived.Test.YtollmclcogmlbaaDoorNLib
import Derived.Lib.IndexBytes
import Derived.Shelf.RegionOpenPlain
namespace Go.Proofs.YtollmclcogmlbaaDoor
open Go.RowKit Go.Sort Go.Lib

theorem whole_le (l : List UInt8) : (whole l).length ≤ l.length := by unfold whole; exact (List.takeWhile_sublist _).length_le
theorem whole_take (l : List UInt8) : whole l = l.take (whole l).length := by
  unfold whole
  induction l with
  | nil => rfl
  | cons a t ih =>
    by_cases h : (a != 46) = true
    · rw [List.takeWhile_cons, if_pos h, List.length_cons, List.take_succ_cons, ← ih]
    · rw [List.takeWhile_cons, if_neg h]; rfl
theorem index_dot (l : List UInt8) : indexByte l 46 = if hasDot l = true then ((whole l).length : Int) else -1 := by
  unfold hasDot
  induction l with
  | nil => rfl
  | cons a t ih =>
    unfold indexByte
    by_cases h : a = 46
    · subst h
      have e : whole (46 :: t) = [] := rfl
      rw [e]; rfl
    · have hb : (a == 46) = false := by simpa using h
      have e : whole (a :: t) = a :: whole t := by
        unfold whole
        rw [List.takeWhile_cons, if_pos (by simpa using h)]
      rw [if_neg (by rw [hb]; decide), e, ih]
      simp only [List.length_cons, Nat.add_lt_add_iff_right]
      by_cases hd : (whole t).length < t.length
      · have hn : (((whole t).length : Int) == -1) = false := by rw [beq_eq_false_iff_ne]; omega
        simp [hd, hn]
      · simp [hd]

set_option maxHeartbeats 2000000 in
theorem cutIn_any (s : ByteArray) (w : World) (hs : s.size ≤ maxLen) :
    Calls Tryd.prog 30 #[.string s, .string ⟨#[46]⟩] w fun e w' => e = .returned (.tuple #[.string ⟨(whole s.data.toList).toArray⟩, .string ⟨(behind s.data.toList).toArray⟩, .bool (hasDot s.data.toList)]) ∧ Grw w w' := by
  unfold maxLen at hs
  have el : s.data.toList.length = s.size := (Lib.size_eq s).symm
  have hix := index_dot s.data.toList
  have hle := whole_le s.data.toList
  cases hd : hasDot s.data.toList
  · have e0 : (whole s.data.toList).length = s.data.toList.length := by
      unfold hasDot at hd
      rw [decide_eq_false_iff_not] at hd
      omega
    have e1 : (⟨(whole s.data.toList).toArray⟩ : ByteArray) = s := by
      rw [whole_take, e0, List.take_length]
    have e2 : (⟨(behind s.data.toList).toArray⟩ : ByteArray) = ByteArray.empty := by
      unfold behind; rw [e0, List.drop_of_length_le (by omega)]; rfl
    rw [hd] at hix
    rw [e1, e2]
    have hix' : indexByte s.data.toList 46 = -1 := hix
    clear hix e0 e1 e2 hle el
    go_enter Tryd.func30, Tryd.ntmps30
    go_wp2_with (go_at_call 36; refine (Tryd.stringslite_Index_one s 46 _).mono ?_; rintro e w' ⟨rfl, rfl⟩; rw [hix'])
    go_ret3
    exact ⟨rfl, grw_refl _⟩
  · have hlt : (whole s.data.toList).length < s.data.toList.length := by
      unfold hasDot at hd
      exact of_decide_eq_true hd
    have e1 : (⟨(whole s.data.toList).toArray⟩ : ByteArray) = s.extract 0 (whole s.data.toList).length := by
      rw [Lib.extract_eq]; simp only [List.drop_zero, Nat.sub_zero]; rw [← whole_take]
    have e2 : (⟨(behind s.data.toList).toArray⟩ : ByteArray) = s.extract ((whole s.data.toList).length + 1) s.size := by
      rw [Lib.extract_eq, List.take_of_length_le (by rw [List.length_drop]; omega)]; rfl
    rw [hd] at hix
    have hix' : indexByte s.data.toList 46 = ((whole s.data.toList).length : Int) := hix
    rw [e1, e2]
    have hlt' : (whole s.data.toList).length < s.size := by omega
    clear hix e1 e2 hle el hlt
    generalize (whole s.data.toList).length = i at hix' hlt' ⊢
    have c1 : (0 : Int) ≤ ↑i := by omega
    have c2 : (↑i : Int) ≤ ↑s.size := by omega
    have c3 : (0 : Int) ≤ ↑i + 1 := by omega
    have c4 : (↑i + 1 : Int) ≤ ↑s.size := by omega
    go_enter Tryd.func30, Tryd.ntmps30
    go_wp2_with (go_at_call 36; refine (Tryd.stringslite_Index_one s 46 _).mono ?_; rintro e w' ⟨rfl, rfl⟩; rw [hix'])
    go_quiet (fail)
    go_wp2
    go_ret3
    exact ⟨rfl, grw_drewN _ _⟩

theorem cut_any (s : ByteArray) (w : World) (hs : s.size ≤ maxLen) :
    Calls Tryd.prog 25 #[.string s, .string ⟨#[46]⟩] w fun e w' => e = .returned (.tuple #[.string ⟨(whole s.data.toList).toArray⟩, .string ⟨(behind s.data.toList).toArray⟩, .bool (hasDot s.data.toList)]) ∧ Grw w w' := by
  go_enter Tryd.func25, Tryd.ntmps25
  go_wp2_with (go_at_call 30; refine (cutIn_any s _ hs).mono ?_; rintro e w1 ⟨rfl, g1⟩)
  go_ret3
  exact ⟨rfl, g1⟩
end Go.Proofs.YtollmclcogmlbaaDoor
