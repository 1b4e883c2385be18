/-
  The contracts once more, at a text given by its letters.
-/
import Derived.Test.YtollmclcogmlbaaDoorNWorks
namespace Go.Proofs.YtollmclcogmlbaaDoor
open Go.RowKit Go.Sort Go.Lib

theorem money_len (a : Int) (h0 : -9223372036854775808 ≤ a) (h1 : a ≤ 9223372036854775807) : (moneyL a).length ≤ 30 := by
  have hl := dec_len (a.natAbs / 100) 20 (by omega) (by omega)
  unfold moneyL moneyU
  have h2 : (two a.natAbs).length = 2 := rfl
  have h3 : (if a < 0 then [(45 : UInt8)] else []).length ≤ 1 := by split <;> simp
  rw [List.length_append, List.length_append, List.length_cons, h2]
  omega
theorem readSigned_list (l : List UInt8) (w : World) (v e : Int) (h : l.length ≤ 40) (hv : sgV l = v) (he : sgE l = e) :
    Calls Tryd.prog 18 #[.string ⟨l.toArray⟩] w fun r w' => r = .returned (.tuple #[.int .i64 v, .int .i64 e]) ∧ Grw w w' := by
  subst hv; subst he
  exact readSigned_any ⟨l.toArray⟩ w (by rw [Lib.size_eq]; unfold maxLen; show l.length ≤ _; omega)
theorem readMoney_l (l : List UInt8) (w : World) (v e : Int) (h : l.length ≤ 40) (hv : mnV l = v) (he : mnE l = e) :
    Calls Tryd.prog 16 #[.string ⟨l.toArray⟩] w fun r w' => r = .returned (.tuple #[.int .i64 v, .int .i64 e]) ∧ Grw w w' := by
  subst hv; subst he
  exact readMoney_any ⟨l.toArray⟩ w (by rw [Lib.size_eq]; unfold maxLen; show l.length ≤ _; omega)
theorem readMoney_s (s : ByteArray) (w : World) (l : List UInt8) (v e : Int) (hl : s = ⟨l.toArray⟩) (h : l.length ≤ 40) (hv : mnV l = v) (he : mnE l = e) :
    Calls Tryd.prog 16 #[.string s] w fun r w' => r = .returned (.tuple #[.int .i64 v, .int .i64 e]) ∧ Grw w w' := by
  subst hl; exact readMoney_l l w v e h hv he
theorem readInt_l (l : List UInt8) (most : Int) (w : World) (v e : Int) (h : l.length ≤ 40) (hv : riV l most = v) (he : riE l most = e) :
    Calls Tryd.prog 14 #[.string ⟨l.toArray⟩, .int .i64 most] w fun r w' => r = .returned (.tuple #[.int .i64 v, .int .i64 e]) ∧ Grw w w' :=
  readInt_at ⟨l.toArray⟩ most w (by rw [Lib.size_eq]; unfold maxLen; show l.length ≤ _; omega) v e hv he
theorem sg_ok (l : List UInt8) (h : sgOk l = true) : sgE l = 0 := by simp [sgE, h]
theorem mn_ok (l : List UInt8) (h : mnOk l = true) : mnE l = 0 := by simp [mnE, h]
theorem ri_itoa (n : Int) (h0 : 0 ≤ n) (h1 : n < 1000000000000000000) : riV (Lib.itoa n) 18 = n ∧ riE (Lib.itoa n) 18 = 0 ∧ (Lib.itoa n).length ≤ 18 := by
  obtain ⟨u, rfl⟩ : ∃ u : Nat, n = u := ⟨n.toNat, by omega⟩
  rw [Lib.itoa_nonneg]
  obtain ⟨a, b⟩ := ri_some _ _ (ri_dec u 18 18 (by omega) (by omega) (by omega) (by omega))
  exact ⟨by rw [a, dec_num], b, dec_len u 18 (by omega) (by omega)⟩
theorem mn_moneyL (a : Int) (h0 : 0 ≤ a) (h1 : a ≤ 10000000000000) : mnV (moneyL a) = a ∧ mnE (moneyL a) = 0 := by
  obtain ⟨u, rfl⟩ : ∃ u : Nat, a = u := ⟨a.toNat, by omega⟩
  obtain ⟨x, y⟩ := mn_money u (by omega)
  have e : moneyL (u : Int) = moneyU u := by unfold moneyL; rw [if_neg (by omega), List.nil_append]; rfl
  rw [e]
  exact ⟨y, mn_ok _ x⟩
end Go.Proofs.YtollmclcogmlbaaDoor
