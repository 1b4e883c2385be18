/-
  What the reference's Same answers of equal rows; what light answers, as contracts.
-/
import Derived.Test.YtdppelkfcnbgbaaYCmp
set_option linter.unusedSimpArgs false
set_option linter.unusedVariables false
set_option maxRecDepth 100000
namespace Go.Proofs.Ytdppelkfcnbgbaa.Ac
open Go.RowKit

set_option maxHeartbeats 4000000 in
theorem same_eq (l : List Row) (v u : Value) (w : World) (h : RwsAt All w v l) (g : RwsAt All w u l) (hl : l.length ≤ 100000) :
    Calls Try.prog 16 #[v, u] w fun e w' => e = .returned (.bool true) ∧ Below w.heap.size w w' := by
  obtain ⟨fa, fk, rfl, hm1, hm2⟩ := h.form
  obtain ⟨ga, gk, rfl, hm3, hm4⟩ := g.form
  have HF := Lib.hid h
  have HG := Lib.hid g
  clear h g
  go_enter Try.func16, Try.ntmps16
  go_wp2
  go_loopg [5] (l.length) (fun gg s5 wr => ∃ k : Nat, s5 = .int .i64 k ∧ k ≤ l.length ∧ l.length - k ≤ gg ∧ Hid (Below w.heap.size w wr))
  case atStart => exact ⟨0, rfl, Nat.zero_le _, by omega, Below.refl _ _⟩
  case round =>
    obtain ⟨k, rfl, hk, hgk, HBn⟩ := hrel
    by_cases hlt : k < l.length
    · have hltz : (k : Int) < (l.length : Int) := by omega
      obtain ⟨b, oo, rfl, -, -, hc⟩ := RwsAt.get (HF.out.grw HBn.out) k hlt
      obtain ⟨b2, o2, rfl, -, -, hc2⟩ := RwsAt.get (HG.out.grw HBn.out) k hlt
      generalize l[k] = x at *
      obtain ⟨x0, x1, x2, x3, x4⟩ := hc
      obtain ⟨y0, y1, y2, y3, y4⟩ := hc2
      have hi1 : k < l.length := hlt
      have HD := Lib.hid (Below.drew HBn.out)
      go_wp2_with fail
      go_quiet (fail)
      have HBW : Hid (Below w.heap.size w (wr.drewN nq)) := HBn.out.trans ⟨rfl, rfl, rfl, Nat.le_refl _, fun _ _ => rfl⟩
      go_wp2
      go_roundg (l.length - (k + 1))
      case measure => omega
      case rel => exact ⟨k + 1, by first | rfl | go_num | (congr 1; omega), by omega, by omega, HBW.out⟩
    · have hltz : ¬ (k : Int) < (l.length : Int) := by omega
      go_wp2
      go_ret
      exact ⟨rfl, HBn.out⟩
/-- Rows that are not more than is waited for. -/
def lightB (l : List Row) : Bool := decide (l.length ≤ 300) && l.all fun x => decide (x.who.length ≤ 60)
theorem light_iff (l : List Row) : lightB l = true ↔ l.length ≤ 300 ∧ ∀ x ∈ l, x.who.length ≤ 60 := by simp [lightB]
theorem mk_size' (x : Tx) : (mk x).size = x.length := by simp [mk, ByteArray.size]
set_option maxHeartbeats 4000000 in
theorem light_any (l : List Row) (v : Value) (w : World) (h : RwsAt All w v l) :
    Calls Try.prog 9 #[v] w fun e w' => e = .returned (.bool (lightB l)) ∧ w' = w := by
  obtain ⟨fa, fk, rfl, hm1, hm2⟩ := h.form
  have HF := Lib.hid h
  clear h
  obtain ⟨L, HL⟩ : ∃ L, Hid (lightB l = L) := ⟨_, (rfl : lightB l = _)⟩
  rw [HL.out]
  by_cases h3 : l.length ≤ 300
  · have n3 : ¬ (300 : Int) < (l.length : Int) := by omega
    have HA : Hid (L = (l.drop 0).all fun x => decide (x.who.length ≤ 60)) := HL.out.symm.trans (by unfold lightB; rw [decide_eq_true h3]; rfl)
    clear HL
    go_enter Try.func9, Try.ntmps9
    go_wp2
    go_loopg [3] (l.length) (fun gg s3 wr => ∃ k : Nat, s3 = .int .i64 k ∧ k ≤ l.length ∧ l.length - k ≤ gg ∧ wr = w ∧ Hid (L = (l.drop k).all fun x => decide (x.who.length ≤ 60)))
    case atStart => exact ⟨0, rfl, Nat.zero_le _, by omega, rfl, HA.out⟩
    case round =>
      obtain ⟨k, rfl, hk, hgk, hwr, HI⟩ := hrel
      rw [hwr]
      clear hwr wr HA
      by_cases hlt : k < l.length
      · have hltz : (k : Int) < (l.length : Int) := by omega
        obtain ⟨b, oo, rfl, -, -, hc⟩ := RwsAt.get HF.out k hlt
        have HI2 : Hid (L = (decide (l[k].who.length ≤ 60) && (l.drop (k + 1)).all fun x => decide (x.who.length ≤ 60))) := HI.out.trans (by rw [List.drop_eq_getElem_cons hlt]; rfl)
        generalize l[k] = x at *
        obtain ⟨x0, x1, x2, x3, x4⟩ := hc
        have hsz := mk_size' x.who
        clear HI
        by_cases h6 : x.who.length ≤ 60
        · have n6 : ¬ (60 : Int) < ((mk x.who).size : Int) := by rw [hsz]; omega
          have HI3 : Hid (L = (l.drop (k + 1)).all fun x => decide (x.who.length ≤ 60)) := HI2.out.trans (by rw [decide_eq_true h6]; rfl)
          clear HI2 hsz h6
          go_wp2
          go_roundg (l.length - (k + 1))
          case measure => omega
          case rel => exact ⟨k + 1, by first | rfl | go_num | (congr 1; omega), by omega, by omega, rfl, HI3.out⟩
        · have n6 : (60 : Int) < ((mk x.who).size : Int) := by rw [hsz]; omega
          have HL : Hid (L = false) := HI2.out.trans (by rw [decide_eq_false h6]; rfl)
          clear HI2 hsz h6
          go_wp2
          go_ret
          exact ⟨by first | (rw [HL.out]; done) | (rw [HL.out]; rfl), rfl⟩
      · have hltz : ¬ (k : Int) < (l.length : Int) := by omega
        have HL : Hid (L = true) := HI.out.trans (by rw [List.drop_eq_nil_of_le (by omega)]; rfl)
        go_wp2
        go_ret
        exact ⟨by first | (rw [HL.out]; done) | (rw [HL.out]; rfl), rfl⟩
  · have n3 : (300 : Int) < (l.length : Int) := by omega
    have HL2 : Hid (L = false) := HL.out.symm.trans (by unfold lightB; rw [decide_eq_false h3]; rfl)
    clear HL
    go_enter Try.func9, Try.ntmps9
    go_wp2
    go_ret
    exact ⟨by first | (rw [HL2.out]; done) | (rw [HL2.out]; rfl), rfl⟩
end Go.Proofs.Ytdppelkfcnbgbaa.Ac
