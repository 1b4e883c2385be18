/-
  What makes a service the same one, and which were billed ahead: what layer 14's calls answer, over plain lists, and what follows.
-/
import Derived.Test.YtmgjnjbiljpneaaLMath
set_option linter.unusedSimpArgs false
namespace Go.Proofs.Ytmgjnjbiljpneaa.Tw
open Cm (Ln ln0)

/-- The last digit of a number, below nothing, too, as the chapter says it. -/
def dig (n : Int) : Int := if n.tmod 10 < 0 then n.tmod 10 + 10 else n.tmod 10
def digs : Nat → Int → List UInt8
  | 0, _ => []
  | k + 1, n => UInt8.ofNat (48 + dig n).toNat :: digs k (n.tdiv 10)
def modsT : List (List UInt8) → List UInt8
  | [] => []
  | m :: ms => 58 :: (m ++ modsT ms)
def keyV (l : Ln) : List UInt8 := digs 8 l.date ++ (l.proc ++ modsT l.mods)

theorem dig_in (n : Int) : 0 ≤ dig n ∧ dig n ≤ 9 := by
  unfold dig
  have h1 := Int.tmod_lt_of_pos n (b := 10) (by omega)
  have h2 := Int.lt_tmod_of_pos n (b := 10) (by omega)
  split <;> omega
theorem dig_pos (n : Int) (h : 0 ≤ n) : dig n = n % 10 := by
  unfold dig
  rw [Int.tmod_eq_emod_of_nonneg h]
  split <;> omega
theorem digs_len : ∀ (k : Nat) (n : Int), (digs k n).length = k
  | 0, _ => rfl
  | k + 1, n => by simp only [digs, List.length_cons, digs_len k]
theorem sign_inj (a b : Int) (h : UInt8.ofNat (48 + dig a).toNat = UInt8.ofNat (48 + dig b).toNat) : dig a = dig b := by
  have ha := dig_in a
  have hb := dig_in b
  have h' := congrArg UInt8.toNat h
  rw [UInt8.toNat_ofNat', UInt8.toNat_ofNat'] at h'
  omega
theorem digs_inj : ∀ (k : Nat) (a b : Int), 0 ≤ a → 0 ≤ b → a < 10 ^ k → b < 10 ^ k → digs k a = digs k b → a = b
  | 0, a, b, ha, hb, ga, gb, _ => by simp at ga gb; omega
  | k + 1, a, b, ha, hb, ga, gb, h => by
    simp only [digs, List.cons.injEq] at h
    have h1 := sign_inj a b h.1
    rw [dig_pos a ha, dig_pos b hb] at h1
    have ea : a.tdiv 10 = a / 10 := Int.tdiv_eq_ediv_of_nonneg ha
    have eb : b.tdiv 10 = b / 10 := Int.tdiv_eq_ediv_of_nonneg hb
    have h2 := h.2
    rw [ea, eb] at h2
    have e10 : (10 : Int) ^ (k + 1) = 10 ^ k * 10 := Int.pow_succ 10 k
    rw [e10] at ga gb
    have h3 := digs_inj k (a / 10) (b / 10) (by omega) (by omega) (by omega) (by omega) h2
    omega

theorem modsT_inj : ∀ (a b : List (List UInt8)), (∀ m ∈ a, m.length = 2) → (∀ m ∈ b, m.length = 2) → modsT a = modsT b → a = b
  | [], [], _, _, _ => rfl
  | [], m :: ms, _, _, h => by simp [modsT] at h
  | m :: ms, [], _, _, h => by simp [modsT] at h
  | m :: ms, x :: xs, ha, hb, h => by
    simp only [modsT, List.cons.injEq, true_and] at h
    have hl : m.length = x.length := by rw [ha m (List.mem_cons_self ..), hb x (List.mem_cons_self ..)]
    have h2 := List.append_inj h hl
    rw [h2.1, modsT_inj ms xs (fun y hy => ha y (List.mem_cons_of_mem _ hy)) (fun y hy => hb y (List.mem_cons_of_mem _ hy)) h2.2]

theorem line_facts {l : Ln} (h : Cm.lineE l = 0) : l.proc.length = 5 ∧ (∀ m ∈ l.mods, m.length = 2) ∧ 0 ≤ l.date ∧ l.date < 100000000 := by
  have hd := Cm.lineE_date h
  have hc : Cm.codesB l = true := by
    unfold Cm.lineE at h
    split at h
    · assumption
    · simp at h
  simp only [Cm.codesB, Cm.modsB, Cm.codeB, Bool.and_eq_true, decide_eq_true_eq, List.all_eq_true] at hc
  have h0 := Da.good_pos l.date hd
  have hy := ((Da.good_iff l.date).mp hd).2.1
  rw [Da.yr_eq l.date h0] at hy
  refine ⟨by omega, fun m hm => ?_, h0, by omega⟩
  have := (hc.2.2 m hm).1
  omega

/-- Two services that may be are the same one just if code, modifiers and day are. -/
theorem key_same (a b : Ln) (ha : Cm.lineE a = 0) (hb : Cm.lineE b = 0) : keyV a = keyV b ↔ a.proc = b.proc ∧ a.date = b.date ∧ a.mods = b.mods := by
  obtain ⟨a1, a2, a3, a4⟩ := line_facts ha
  obtain ⟨b1, b2, b3, b4⟩ := line_facts hb
  constructor
  · intro h
    unfold keyV at h
    have h1 := List.append_inj h (by rw [digs_len, digs_len])
    have h2 := List.append_inj h1.2 (by rw [a1, b1])
    exact ⟨h2.1, digs_inj 8 a.date b.date a3 b3 (by omega) (by omega) h1.1, modsT_inj _ _ a2 b2 h2.2⟩
  · rintro ⟨h1, h2, h3⟩
    simp only [keyV, h1, h2, h3]

/-! ### 14.2 -/
def inB (x : Ln) (A : List Ln) : Bool := A.any fun y => keyV y == keyV x
def marksV : List Ln → List Ln → List Bool
  | _, [] => []
  | A, x :: xs => inB x A :: marksV (A ++ [x]) xs

theorem in_iff (x : Ln) (A : List Ln) : inB x A = true ↔ ∃ y ∈ A, keyV y = keyV x := by simp [inB]
theorem in_app (x : Ln) (A B : List Ln) : inB x (A ++ B) = (inB x A || inB x B) := by simp [inB]
theorem marks_len : ∀ (l A : List Ln), (marksV A l).length = l.length
  | [], _ => rfl
  | x :: xs, A => by simp only [marksV, List.length_cons, marks_len xs]
theorem marks_at : ∀ (l A : List Ln) (i : Nat) (x : Ln), l[i]? = some x → (marksV A l)[i]? = some (inB x A || inB x (l.take i))
  | [], _, _, _, h => by simp at h
  | y :: ys, A, 0, x, h => by
    simp at h
    subst h
    simp [marksV, inB]
  | y :: ys, A, i + 1, x, h => by
    simp only [List.getElem?_cons_succ] at h
    simp only [marksV, List.getElem?_cons_succ, List.take_succ_cons]
    rw [marks_at ys (A ++ [y]) i x h, in_app]
    have e : inB x (y :: ys.take i) = (inB x [y] || inB x (ys.take i)) := in_app x [y] (ys.take i)
    rw [e, Bool.or_assoc]

theorem marks_app : ∀ (A C l : List Ln), marksV C (A ++ l) = marksV C A ++ marksV (C ++ A) l
  | [], C, l => by simp [marksV]
  | a :: A, C, l => by
    simp only [List.cons_append, marksV]
    rw [marks_app A (C ++ [a]) l]
    simp
/-- What stands ahead may as well be part of the list. -/
theorem marks_parts (A l : List Ln) : (marksV [] (A ++ l)).drop A.length = marksV A l := by
  rw [marks_app, List.nil_append]
  have h := marks_len A []
  rw [← h, List.drop_left]
/-- Of services that are the same one just the first is not marked. -/
theorem marks_once (l : List Ln) (i : Nat) (x : Ln) (h : l[i]? = some x) : (marksV [] l)[i]? = some (inB x (l.take i)) := by
  rw [marks_at l [] i x h]
  simp [inB]
/-- In which order services stand ahead plays no part, nor how often. -/
theorem marks_order : ∀ (l A B : List Ln), (∀ x, inB x A = inB x B) → marksV A l = marksV B l
  | [], _, _, _ => rfl
  | y :: ys, A, B, h => by
    simp only [marksV]
    rw [h y, marks_order ys (A ++ [y]) (B ++ [y]) (fun x => by rw [in_app, in_app, h x])]
theorem in_turned (x : Ln) (A : List Ln) : inB x (A.reverse ++ A) = inB x A := by
  rw [in_app]
  have : inB x A.reverse = inB x A := by simp [inB]
  rw [this, Bool.or_self]
theorem marks_turned (l A : List Ln) : marksV (A.reverse ++ A) l = marksV A l := marks_order l _ _ fun x => in_turned x A

end Go.Proofs.Ytmgjnjbiljpneaa.Tw
