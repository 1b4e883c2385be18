/-
  Texts put together (merge.py): PSize, QMem, WByte.
-/
import Derived.Below
import Derived.Laws.AppendOwn
import Derived.Deep.AppendLies
import Derived.Maps.AppendAt
import Derived.WalkKit
import Derived.Lib.Strings
import Derived.Lib.Hide
import Derived.WalkLawsBesides
import Derived.Test.YtoibhgoaibjopaaGreatDoorMj7
import Derived.Test.YtoibhgoaibjopaaGreatDoorMj1
import Derived.Test.YtoibhgoaibjopaaGreatDoorMj2
/-
  How long a plan's text is, by how many conditions and sets it has; a rule's text behind a plan's.
-/
section
set_option linter.unusedSimpArgs false
namespace Go.Proofs.YtoibhgoaibjopaaGreatDoor.Pl

def cntC : Nat → Cd → Nat
  | 0, _ => 0
  | f + 1, .mk _ _ _ _ ks => 1 + (ks.map (cntC f)).sum
def cntR (r : Ru) : Nat := 1 + r.sets.length + cntC 16 r.cif + (r.unl.map (cntC 16)).sum
def cntP (p : Pn) : Nat := (p.rules.map cntR).sum
theorem cond_size : ∀ (f : Nat) (c : Cd), condB f c = true → szW (condW f c) ≤ 23 * cntC f c
  | 0, c, h => by cases h
  | f + 1, .mk k lo hi n ks, h => by
    simp only [condB, Bool.and_eq_true, decide_eq_true_eq, List.all_eq_true] at h
    obtain ⟨hk, hks, hl⟩ := h
    obtain ⟨h0, h8, hlo, hhi, hn⟩ := leaf_facts hl
    have hcode : ∀ (t : Tx) (m : Int), Cm.codeB t m m = true → (t.length : Int) ≤ m := fun t m h => by simp only [Cm.codeB, Bool.and_eq_true, decide_eq_true_eq] at h; exact h.1.2
    rcases k_cases h0 h8 with rfl | rfl | rfl | rfl | rfl | rfl | rfl | rfl | rfl
    · show szW [tAll] ≤ 23 * (1 + _); simp only [sz_cons, sz_nil, tAll, List.length_cons, List.length_nil]; omega
    · have h1 := hcode lo 5 (by simpa [loB] using hlo)
      have h2 := hcode hi 5 (by simpa [hiB] using hhi)
      show szW [tProc, lo, hi] ≤ 23 * (1 + _); simp only [sz_cons, sz_nil, tProc, List.length_cons, List.length_nil]; omega
    · have h1 := hcode lo 2 (by simpa [loB] using hlo)
      show szW [tMod, lo] ≤ 23 * (1 + _); simp only [sz_cons, sz_nil, tMod, List.length_cons, List.length_nil]; omega
    · have hn : 0 ≤ n ∧ n ≤ 9999 := by simpa [nB] using hn
      have h1 := itoa_len hn.1 (show n ≤ 99999 by omega)
      show szW [tUnits, Lib.itoa n] ≤ 23 * (1 + _); simp only [sz_cons, sz_nil, tUnits, List.length_cons, List.length_nil]; omega
    · have h1 := money_len (n := n) (by simpa [nB] using hn)
      show szW [tBilled, Nu.moneyL n] ≤ 23 * (1 + _); simp only [sz_cons, sz_nil, tBilled, List.length_cons, List.length_nil]; omega
    · show szW [tOut] ≤ 23 * (1 + _); simp only [sz_cons, sz_nil, tOut, List.length_cons, List.length_nil]; omega
    · obtain ⟨c, rfl⟩ := list1 (show ks.length = 1 from hk)
      have ih := cond_size f c (hks c (by simp))
      show szW (tNot :: condW f c) ≤ 23 * (1 + (cntC f c + 0)); simp only [sz_cons, tNot, List.length_cons, List.length_nil]; omega
    all_goals
      obtain ⟨c, d, rfl⟩ := list2 (show ks.length = 2 from hk)
      have ih := cond_size f c (hks c (by simp))
      have ih2 := cond_size f d (hks d (by simp))
    · show szW (tO :: (condW f c ++ (tAnd :: (condW f d ++ [tC])))) ≤ 23 * (1 + (cntC f c + (cntC f d + 0)))
      simp only [sz_cons, sz_app, sz_nil, tO, tC, tAnd, List.length_cons, List.length_nil]; omega
    · show szW (tO :: (condW f c ++ (tOr :: (condW f d ++ [tC])))) ≤ 23 * (1 + (cntC f c + (cntC f d + 0)))
      simp only [sz_cons, sz_app, sz_nil, tO, tC, tOr, List.length_cons, List.length_nil]; omega
theorem set_size {s : St} (h : setB s = true) : szW (setW s) ≤ 22 := by
  simp only [setB, Bool.and_eq_true, decide_eq_true_eq] at h
  have hy : ∀ n, (yesW n).length ≤ 3 := fun n => by unfold yesW; split <;> decide
  unfold setW
  split
  · have := hy s.n; simp only [sz_cons, sz_nil, tCover, List.length_cons, List.length_nil]; omega
  split
  · have := hy s.n; simp only [sz_cons, sz_nil, tDed, List.length_cons, List.length_nil]; omega
  split
  · next n1 n2 n3 => have := money_len (n := s.n) (by simpa [n1, n2, n3] using h.2); simp only [sz_cons, sz_nil, tCopay, List.length_cons, List.length_nil]; omega
  · next n1 n2 n3 =>
    have hn : s.n ≤ 10000 := by
      by_cases n4 : s.what = 4
      · simpa [n1, n2, n3, n4] using h.2
      · simp [n1, n2, n3, n4] at h
    have := itoa_len h.1 (show s.n ≤ 99999 by omega)
    simp only [sz_cons, sz_nil, tCoins, List.length_cons, List.length_nil]; omega
theorem sets_size : ∀ (l : List St), (∀ s ∈ l, setB s = true) → szW (setsW l) ≤ 22 * l.length
  | [], _ => by simp [setsW, szW]
  | s :: r, h => by
    have h1 := set_size (h s (by simp))
    have ih := sets_size r fun x hx => h x (List.mem_cons_of_mem _ hx)
    have e : setsW (s :: r) = setW s ++ setsW r := by simp [setsW]
    rw [e, sz_app, List.length_cons]; omega
theorem rule_size {r : Ru} (h : ruleB r = true) : szW (ruleW r) ≤ 30 * cntR r := by
  simp only [ruleB, Bool.and_eq_true, decide_eq_true_eq, List.all_eq_true] at h
  obtain ⟨⟨h0, h1⟩, h2, h3, h4, h5, h6⟩ := h
  have a := itoa_len h0 (show r.rank ≤ 99999 by omega)
  have b := cond_size 16 r.cif h2
  have c := sets_size r.sets (sets_all _ _ h6)
  have hc1 : 1 ≤ cntC 16 r.cif := by
    cases hr : r.cif with
    | mk k lo hi n ks => show 1 ≤ 1 + _; omega
  have d : szW (unlW r.unl) ≤ 30 * (r.unl.map (cntC 16)).sum := by
    unfold unlW
    split
    · next hl =>
      obtain ⟨u, hu⟩ := list1 hl
      have := cond_size 16 u (h4 u (by rw [hu]; simp))
      have hc2 : 1 ≤ cntC 16 u := by
        cases u with
        | mk k lo hi n ks => show 1 ≤ 1 + _; omega
      rw [hu]
      show szW (tUnl :: condW 16 u) ≤ 30 * (cntC 16 u + 0)
      simp only [sz_cons, tUnl, List.length_cons, List.length_nil]; omega
    · simp [szW]
  unfold ruleW cntR
  simp only [sz_cons, sz_app, sz_nil, tRule, tIf, tSet, tEnd, List.length_cons, List.length_nil]
  omega
theorem rules_size : ∀ (l : List Ru), (∀ r ∈ l, ruleB r = true) → szW (l.flatMap ruleW) ≤ 30 * (l.map cntR).sum
  | [], _ => by simp [szW]
  | r :: q, h => by
    have h1 := rule_size (h r (by simp))
    have ih := rules_size q fun x hx => h x (List.mem_cons_of_mem _ hx)
    simp only [List.flatMap_cons, sz_app, List.map_cons, List.sum_cons]; omega
theorem join_size (l : List Tx) : (joinC 32 l).length ≤ szW l := by
  have h := Wo.join_sum l
  have e : ∀ l : List Tx, szW l = Wo.sumL l + l.length := fun l => by
    induction l with
    | nil => rfl
    | cons x r ih => rw [sz_cons, ih]; simp [Wo.sumL]; omega
  rw [e]; exact h
theorem plan_size {p : Pn} (h : planB p = true) : (prT p).length ≤ 100 + 30 * cntP p := by
  have hp := h
  simp only [planB, Bool.and_eq_true, Bool.or_eq_true, decide_eq_true_eq, List.all_eq_true] at h
  obtain ⟨hm, h64, hl, hr⟩ := h
  obtain ⟨l1, l2, l3, l4⟩ := lim_good hl
  have y1 := money_len l1
  have y2 := money_len l2
  have y3 := money_len l3
  have y4 := money_len l4
  have hh : (if p.mode = 1 then tAgg else tEmb).length ≤ 9 := by split <;> decide
  have hs := rules_size p.rules hr
  refine Nat.le_trans (join_size _) ?_
  unfold planW headW cntP
  simp only [sz_cons, sz_app, sz_nil, tPlan, tMem, tFam, List.length_cons, List.length_nil]
  omega

/-! ### A rule's text behind a plan's -/
theorem join_app : ∀ (a b : List Tx), a ≠ [] → b ≠ [] → joinC 32 (a ++ b) = joinC 32 a ++ 32 :: joinC 32 b
  | [], _, h, _ => absurd rfl h
  | [x], b, _, hb => by
    cases b with
    | nil => exact absurd rfl hb
    | cons y r => show joinC 32 (x :: y :: r) = _; rw [joinC_cons, joinC_one]
  | x :: y :: r, b, _, hb => by
    have ih := join_app (y :: r) b (by simp) hb
    show joinC 32 (x :: y :: (r ++ b)) = _
    rw [joinC_cons, joinC_cons]
    have e : y :: (r ++ b) = (y :: r) ++ b := rfl
    rw [e, ih, List.append_assoc]; rfl
theorem planW_ne (p : Pn) : planW p ≠ [] := by unfold planW headW; simp
theorem ruleW_ne (r : Ru) : ruleW r ≠ [] := by unfold ruleW; simp
theorem prT_more (p : Pn) (r : Ru) : prT { p with rules := p.rules ++ [r] } = prT p ++ 32 :: joinC 32 (ruleW r) := by
  unfold prT
  rw [plan_more, join_app _ _ (planW_ne p) (ruleW_ne r)]
/-- What stands behind the head of a plan of one rule, put behind a plan's text. -/
theorem text_joins (p : Pn) (r : Ru) : prT p ++ (prT { pn0 with rules := [r] }).drop (prT pn0).length = prT { p with rules := p.rules ++ [r] } := by
  have e : prT { pn0 with rules := [r] } = prT pn0 ++ 32 :: joinC 32 (ruleW r) := prT_more pn0 r
  rw [e, prT_more, List.drop_left]
theorem pn0_ok : prE pn0 = 0 := by decide +kernel
theorem cnt_more (p : Pn) (r : Ru) : cntP { p with rules := p.rules ++ [r] } = cntP p + cntR r := by unfold cntP; simp
end Go.Proofs.YtoibhgoaibjopaaGreatDoor.Pl
end

/-
  Rows of texts, of elements and of segments, as they lie in memory; what stands while the rest is written.
-/
section
namespace Go.Proofs.YtoibhgoaibjopaaGreatDoor
open Go.RowKit

abbrev All : Nat → Prop := fun _ => True
def RowAt {α : Type} (K : Nat → Prop) (R : World → Value → α → Prop) (w : World) (v : Value) (xs : List α) : Prop :=
  ∃ a c, v = .slice a xs.length c ∧ xs.length ≤ c ∧ c ≤ maxLen ∧ (xs = [] ∨ ∃ b o, a = some ⟨b, o, none⟩ ∧ K b ∧ b < w.heap.size ∧ ∀ (j : Nat) x, xs[j]? = some x → ∃ u, w.cell? ⟨b, o + j, none⟩ = some u ∧ R w u x)
def StrAt (_ : World) (u : Value) (x : Tx) : Prop := u = .string (mk x)
def TxAt (K : Nat → Prop) : World → Value → List Tx → Prop := RowAt K StrAt
def ElAt (K : Nat → Prop) : World → Value → Sg → Prop := RowAt K (TxAt K)
def SgAt (K : Nat → Prop) : World → Value → List Sg → Prop := RowAt K (ElAt K)

/-- What lies in the blocks of K lies there still, and these are blocks of K'. -/
def Moves (K K' : Nat → Prop) (w w' : World) : Prop := w.heap.size ≤ w'.heap.size ∧ ∀ b, b < w.heap.size → K b → K' b ∧ w'.heap[b]? = w.heap[b]?

theorem RowAt.move {α : Type} {K K' : Nat → Prop} {R R' : World → Value → α → Prop} {w w' : World} {v : Value} {xs : List α} (h : RowAt K R w v xs) (hm : Moves K K' w w') (hR : ∀ u x, x ∈ xs → R w u x → R' w' u x) : RowAt K' R' w' v xs := by
  obtain ⟨a, c, rfl, h1, h2, h3⟩ := h
  refine ⟨a, c, rfl, h1, h2, h3.imp id ?_⟩
  rintro ⟨b, o, rfl, hk, hb, hc⟩
  obtain ⟨k', hh⟩ := hm.2 b hb hk
  refine ⟨b, o, rfl, k', Nat.lt_of_lt_of_le hb hm.1, fun j x hj => ?_⟩
  obtain ⟨u, hu, hr⟩ := hc j x hj
  exact ⟨u, by rw [World.cell?_of_block (w := w) hh]; exact hu, hR u x (List.mem_of_getElem? hj) hr⟩
theorem TxAt.move {K K' : Nat → Prop} {w w' : World} {v : Value} {xs : List Tx} (h : TxAt K w v xs) (hm : Moves K K' w w') : TxAt K' w' v xs := RowAt.move h hm fun _ _ _ h => h
theorem ElAt.move {K K' : Nat → Prop} {w w' : World} {v : Value} {xs : Sg} (h : ElAt K w v xs) (hm : Moves K K' w w') : ElAt K' w' v xs := RowAt.move h hm fun _ _ _ h => TxAt.move h hm
theorem SgAt.move {K K' : Nat → Prop} {w w' : World} {v : Value} {xs : List Sg} (h : SgAt K w v xs) (hm : Moves K K' w w') : SgAt K' w' v xs := RowAt.move h hm fun _ _ _ h => ElAt.move h hm

theorem Below.moves {w w' : World} (h : Below w.heap.size w w') : Moves All All w w' := ⟨h.size, fun b hb _ => ⟨trivial, h.block b hb⟩⟩
theorem Below.moves_lo {B : Nat} {w w' : World} (h : Below B w w') : Moves (fun b => b < B) (fun b => b < B) w w' := ⟨h.size, fun b _ hk => ⟨hk, h.block b hk⟩⟩
theorem moves_alloc (K : Nat → Prop) (w : World) (o : Obj) : Moves K K w (w.alloc o) := ⟨by simp, fun b hb hk => ⟨hk, Below.heap_alloc w o b hb⟩⟩
theorem Moves.trans {K K' K'' : Nat → Prop} {a b c : World} (h : Moves K K' a b) (k : Moves K' K'' b c) : Moves K K'' a c :=
  ⟨Nat.le_trans h.1 k.1, fun x hx hk => by
    obtain ⟨k1, e1⟩ := h.2 x hx hk
    obtain ⟨k2, e2⟩ := k.2 x (Nat.lt_of_lt_of_le hx h.1) k1
    exact ⟨k2, e2.trans e1⟩⟩
theorem moves_grown {K K' : Nat → Prop} {w w' : World} {row : Option Nat} (hg : w.grownBy w' row) (h : ∀ b, b < w.heap.size → K b → K' b ∧ some b ≠ row) : Moves K K' w w' :=
  ⟨hg.size, fun b hb hk => ⟨(h b hb hk).1, hg.block b hb (h b hb hk).2⟩⟩
theorem moves_weak {K K' : Nat → Prop} (w : World) (h : ∀ b, b < w.heap.size → K b → K' b) : Moves K K' w w := ⟨Nat.le_refl _, fun b hb hk => ⟨h b hb hk, rfl⟩⟩

theorem TxAt.nil (K : Nat → Prop) (w : World) : TxAt K w (.slice none 0 0) [] := ⟨none, 0, rfl, by simp, by simp [maxLen], Or.inl rfl⟩
theorem ElAt.nil (K : Nat → Prop) (w : World) : ElAt K w (.slice none 0 0) [] := ⟨none, 0, rfl, by simp, by simp [maxLen], Or.inl rfl⟩
theorem SgAt.nil (K : Nat → Prop) (w : World) : SgAt K w (.slice none 0 0) [] := ⟨none, 0, rfl, by simp, by simp [maxLen], Or.inl rfl⟩

/-- A row of the call's own, cell by cell. -/
theorem row_of_own {α : Type} {K : Nat → Prop} {R : World → Value → α → Prop} {w : World} {base : Nat} {e : TypeId} {v : Value} {xs : List Value} {ys : List α}
    (h : w.ownsRow base e 1 v ys.length xs) (hK : ∀ b, v.ownBlock = some b → K b) (hR : ∀ (j : Nat) u y, xs[j]? = some u → ys[j]? = some y → R w u y) : RowAt K R w v ys := by
  obtain ⟨hl, h⟩ := h
  rcases h with ⟨rfl, h0⟩ | ⟨g, cap, cur, rfl, _, hg, h1, h2, hs, ht⟩
  · obtain rfl := List.length_eq_zero_iff.1 h0
    exact ⟨none, 0, rfl, by simp, by simp [maxLen], Or.inl rfl⟩
  · refine ⟨_, cap, rfl, h1, h2, Or.inr ⟨g, 0, rfl, hK g rfl, (Array.getElem?_eq_some_iff.1 hg).1, fun j y hj => ?_⟩⟩
    have hjl : j < ys.length := (List.getElem?_eq_some_iff.1 hj).1
    have hjx : j < xs.length := by omega
    refine ⟨xs[j], ?_, hR j _ y (List.getElem?_eq_getElem hjx) hj⟩
    rw [Nat.zero_add, cell_of_row w g j cur e (0, 0) hg]
    obtain ⟨u, hu⟩ : ∃ u, xs[j]? = some u := ⟨_, List.getElem?_eq_getElem hjx⟩
    have hu2 : xs[j] = u := by rw [List.getElem?_eq_getElem hjx] at hu; exact Option.some.inj hu
    rw [hu2]
    rw [← ht, List.getElem?_take] at hu
    split at hu
    · simpa using hu
    · cases hu
end Go.Proofs.YtoibhgoaibjopaaGreatDoor
end

/-
  What words.gap, bracket and inner, and the reference's kind, answer: for every byte. What endOf answers: for every text and place in it.
-/
section
set_option linter.unusedSimpArgs false
set_option linter.unusedVariables false
namespace Go.Proofs.YtoibhgoaibjopaaGreatDoor.Wo
open Go.RowKit

theorem kd_nat (c : UInt8) : kd c = if c.toNat = 32 ∨ c.toNat = 10 then 1 else if c.toNat = 40 ∨ c.toNat = 41 then 2 else if c.toNat = 46 ∨ (48 ≤ c.toNat ∧ c.toNat ≤ 57) ∨ (65 ≤ c.toNat ∧ c.toNat ≤ 90) ∨ (97 ≤ c.toNat ∧ c.toNat ≤ 122) then 3 else 0 := by
  unfold kd
  simp only [← UInt8.toNat_inj, UInt8.le_iff_toNat_le]
  rfl
theorem kd_1 {c : UInt8} (h : c.toNat = 32 ∨ c.toNat = 10) : kd c = 1 := by rw [kd_nat, if_pos h]
theorem kd_2 {c : UInt8} (h : c.toNat = 40 ∨ c.toNat = 41) : kd c = 2 := by rw [kd_nat, if_neg (by omega), if_pos h]
theorem kd_3 {c : UInt8} (h : c.toNat = 46 ∨ (48 ≤ c.toNat ∧ c.toNat ≤ 57) ∨ (65 ≤ c.toNat ∧ c.toNat ≤ 90) ∨ (97 ≤ c.toNat ∧ c.toNat ≤ 122)) : kd c = 3 := by rw [kd_nat, if_neg (by omega), if_neg (by omega), if_pos h]
theorem kd_0 {c : UInt8} (h1 : ¬ (c.toNat = 32 ∨ c.toNat = 10)) (h2 : ¬ (c.toNat = 40 ∨ c.toNat = 41)) (h : ¬ (c.toNat = 46 ∨ (48 ≤ c.toNat ∧ c.toNat ≤ 57) ∨ (65 ≤ c.toNat ∧ c.toNat ≤ 90) ∨ (97 ≤ c.toNat ∧ c.toNat ≤ 122))) : kd c = 0 := by rw [kd_nat, if_neg h1, if_neg h2, if_neg h]

theorem parts (n : Nat) (h : n < 256) : n = 10 ∨ n = 32 ∨ n = 40 ∨ n = 41 ∨ n = 46 ∨ (n < 46 ∧ n ≠ 10 ∧ n ≠ 32 ∧ n ≠ 40 ∧ n ≠ 41) ∨ n = 47 ∨ (48 ≤ n ∧ n ≤ 57) ∨ (58 ≤ n ∧ n ≤ 64) ∨ (65 ≤ n ∧ n ≤ 90) ∨ (91 ≤ n ∧ n ≤ 96) ∨ (97 ≤ n ∧ n ≤ 122) ∨ (123 ≤ n ∧ n ≤ 255) := by omega

set_option maxHeartbeats 2000000 in
theorem gap_any (c : UInt8) (w : World) : Calls Tryz.prog 42 #[.int .u8 c.toNat] w fun e w' => e = .returned (.bool (kd c == 1)) ∧ w' = w := by
  have hc := c.toNat_lt
  rcases (show c.toNat = 32 ∨ c.toNat = 10 ∨ (c.toNat ≠ 32 ∧ c.toNat ≠ 10) by omega) with h | h | ⟨h, h'⟩
  · have HV : Hid ((kd c == 1) = true) := by show _ = _; rw [kd_1 (by omega)]; rfl
    rw [h]
    go_enter Tryz.func42, Tryz.ntmps42
    go_wp2
    go_ret
    exact ⟨by rw [HV.out]; rfl, rfl⟩
  · have HV : Hid ((kd c == 1) = true) := by show _ = _; rw [kd_1 (by omega)]; rfl
    rw [h]
    go_enter Tryz.func42, Tryz.ntmps42
    go_wp2
    go_ret
    exact ⟨by rw [HV.out]; rfl, rfl⟩
  · have HV : Hid ((kd c == 1) = false) := by show _ = _; rw [kd_nat, if_neg (by omega)]; split <;> (try split) <;> rfl
    have e1 : ((c.toNat : Int) == 32) = false := by rw [beq_eq_false_iff_ne]; omega
    have e2 : ((c.toNat : Int) == 10) = false := by rw [beq_eq_false_iff_ne]; omega
    go_enter Tryz.func42, Tryz.ntmps42
    go_wp2
    go_ret
    exact ⟨by rw [HV.out]; rfl, rfl⟩
set_option maxHeartbeats 2000000 in
theorem bracket_any (c : UInt8) (w : World) : Calls Tryz.prog 43 #[.int .u8 c.toNat] w fun e w' => e = .returned (.bool (kd c == 2)) ∧ w' = w := by
  have hc := c.toNat_lt
  rcases (show c.toNat = 40 ∨ c.toNat = 41 ∨ (c.toNat ≠ 40 ∧ c.toNat ≠ 41) by omega) with h | h | ⟨h, h'⟩
  · have HV : Hid ((kd c == 2) = true) := by show _ = _; rw [kd_2 (by omega)]; rfl
    rw [h]
    go_enter Tryz.func43, Tryz.ntmps43
    go_wp2
    go_ret
    exact ⟨by rw [HV.out]; rfl, rfl⟩
  · have HV : Hid ((kd c == 2) = true) := by show _ = _; rw [kd_2 (by omega)]; rfl
    rw [h]
    go_enter Tryz.func43, Tryz.ntmps43
    go_wp2
    go_ret
    exact ⟨by rw [HV.out]; rfl, rfl⟩
  · have HV : Hid ((kd c == 2) = false) := by
      show _ = _
      rw [kd_nat]
      split
      · rfl
      rw [if_neg (by omega)]
      split <;> rfl
    have e1 : ((c.toNat : Int) == 40) = false := by rw [beq_eq_false_iff_ne]; omega
    have e2 : ((c.toNat : Int) == 41) = false := by rw [beq_eq_false_iff_ne]; omega
    go_enter Tryz.func43, Tryz.ntmps43
    go_wp2
    go_ret
    exact ⟨by rw [HV.out]; rfl, rfl⟩
theorem nat_of (n : Nat) : ((n : Int) == 46) = decide (n = 46) ∧ ((n : Int) == 32) = decide (n = 32) ∧ ((n : Int) == 10) = decide (n = 10) ∧ ((n : Int) == 40) = decide (n = 40) ∧ ((n : Int) == 41) = decide (n = 41) := by
  refine ⟨?_, ?_, ?_, ?_, ?_⟩
  all_goals
    rw [Bool.eq_iff_iff, beq_iff_eq, decide_eq_true_iff]
    omega
set_option maxHeartbeats 4000000 in
theorem inner_any (c : UInt8) (w : World) : Calls Tryz.prog 44 #[.int .u8 c.toNat] w fun e w' => e = .returned (.bool (inn c)) ∧ w' = w := by
  have hc := c.toNat_lt
  obtain ⟨e1, -⟩ := nat_of c.toNat
  rcases (show c.toNat = 46 ∨ (c.toNat < 46) ∨ c.toNat = 47 ∨ (48 ≤ c.toNat ∧ c.toNat ≤ 57) ∨ (58 ≤ c.toNat ∧ c.toNat ≤ 64) ∨ (65 ≤ c.toNat ∧ c.toNat ≤ 90) ∨ (91 ≤ c.toNat ∧ c.toNat ≤ 96) ∨ (97 ≤ c.toNat ∧ c.toNat ≤ 122) ∨ (123 ≤ c.toNat ∧ c.toNat ≤ 255) by omega) with h | h | h | ⟨h, h'⟩ | ⟨h, h'⟩ | ⟨h, h'⟩ | ⟨h, h'⟩ | ⟨h, h'⟩ | ⟨h, h'⟩
  case inl | inr.inr.inr.inl | inr.inr.inr.inr.inr.inl | inr.inr.inr.inr.inr.inr.inr.inl =>
    all_goals
      have HV : Hid (inn c = true) := by show _ = _; unfold inn; rw [kd_3 (by omega)]; rfl
      have e2 : ((c.toNat : Int) == 46) = decide (c.toNat = 46) := e1
      clear e1
      first | rw [decide_eq_true h] at e2 | rw [decide_eq_false (by omega)] at e2
      generalize c.toNat = n at *
      go_enter Tryz.func44, Tryz.ntmps44
      go_wp2
      go_ret
      exact ⟨by rw [HV.out]; rfl, rfl⟩
  all_goals
    have HV : Hid (inn c = false) := by
      show _ = _
      unfold inn
      rw [kd_nat]
      split
      · rfl
      split
      · rfl
      rw [if_neg (by omega)]
      rfl
    rw [decide_eq_false (by omega)] at e1
    first | (have f57 : decide ((c.toNat : Int) ≤ 57) = false := by rw [decide_eq_false_iff_not]; omega) | (have f57 : decide ((c.toNat : Int) ≤ 57) = true := by rw [decide_eq_true_iff]; omega)
    first | (have f90 : decide ((c.toNat : Int) ≤ 90) = false := by rw [decide_eq_false_iff_not]; omega) | (have f90 : decide ((c.toNat : Int) ≤ 90) = true := by rw [decide_eq_true_iff]; omega)
    first | (have f122 : decide ((c.toNat : Int) ≤ 122) = false := by rw [decide_eq_false_iff_not]; omega) | (have f122 : decide ((c.toNat : Int) ≤ 122) = true := by rw [decide_eq_true_iff]; omega)
    generalize c.toNat = n at *
    go_enter Tryz.func44, Tryz.ntmps44
    go_wp2
    go_ret
    exact ⟨by rw [HV.out]; rfl, rfl⟩
theorem take_snoc (s : ByteArray) (k : Nat) (h : k < s.size) : s.data.toList.take (k + 1) = s.data.toList.take k ++ [s[k]] := by
  rw [List.take_add_one, List.getElem?_eq_getElem (by simpa using h)]; rfl
theorem drop_at (s : ByteArray) (k : Nat) (h : k < s.size) : s.data.toList.drop k = s[k] :: s.data.toList.drop (k + 1) := by
  have h' : k < s.data.toList.length := by simpa using h
  rw [List.drop_eq_getElem_cons h']; rfl
/-- Where the run of letters, digits and dots ends that begins at a place. -/
def endR (l : Tx) (k : Nat) : Nat := k + ((l.drop k).takeWhile inn).length
theorem endR_stop (s : ByteArray) (k : Nat) (h : ¬ k < s.size) : endR s.data.toList k = k := by
  unfold endR
  rw [List.drop_eq_nil_of_le (by simp; omega)]; rfl
theorem endR_no (s : ByteArray) (k : Nat) (h : k < s.size) (hi : inn s[k] = false) : endR s.data.toList k = k := by
  unfold endR
  rw [drop_at s k h, List.takeWhile_cons, if_neg (by rw [hi]; simp)]; rfl
theorem endR_go (s : ByteArray) (k : Nat) (h : k < s.size) (hi : inn s[k] = true) : endR s.data.toList k = endR s.data.toList (k + 1) := by
  unfold endR
  rw [drop_at s k h, List.takeWhile_cons, if_pos hi, List.length_cons]; omega
theorem endR_facts (l : Tx) (k : Nat) (hk : k ≤ l.length) : k ≤ endR l k ∧ endR l k ≤ l.length ∧ allI ((l.drop k).take (endR l k - k)) = true ∧ headI (l.drop (endR l k)) = false := by
  have e : endR l k - k = ((l.drop k).takeWhile inn).length := by unfold endR; omega
  have hp : (l.drop k).take ((l.drop k).takeWhile inn).length = (l.drop k).takeWhile inn := by
    conv => lhs; rw [← List.takeWhile_append_dropWhile (p := inn) (l := l.drop k)]
    rw [List.takeWhile_append_dropWhile]
    conv => lhs; arg 2; rw [← List.takeWhile_append_dropWhile (p := inn) (l := l.drop k)]
    exact List.take_left
  have hd : l.drop (endR l k) = (l.drop k).dropWhile inn := by
    unfold endR
    rw [← List.drop_drop]
    conv => lhs; arg 2; rw [← List.takeWhile_append_dropWhile (p := inn) (l := l.drop k)]
    exact List.drop_left
  have hlen : ((l.drop k).takeWhile inn).length ≤ (l.drop k).length := (List.takeWhile_prefix _).length_le
  refine ⟨by unfold endR; omega, by unfold endR; rw [List.length_drop] at hlen; omega, ?_, ?_⟩
  · rw [e, hp]; unfold allI; exact List.all_takeWhile
  · rw [hd]
    cases h : (l.drop k).dropWhile inn with
    | nil => rfl
    | cons c t =>
      have := List.head?_dropWhile_not inn (l.drop k)
      rw [h] at this
      simpa [headI] using this

set_option maxHeartbeats 2000000 in
theorem endOf_any (s : ByteArray) (k : Nat) (w : World) (hk : k ≤ s.size) (hs : s.size ≤ 65536) :
    Calls Tryz.prog 45 #[.string s, .int .i64 (k : Nat)] w fun e w' => e = .returned (.int .i64 (endR s.data.toList k : Nat)) ∧ w' = w := by
  go_enter Tryz.func45, Tryz.ntmps45
  go_wp2
  go_loop [1] (fun i => ∃ j : Nat, j ≤ s.size ∧ i = .int .i64 (j : Nat) ∧ Hid (endR s.data.toList j = endR s.data.toList k)) (fun i => s.size - (intOf i).toNat)
  case atStart => exact ⟨k, hk, rfl, rfl⟩
  case round =>
    obtain ⟨j, hj, rfl, HE⟩ := hrel
    by_cases hlt : j < s.size
    · cases hi : inn s[j]
      · have HI := Lib.hid (endR_no s j hlt hi)
        have HC := Lib.hid (inner_any s[j])
        rw [hi] at HC
        go_wp2_with (go_at_call 44; refine (HC.out _).mono ?_; rintro e w1 ⟨rfl, rfl⟩)
        go_ret
        exact ⟨by rw [← HE.out, HI.out]; rfl, rfl⟩
      · have HI := Lib.hid (endR_go s j hlt hi)
        have HC := Lib.hid (inner_any s[j])
        rw [hi] at HC
        go_wp2_with (go_at_call 44; refine (HC.out _).mono ?_; rintro e w1 ⟨rfl, rfl⟩)
        go_round
        case rel => exact ⟨j + 1, by omega, by go_num, by rw [← HI.out]; exact HE.out⟩
        case measure => simp [intOf]; omega
    · have HI := Lib.hid (endR_stop s j hlt)
      go_wp2
      go_ret
      exact ⟨by rw [← HE.out, HI.out]; rfl, rfl⟩
end Go.Proofs.YtoibhgoaibjopaaGreatDoor.Wo
end
