/-
  Texts put together (merge.py): PSize, ZMath.
-/
import Derived.Sort.Walk0
import Derived.Test.YtmoldgmfhcmceaaGreatDoorMp7
import Derived.Test.YtmoldgmfhcmceaaGreatDoorMp2
/-
  How long a plan's text is, by how many conditions and sets it has; a rule's text behind a plan's.
-/
section
set_option linter.unusedSimpArgs false
namespace Go.Proofs.YtmoldgmfhcmceaaGreatDoor.Pl

def cntC : Nat → Cd → Nat
  | 0, _ => 0
  | f + 1, .mk _ _ _ _ ks => 1 + (ks.map (cntC f)).sum
def cntR (r : Ru) : Nat := 1 + r.sets.length + cntC 16 r.cif + (r.unl.map (cntC 16)).sum
def cntP (p : Pn) : Nat := (p.rules.map cntR).sum
theorem cond_size : ∀ (f : Nat) (c : Cd), condB f c = true → szW (condW f c) ≤ 23 * cntC f c
  | 0, c, h => by cases h
  | f + 1, .mk k lo hi n ks, h => by
    simp only [condB, Bool.and_eq_true, decide_eq_true_eq, List.all_eq_true] at h
    obtain ⟨hk, hks, hl⟩ := h
    obtain ⟨h0, h8, hlo, hhi, hn⟩ := leaf_facts hl
    have hcode : ∀ (t : Tx) (m : Int), Cm.codeB t m m = true → (t.length : Int) ≤ m := fun t m h => by simp only [Cm.codeB, Bool.and_eq_true, decide_eq_true_eq] at h; exact h.1.2
    rcases k_cases h0 h8 with rfl | rfl | rfl | rfl | rfl | rfl | rfl | rfl | rfl
    · show szW [tAll] ≤ 23 * (1 + _); simp only [sz_cons, sz_nil, tAll, List.length_cons, List.length_nil]; omega
    · have h1 := hcode lo 5 (by simpa [loB] using hlo)
      have h2 := hcode hi 5 (by simpa [hiB] using hhi)
      show szW [tProc, lo, hi] ≤ 23 * (1 + _); simp only [sz_cons, sz_nil, tProc, List.length_cons, List.length_nil]; omega
    · have h1 := hcode lo 2 (by simpa [loB] using hlo)
      show szW [tMod, lo] ≤ 23 * (1 + _); simp only [sz_cons, sz_nil, tMod, List.length_cons, List.length_nil]; omega
    · have hn : 0 ≤ n ∧ n ≤ 9999 := by simpa [nB] using hn
      have h1 := itoa_len hn.1 (show n ≤ 99999 by omega)
      show szW [tUnits, Lib.itoa n] ≤ 23 * (1 + _); simp only [sz_cons, sz_nil, tUnits, List.length_cons, List.length_nil]; omega
    · have h1 := money_len (n := n) (by simpa [nB] using hn)
      show szW [tBilled, Nu.moneyL n] ≤ 23 * (1 + _); simp only [sz_cons, sz_nil, tBilled, List.length_cons, List.length_nil]; omega
    · show szW [tOut] ≤ 23 * (1 + _); simp only [sz_cons, sz_nil, tOut, List.length_cons, List.length_nil]; omega
    · obtain ⟨c, rfl⟩ := list1 (show ks.length = 1 from hk)
      have ih := cond_size f c (hks c (by simp))
      show szW (tNot :: condW f c) ≤ 23 * (1 + (cntC f c + 0)); simp only [sz_cons, tNot, List.length_cons, List.length_nil]; omega
    all_goals
      obtain ⟨c, d, rfl⟩ := list2 (show ks.length = 2 from hk)
      have ih := cond_size f c (hks c (by simp))
      have ih2 := cond_size f d (hks d (by simp))
    · show szW (tO :: (condW f c ++ (tAnd :: (condW f d ++ [tC])))) ≤ 23 * (1 + (cntC f c + (cntC f d + 0)))
      simp only [sz_cons, sz_app, sz_nil, tO, tC, tAnd, List.length_cons, List.length_nil]; omega
    · show szW (tO :: (condW f c ++ (tOr :: (condW f d ++ [tC])))) ≤ 23 * (1 + (cntC f c + (cntC f d + 0)))
      simp only [sz_cons, sz_app, sz_nil, tO, tC, tOr, List.length_cons, List.length_nil]; omega
theorem set_size {s : St} (h : setB s = true) : szW (setW s) ≤ 22 := by
  simp only [setB, Bool.and_eq_true, decide_eq_true_eq] at h
  have hy : ∀ n, (yesW n).length ≤ 3 := fun n => by unfold yesW; split <;> decide
  unfold setW
  split
  · have := hy s.n; simp only [sz_cons, sz_nil, tCover, List.length_cons, List.length_nil]; omega
  split
  · have := hy s.n; simp only [sz_cons, sz_nil, tDed, List.length_cons, List.length_nil]; omega
  split
  · next n1 n2 n3 => have := money_len (n := s.n) (by simpa [n1, n2, n3] using h.2); simp only [sz_cons, sz_nil, tCopay, List.length_cons, List.length_nil]; omega
  · next n1 n2 n3 =>
    have hn : s.n ≤ 10000 := by
      by_cases n4 : s.what = 4
      · simpa [n1, n2, n3, n4] using h.2
      · simp [n1, n2, n3, n4] at h
    have := itoa_len h.1 (show s.n ≤ 99999 by omega)
    simp only [sz_cons, sz_nil, tCoins, List.length_cons, List.length_nil]; omega
theorem sets_size : ∀ (l : List St), (∀ s ∈ l, setB s = true) → szW (setsW l) ≤ 22 * l.length
  | [], _ => by simp [setsW, szW]
  | s :: r, h => by
    have h1 := set_size (h s (by simp))
    have ih := sets_size r fun x hx => h x (List.mem_cons_of_mem _ hx)
    have e : setsW (s :: r) = setW s ++ setsW r := by simp [setsW]
    rw [e, sz_app, List.length_cons]; omega
theorem rule_size {r : Ru} (h : ruleB r = true) : szW (ruleW r) ≤ 30 * cntR r := by
  simp only [ruleB, Bool.and_eq_true, decide_eq_true_eq, List.all_eq_true] at h
  obtain ⟨⟨h0, h1⟩, h2, h3, h4, h5, h6⟩ := h
  have a := itoa_len h0 (show r.rank ≤ 99999 by omega)
  have b := cond_size 16 r.cif h2
  have c := sets_size r.sets (sets_all _ _ h6)
  have hc1 : 1 ≤ cntC 16 r.cif := by
    cases hr : r.cif with
    | mk k lo hi n ks => show 1 ≤ 1 + _; omega
  have d : szW (unlW r.unl) ≤ 30 * (r.unl.map (cntC 16)).sum := by
    unfold unlW
    split
    · next hl =>
      obtain ⟨u, hu⟩ := list1 hl
      have := cond_size 16 u (h4 u (by rw [hu]; simp))
      have hc2 : 1 ≤ cntC 16 u := by
        cases u with
        | mk k lo hi n ks => show 1 ≤ 1 + _; omega
      rw [hu]
      show szW (tUnl :: condW 16 u) ≤ 30 * (cntC 16 u + 0)
      simp only [sz_cons, tUnl, List.length_cons, List.length_nil]; omega
    · simp [szW]
  unfold ruleW cntR
  simp only [sz_cons, sz_app, sz_nil, tRule, tIf, tSet, tEnd, List.length_cons, List.length_nil]
  omega
theorem rules_size : ∀ (l : List Ru), (∀ r ∈ l, ruleB r = true) → szW (l.flatMap ruleW) ≤ 30 * (l.map cntR).sum
  | [], _ => by simp [szW]
  | r :: q, h => by
    have h1 := rule_size (h r (by simp))
    have ih := rules_size q fun x hx => h x (List.mem_cons_of_mem _ hx)
    simp only [List.flatMap_cons, sz_app, List.map_cons, List.sum_cons]; omega
theorem join_size (l : List Tx) : (joinC 32 l).length ≤ szW l := by
  have h := Wo.join_sum l
  have e : ∀ l : List Tx, szW l = Wo.sumL l + l.length := fun l => by
    induction l with
    | nil => rfl
    | cons x r ih => rw [sz_cons, ih]; simp [Wo.sumL]; omega
  rw [e]; exact h
theorem plan_size {p : Pn} (h : planB p = true) : (prT p).length ≤ 100 + 30 * cntP p := by
  have hp := h
  simp only [planB, Bool.and_eq_true, Bool.or_eq_true, decide_eq_true_eq, List.all_eq_true] at h
  obtain ⟨hm, h64, hl, hr⟩ := h
  obtain ⟨l1, l2, l3, l4⟩ := lim_good hl
  have y1 := money_len l1
  have y2 := money_len l2
  have y3 := money_len l3
  have y4 := money_len l4
  have hh : (if p.mode = 1 then tAgg else tEmb).length ≤ 9 := by split <;> decide
  have hs := rules_size p.rules hr
  refine Nat.le_trans (join_size _) ?_
  unfold planW headW cntP
  simp only [sz_cons, sz_app, sz_nil, tPlan, tMem, tFam, List.length_cons, List.length_nil]
  omega

/-! ### A rule's text behind a plan's -/
theorem join_app : ∀ (a b : List Tx), a ≠ [] → b ≠ [] → joinC 32 (a ++ b) = joinC 32 a ++ 32 :: joinC 32 b
  | [], _, h, _ => absurd rfl h
  | [x], b, _, hb => by
    cases b with
    | nil => exact absurd rfl hb
    | cons y r => show joinC 32 (x :: y :: r) = _; rw [joinC_cons, joinC_one]
  | x :: y :: r, b, _, hb => by
    have ih := join_app (y :: r) b (by simp) hb
    show joinC 32 (x :: y :: (r ++ b)) = _
    rw [joinC_cons, joinC_cons]
    have e : y :: (r ++ b) = (y :: r) ++ b := rfl
    rw [e, ih, List.append_assoc]; rfl
theorem planW_ne (p : Pn) : planW p ≠ [] := by unfold planW headW; simp
theorem ruleW_ne (r : Ru) : ruleW r ≠ [] := by unfold ruleW; simp
theorem prT_more (p : Pn) (r : Ru) : prT { p with rules := p.rules ++ [r] } = prT p ++ 32 :: joinC 32 (ruleW r) := by
  unfold prT
  rw [plan_more, join_app _ _ (planW_ne p) (ruleW_ne r)]
/-- What stands behind the head of a plan of one rule, put behind a plan's text. -/
theorem text_joins (p : Pn) (r : Ru) : prT p ++ (prT { pn0 with rules := [r] }).drop (prT pn0).length = prT { p with rules := p.rules ++ [r] } := by
  have e : prT { pn0 with rules := [r] } = prT pn0 ++ 32 :: joinC 32 (ruleW r) := prT_more pn0 r
  rw [e, prT_more, List.drop_left]
theorem pn0_ok : prE pn0 = 0 := by decide +kernel
theorem cnt_more (p : Pn) (r : Ru) : cntP { p with rules := p.rules ++ [r] } = cntP p + cntR r := by unfold cntP; simp
end Go.Proofs.YtmoldgmfhcmceaaGreatDoor.Pl
end

/-
  Fee tables over plain lists: which may be, as words, words as tables, what a unit costs: what layer 12's calls answer, and what follows.
-/
section
set_option linter.unusedSimpArgs false
namespace Go.Proofs.YtmoldgmfhcmceaaGreatDoor.Fe
open Wo (Wd wOk txs wds)
open Pl (pos R)

structure Fee where
  proc : Tx
  mod : Tx
  net : Int
  frm : Int
  cents : Int

/-! ### The order of rows -/
def lessT (a b : Tx) : Bool := Op.bytesLess a b
theorem less_irr (a : Tx) : lessT a a = false := by unfold lessT; rw [Go.Proofs.bytesLess_eq]; simp [List.lt_irrefl]
theorem less_asym {a b : Tx} (h : lessT a b = true) : lessT b a = false := by
  unfold lessT at *
  rw [Go.Proofs.bytesLess_eq] at h ⊢
  simp only [decide_eq_true_eq, decide_eq_false_iff_not] at *
  exact List.not_lt.2 (List.le_of_lt h)
theorem less_trans {a b c : Tx} (h : lessT a b = true) (h2 : lessT b c = true) : lessT a c = true := by
  unfold lessT at *
  rw [Go.Proofs.bytesLess_eq] at h h2 ⊢
  simp only [decide_eq_true_eq] at *
  exact List.lt_trans h h2
theorem less_tri (a b : Tx) : lessT a b = true ∨ a = b ∨ lessT b a = true := by
  unfold lessT
  rw [Go.Proofs.bytesLess_eq, Go.Proofs.bytesLess_eq]
  simp only [decide_eq_true_eq]
  rcases Classical.em (a < b) with h | h
  · exact Or.inl h
  · rcases Classical.em (b < a) with h2 | h2
    · exact Or.inr (Or.inr h2)
    · exact Or.inr (Or.inl (List.le_antisymm (List.not_lt.1 h2) (List.not_lt.1 h)))
def aheadB (a b : Fee) : Bool := if a.proc = b.proc then (if a.mod = b.mod then (if a.net = b.net then decide (a.frm < b.frm) else decide (a.net < b.net)) else lessT a.mod b.mod) else lessT a.proc b.proc
def sameP (a b : Fee) : Prop := a.proc = b.proc ∧ a.mod = b.mod ∧ a.net = b.net ∧ a.frm = b.frm
theorem sameP.symm {a b : Fee} (h : sameP a b) : sameP b a := ⟨h.1.symm, h.2.1.symm, h.2.2.1.symm, h.2.2.2.symm⟩
theorem ahead_irr {a b : Fee} (h : sameP a b) : aheadB a b = false := by
  obtain ⟨h1, h2, h3, h4⟩ := h
  unfold aheadB
  rw [if_pos h1, if_pos h2, if_pos h3, h4]; simp
theorem ahead_asym {a b : Fee} (h : aheadB a b = true) : aheadB b a = false := by
  unfold aheadB at *
  by_cases h1 : a.proc = b.proc
  · rw [if_pos h1] at h; rw [if_pos h1.symm]
    by_cases h2 : a.mod = b.mod
    · rw [if_pos h2] at h; rw [if_pos h2.symm]
      by_cases h3 : a.net = b.net
      · rw [if_pos h3] at h; rw [if_pos h3.symm]; simp at *; omega
      · rw [if_neg h3] at h; rw [if_neg (Ne.symm h3)]; simp at *; omega
    · rw [if_neg h2] at h; rw [if_neg (Ne.symm h2)]; exact less_asym h
  · rw [if_neg h1] at h; rw [if_neg (Ne.symm h1)]; exact less_asym h
theorem ahead_tri (a b : Fee) : aheadB a b = true ∨ sameP a b ∨ aheadB b a = true := by
  unfold aheadB sameP
  by_cases h1 : a.proc = b.proc
  · rw [if_pos h1, if_pos h1.symm]
    by_cases h2 : a.mod = b.mod
    · rw [if_pos h2, if_pos h2.symm]
      by_cases h3 : a.net = b.net
      · rw [if_pos h3, if_pos h3.symm]; simp [h1, h2, h3]; omega
      · rw [if_neg h3, if_neg (Ne.symm h3)]; simp; omega
    · rw [if_neg h2, if_neg (Ne.symm h2)]
      rcases less_tri a.mod b.mod with h | h | h
      · exact Or.inl h
      · exact absurd h h2
      · exact Or.inr (Or.inr h)
  · rw [if_neg h1, if_neg (Ne.symm h1)]
    rcases less_tri a.proc b.proc with h | h | h
    · exact Or.inl h
    · exact absurd h h1
    · exact Or.inr (Or.inr h)
theorem ahead_trans {a b c : Fee} (h : aheadB a b = true) (h' : aheadB b c = true) : aheadB a c = true := by
  unfold aheadB at *
  by_cases h1 : a.proc = b.proc
  · rw [if_pos h1] at h
    by_cases k1 : b.proc = c.proc
    · rw [if_pos k1] at h'; rw [if_pos (h1.trans k1)]
      by_cases h2 : a.mod = b.mod
      · rw [if_pos h2] at h
        by_cases k2 : b.mod = c.mod
        · rw [if_pos k2] at h'; rw [if_pos (h2.trans k2)]
          by_cases h3 : a.net = b.net
          · rw [if_pos h3] at h
            by_cases k3 : b.net = c.net
            · rw [if_pos k3] at h'; rw [if_pos (h3.trans k3)]; simp at *; omega
            · rw [if_neg k3] at h'; rw [if_neg (by rw [h3]; exact k3)]; simp at *; omega
          · rw [if_neg h3] at h
            by_cases k3 : b.net = c.net
            · rw [if_neg (by rw [← k3]; exact h3)]; simp at *; omega
            · rw [if_neg k3] at h'; simp at h h'; rw [if_neg (by omega)]; simp; omega
        · rw [if_neg k2] at h'; rw [if_neg (by rw [h2]; exact k2), h2]; exact h'
      · rw [if_neg h2] at h
        by_cases k2 : b.mod = c.mod
        · rw [if_neg (by rw [← k2]; exact h2), ← k2]; exact h
        · rw [if_neg k2] at h'
          have ht := less_trans h h'
          rw [if_neg (fun e => by rw [e, less_irr] at ht; cases ht)]; exact ht
    · rw [if_neg k1] at h'; rw [if_neg (by rw [h1]; exact k1), h1]; exact h'
  · rw [if_neg h1] at h
    by_cases k1 : b.proc = c.proc
    · rw [if_neg (by rw [← k1]; exact h1), ← k1]; exact h
    · rw [if_neg k1] at h'
      have ht := less_trans h h'
      rw [if_neg (fun e => by rw [e, less_irr] at ht; cases ht)]; exact ht
theorem ahead_same {a b c : Fee} (h : sameP a b) : aheadB a c = aheadB b c ∧ aheadB c a = aheadB c b := by
  obtain ⟨h1, h2, h3, h4⟩ := h
  unfold aheadB
  rw [h1, h2, h3, h4]
  exact ⟨rfl, rfl⟩

/-! ### Which may be -/
def oneE (f : Fee) : Int := if Cm.codeB f.proc 5 5 && (decide (f.mod = []) || Cm.codeB f.mod 2 2) then (if 0 ≤ f.net ∧ f.net ≤ 1 then (if Da.good f.frm = true then (if Pl.goodB f.cents = true then 0 else 8) else 7) else 3) else 9
def firstE : List Fee → Int
  | [] => 0
  | f :: r => if oneE f = 0 then firstE r else oneE f
def nbE : List Fee → Int
  | a :: b :: r => if aheadB b a = true then 11 else if aheadB a b = true then nbE (b :: r) else 12
  | _ => 0
def checkE (l : List Fee) : Int := if 512 < l.length then 10 else if firstE l = 0 then nbE l else firstE l
theorem first_all : ∀ (l : List Fee), firstE l = 0 ↔ ∀ f ∈ l, oneE f = 0
  | [] => by simp [firstE]
  | f :: r => by
    unfold firstE
    by_cases h : oneE f = 0
    · rw [if_pos h, first_all r]; simp [h]
    · rw [if_neg h]; simp [h]
def Up (l : List Fee) : Prop := l.Pairwise fun a b => aheadB a b = true
def Wk (l : List Fee) : Prop := l.Pairwise fun a b => aheadB b a = false
theorem Up.wk {l : List Fee} (h : Up l) : Wk l := List.Pairwise.imp (fun h => ahead_asym h) h
theorem nb_up : ∀ (l : List Fee), nbE l = 0 ↔ Up l
  | [] => by simp [nbE, Up]
  | [a] => by simp [nbE, Up]
  | a :: b :: r => by
    have ih := nb_up (b :: r)
    unfold nbE
    by_cases h1 : aheadB b a = true
    · rw [if_pos h1]
      refine ⟨fun h => (by cases h), fun h => ?_⟩
      have := (List.pairwise_cons.1 h).1 b List.mem_cons_self
      rw [ahead_asym this] at h1; cases h1
    · rw [if_neg h1]
      by_cases h2 : aheadB a b = true
      · rw [if_pos h2, ih]
        refine ⟨fun h => List.pairwise_cons.2 ⟨fun x hx => ?_, h⟩, fun h => (List.pairwise_cons.1 h).2⟩
        rcases List.mem_cons.1 hx with rfl | hx
        · exact h2
        · exact ahead_trans h2 ((List.pairwise_cons.1 h).1 x hx)
      · rw [if_neg h2]
        refine ⟨fun h => (by cases h), fun h => ?_⟩
        exact absurd ((List.pairwise_cons.1 h).1 b List.mem_cons_self) h2
theorem nb_wk : ∀ (l : List Fee), Wk l → nbE l = 0 ∨ nbE l = 12
  | [], _ => Or.inl rfl
  | [a], _ => Or.inl rfl
  | a :: b :: r, h => by
    obtain ⟨h1, h2⟩ := List.pairwise_cons.1 h
    unfold nbE
    rw [if_neg (by rw [h1 b List.mem_cons_self]; decide)]
    split
    · exact nb_wk _ h2
    · exact Or.inr rfl

/-! ### Put in order -/
def put : List Fee → Fee → List Fee
  | [], f => [f]
  | x :: r, f => if aheadB f x = true then f :: x :: r else x :: put r f
def srt (l : List Fee) : List Fee := l.foldl put []
theorem put_perm : ∀ (l : List Fee) (f : Fee), (put l f).Perm (f :: l)
  | [], f => List.Perm.refl _
  | x :: r, f => by
    unfold put
    split
    · exact List.Perm.refl _
    · exact ((put_perm r f).cons x).trans (List.Perm.swap f x r)
theorem put_wk : ∀ (l : List Fee) (f : Fee), Wk l → Wk (put l f)
  | [], f, _ => by simp [put, Wk]
  | x :: r, f, h => by
    obtain ⟨h1, h2⟩ := List.pairwise_cons.1 h
    unfold put
    split
    · next hf =>
      refine List.pairwise_cons.2 ⟨fun y hy => ?_, h⟩
      rcases List.mem_cons.1 hy with rfl | hy
      · exact ahead_asym hf
      · cases hyf : aheadB y f with
        | false => rfl
        | true => have := ahead_trans hyf hf; rw [h1 y hy] at this; cases this
    · next hf =>
      refine List.pairwise_cons.2 ⟨fun y hy => ?_, put_wk r f h2⟩
      rcases List.mem_cons.1 ((put_perm r f).mem_iff.1 hy) with rfl | hy
      · simpa using hf
      · exact h1 y hy
theorem put_end : ∀ (l : List Fee) (f : Fee), (∀ x ∈ l, aheadB f x = false) → put l f = l ++ [f]
  | [], f, _ => rfl
  | x :: r, f, h => by
    unfold put
    rw [if_neg (by rw [h x List.mem_cons_self]; decide), put_end r f fun y hy => h y (List.mem_cons_of_mem _ hy)]; rfl
theorem srt_fold : ∀ (l acc : List Fee), Wk acc → (l.foldl put acc).Perm (acc ++ l) ∧ Wk (l.foldl put acc)
  | [], acc, h => by simpa using h
  | f :: r, acc, h => by
    obtain ⟨h1, h2⟩ := srt_fold r (put acc f) (put_wk acc f h)
    refine ⟨h1.trans ?_, h2⟩
    refine ((put_perm acc f).append_right r).trans ?_
    rw [List.cons_append]
    exact (List.perm_middle).symm
theorem srt_perm (l : List Fee) : (srt l).Perm l := by have := (srt_fold l [] List.Pairwise.nil).1; simpa [srt] using this
theorem srt_wk (l : List Fee) : Wk (srt l) := (srt_fold l [] List.Pairwise.nil).2
theorem fold_up : ∀ (l acc : List Fee), Up (acc ++ l) → l.foldl put acc = acc ++ l
  | [], acc, _ => by simp
  | f :: r, acc, h => by
    rw [List.foldl_cons, put_end acc f (fun x hx => ahead_asym ((List.pairwise_append.1 h).2.2 x hx f List.mem_cons_self))]
    rw [fold_up r (acc ++ [f]) (by simpa using h)]; simp
theorem srt_up {l : List Fee} (h : Up l) : srt l = l := by have := fold_up l [] (by simpa using h); simpa [srt] using this
/-- Two rows in the strict order, of the same rows, are one. -/
theorem up_unique : ∀ {l m : List Fee}, Up l → Up m → l.Perm m → l = m
  | [], m, _, _, hp => hp.nil_eq
  | a :: r, [], _, _, hp => by have := hp.length_eq; simp at this
  | a :: r, b :: q, hl, hm, hp => by
    obtain ⟨h1, h2⟩ := List.pairwise_cons.1 hl
    obtain ⟨k1, k2⟩ := List.pairwise_cons.1 hm
    have hab : a = b := by
      rcases List.mem_cons.1 (hp.mem_iff.1 List.mem_cons_self) with e | e
      · exact e
      · rcases List.mem_cons.1 (hp.mem_iff.2 List.mem_cons_self) with e2 | e2
        · exact e2.symm
        · have x1 := k1 a e
          have x2 := h1 b e2
          rw [ahead_asym x1] at x2; cases x2
    subst hab
    rw [up_unique h2 k2 hp.cons_inv]
/-- No two of one place, in whichever order. -/
def Apart (l : List Fee) : Prop := l.Pairwise fun a b => ¬ sameP a b
theorem wk_up {l : List Fee} (h : Wk l) : Up l ↔ Apart l := by
  constructor
  · intro hu
    exact List.Pairwise.imp (fun {a b} hab hs => by rw [ahead_irr hs] at hab; cases hab) hu
  · intro ha
    have := List.Pairwise.and h ha
    exact List.Pairwise.imp (fun {a b} hab => by
      rcases ahead_tri a b with h | h | h
      · exact h
      · exact absurd h hab.2
      · rw [hab.1] at h; cases h) this
theorem apart_perm {l m : List Fee} (hp : l.Perm m) (h : Apart l) : Apart m := (hp.pairwise_iff fun h e => h e.symm).1 h
theorem srt_two (a b : List Fee) (ho : ∀ f ∈ a ++ b, oneE f = 0) : checkE (srt (a ++ b)) = checkE (srt (b ++ a)) ∧ (checkE (srt (a ++ b)) = 0 → srt (a ++ b) = srt (b ++ a)) := by
  have hp : (srt (a ++ b)).Perm (srt (b ++ a)) := (srt_perm _).trans (List.perm_append_comm.trans (srt_perm _).symm)
  have hw1 := srt_wk (a ++ b)
  have hw2 := srt_wk (b ++ a)
  have key : nbE (srt (a ++ b)) = 0 ↔ nbE (srt (b ++ a)) = 0 := by
    rw [nb_up, nb_up, wk_up hw1, wk_up hw2]
    exact ⟨apart_perm hp, apart_perm hp.symm⟩
  have f1 : firstE (srt (a ++ b)) = 0 := (first_all _).2 fun f hf => ho f ((srt_perm _).mem_iff.1 hf)
  have f2 : firstE (srt (b ++ a)) = 0 := (first_all _).2 fun f hf => ho f ((srt_perm _).mem_iff.1 (hp.mem_iff.2 hf))
  have heq : nbE (srt (a ++ b)) = 0 → srt (a ++ b) = srt (b ++ a) := fun h => up_unique ((nb_up _).1 h) ((nb_up _).1 (key.1 h)) hp
  have hnb : nbE (srt (a ++ b)) = nbE (srt (b ++ a)) := by
    rcases nb_wk _ hw1 with h | h
    · rw [h, key.1 h]
    · rcases nb_wk _ hw2 with h2 | h2
      · rw [key.2 h2] at h; cases h
      · rw [h, h2]
  unfold checkE
  rw [if_pos f1, if_pos f2, hp.length_eq, hnb]
  refine ⟨rfl, fun h => heq ?_⟩
  split at h
  · cases h
  · rw [hnb]; exact h

/-! ### Words -/
def tFee : Tx := [102, 101, 101]
def tNone : Tx := [110, 111, 110, 101]
def tIn : Tx := [105, 110]
def tOut : Tx := [111, 117, 116]
def feW (f : Fee) : List Tx := [tFee, f.proc, if f.mod = [] then tNone else f.mod, if f.net = 1 then tOut else tIn, Lib.itoa f.frm, Nu.moneyL f.cents]
def tabW (l : List Fee) : List Tx := l.flatMap feW
def prT (l : List Fee) : Tx := joinC 32 (tabW l)
def prE (l : List Fee) : Int := checkE l
def prV (l : List Fee) : Tx := if checkE l = 0 then prT l else []
def pRow (a b c d e g : Wd) : Except (Int × Nat) Fee :=
  if a.1 = tFee then
    (if Cm.codeB b.1 5 5 = true then
      (if c.1 = tNone ∨ Cm.codeB c.1 2 2 = true then
        (if d.1 = tOut ∨ d.1 = tIn then
          (if Nu.riE e.1 8 = 0 ∧ Da.good (Nu.riV e.1 8) = true then
            (if Nu.mnE g.1 = 0 then .ok ⟨b.1, if c.1 = tNone then [] else c.1, if d.1 = tOut then 1 else 0, Nu.riV e.1 8, Nu.mnV g.1⟩ else .error (Nu.mnE g.1, g.2))
          else .error (7, e.2))
        else .error (4, d.2))
      else .error (9, c.2))
    else .error (9, b.2))
  else .error (4, a.2)
/-- f: how many rows there may be yet (512 at first). -/
def pRows (E : Nat) : Nat → List Fee → List Wd → Except (Int × Nat) (List Fee)
  | _, acc, [] => .ok acc
  | 0, _, a :: _ => .error (10, a.2)
  | f + 1, acc, a :: b :: c :: d :: e :: g :: r => match pRow a b c d e g with | .error x => .error x | .ok x => pRows E f (acc ++ [x]) r
  | _ + 1, _, _ => .error (4, E)
def paR (s : Tx) : Except (Int × Nat) (List Fee) :=
  if Wo.spE s = 0 then (match pRows s.length 512 [] (Wo.spV s) with
    | .error e => .error e
    | .ok l => if checkE (srt l) = 0 then .ok (srt l) else .error (checkE (srt l), 0))
  else .error (Wo.spE s, Wo.spA s)
theorem one_facts {f : Fee} (h : oneE f = 0) : Cm.codeB f.proc 5 5 = true ∧ (f.mod = [] ∨ Cm.codeB f.mod 2 2 = true) ∧ 0 ≤ f.net ∧ f.net ≤ 1 ∧ Da.good f.frm = true ∧ Pl.goodB f.cents = true := by
  unfold oneE at h
  split at h
  · next h1 =>
    split at h
    · next h2 =>
      split at h
      · next h3 =>
        split at h
        · next h4 =>
          simp only [Bool.and_eq_true, Bool.or_eq_true, decide_eq_true_eq] at h1
          exact ⟨h1.1, h1.2, h2.1, h2.2, h3, h4⟩
        · cases h
      · cases h
    · cases h
  · cases h
theorem none_no : Cm.codeB tNone 2 2 = false := by decide
theorem day_ri {n : Int} (h : Da.good n = true) (h0 : 0 ≤ n) (h1 : n ≤ 99999999) : Nu.riE (Lib.itoa n) 8 = 0 ∧ Nu.riV (Lib.itoa n) 8 = n := by
  obtain ⟨m, rfl⟩ : ∃ m : Nat, n = m := ⟨n.toNat, by omega⟩
  have e : Lib.itoa (m : Int) = Lib.decDigits m := by simp [Lib.itoa]
  have ho := Nu.ri_dec m 8 8 (by omega) (by omega) (by omega) (by omega)
  rw [e]
  exact ⟨by unfold Nu.riE; rw [if_pos ho], by unfold Nu.riV; rw [if_pos ho, Nu.dec_num]⟩
theorem row_back {f : Fee} (h : oneE f = 0) (hd : 0 ≤ f.frm ∧ f.frm ≤ 99999999) (p1 p2 p3 p4 p5 p6 : Nat) :
    pRow (tFee, p1) (f.proc, p2) ((if f.mod = [] then tNone else f.mod), p3) ((if f.net = 1 then tOut else tIn), p4) (Lib.itoa f.frm, p5) (Nu.moneyL f.cents, p6) = .ok f := by
  obtain ⟨h1, h2, h3, h4, h5, h6⟩ := one_facts h
  obtain ⟨r1, r2⟩ := day_ri h5 hd.1 hd.2
  obtain ⟨m1, m2⟩ := Pl.mn_moneyL h6
  unfold pRow
  simp only [if_true, h1, r1, r2, m1, m2, h5, and_self]
  have hm : (if f.mod = [] then tNone else f.mod) = tNone ∨ Cm.codeB (if f.mod = [] then tNone else f.mod) 2 2 = true := by
    by_cases e : f.mod = []
    · rw [if_pos e]; exact Or.inl rfl
    · rw [if_neg e]; exact Or.inr (h2.resolve_left e)
  have hn : (if f.net = 1 then tOut else tIn) = tOut ∨ (if f.net = 1 then tOut else tIn) = tIn := by split; exact Or.inl rfl; exact Or.inr rfl
  rw [if_pos hm, if_pos hn]
  have e1 : (if (if f.mod = [] then tNone else f.mod) = tNone then [] else if f.mod = [] then tNone else f.mod) = f.mod := by
    by_cases e : f.mod = []
    · rw [if_pos e, if_pos rfl, e]
    · rw [if_neg e, if_neg]
      intro e2
      have := h2.resolve_left e
      rw [e2, none_no] at this; cases this
  have e2 : (if (if f.net = 1 then tOut else tIn) = tOut then (1 : Int) else 0) = f.net := by
    by_cases e : f.net = 1
    · rw [if_pos e, if_pos rfl, e]
    · rw [if_neg e, if_neg (by decide)]; omega
  rw [e1, e2]
theorem day_bd {n : Int} (h : Da.good n = true) : 0 ≤ n ∧ n ≤ 99999999 := by have := Da.good_bd _ h; omega
theorem rows_back (E : Nat) : ∀ (l : List Fee) (f : Nat) (acc : List Fee) (a : List Wd), l.length ≤ f → (∀ x ∈ l, oneE x = 0) → a.map (·.1) = tabW l → pRows E f acc a = .ok (acc ++ l)
  | [], f, acc, a, _, _, ha => by
    obtain rfl := Pl.map_nil (ha.trans (show _ = [] from rfl))
    cases f <;> simp [pRows]
  | x :: q, 0, acc, a, hf, _, _ => by simp at hf
  | x :: q, f + 1, acc, a, hf, h, ha => by
    have e : tabW (x :: q) = tFee :: x.proc :: (if x.mod = [] then tNone else x.mod) :: (if x.net = 1 then tOut else tIn) :: Lib.itoa x.frm :: Nu.moneyL x.cents :: tabW q := by simp [tabW, feW]
    rw [e] at ha
    obtain ⟨p1, r1, rfl, g1⟩ := Pl.map_cons ha
    obtain ⟨p2, r2, rfl, g2⟩ := Pl.map_cons g1
    obtain ⟨p3, r3, rfl, g3⟩ := Pl.map_cons g2
    obtain ⟨p4, r4, rfl, g4⟩ := Pl.map_cons g3
    obtain ⟨p5, r5, rfl, g5⟩ := Pl.map_cons g4
    obtain ⟨p6, r6, rfl, g6⟩ := Pl.map_cons g5
    have ho := h x List.mem_cons_self
    have hr := row_back ho (day_bd (one_facts ho).2.2.2.2.1) p1 p2 p3 p4 p5 p6
    have ih := rows_back E q f (acc ++ [x]) r6 (by simp at hf; omega) (fun y hy => h y (List.mem_cons_of_mem _ hy)) g6
    unfold pRows
    simp only [hr, ih, List.append_assoc, List.singleton_append]
theorem fe_w {f : Fee} (h : oneE f = 0) : ∀ t ∈ feW f, wOk t := by
  obtain ⟨h1, h2, h3, h4, h5, h6⟩ := one_facts h
  intro t ht
  unfold feW at ht
  simp only [List.mem_cons, List.not_mem_nil, or_false] at ht
  rcases ht with rfl | rfl | rfl | rfl | rfl | rfl
  · exact Pl.lit_w _ (by decide)
  · exact Pl.code_w (n := 5) h1 (by omega)
  · split
    · exact Pl.lit_w _ (by decide)
    · next e => exact Pl.code_w (n := 2) (h2.resolve_left e) (by omega)
  · split <;> exact Pl.lit_w _ (by decide)
  · exact Pl.itoa_w (day_bd h5).1
  · exact Pl.money_w h6
theorem tab_w {l : List Fee} (h : ∀ f ∈ l, oneE f = 0) : ∀ t ∈ tabW l, wOk t := fun t ht => by
  obtain ⟨f, hf, ht⟩ := List.mem_flatMap.1 ht
  exact fe_w (h f hf) t ht
theorem fe_size {f : Fee} (h : oneE f = 0) : Pl.szW (feW f) ≤ 50 := by
  obtain ⟨h1, h2, h3, h4, h5, h6⟩ := one_facts h
  have hcode : ∀ (t : Tx) (m : Int), Cm.codeB t m m = true → (t.length : Int) ≤ m := fun t m h => by simp only [Cm.codeB, Bool.and_eq_true, decide_eq_true_eq] at h; exact h.1.2
  have a := hcode _ _ h1
  have b : (if f.mod = [] then tNone else f.mod).length ≤ 4 := by
    split
    · decide
    · next e => have := hcode _ _ (h2.resolve_left e); omega
  have c : (if f.net = 1 then tOut else tIn).length ≤ 3 := by split <;> decide
  have d := Pl.money_len h6
  have e : (Lib.itoa f.frm).length ≤ 8 := by
    obtain ⟨d0, d1⟩ := day_bd h5
    obtain ⟨m, hm⟩ : ∃ m : Nat, f.frm = m := ⟨f.frm.toNat, by omega⟩
    have e : Lib.itoa (m : Int) = Lib.decDigits m := by simp [Lib.itoa]
    rw [hm, e]; exact Nu.dec_len m 8 (by omega) (by omega)
  unfold feW
  simp only [Pl.sz_cons, Pl.sz_nil, tFee, List.length_cons, List.length_nil]
  omega
theorem tab_size : ∀ (l : List Fee), (∀ f ∈ l, oneE f = 0) → Pl.szW (tabW l) ≤ 50 * l.length
  | [], _ => by simp [tabW, Pl.szW]
  | f :: r, h => by
    have h1 := fe_size (h f List.mem_cons_self)
    have ih := tab_size r fun x hx => h x (List.mem_cons_of_mem _ hx)
    have e : tabW (f :: r) = feW f ++ tabW r := by simp [tabW]
    rw [e, Pl.sz_app, List.length_cons]; omega
theorem check_facts {l : List Fee} (h : checkE l = 0) : l.length ≤ 512 ∧ (∀ f ∈ l, oneE f = 0) ∧ Up l := by
  unfold checkE at h
  split at h
  · cases h
  · next hl =>
    split at h
    · next hf => exact ⟨by omega, (first_all _).1 hf, (nb_up _).1 h⟩
    · next hf => exact absurd h hf
theorem check_of {l : List Fee} (h1 : l.length ≤ 512) (h2 : ∀ f ∈ l, oneE f = 0) (h3 : Up l) : checkE l = 0 := by
  unfold checkE
  rw [if_neg (by omega), if_pos ((first_all _).2 h2)]
  exact (nb_up _).2 h3
/-- A table comes back. -/
theorem text_back {l : List Fee} (h : checkE l = 0) : paR (prV l) = .ok l := by
  obtain ⟨h1, h2, h3⟩ := check_facts h
  obtain ⟨s1, s2⟩ := Wo.split_joined (tabW l) (tab_w h2)
  have hz := tab_size l h2
  have hj := Pl.join_size (tabW l)
  obtain ⟨q1, q2⟩ := Wo.sp_fine (l := prT l) (by unfold prT; omega) s2
  unfold prV
  rw [if_pos h]
  unfold paR
  rw [if_pos q1, q2, rows_back _ l 512 [] (wds 0 (prT l)) h1 h2 s1]
  simp only [List.nil_append, srt_up h3, h, if_true]
end Go.Proofs.YtmoldgmfhcmceaaGreatDoor.Fe
end
