/-
  Texts put together (merge.py): QSpec.
-/
import Derived.Test.YtpnkgkchpoehcaaMb1
/-
  What seg.Write and seg.Split answer, over plain lists; there and back, in one way alone, one behind the other.
-/
section
namespace Go.Proofs.Ytpnkgkchpoehcaa

def namedB : Sg → Bool
  | [n] :: _ => !n.isEmpty
  | _ => false
def partsB (e p s : UInt8) (g : Sg) : Bool := g.all fun ps => !ps.isEmpty && ps.all (plainB e p s)
def segOk (e p s : UInt8) (g : Sg) : Bool := namedB g && partsB e p s g
def segT (e p : UInt8) (g : Sg) : Tx := joinC e (g.map (joinC p))
def wrOk (e p s : UInt8) (l : List Sg) : Bool := goodB e p s && decide (l.length ≤ 4096) && l.all (segOk e p s)
def wrT (e p s : UInt8) (l : List Sg) : Tx := (l.map fun g => segT e p g ++ [s]).flatten
def wrV (e p s : UInt8) (l : List Sg) : Tx := if wrOk e p s l then wrT e p s l else []
def wrE (e p s : UInt8) (l : List Sg) : Int := if wrOk e p s l then 0 else 1
def parse (e p : UInt8) (t : Tx) : Sg := (splitC e t).map (splitC p)
def rdE (e p : UInt8) : Nat → List Tx → Int
  | _, [] => 0
  | k, t :: r => if k = 4096 then 10 else if printB t = false then 4 else if namedB (parse e p t) = false then 4 else rdE e p (k + 1) r
def spE (e p s : UInt8) (l : Tx) : Int :=
  if goodB e p s = false then 1 else if 65536 < l.length then 10 else if l = [] then 0 else if l.getLast? ≠ some s then 4 else rdE e p 0 (ini s l)
def spV (e p s : UInt8) (l : Tx) : List Sg := if spE e p s l = 0 then (ini s l).map (parse e p) else []
def ln (l : List Sg) : Nat := (l.map fun g => (g.map fun ps => (ps.map fun x => 1 + x.length).sum).sum).sum

/-! ### rdE -/
theorem rd_append (e p : UInt8) : ∀ (A B : List Tx) (k : Nat), rdE e p k A = 0 → rdE e p k (A ++ B) = rdE e p (k + A.length) B
  | [], B, k, _ => rfl
  | t :: A, B, k, h => by
    rw [List.cons_append]
    unfold rdE at h
    rw [rdE]
    split at h
    · cases h
    · next h1 =>
      split at h
      · cases h
      · next h2 =>
        split at h
        · cases h
        · next h3 =>
          rw [if_neg h1, if_neg h2, if_neg h3, rd_append e p A B (k + 1) h, List.length_cons]
          congr 1
          omega
theorem rd_good (e p : UInt8) : ∀ (A : List Tx) (k : Nat), rdE e p k A = 0 → k ≤ 4096 → k + A.length ≤ 4096 ∧ ∀ t ∈ A, printB t = true ∧ namedB (parse e p t) = true
  | [], k, _, hk => ⟨by simpa using hk, by simp⟩
  | t :: A, k, h, hk => by
    unfold rdE at h
    split at h
    · cases h
    · next h1 =>
      split at h
      · cases h
      · next h2 =>
        split at h
        · cases h
        · next h3 =>
          obtain ⟨a, b⟩ := rd_good e p A (k + 1) h (by omega)
          refine ⟨by rw [List.length_cons]; omega, fun x hx => ?_⟩
          rcases List.mem_cons.1 hx with rfl | hx
          · exact ⟨by simpa using h2, by simpa using h3⟩
          · exact b x hx
theorem rd_of (e p : UInt8) : ∀ (A : List Tx) (k : Nat), k + A.length ≤ 4096 → (∀ t ∈ A, printB t = true ∧ namedB (parse e p t) = true) → rdE e p k A = 0
  | [], k, _, _ => rfl
  | t :: A, k, h, ha => by
    rw [List.length_cons] at h
    obtain ⟨h2, h3⟩ := ha t List.mem_cons_self
    rw [rdE, if_neg (by omega), h2, h3]
    simpa using rd_of e p A (k + 1) (by omega) fun x hx => ha x (List.mem_cons_of_mem _ hx)

theorem ini_last (s : UInt8) (l : Tx) (h : l.getLast? = some s) : ∃ a, l = a ++ [s] ∧ ini s l = splitC s a := by
  obtain ⟨a, rfl⟩ := List.getLast?_eq_some_iff.1 h
  exact ⟨a, rfl, by rw [(snoc_eq s a).1, ← split_ini]⟩
theorem sp_zero {e p s : UInt8} {l : Tx} (h : spE e p s l = 0) : goodB e p s = true ∧ l.length ≤ 65536 ∧ (l = [] ∨ (l.getLast? = some s ∧ rdE e p 0 (ini s l) = 0)) := by
  unfold spE at h
  split at h
  · cases h
  · next h1 =>
    split at h
    · cases h
    · next h2 =>
      refine ⟨by simpa using h1, by omega, ?_⟩
      split at h
      · next h3 => exact Or.inl h3
      · split at h
        · cases h
        · next h4 => exact Or.inr ⟨by simpa using h4, h⟩
theorem sp_of {e p s : UInt8} {l : Tx} (hg : goodB e p s = true) (hl : l.length ≤ 65536) (h : l = [] ∨ (l.getLast? = some s ∧ rdE e p 0 (ini s l) = 0)) : spE e p s l = 0 := by
  unfold spE
  rw [hg]
  simp only [Bool.true_eq_false, if_false, if_neg (show ¬ 65536 < l.length by omega)]
  rcases h with h | ⟨h1, h2⟩
  · rw [if_pos h]
  · split
    · rfl
    · rw [if_neg (by simp [h1])]; exact h2
theorem sp_rd {e p s : UInt8} {l : Tx} (h : spE e p s l = 0) : rdE e p 0 (ini s l) = 0 := by
  obtain ⟨_, _, h | h⟩ := sp_zero h
  · subst h; rfl
  · exact h.2

/-! ### What is written is read as what it was -/
theorem plain_mem {e p s : UInt8} {x : Tx} (h : plainB e p s x = true) : ∀ b ∈ x, prn b = true ∧ b ≠ e ∧ b ≠ p ∧ b ≠ s := by
  intro b hb
  have := List.all_eq_true.1 h b hb
  simp only [plain1, Bool.and_eq_true, bne_iff_ne] at this
  exact ⟨this.1.1.1, this.1.1.2, this.1.2, this.2⟩
theorem join_mem (c b : UInt8) : ∀ xs : List Tx, b ∈ joinC c xs → b = c ∨ ∃ x ∈ xs, b ∈ x
  | [], h => by simp [joinC, Lib.join_nil] at h
  | [x], h => by rw [joinC_one] at h; exact Or.inr ⟨x, by simp, h⟩
  | x :: y :: r, h => by
    rw [joinC_cons] at h
    rcases List.mem_append.1 h with h | h
    · exact Or.inr ⟨x, by simp, h⟩
    · rcases List.mem_cons.1 h with h | h
      · exact Or.inl h
      · rcases join_mem c b (y :: r) h with h | ⟨z, hz, h⟩
        · exact Or.inl h
        · exact Or.inr ⟨z, List.mem_cons_of_mem _ hz, h⟩
theorem parts_mem {e p s : UInt8} {g : Sg} (h : partsB e p s g = true) : ∀ ps ∈ g, ps ≠ [] ∧ ∀ x ∈ ps, plainB e p s x = true := by
  intro ps hp
  have := List.all_eq_true.1 h ps hp
  simp only [Bool.and_eq_true, List.all_eq_true, Bool.not_eq_true', List.isEmpty_eq_false_iff] at this
  exact ⟨this.1, this.2⟩
theorem named_ne {g : Sg} (h : namedB g = true) : g ≠ [] := by
  intro e
  subst e
  cases h
theorem segT_mem {e p s : UInt8} {g : Sg} (hg : goodB e p s = true) (h : partsB e p s g = true) : ∀ b ∈ segT e p g, prn b = true ∧ b ≠ s := by
  obtain ⟨n1, n2, n3, q1, q2, q3⟩ := good_ne hg
  intro b hb
  rcases join_mem e b _ hb with rfl | ⟨t, ht, hb⟩
  · exact ⟨q1, n2⟩
  · obtain ⟨ps, hps, rfl⟩ := List.mem_map.1 ht
    rcases join_mem p b _ hb with rfl | ⟨x, hx, hb⟩
    · exact ⟨q2, n3⟩
    · obtain ⟨a, _, _, d⟩ := plain_mem ((parts_mem h ps hps).2 x hx) b hb
      exact ⟨a, d⟩
theorem parse_segT {e p s : UInt8} {g : Sg} (hg : goodB e p s = true) (h : partsB e p s g = true) (hn : g ≠ []) : parse e p (segT e p g) = g := by
  obtain ⟨n1, n2, n3, q1, q2, q3⟩ := good_ne hg
  unfold parse segT
  rw [split_join e _ (by simpa using hn)]
  · rw [List.map_map]
    conv => rhs; rw [← List.map_id g]
    refine List.map_congr_left fun ps hps => ?_
    obtain ⟨a, b⟩ := parts_mem h ps hps
    exact split_join p ps a fun x hx hc => (plain_mem (b x hx) p hc).2.2.1 rfl
  · intro t ht hc
    obtain ⟨ps, hps, rfl⟩ := List.mem_map.1 ht
    rcases join_mem p e _ hc with h1 | ⟨x, hx, hc⟩
    · exact n1 h1
    · exact (plain_mem ((parts_mem h ps hps).2 x hx) e hc).2.1 rfl
theorem ini_wrT {e p s : UInt8} (hg : goodB e p s = true) : ∀ l : List Sg, (∀ g ∈ l, segOk e p s g = true) → ini s (wrT e p s l) = l.map (segT e p)
  | [], _ => rfl
  | g :: l, h => by
    have hk := h g List.mem_cons_self
    simp only [segOk, Bool.and_eq_true] at hk
    have e1 : wrT e p s (g :: l) = segT e p g ++ s :: wrT e p s l := by simp [wrT]
    rw [e1, ini_app, ini_wrT hg l (fun x hx => h x (List.mem_cons_of_mem _ hx)), splitC_free s _ (fun hc => (segT_mem hg hk.2 s hc).2 rfl)]
    rfl
theorem wrT_last {e p s : UInt8} : ∀ l : List Sg, l ≠ [] → (wrT e p s l).getLast? = some s
  | [], h => absurd rfl h
  | [g], _ => by simp [wrT]
  | g :: g' :: l, _ => by
    have ih := wrT_last (e := e) (p := p) (s := s) (g' :: l) (by simp)
    have e1 : wrT e p s (g :: g' :: l) = (segT e p g ++ [s]) ++ wrT e p s (g' :: l) := by simp [wrT]
    rw [e1, List.getLast?_append, ih]
    rfl
theorem join_len (c : UInt8) : ∀ xs : List Tx, xs ≠ [] → (joinC c xs).length + 1 = (xs.map fun x => 1 + x.length).sum
  | [], h => absurd rfl h
  | [x], _ => by rw [joinC_one]; simp; omega
  | x :: y :: r, _ => by
    have ih := join_len c (y :: r) (by simp)
    rw [joinC_cons, List.map_cons, List.sum_cons, ← ih, List.length_append, List.length_cons]
    omega
theorem segT_len {e p s : UInt8} {g : Sg} (h : partsB e p s g = true) (hn : g ≠ []) : (segT e p g).length + 1 = (g.map fun ps => (ps.map fun x => 1 + x.length).sum).sum := by
  unfold segT
  rw [join_len e _ (by simpa using hn), List.map_map]
  congr 1
  refine List.map_congr_left fun ps hps => ?_
  have := join_len p ps (parts_mem h ps hps).1
  simp only [Function.comp]
  omega
theorem ok_parts {e p s : UInt8} {g : Sg} (h : segOk e p s g = true) : namedB g = true ∧ partsB e p s g = true := by
  simpa only [segOk, Bool.and_eq_true] using h
theorem wrT_len {e p s : UInt8} : ∀ l : List Sg, (∀ g ∈ l, segOk e p s g = true) → (wrT e p s l).length = ln l
  | [], _ => rfl
  | g :: l, h => by
    obtain ⟨h1, h2⟩ := ok_parts (h g List.mem_cons_self)
    have ih := wrT_len l (fun x hx => h x (List.mem_cons_of_mem _ hx))
    have e1 : wrT e p s (g :: l) = segT e p g ++ s :: wrT e p s l := by simp [wrT]
    have e2 : ln (g :: l) = (g.map fun ps => (ps.map fun x => 1 + x.length).sum).sum + ln l := by simp [ln]
    have := segT_len h2 (named_ne h1)
    rw [e1, e2, List.length_append, List.length_cons, ih]
    omega
theorem wr_ok {e p s : UInt8} {l : List Sg} (h : wrOk e p s l = true) : goodB e p s = true ∧ l.length ≤ 4096 ∧ ∀ g ∈ l, segOk e p s g = true := by
  simp only [wrOk, Bool.and_eq_true, decide_eq_true_eq, List.all_eq_true] at h
  exact ⟨h.1.1, h.1.2, h.2⟩
/-- 5.5: there and back. -/
theorem back {e p s : UInt8} {l : List Sg} (h : wrOk e p s l = true) (hn : ln l ≤ 65536) : spE e p s (wrT e p s l) = 0 ∧ spV e p s (wrT e p s l) = l := by
  obtain ⟨hg, hl, ho⟩ := wr_ok h
  have hi := ini_wrT hg l ho
  have hp : ∀ g ∈ l, parse e p (segT e p g) = g := fun g hm => parse_segT hg (ok_parts (ho g hm)).2 (named_ne (ok_parts (ho g hm)).1)
  have h0 : spE e p s (wrT e p s l) = 0 := by
    refine sp_of hg (by rw [wrT_len l ho]; exact hn) ?_
    by_cases hn : l = []
    · subst hn; exact Or.inl rfl
    · refine Or.inr ⟨wrT_last l hn, ?_⟩
      rw [hi]
      refine rd_of e p _ 0 (by simpa using hl) fun t ht => ?_
      obtain ⟨g, hm, rfl⟩ := List.mem_map.1 ht
      rw [hp g hm]
      exact ⟨List.all_eq_true.2 fun b hb => (segT_mem hg (ok_parts (ho g hm)).2 b hb).1, (ok_parts (ho g hm)).1⟩
  refine ⟨h0, ?_⟩
  unfold spV
  rw [if_pos h0, hi, List.map_map]
  conv => rhs; rw [← List.map_id l]
  exact List.map_congr_left hp

/-! ### What is read is written as it was -/
theorem segT_parse (e p : UInt8) (t : Tx) : segT e p (parse e p t) = t := by
  unfold segT parse
  rw [List.map_map]
  have : (splitC e t).map (joinC p ∘ splitC p) = splitC e t := by
    conv => rhs; rw [← List.map_id (splitC e t)]
    exact List.map_congr_left fun x _ => join_split p x
  rw [this, join_split]
theorem parse_parts {e p s : UInt8} {t : Tx} (h : printB t = true) (hs : s ∉ t) : partsB e p s (parse e p t) = true := by
  refine List.all_eq_true.2 fun ps hps => ?_
  obtain ⟨x, hx, rfl⟩ := List.mem_map.1 hps
  simp only [Bool.and_eq_true, Bool.not_eq_true', List.isEmpty_eq_false_iff, List.all_eq_true]
  refine ⟨splitC_ne p x, fun y hy => List.all_eq_true.2 fun b hb => ?_⟩
  obtain ⟨b1, b2⟩ := split_mem p x y hy b hb
  obtain ⟨b3, b4⟩ := split_mem e t x hx b b1
  simp only [plain1, Bool.and_eq_true, bne_iff_ne]
  exact ⟨⟨⟨List.all_eq_true.1 h b b3, b4⟩, b2⟩, fun e => hs (e ▸ b3)⟩
theorem flat_split (s : UInt8) : ∀ a : Tx, ((splitC s a).map (· ++ [s])).flatten = a ++ [s]
  | [] => by simp [splitC]
  | b :: r => by
    have ih := flat_split s r
    by_cases hb : b = s
    · subst hb
      rw [splitC_eq]
      simp [ih]
    · rw [splitC_cne _ _ _ hb]
      cases hs : splitC s r with
      | nil => exact absurd hs (splitC_ne s r)
      | cons x X => rw [hs] at ih; simp [consHead] at ih ⊢; exact ih
theorem wrT_parse {e p s : UInt8} {l : Tx} (h : l = [] ∨ l.getLast? = some s) : wrT e p s ((ini s l).map (parse e p)) = l := by
  rcases h with rfl | h
  · rfl
  · obtain ⟨a, rfl, hi⟩ := ini_last s l h
    rw [hi]
    unfold wrT
    rw [List.map_map]
    have : (splitC s a).map ((fun g => segT e p g ++ [s]) ∘ parse e p) = (splitC s a).map (· ++ [s]) := List.map_congr_left fun x _ => by simp [Function.comp, segT_parse]
    rw [this, flat_split]
theorem ini_free {s : UInt8} {l t : Tx} (h : t ∈ ini s l) : s ∉ t := fun hc => (split_mem s l t (by rw [split_ini]; exact List.mem_append_left _ h) s hc).2 rfl
theorem once {e p s : UInt8} {l : Tx} (h : spE e p s l = 0) : wrOk e p s (spV e p s l) = true ∧ wrT e p s (spV e p s l) = l := by
  obtain ⟨hg, hl, hc⟩ := sp_zero h
  have hr := sp_rd h
  obtain ⟨r1, r2⟩ := rd_good e p _ 0 hr (by omega)
  unfold spV
  rw [if_pos h]
  refine ⟨?_, wrT_parse (hc.imp id And.left)⟩
  simp only [wrOk, Bool.and_eq_true, decide_eq_true_eq, List.all_eq_true]
  refine ⟨⟨hg, by simpa using r1⟩, fun g hm => ?_⟩
  obtain ⟨t, ht, rfl⟩ := List.mem_map.1 hm
  simp only [segOk, Bool.and_eq_true]
  exact ⟨(r2 t ht).2, parse_parts (r2 t ht).1 (ini_free ht)⟩
theorem ln_sp {e p s : UInt8} {l : Tx} (h : spE e p s l = 0) : ln (spV e p s l) = l.length := by
  obtain ⟨h1, h2⟩ := once h
  rw [← wrT_len _ (wr_ok h1).2.2, h2]
theorem sp_bad {e p s : UInt8} {l : Tx} (h : spE e p s l ≠ 0) : spV e p s l = [] := by unfold spV; rw [if_neg h]

/-! ### One behind the other -/
theorem ini_two {s : UInt8} {a b : Tx} (h : a = [] ∨ a.getLast? = some s) : ini s (a ++ b) = ini s a ++ ini s b := by
  rcases h with rfl | h
  · rfl
  · obtain ⟨x, rfl, hi⟩ := ini_last s a h
    rw [hi, List.append_assoc, List.singleton_append, ini_app]
theorem two_len : ∀ (X : List Tx), (∀ t ∈ X, t ≠ []) → 2 * X.length ≤ (X.map (fun t => t.length + 1)).sum
  | [], _ => by simp
  | t :: X, h => by
    have ih := two_len X fun x hx => h x (List.mem_cons_of_mem _ hx)
    have ht : t.length ≠ 0 := fun e => h t List.mem_cons_self (List.length_eq_zero_iff.1 e)
    simp only [List.length_cons, List.map_cons, List.sum_cons]
    omega
theorem sum_split (s : UInt8) : ∀ a : Tx, ((splitC s a).map (fun t => t.length + 1)).sum = a.length + 1
  | [] => by simp [splitC]
  | b :: r => by
    have ih := sum_split s r
    by_cases hb : b = s
    · subst hb
      rw [splitC_eq, List.map_cons, List.sum_cons, ih]
      simp; omega
    · rw [splitC_cne _ _ _ hb]
      cases hs : splitC s r with
      | nil => exact absurd hs (splitC_ne s r)
      | cons x X => rw [hs] at ih; simp [consHead] at ih ⊢; omega
theorem half {e p s : UInt8} {l : Tx} (h : spE e p s l = 0) : 2 * (ini s l).length ≤ l.length := by
  obtain ⟨hg, hl, hc⟩ := sp_zero h
  rcases hc with rfl | ⟨hc, hr⟩
  · simp [ini_nil]
  · obtain ⟨a, rfl, hi⟩ := ini_last s l hc
    obtain ⟨r1, r2⟩ := rd_good e p _ 0 hr (by omega)
    have := two_len (ini s (a ++ [s])) fun t ht e0 => by
      have := (r2 t ht).2
      subst e0
      cases this
    rw [hi, sum_split] at this
    rw [hi]
    simpa using this
theorem joins {e p s : UInt8} {a b : Tx} (ha : spE e p s a = 0) (hb : spE e p s b = 0) (la : a.length ≤ 3000) (lb : b.length ≤ 3000) : spE e p s (a ++ b) = 0 ∧ spV e p s (a ++ b) = spV e p s a ++ spV e p s b := by
  obtain ⟨hg, _, ca⟩ := sp_zero ha
  obtain ⟨_, _, cb⟩ := sp_zero hb
  have hi := ini_two (s := s) (a := a) (b := b) (ca.imp id And.left)
  have h1 := half ha
  have h2 := half hb
  obtain ⟨_, ra⟩ := rd_good e p _ 0 (sp_rd ha) (by omega)
  obtain ⟨_, rb⟩ := rd_good e p _ 0 (sp_rd hb) (by omega)
  have h0 : spE e p s (a ++ b) = 0 := by
    refine sp_of hg (by simp; omega) ?_
    by_cases hn : a ++ b = []
    · exact Or.inl hn
    · refine Or.inr ⟨?_, ?_⟩
      · rcases cb with rfl | ⟨cb, _⟩
        · rcases ca with rfl | ⟨ca, _⟩
          · exact absurd rfl hn
          · rw [List.append_nil]; exact ca
        · rw [List.getLast?_append, cb]; rfl
      · rw [hi]
        refine rd_of e p _ 0 (by simp; omega) fun t ht => ?_
        rcases List.mem_append.1 ht with h | h
        · exact ra t h
        · exact rb t h
  refine ⟨h0, ?_⟩
  unfold spV
  rw [if_pos h0, if_pos ha, if_pos hb, hi, List.map_append]
/-! ### Heads -/
def headL (e p s : UInt8) : Tx := [73, 83, 65, e, p, s]
def findO : Tx → Option (UInt8 × UInt8 × UInt8)
  | a :: b :: c :: e :: p :: s :: _ => if a = 73 ∧ b = 83 ∧ c = 65 ∧ goodB e p s = true then some (e, p, s) else none
  | _ => none
theorem find_short (l : Tx) (h : l.length < 6) : findO l = none := by
  match l, h with
  | [], _ => rfl
  | [_], _ => rfl
  | [_, _], _ => rfl
  | [_, _, _], _ => rfl
  | [_, _, _, _], _ => rfl
  | [_, _, _, _, _], _ => rfl
  | _ :: _ :: _ :: _ :: _ :: _ :: _, h => simp at h; omega
theorem find_six (l : Tx) (h : 6 ≤ l.length) : ∃ a b c e p s r, l = a :: b :: c :: e :: p :: s :: r := by
  match l, h with
  | a :: b :: c :: e :: p :: s :: r, _ => exact ⟨a, b, c, e, p, s, r, rfl⟩
  | [], h => simp at h
  | [_], h => simp at h
  | [_, _], h => simp at h
  | [_, _, _], h => simp at h
  | [_, _, _, _], h => simp at h
  | [_, _, _, _, _], h => simp at h
end Go.Proofs.Ytpnkgkchpoehcaa
end
