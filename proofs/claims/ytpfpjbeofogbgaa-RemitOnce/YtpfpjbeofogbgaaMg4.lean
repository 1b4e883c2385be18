/-
  Texts put together (merge.py): QSpec, QMem, DDate, LMem, BOts.
-/
import Derived.Below
import Derived.Laws.AppendOwn
import Derived.Deep.AppendLies
import Derived.Maps.AppendAt
import Derived.WalkKit
import Derived.Lib.Hide
import Derived.BigQuiet
import Derived.Deep.LoopGhost
import Derived.Deep.RegionHeld3
import Derived.WalkLawsBesides
import Derived.Deep.RegionLaw
import Derived.Lib.Strings
import Derived.Lib.Builder
import Derived.Handy
import Derived.Lib.SliceRun
import Derived.Test.YtpfpjbeofogbgaaMg1
import Derived.Test.YtpfpjbeofogbgaaProg
import Derived.Test.YtpfpjbeofogbgaaMg2
/-
  What seg.Write and seg.Split answer, over plain lists; there and back, in one way alone, one behind the other.
-/
section
namespace Go.Proofs.Ytpfpjbeofogbgaa

def namedB : Sg → Bool
  | [n] :: _ => !n.isEmpty
  | _ => false
def partsB (e p s : UInt8) (g : Sg) : Bool := g.all fun ps => !ps.isEmpty && ps.all (plainB e p s)
def segOk (e p s : UInt8) (g : Sg) : Bool := namedB g && partsB e p s g
def segT (e p : UInt8) (g : Sg) : Tx := joinC e (g.map (joinC p))
def wrOk (e p s : UInt8) (l : List Sg) : Bool := goodB e p s && decide (l.length ≤ 4096) && l.all (segOk e p s)
def wrT (e p s : UInt8) (l : List Sg) : Tx := (l.map fun g => segT e p g ++ [s]).flatten
def wrV (e p s : UInt8) (l : List Sg) : Tx := if wrOk e p s l then wrT e p s l else []
def wrE (e p s : UInt8) (l : List Sg) : Int := if wrOk e p s l then 0 else 1
def parse (e p : UInt8) (t : Tx) : Sg := (splitC e t).map (splitC p)
def rdE (e p : UInt8) : Nat → List Tx → Int
  | _, [] => 0
  | k, t :: r => if k = 4096 then 10 else if printB t = false then 4 else if namedB (parse e p t) = false then 4 else rdE e p (k + 1) r
def spE (e p s : UInt8) (l : Tx) : Int :=
  if goodB e p s = false then 1 else if 65536 < l.length then 10 else if l = [] then 0 else if l.getLast? ≠ some s then 4 else rdE e p 0 (ini s l)
def spV (e p s : UInt8) (l : Tx) : List Sg := if spE e p s l = 0 then (ini s l).map (parse e p) else []
def ln (l : List Sg) : Nat := (l.map fun g => (g.map fun ps => (ps.map fun x => 1 + x.length).sum).sum).sum

/-! ### rdE -/
theorem rd_append (e p : UInt8) : ∀ (A B : List Tx) (k : Nat), rdE e p k A = 0 → rdE e p k (A ++ B) = rdE e p (k + A.length) B
  | [], B, k, _ => rfl
  | t :: A, B, k, h => by
    rw [List.cons_append]
    unfold rdE at h
    rw [rdE]
    split at h
    · cases h
    · next h1 =>
      split at h
      · cases h
      · next h2 =>
        split at h
        · cases h
        · next h3 =>
          rw [if_neg h1, if_neg h2, if_neg h3, rd_append e p A B (k + 1) h, List.length_cons]
          congr 1
          omega
theorem rd_good (e p : UInt8) : ∀ (A : List Tx) (k : Nat), rdE e p k A = 0 → k ≤ 4096 → k + A.length ≤ 4096 ∧ ∀ t ∈ A, printB t = true ∧ namedB (parse e p t) = true
  | [], k, _, hk => ⟨by simpa using hk, by simp⟩
  | t :: A, k, h, hk => by
    unfold rdE at h
    split at h
    · cases h
    · next h1 =>
      split at h
      · cases h
      · next h2 =>
        split at h
        · cases h
        · next h3 =>
          obtain ⟨a, b⟩ := rd_good e p A (k + 1) h (by omega)
          refine ⟨by rw [List.length_cons]; omega, fun x hx => ?_⟩
          rcases List.mem_cons.1 hx with rfl | hx
          · exact ⟨by simpa using h2, by simpa using h3⟩
          · exact b x hx
theorem rd_of (e p : UInt8) : ∀ (A : List Tx) (k : Nat), k + A.length ≤ 4096 → (∀ t ∈ A, printB t = true ∧ namedB (parse e p t) = true) → rdE e p k A = 0
  | [], k, _, _ => rfl
  | t :: A, k, h, ha => by
    rw [List.length_cons] at h
    obtain ⟨h2, h3⟩ := ha t List.mem_cons_self
    rw [rdE, if_neg (by omega), h2, h3]
    simpa using rd_of e p A (k + 1) (by omega) fun x hx => ha x (List.mem_cons_of_mem _ hx)

theorem ini_last (s : UInt8) (l : Tx) (h : l.getLast? = some s) : ∃ a, l = a ++ [s] ∧ ini s l = splitC s a := by
  obtain ⟨a, rfl⟩ := List.getLast?_eq_some_iff.1 h
  exact ⟨a, rfl, by rw [(snoc_eq s a).1, ← split_ini]⟩
theorem sp_zero {e p s : UInt8} {l : Tx} (h : spE e p s l = 0) : goodB e p s = true ∧ l.length ≤ 65536 ∧ (l = [] ∨ (l.getLast? = some s ∧ rdE e p 0 (ini s l) = 0)) := by
  unfold spE at h
  split at h
  · cases h
  · next h1 =>
    split at h
    · cases h
    · next h2 =>
      refine ⟨by simpa using h1, by omega, ?_⟩
      split at h
      · next h3 => exact Or.inl h3
      · split at h
        · cases h
        · next h4 => exact Or.inr ⟨by simpa using h4, h⟩
theorem sp_of {e p s : UInt8} {l : Tx} (hg : goodB e p s = true) (hl : l.length ≤ 65536) (h : l = [] ∨ (l.getLast? = some s ∧ rdE e p 0 (ini s l) = 0)) : spE e p s l = 0 := by
  unfold spE
  rw [hg]
  simp only [Bool.true_eq_false, if_false, if_neg (show ¬ 65536 < l.length by omega)]
  rcases h with h | ⟨h1, h2⟩
  · rw [if_pos h]
  · split
    · rfl
    · rw [if_neg (by simp [h1])]; exact h2
theorem sp_rd {e p s : UInt8} {l : Tx} (h : spE e p s l = 0) : rdE e p 0 (ini s l) = 0 := by
  obtain ⟨_, _, h | h⟩ := sp_zero h
  · subst h; rfl
  · exact h.2

/-! ### What is written is read as what it was -/
theorem plain_mem {e p s : UInt8} {x : Tx} (h : plainB e p s x = true) : ∀ b ∈ x, prn b = true ∧ b ≠ e ∧ b ≠ p ∧ b ≠ s := by
  intro b hb
  have := List.all_eq_true.1 h b hb
  simp only [plain1, Bool.and_eq_true, bne_iff_ne] at this
  exact ⟨this.1.1.1, this.1.1.2, this.1.2, this.2⟩
theorem join_mem (c b : UInt8) : ∀ xs : List Tx, b ∈ joinC c xs → b = c ∨ ∃ x ∈ xs, b ∈ x
  | [], h => by simp [joinC, Lib.join_nil] at h
  | [x], h => by rw [joinC_one] at h; exact Or.inr ⟨x, by simp, h⟩
  | x :: y :: r, h => by
    rw [joinC_cons] at h
    rcases List.mem_append.1 h with h | h
    · exact Or.inr ⟨x, by simp, h⟩
    · rcases List.mem_cons.1 h with h | h
      · exact Or.inl h
      · rcases join_mem c b (y :: r) h with h | ⟨z, hz, h⟩
        · exact Or.inl h
        · exact Or.inr ⟨z, List.mem_cons_of_mem _ hz, h⟩
theorem parts_mem {e p s : UInt8} {g : Sg} (h : partsB e p s g = true) : ∀ ps ∈ g, ps ≠ [] ∧ ∀ x ∈ ps, plainB e p s x = true := by
  intro ps hp
  have := List.all_eq_true.1 h ps hp
  simp only [Bool.and_eq_true, List.all_eq_true, Bool.not_eq_true', List.isEmpty_eq_false_iff] at this
  exact ⟨this.1, this.2⟩
theorem named_ne {g : Sg} (h : namedB g = true) : g ≠ [] := by
  intro e
  subst e
  cases h
theorem segT_mem {e p s : UInt8} {g : Sg} (hg : goodB e p s = true) (h : partsB e p s g = true) : ∀ b ∈ segT e p g, prn b = true ∧ b ≠ s := by
  obtain ⟨n1, n2, n3, q1, q2, q3⟩ := good_ne hg
  intro b hb
  rcases join_mem e b _ hb with rfl | ⟨t, ht, hb⟩
  · exact ⟨q1, n2⟩
  · obtain ⟨ps, hps, rfl⟩ := List.mem_map.1 ht
    rcases join_mem p b _ hb with rfl | ⟨x, hx, hb⟩
    · exact ⟨q2, n3⟩
    · obtain ⟨a, _, _, d⟩ := plain_mem ((parts_mem h ps hps).2 x hx) b hb
      exact ⟨a, d⟩
theorem parse_segT {e p s : UInt8} {g : Sg} (hg : goodB e p s = true) (h : partsB e p s g = true) (hn : g ≠ []) : parse e p (segT e p g) = g := by
  obtain ⟨n1, n2, n3, q1, q2, q3⟩ := good_ne hg
  unfold parse segT
  rw [split_join e _ (by simpa using hn)]
  · rw [List.map_map]
    conv => rhs; rw [← List.map_id g]
    refine List.map_congr_left fun ps hps => ?_
    obtain ⟨a, b⟩ := parts_mem h ps hps
    exact split_join p ps a fun x hx hc => (plain_mem (b x hx) p hc).2.2.1 rfl
  · intro t ht hc
    obtain ⟨ps, hps, rfl⟩ := List.mem_map.1 ht
    rcases join_mem p e _ hc with h1 | ⟨x, hx, hc⟩
    · exact n1 h1
    · exact (plain_mem ((parts_mem h ps hps).2 x hx) e hc).2.1 rfl
theorem ini_wrT {e p s : UInt8} (hg : goodB e p s = true) : ∀ l : List Sg, (∀ g ∈ l, segOk e p s g = true) → ini s (wrT e p s l) = l.map (segT e p)
  | [], _ => rfl
  | g :: l, h => by
    have hk := h g List.mem_cons_self
    simp only [segOk, Bool.and_eq_true] at hk
    have e1 : wrT e p s (g :: l) = segT e p g ++ s :: wrT e p s l := by simp [wrT]
    rw [e1, ini_app, ini_wrT hg l (fun x hx => h x (List.mem_cons_of_mem _ hx)), splitC_free s _ (fun hc => (segT_mem hg hk.2 s hc).2 rfl)]
    rfl
theorem wrT_last {e p s : UInt8} : ∀ l : List Sg, l ≠ [] → (wrT e p s l).getLast? = some s
  | [], h => absurd rfl h
  | [g], _ => by simp [wrT]
  | g :: g' :: l, _ => by
    have ih := wrT_last (e := e) (p := p) (s := s) (g' :: l) (by simp)
    have e1 : wrT e p s (g :: g' :: l) = (segT e p g ++ [s]) ++ wrT e p s (g' :: l) := by simp [wrT]
    rw [e1, List.getLast?_append, ih]
    rfl
theorem join_len (c : UInt8) : ∀ xs : List Tx, xs ≠ [] → (joinC c xs).length + 1 = (xs.map fun x => 1 + x.length).sum
  | [], h => absurd rfl h
  | [x], _ => by rw [joinC_one]; simp; omega
  | x :: y :: r, _ => by
    have ih := join_len c (y :: r) (by simp)
    rw [joinC_cons, List.map_cons, List.sum_cons, ← ih, List.length_append, List.length_cons]
    omega
theorem segT_len {e p s : UInt8} {g : Sg} (h : partsB e p s g = true) (hn : g ≠ []) : (segT e p g).length + 1 = (g.map fun ps => (ps.map fun x => 1 + x.length).sum).sum := by
  unfold segT
  rw [join_len e _ (by simpa using hn), List.map_map]
  congr 1
  refine List.map_congr_left fun ps hps => ?_
  have := join_len p ps (parts_mem h ps hps).1
  simp only [Function.comp]
  omega
theorem ok_parts {e p s : UInt8} {g : Sg} (h : segOk e p s g = true) : namedB g = true ∧ partsB e p s g = true := by
  simpa only [segOk, Bool.and_eq_true] using h
theorem wrT_len {e p s : UInt8} : ∀ l : List Sg, (∀ g ∈ l, segOk e p s g = true) → (wrT e p s l).length = ln l
  | [], _ => rfl
  | g :: l, h => by
    obtain ⟨h1, h2⟩ := ok_parts (h g List.mem_cons_self)
    have ih := wrT_len l (fun x hx => h x (List.mem_cons_of_mem _ hx))
    have e1 : wrT e p s (g :: l) = segT e p g ++ s :: wrT e p s l := by simp [wrT]
    have e2 : ln (g :: l) = (g.map fun ps => (ps.map fun x => 1 + x.length).sum).sum + ln l := by simp [ln]
    have := segT_len h2 (named_ne h1)
    rw [e1, e2, List.length_append, List.length_cons, ih]
    omega
theorem wr_ok {e p s : UInt8} {l : List Sg} (h : wrOk e p s l = true) : goodB e p s = true ∧ l.length ≤ 4096 ∧ ∀ g ∈ l, segOk e p s g = true := by
  simp only [wrOk, Bool.and_eq_true, decide_eq_true_eq, List.all_eq_true] at h
  exact ⟨h.1.1, h.1.2, h.2⟩
/-- 5.5: there and back. -/
theorem back {e p s : UInt8} {l : List Sg} (h : wrOk e p s l = true) (hn : ln l ≤ 65536) : spE e p s (wrT e p s l) = 0 ∧ spV e p s (wrT e p s l) = l := by
  obtain ⟨hg, hl, ho⟩ := wr_ok h
  have hi := ini_wrT hg l ho
  have hp : ∀ g ∈ l, parse e p (segT e p g) = g := fun g hm => parse_segT hg (ok_parts (ho g hm)).2 (named_ne (ok_parts (ho g hm)).1)
  have h0 : spE e p s (wrT e p s l) = 0 := by
    refine sp_of hg (by rw [wrT_len l ho]; exact hn) ?_
    by_cases hn : l = []
    · subst hn; exact Or.inl rfl
    · refine Or.inr ⟨wrT_last l hn, ?_⟩
      rw [hi]
      refine rd_of e p _ 0 (by simpa using hl) fun t ht => ?_
      obtain ⟨g, hm, rfl⟩ := List.mem_map.1 ht
      rw [hp g hm]
      exact ⟨List.all_eq_true.2 fun b hb => (segT_mem hg (ok_parts (ho g hm)).2 b hb).1, (ok_parts (ho g hm)).1⟩
  refine ⟨h0, ?_⟩
  unfold spV
  rw [if_pos h0, hi, List.map_map]
  conv => rhs; rw [← List.map_id l]
  exact List.map_congr_left hp

/-! ### What is read is written as it was -/
theorem segT_parse (e p : UInt8) (t : Tx) : segT e p (parse e p t) = t := by
  unfold segT parse
  rw [List.map_map]
  have : (splitC e t).map (joinC p ∘ splitC p) = splitC e t := by
    conv => rhs; rw [← List.map_id (splitC e t)]
    exact List.map_congr_left fun x _ => join_split p x
  rw [this, join_split]
theorem parse_parts {e p s : UInt8} {t : Tx} (h : printB t = true) (hs : s ∉ t) : partsB e p s (parse e p t) = true := by
  refine List.all_eq_true.2 fun ps hps => ?_
  obtain ⟨x, hx, rfl⟩ := List.mem_map.1 hps
  simp only [Bool.and_eq_true, Bool.not_eq_true', List.isEmpty_eq_false_iff, List.all_eq_true]
  refine ⟨splitC_ne p x, fun y hy => List.all_eq_true.2 fun b hb => ?_⟩
  obtain ⟨b1, b2⟩ := split_mem p x y hy b hb
  obtain ⟨b3, b4⟩ := split_mem e t x hx b b1
  simp only [plain1, Bool.and_eq_true, bne_iff_ne]
  exact ⟨⟨⟨List.all_eq_true.1 h b b3, b4⟩, b2⟩, fun e => hs (e ▸ b3)⟩
theorem flat_split (s : UInt8) : ∀ a : Tx, ((splitC s a).map (· ++ [s])).flatten = a ++ [s]
  | [] => by simp [splitC]
  | b :: r => by
    have ih := flat_split s r
    by_cases hb : b = s
    · subst hb
      rw [splitC_eq]
      simp [ih]
    · rw [splitC_cne _ _ _ hb]
      cases hs : splitC s r with
      | nil => exact absurd hs (splitC_ne s r)
      | cons x X => rw [hs] at ih; simp [consHead] at ih ⊢; exact ih
theorem wrT_parse {e p s : UInt8} {l : Tx} (h : l = [] ∨ l.getLast? = some s) : wrT e p s ((ini s l).map (parse e p)) = l := by
  rcases h with rfl | h
  · rfl
  · obtain ⟨a, rfl, hi⟩ := ini_last s l h
    rw [hi]
    unfold wrT
    rw [List.map_map]
    have : (splitC s a).map ((fun g => segT e p g ++ [s]) ∘ parse e p) = (splitC s a).map (· ++ [s]) := List.map_congr_left fun x _ => by simp [Function.comp, segT_parse]
    rw [this, flat_split]
theorem ini_free {s : UInt8} {l t : Tx} (h : t ∈ ini s l) : s ∉ t := fun hc => (split_mem s l t (by rw [split_ini]; exact List.mem_append_left _ h) s hc).2 rfl
theorem once {e p s : UInt8} {l : Tx} (h : spE e p s l = 0) : wrOk e p s (spV e p s l) = true ∧ wrT e p s (spV e p s l) = l := by
  obtain ⟨hg, hl, hc⟩ := sp_zero h
  have hr := sp_rd h
  obtain ⟨r1, r2⟩ := rd_good e p _ 0 hr (by omega)
  unfold spV
  rw [if_pos h]
  refine ⟨?_, wrT_parse (hc.imp id And.left)⟩
  simp only [wrOk, Bool.and_eq_true, decide_eq_true_eq, List.all_eq_true]
  refine ⟨⟨hg, by simpa using r1⟩, fun g hm => ?_⟩
  obtain ⟨t, ht, rfl⟩ := List.mem_map.1 hm
  simp only [segOk, Bool.and_eq_true]
  exact ⟨(r2 t ht).2, parse_parts (r2 t ht).1 (ini_free ht)⟩
theorem ln_sp {e p s : UInt8} {l : Tx} (h : spE e p s l = 0) : ln (spV e p s l) = l.length := by
  obtain ⟨h1, h2⟩ := once h
  rw [← wrT_len _ (wr_ok h1).2.2, h2]
theorem sp_bad {e p s : UInt8} {l : Tx} (h : spE e p s l ≠ 0) : spV e p s l = [] := by unfold spV; rw [if_neg h]

/-! ### One behind the other -/
theorem ini_two {s : UInt8} {a b : Tx} (h : a = [] ∨ a.getLast? = some s) : ini s (a ++ b) = ini s a ++ ini s b := by
  rcases h with rfl | h
  · rfl
  · obtain ⟨x, rfl, hi⟩ := ini_last s a h
    rw [hi, List.append_assoc, List.singleton_append, ini_app]
theorem two_len : ∀ (X : List Tx), (∀ t ∈ X, t ≠ []) → 2 * X.length ≤ (X.map (fun t => t.length + 1)).sum
  | [], _ => by simp
  | t :: X, h => by
    have ih := two_len X fun x hx => h x (List.mem_cons_of_mem _ hx)
    have ht : t.length ≠ 0 := fun e => h t List.mem_cons_self (List.length_eq_zero_iff.1 e)
    simp only [List.length_cons, List.map_cons, List.sum_cons]
    omega
theorem sum_split (s : UInt8) : ∀ a : Tx, ((splitC s a).map (fun t => t.length + 1)).sum = a.length + 1
  | [] => by simp [splitC]
  | b :: r => by
    have ih := sum_split s r
    by_cases hb : b = s
    · subst hb
      rw [splitC_eq, List.map_cons, List.sum_cons, ih]
      simp; omega
    · rw [splitC_cne _ _ _ hb]
      cases hs : splitC s r with
      | nil => exact absurd hs (splitC_ne s r)
      | cons x X => rw [hs] at ih; simp [consHead] at ih ⊢; omega
theorem half {e p s : UInt8} {l : Tx} (h : spE e p s l = 0) : 2 * (ini s l).length ≤ l.length := by
  obtain ⟨hg, hl, hc⟩ := sp_zero h
  rcases hc with rfl | ⟨hc, hr⟩
  · simp [ini_nil]
  · obtain ⟨a, rfl, hi⟩ := ini_last s l hc
    obtain ⟨r1, r2⟩ := rd_good e p _ 0 hr (by omega)
    have := two_len (ini s (a ++ [s])) fun t ht e0 => by
      have := (r2 t ht).2
      subst e0
      cases this
    rw [hi, sum_split] at this
    rw [hi]
    simpa using this
theorem joins {e p s : UInt8} {a b : Tx} (ha : spE e p s a = 0) (hb : spE e p s b = 0) (la : a.length ≤ 3000) (lb : b.length ≤ 3000) : spE e p s (a ++ b) = 0 ∧ spV e p s (a ++ b) = spV e p s a ++ spV e p s b := by
  obtain ⟨hg, _, ca⟩ := sp_zero ha
  obtain ⟨_, _, cb⟩ := sp_zero hb
  have hi := ini_two (s := s) (a := a) (b := b) (ca.imp id And.left)
  have h1 := half ha
  have h2 := half hb
  obtain ⟨_, ra⟩ := rd_good e p _ 0 (sp_rd ha) (by omega)
  obtain ⟨_, rb⟩ := rd_good e p _ 0 (sp_rd hb) (by omega)
  have h0 : spE e p s (a ++ b) = 0 := by
    refine sp_of hg (by simp; omega) ?_
    by_cases hn : a ++ b = []
    · exact Or.inl hn
    · refine Or.inr ⟨?_, ?_⟩
      · rcases cb with rfl | ⟨cb, _⟩
        · rcases ca with rfl | ⟨ca, _⟩
          · exact absurd rfl hn
          · rw [List.append_nil]; exact ca
        · rw [List.getLast?_append, cb]; rfl
      · rw [hi]
        refine rd_of e p _ 0 (by simp; omega) fun t ht => ?_
        rcases List.mem_append.1 ht with h | h
        · exact ra t h
        · exact rb t h
  refine ⟨h0, ?_⟩
  unfold spV
  rw [if_pos h0, if_pos ha, if_pos hb, hi, List.map_append]
/-! ### Heads -/
def headL (e p s : UInt8) : Tx := [73, 83, 65, e, p, s]
def findO : Tx → Option (UInt8 × UInt8 × UInt8)
  | a :: b :: c :: e :: p :: s :: _ => if a = 73 ∧ b = 83 ∧ c = 65 ∧ goodB e p s = true then some (e, p, s) else none
  | _ => none
theorem find_short (l : Tx) (h : l.length < 6) : findO l = none := by
  match l, h with
  | [], _ => rfl
  | [_], _ => rfl
  | [_, _], _ => rfl
  | [_, _, _], _ => rfl
  | [_, _, _, _], _ => rfl
  | [_, _, _, _, _], _ => rfl
  | _ :: _ :: _ :: _ :: _ :: _ :: _, h => simp at h; omega
theorem find_six (l : Tx) (h : 6 ≤ l.length) : ∃ a b c e p s r, l = a :: b :: c :: e :: p :: s :: r := by
  match l, h with
  | a :: b :: c :: e :: p :: s :: r, _ => exact ⟨a, b, c, e, p, s, r, rfl⟩
  | [], h => simp at h
  | [_], h => simp at h
  | [_, _], h => simp at h
  | [_, _, _], h => simp at h
  | [_, _, _, _], h => simp at h
  | [_, _, _, _, _], h => simp at h
end Go.Proofs.Ytpfpjbeofogbgaa
end

/-
  Rows of texts, of elements and of segments, as they lie in memory; what stands while the rest is written.
-/
section
namespace Go.Proofs.Ytpfpjbeofogbgaa
open Go.RowKit

abbrev All : Nat → Prop := fun _ => True
def RowAt {α : Type} (K : Nat → Prop) (R : World → Value → α → Prop) (w : World) (v : Value) (xs : List α) : Prop :=
  ∃ a c, v = .slice a xs.length c ∧ xs.length ≤ c ∧ c ≤ maxLen ∧ (xs = [] ∨ ∃ b o, a = some ⟨b, o, none⟩ ∧ K b ∧ b < w.heap.size ∧ ∀ (j : Nat) x, xs[j]? = some x → ∃ u, w.cell? ⟨b, o + j, none⟩ = some u ∧ R w u x)
def StrAt (_ : World) (u : Value) (x : Tx) : Prop := u = .string (mk x)
def TxAt (K : Nat → Prop) : World → Value → List Tx → Prop := RowAt K StrAt
def ElAt (K : Nat → Prop) : World → Value → Sg → Prop := RowAt K (TxAt K)
def SgAt (K : Nat → Prop) : World → Value → List Sg → Prop := RowAt K (ElAt K)

/-- What lies in the blocks of K lies there still, and these are blocks of K'. -/
def Moves (K K' : Nat → Prop) (w w' : World) : Prop := w.heap.size ≤ w'.heap.size ∧ ∀ b, b < w.heap.size → K b → K' b ∧ w'.heap[b]? = w.heap[b]?

theorem RowAt.move {α : Type} {K K' : Nat → Prop} {R R' : World → Value → α → Prop} {w w' : World} {v : Value} {xs : List α} (h : RowAt K R w v xs) (hm : Moves K K' w w') (hR : ∀ u x, x ∈ xs → R w u x → R' w' u x) : RowAt K' R' w' v xs := by
  obtain ⟨a, c, rfl, h1, h2, h3⟩ := h
  refine ⟨a, c, rfl, h1, h2, h3.imp id ?_⟩
  rintro ⟨b, o, rfl, hk, hb, hc⟩
  obtain ⟨k', hh⟩ := hm.2 b hb hk
  refine ⟨b, o, rfl, k', Nat.lt_of_lt_of_le hb hm.1, fun j x hj => ?_⟩
  obtain ⟨u, hu, hr⟩ := hc j x hj
  exact ⟨u, by rw [World.cell?_of_block (w := w) hh]; exact hu, hR u x (List.mem_of_getElem? hj) hr⟩
theorem TxAt.move {K K' : Nat → Prop} {w w' : World} {v : Value} {xs : List Tx} (h : TxAt K w v xs) (hm : Moves K K' w w') : TxAt K' w' v xs := RowAt.move h hm fun _ _ _ h => h
theorem ElAt.move {K K' : Nat → Prop} {w w' : World} {v : Value} {xs : Sg} (h : ElAt K w v xs) (hm : Moves K K' w w') : ElAt K' w' v xs := RowAt.move h hm fun _ _ _ h => TxAt.move h hm
theorem SgAt.move {K K' : Nat → Prop} {w w' : World} {v : Value} {xs : List Sg} (h : SgAt K w v xs) (hm : Moves K K' w w') : SgAt K' w' v xs := RowAt.move h hm fun _ _ _ h => ElAt.move h hm

theorem Below.moves {w w' : World} (h : Below w.heap.size w w') : Moves All All w w' := ⟨h.size, fun b hb _ => ⟨trivial, h.block b hb⟩⟩
theorem Below.moves_lo {B : Nat} {w w' : World} (h : Below B w w') : Moves (fun b => b < B) (fun b => b < B) w w' := ⟨h.size, fun b _ hk => ⟨hk, h.block b hk⟩⟩
theorem moves_alloc (K : Nat → Prop) (w : World) (o : Obj) : Moves K K w (w.alloc o) := ⟨by simp, fun b hb hk => ⟨hk, Below.heap_alloc w o b hb⟩⟩
theorem Moves.trans {K K' K'' : Nat → Prop} {a b c : World} (h : Moves K K' a b) (k : Moves K' K'' b c) : Moves K K'' a c :=
  ⟨Nat.le_trans h.1 k.1, fun x hx hk => by
    obtain ⟨k1, e1⟩ := h.2 x hx hk
    obtain ⟨k2, e2⟩ := k.2 x (Nat.lt_of_lt_of_le hx h.1) k1
    exact ⟨k2, e2.trans e1⟩⟩
theorem moves_grown {K K' : Nat → Prop} {w w' : World} {row : Option Nat} (hg : w.grownBy w' row) (h : ∀ b, b < w.heap.size → K b → K' b ∧ some b ≠ row) : Moves K K' w w' :=
  ⟨hg.size, fun b hb hk => ⟨(h b hb hk).1, hg.block b hb (h b hb hk).2⟩⟩
theorem moves_weak {K K' : Nat → Prop} (w : World) (h : ∀ b, b < w.heap.size → K b → K' b) : Moves K K' w w := ⟨Nat.le_refl _, fun b hb hk => ⟨h b hb hk, rfl⟩⟩

theorem TxAt.nil (K : Nat → Prop) (w : World) : TxAt K w (.slice none 0 0) [] := ⟨none, 0, rfl, by simp, by simp [maxLen], Or.inl rfl⟩
theorem ElAt.nil (K : Nat → Prop) (w : World) : ElAt K w (.slice none 0 0) [] := ⟨none, 0, rfl, by simp, by simp [maxLen], Or.inl rfl⟩
theorem SgAt.nil (K : Nat → Prop) (w : World) : SgAt K w (.slice none 0 0) [] := ⟨none, 0, rfl, by simp, by simp [maxLen], Or.inl rfl⟩

/-- A row of the call's own, cell by cell. -/
theorem row_of_own {α : Type} {K : Nat → Prop} {R : World → Value → α → Prop} {w : World} {base : Nat} {e : TypeId} {v : Value} {xs : List Value} {ys : List α}
    (h : w.ownsRow base e 1 v ys.length xs) (hK : ∀ b, v.ownBlock = some b → K b) (hR : ∀ (j : Nat) u y, xs[j]? = some u → ys[j]? = some y → R w u y) : RowAt K R w v ys := by
  obtain ⟨hl, h⟩ := h
  rcases h with ⟨rfl, h0⟩ | ⟨g, cap, cur, rfl, _, hg, h1, h2, hs, ht⟩
  · obtain rfl := List.length_eq_zero_iff.1 h0
    exact ⟨none, 0, rfl, by simp, by simp [maxLen], Or.inl rfl⟩
  · refine ⟨_, cap, rfl, h1, h2, Or.inr ⟨g, 0, rfl, hK g rfl, (Array.getElem?_eq_some_iff.1 hg).1, fun j y hj => ?_⟩⟩
    have hjl : j < ys.length := (List.getElem?_eq_some_iff.1 hj).1
    have hjx : j < xs.length := by omega
    refine ⟨xs[j], ?_, hR j _ y (List.getElem?_eq_getElem hjx) hj⟩
    rw [Nat.zero_add, cell_of_row w g j cur e (0, 0) hg]
    obtain ⟨u, hu⟩ : ∃ u, xs[j]? = some u := ⟨_, List.getElem?_eq_getElem hjx⟩
    have hu2 : xs[j] = u := by rw [List.getElem?_eq_getElem hjx] at hu; exact Option.some.inj hu
    rw [hu2]
    rw [← ht, List.getElem?_take] at hu
    split at hu
    · simpa using hu
    · cases hu
end Go.Proofs.Ytpfpjbeofogbgaa
end

/-
  What date.leap, length, split, Good and Year answer, as contracts.
-/
section
namespace Go.Proofs.Ytpfpjbeofogbgaa.Da
open Go.RowKit

theorem quo_bd (n k : Int) (h : -9223372036854775808 ≤ n) (h' : n ≤ 9223372036854775807) (hk : 1 ≤ k) : -9223372036854775808 ≤ n.tdiv k ∧ n.tdiv k ≤ 9223372036854775807 := by
  have l : ∀ a : Int, 0 ≤ a → 0 ≤ a.tdiv k ∧ a.tdiv k ≤ a := fun a ha => by
    rw [Int.tdiv_eq_ediv_of_nonneg ha]
    exact ⟨Int.ediv_nonneg ha (by omega), Int.ediv_le_self _ ha⟩
  rcases Int.lt_or_le n 0 with c | c
  · have := l (-n) (by omega)
    rw [Int.neg_tdiv] at this
    omega
  · have := l n c
    omega

def yearV (n : Int) : Int := if good n = true then yr n else 0
end Go.Proofs.Ytpfpjbeofogbgaa.Da
end

/-
  Services and claims as they lie in memory; what stands while the rest is written.
-/
section
set_option linter.unusedSimpArgs false
namespace Go.Proofs.Ytpfpjbeofogbgaa.Cm
open Go.RowKit

abbrev lnv (x : Ln) (m : Value) : Value := .agg #[.string (mk x.proc), m, .int .i64 x.date, .int .i64 x.units, .int .i64 x.billed, .int .i64 x.prior]
abbrev clv (c : Cl) (m : Value) : Value := .agg #[.string (mk c.id), .string (mk c.mem), .string (mk c.fam), .int .i64 c.net, .int .i64 c.does, .string (mk c.ref), m]
def LnCells (w : World) (b o : Nat) (x : Ln) (m : Value) : Prop :=
  w.cell? ⟨b, o, none⟩ = some (.string (mk x.proc)) ∧ w.cell? ⟨b, o + 1, none⟩ = some m ∧ w.cell? ⟨b, o + 2, none⟩ = some (.int .i64 x.date) ∧ w.cell? ⟨b, o + 3, none⟩ = some (.int .i64 x.units) ∧ w.cell? ⟨b, o + 4, none⟩ = some (.int .i64 x.billed) ∧ w.cell? ⟨b, o + 5, none⟩ = some (.int .i64 x.prior)
def ClCells (w : World) (b o : Nat) (c : Cl) (m : Value) : Prop :=
  w.cell? ⟨b, o, none⟩ = some (.string (mk c.id)) ∧ w.cell? ⟨b, o + 1, none⟩ = some (.string (mk c.mem)) ∧ w.cell? ⟨b, o + 2, none⟩ = some (.string (mk c.fam)) ∧ w.cell? ⟨b, o + 3, none⟩ = some (.int .i64 c.net) ∧ w.cell? ⟨b, o + 4, none⟩ = some (.int .i64 c.does) ∧ w.cell? ⟨b, o + 5, none⟩ = some (.string (mk c.ref)) ∧ w.cell? ⟨b, o + 6, none⟩ = some m
def LnsAt (K : Nat → Prop) (w : World) (v : Value) (ls : List Ln) : Prop :=
  ∃ a c, v = .slice a ls.length c ∧ ls.length ≤ c ∧ c ≤ maxLen ∧ (ls = [] ∨ ∃ b o, a = some ⟨b, o, none⟩ ∧ K b ∧ b < w.heap.size ∧ ∀ (j : Nat) x, ls[j]? = some x → ∃ m, LnCells w b (o + j * 6) x m ∧ TxAt K w m x.mods)
def ClsAt (K : Nat → Prop) (w : World) (v : Value) (cs : List Cl) : Prop :=
  ∃ a c, v = .slice a cs.length c ∧ cs.length ≤ c ∧ c ≤ maxLen ∧ (cs = [] ∨ ∃ b o, a = some ⟨b, o, none⟩ ∧ K b ∧ b < w.heap.size ∧ ∀ (j : Nat) x, cs[j]? = some x → ∃ m, ClCells w b (o + j * 7) x m ∧ LnsAt K w m x.lines)

theorem LnCells.of {w w' : World} {b o : Nat} {x : Ln} {m : Value} (h : LnCells w b o x m) (he : w'.heap[b]? = w.heap[b]?) : LnCells w' b o x m := by
  obtain ⟨h0, h1, h2, h3, h4, h5⟩ := h
  refine ⟨?_, ?_, ?_, ?_, ?_, ?_⟩ <;> rw [World.cell?_of_block (w := w) he] <;> assumption
theorem ClCells.of {w w' : World} {b o : Nat} {x : Cl} {m : Value} (h : ClCells w b o x m) (he : w'.heap[b]? = w.heap[b]?) : ClCells w' b o x m := by
  obtain ⟨h0, h1, h2, h3, h4, h5, h6⟩ := h
  refine ⟨?_, ?_, ?_, ?_, ?_, ?_, ?_⟩ <;> rw [World.cell?_of_block (w := w) he] <;> assumption
theorem LnsAt.move {K K' : Nat → Prop} {w w' : World} {v : Value} {ls : List Ln} (h : LnsAt K w v ls) (hm : Moves K K' w w') : LnsAt K' w' v ls := by
  obtain ⟨a, c, rfl, h1, h2, h3⟩ := h
  refine ⟨a, c, rfl, h1, h2, h3.imp id ?_⟩
  rintro ⟨b, o, rfl, hk, hb, hc⟩
  obtain ⟨k', hh⟩ := hm.2 b hb hk
  refine ⟨b, o, rfl, k', Nat.lt_of_lt_of_le hb hm.1, fun j x hj => ?_⟩
  obtain ⟨m, hu, hr⟩ := hc j x hj
  exact ⟨m, hu.of hh, TxAt.move hr hm⟩
theorem ClsAt.move {K K' : Nat → Prop} {w w' : World} {v : Value} {cs : List Cl} (h : ClsAt K w v cs) (hm : Moves K K' w w') : ClsAt K' w' v cs := by
  obtain ⟨a, c, rfl, h1, h2, h3⟩ := h
  refine ⟨a, c, rfl, h1, h2, h3.imp id ?_⟩
  rintro ⟨b, o, rfl, hk, hb, hc⟩
  obtain ⟨k', hh⟩ := hm.2 b hb hk
  refine ⟨b, o, rfl, k', Nat.lt_of_lt_of_le hb hm.1, fun j x hj => ?_⟩
  obtain ⟨m, hu, hr⟩ := hc j x hj
  exact ⟨m, hu.of hh, LnsAt.move hr hm⟩
theorem LnsAt.get {K : Nat → Prop} {w : World} {a : Option Addr} {n c : Nat} {ls : List Ln} (h : LnsAt K w (.slice a n c) ls) (k : Nat) (hk : k < ls.length) :
    ∃ b o m, a = some ⟨b, o, none⟩ ∧ ls[k]? = some ls[k] ∧ LnCells w b (o + k * 6) ls[k] m ∧ TxAt K w m ls[k].mods := by
  obtain ⟨a', c', he, h1, h2, h3⟩ := h
  have ha : a = a' := by injection he
  subst ha
  rcases h3 with h | ⟨b, o, ha, _, _, hc⟩
  · subst h; simp at hk
  · have hx := List.getElem?_eq_getElem hk
    obtain ⟨m, q1, q2⟩ := hc k _ hx
    exact ⟨b, o, m, ha, hx, q1, q2⟩
theorem ClsAt.get {K : Nat → Prop} {w : World} {a : Option Addr} {n c : Nat} {ls : List Cl} (h : ClsAt K w (.slice a n c) ls) (k : Nat) (hk : k < ls.length) :
    ∃ b o m, a = some ⟨b, o, none⟩ ∧ ls[k]? = some ls[k] ∧ ClCells w b (o + k * 7) ls[k] m ∧ LnsAt K w m ls[k].lines := by
  obtain ⟨a', c', he, h1, h2, h3⟩ := h
  have ha : a = a' := by injection he
  subst ha
  rcases h3 with h | ⟨b, o, ha, _, _, hc⟩
  · subst h; simp at hk
  · have hx := List.getElem?_eq_getElem hk
    obtain ⟨m, q1, q2⟩ := hc k _ hx
    exact ⟨b, o, m, ha, hx, q1, q2⟩
theorem tx_get {K : Nat → Prop} {w : World} {a : Option Addr} {n c : Nat} {xs : List Tx} (h : TxAt K w (.slice a n c) xs) (k : Nat) (hk : k < xs.length) :
    ∃ b o, a = some ⟨b, o, none⟩ ∧ xs[k]? = some xs[k] ∧ w.cell? ⟨b, o + k, none⟩ = some (.string (mk xs[k])) := by
  obtain ⟨a', c', he, h1, h2, h3⟩ := h
  have ha : a = a' := by injection he
  subst ha
  rcases h3 with h | ⟨b, o, ha, _, _, hc⟩
  · subst h; simp at hk
  · have hx := List.getElem?_eq_getElem hk
    obtain ⟨m, q1, rfl⟩ := hc k _ hx
    exact ⟨b, o, ha, hx, q1⟩
theorem TxAt.form {K : Nat → Prop} {w : World} {v : Value} {xs : List Tx} (h : TxAt K w v xs) : ∃ a c, v = .slice a xs.length c ∧ xs.length ≤ c ∧ c ≤ 9223372036854775807 := by
  obtain ⟨a, c, rfl, h1, h2, _⟩ := h
  exact ⟨a, c, rfl, h1, by unfold maxLen at h2; exact h2⟩
theorem LnsAt.form {K : Nat → Prop} {w : World} {v : Value} {xs : List Ln} (h : LnsAt K w v xs) : ∃ a c, v = .slice a xs.length c ∧ xs.length ≤ c ∧ c ≤ 9223372036854775807 := by
  obtain ⟨a, c, rfl, h1, h2, _⟩ := h
  exact ⟨a, c, rfl, h1, by unfold maxLen at h2; exact h2⟩
theorem ClsAt.form {K : Nat → Prop} {w : World} {v : Value} {xs : List Cl} (h : ClsAt K w v xs) : ∃ a c, v = .slice a xs.length c ∧ xs.length ≤ c ∧ c ≤ 9223372036854775807 := by
  obtain ⟨a, c, rfl, h1, h2, _⟩ := h
  exact ⟨a, c, rfl, h1, by unfold maxLen at h2; exact h2⟩
theorem below_alloc (w : World) (o : Obj) : Below w.heap.size w (w.alloc o) := (Below.refl _ w).alloc (Nat.le_refl _) o
theorem below_trans {a b c : World} (h : Below a.heap.size a b) (k : Below b.heap.size b c) : Below a.heap.size a c := h.trans (k.mono h.size)
theorem below_drewq {w w' : World} (h : ∃ q, w' = w.drewN q) : Below w.heap.size w w' := by
  obtain ⟨q, rfl⟩ := h
  exact (Below.refl _ _).trans ⟨rfl, rfl, rfl, Nat.le_refl _, fun _ _ => rfl⟩
theorem below_eq {w w' : World} (h : w' = w) : Below w.heap.size w w' := by rw [h]; exact Below.refl _ _
/-- A service, a claim, in a box of the call's own. -/
def LnBox (w : World) (b : Nat) (x : Ln) (m : Value) : Prop :=
  w.cell? ⟨b, 0, none⟩ = some (.string (mk x.proc)) ∧ w.cell? ⟨b, 1, none⟩ = some m ∧ w.cell? ⟨b, 2, none⟩ = some (.int .i64 x.date) ∧ w.cell? ⟨b, 3, none⟩ = some (.int .i64 x.units) ∧ w.cell? ⟨b, 4, none⟩ = some (.int .i64 x.billed) ∧ w.cell? ⟨b, 5, none⟩ = some (.int .i64 x.prior)
def ClBox (w : World) (b : Nat) (c : Cl) (m : Value) : Prop :=
  w.cell? ⟨b, 0, none⟩ = some (.string (mk c.id)) ∧ w.cell? ⟨b, 1, none⟩ = some (.string (mk c.mem)) ∧ w.cell? ⟨b, 2, none⟩ = some (.string (mk c.fam)) ∧ w.cell? ⟨b, 3, none⟩ = some (.int .i64 c.net) ∧ w.cell? ⟨b, 4, none⟩ = some (.int .i64 c.does) ∧ w.cell? ⟨b, 5, none⟩ = some (.string (mk c.ref)) ∧ w.cell? ⟨b, 6, none⟩ = some m
theorem LnBox.new (w : World) (x : Ln) (m : Value) (t : TypeId) : LnBox (w.alloc (.cells #[.string (mk x.proc), m, .int .i64 x.date, .int .i64 x.units, .int .i64 x.billed, .int .i64 x.prior] t)) w.heap.size x m := by
  refine ⟨?_, ?_, ?_, ?_, ?_, ?_⟩ <;> simp
theorem ClBox.new (w : World) (c : Cl) (m : Value) (t : TypeId) : ClBox (w.alloc (.cells #[.string (mk c.id), .string (mk c.mem), .string (mk c.fam), .int .i64 c.net, .int .i64 c.does, .string (mk c.ref), m] t)) w.heap.size c m := by
  refine ⟨?_, ?_, ?_, ?_, ?_, ?_, ?_⟩ <;> simp
theorem LnBox.grw {w w' : World} {b : Nat} {x : Ln} {m : Value} (h : LnBox w b x m) (hb : Below w.heap.size w w') : LnBox w' b x m := by
  obtain ⟨h0, h1, h2, h3, h4, h5⟩ := h
  have hl := World.block_lt_of_cell? w _ h0
  refine ⟨?_, ?_, ?_, ?_, ?_, ?_⟩ <;> rw [World.cell?_of_block (w := w) (hb.block b hl)] <;> assumption
theorem ClBox.grw {w w' : World} {b : Nat} {x : Cl} {m : Value} (h : ClBox w b x m) (hb : Below w.heap.size w w') : ClBox w' b x m := by
  obtain ⟨h0, h1, h2, h3, h4, h5, h6⟩ := h
  have hl := World.block_lt_of_cell? w _ h0
  refine ⟨?_, ?_, ?_, ?_, ?_, ?_, ?_⟩ <;> rw [World.cell?_of_block (w := w) (hb.block b hl)] <;> assumption
end Go.Proofs.Ytpfpjbeofogbgaa.Cm
end

/-
  What became of services, as rows in memory; a copy of them; whether two are the same.
-/
section
set_option linter.unusedSimpArgs false
set_option linter.unusedVariables false
set_option maxRecDepth 100000
namespace Go.Proofs.Ytpfpjbeofogbgaa.Bk
open Go.RowKit
open Cm (Ln Cl LnsAt lnv clv LnOk ClOk)
open Sh (Ot)

theorem keepB {w w' : World} {q : Nat} {o : Obj} (h : w.heap[q]? = some o) (hb : Below w.heap.size w w') : w'.heap[q]? = some o := by
  rw [hb.block q (Array.getElem?_eq_some_iff.1 h).1]; exact h
theorem heap_far {w : World} {b q j : Nat} {o : Obj} {u : Value} (h : w.heap[b]? = some o) (hne : b ≠ q) : (w.setCell ⟨q, j, none⟩ u).heap[b]? = some o := by
  rw [Below.heap_setCell _ _ _ _ hne]; exact h
theorem below_alloc (w : World) (o : Obj) : Below w.heap.size w (w.alloc o) := (Below.refl _ w).alloc (Nat.le_refl _) o
theorem below_trans {a b c : World} (h : Below a.heap.size a b) (k : Below b.heap.size b c) : Below a.heap.size a c := h.trans (k.mono h.size)
theorem alloc_new (w : World) (cs : Array Value) (t : TypeId) : (w.alloc (.cells cs t)).heap[w.heap.size]? = some (.cells cs t (0, 0)) := heap_alloc_new w _
theorem heap_set {w : World} {b : Nat} {cs : Array Value} {t : TypeId} (h : w.heap[b]? = some (.cells cs t (0, 0))) (j : Nat) (u : Value) : (w.setCell ⟨b, j, none⟩ u).heap[b]? = some (.cells (cs.setIfInBounds j u) t (0, 0)) := by
  simp [World.setCell, Array.getElem?_modify, h]
theorem add_lit (b o j : Nat) : (⟨b, o, none⟩ : Addr).add j = ⟨b, o + j, none⟩ := by unfold Addr.add; split <;> simp_all
/-! ### What becomes of services -/
abbrev TO : TypeId := 50
def oc (o : Ot) : List Value := [.int .i64 o.al, .int .i64 o.de, .int .i64 o.cp, .int .i64 o.cn, .int .i64 o.plan, .int .i64 o.wr, .int .i64 o.pr, .int .i64 o.deny]
def ocs : List Ot → List Value
  | [] => []
  | o :: r => .int .i64 o.al :: .int .i64 o.de :: .int .i64 o.cp :: .int .i64 o.cn :: .int .i64 o.plan :: .int .i64 o.wr :: .int .i64 o.pr :: .int .i64 o.deny :: ocs r
theorem ocs_app (a b : List Ot) : ocs (a ++ b) = ocs a ++ ocs b := by induction a <;> simp_all [ocs]
theorem ocs_len (a : List Ot) : (ocs a).length = a.length * 8 := by induction a <;> simp_all [ocs]; omega
theorem ocs_at : ∀ (a : List Ot) (j : Nat) (x : Ot), a[j]? = some x → ∀ i, i < 8 → (ocs a)[j * 8 + i]? = (oc x)[i]?
  | [], j, x, h, _, _ => by simp at h
  | y :: r, 0, x, h, i, hi => by
    simp at h; subst h
    match i, hi with
    | 0, _ => rfl
    | 1, _ => rfl
    | 2, _ => rfl
    | 3, _ => rfl
    | 4, _ => rfl
    | 5, _ => rfl
    | 6, _ => rfl
    | 7, _ => rfl
  | y :: r, j + 1, x, h, i, hi => by
    have := ocs_at r j x (by simpa using h) i hi
    rw [show (j + 1) * 8 + i = (j * 8 + i) + 8 by omega]
    simpa [ocs] using this
theorem ocs_one : ∀ (a : List Ot), ∀ u ∈ ocs a, u.oneCell' = true
  | [], u, h => by simp [ocs] at h
  | f :: r, u, h => by
    have ih := ocs_one r
    simp only [ocs, List.mem_cons] at h
    rcases h with rfl | rfl | rfl | rfl | rfl | rfl | rfl | rfl | h
    all_goals first | rfl | exact ih u h
def OtCells (w : World) (b o : Nat) (x : Ot) : Prop := w.cell? ⟨b, o, none⟩ = some (.int .i64 x.al) ∧ w.cell? ⟨b, o + 1, none⟩ = some (.int .i64 x.de) ∧ w.cell? ⟨b, o + 2, none⟩ = some (.int .i64 x.cp) ∧ w.cell? ⟨b, o + 3, none⟩ = some (.int .i64 x.cn) ∧ w.cell? ⟨b, o + 4, none⟩ = some (.int .i64 x.plan) ∧ w.cell? ⟨b, o + 5, none⟩ = some (.int .i64 x.wr) ∧ w.cell? ⟨b, o + 6, none⟩ = some (.int .i64 x.pr) ∧ w.cell? ⟨b, o + 7, none⟩ = some (.int .i64 x.deny)
theorem OtCells.of {w w' : World} {b o : Nat} {x : Ot} (h : OtCells w b o x) (he : w'.heap[b]? = w.heap[b]?) : OtCells w' b o x := by
  obtain ⟨h0, h1, h2, h3, h4, h5, h6, h7⟩ := h
  refine ⟨?_, ?_, ?_, ?_, ?_, ?_, ?_, ?_⟩ <;> rw [World.cell?_of_block (w := w) he] <;> assumption
def OtsAt (K : Nat → Prop) (w : World) (v : Value) (l : List Ot) : Prop :=
  ∃ a c, v = .slice a l.length c ∧ l.length ≤ c ∧ c ≤ maxLen ∧ (l = [] ∨ ∃ b o, a = some ⟨b, o, none⟩ ∧ K b ∧ b < w.heap.size ∧ ∀ (j : Nat) x, l[j]? = some x → OtCells w b (o + j * 8) x)
theorem OtsAt.move {K K' : Nat → Prop} {w w' : World} {v : Value} {l : List Ot} (h : OtsAt K w v l) (hm : Moves K K' w w') : OtsAt K' w' v l := by
  obtain ⟨a, c, rfl, h1, h2, h3⟩ := h
  refine ⟨a, c, rfl, h1, h2, h3.imp id ?_⟩
  rintro ⟨b, o, rfl, hk, hb, hc⟩
  obtain ⟨k', hh⟩ := hm.2 b hb hk
  exact ⟨b, o, rfl, k', Nat.lt_of_lt_of_le hb hm.1, fun j x hj => (hc j x hj).of hh⟩
theorem OtsAt.grw {w w' : World} {v : Value} {l : List Ot} (h : OtsAt All w v l) (hb : Below w.heap.size w w') : OtsAt All w' v l := h.move (Below.moves hb)
theorem OtsAt.nil (K : Nat → Prop) (w : World) : OtsAt K w (.slice none 0 0) [] := ⟨none, 0, rfl, by simp, by simp [maxLen], Or.inl rfl⟩
theorem OtsAt.form {K : Nat → Prop} {w : World} {v : Value} {xs : List Ot} (h : OtsAt K w v xs) : ∃ a c, v = .slice a xs.length c ∧ xs.length ≤ c ∧ c ≤ 9223372036854775807 := by
  obtain ⟨a, c, rfl, h1, h2, _⟩ := h
  exact ⟨a, c, rfl, h1, by unfold maxLen at h2; exact h2⟩
theorem OtsAt.get {K : Nat → Prop} {w : World} {a : Option Addr} {n c : Nat} {ls : List Ot} (h : OtsAt K w (.slice a n c) ls) (k : Nat) (hk : k < ls.length) :
    ∃ b o, a = some ⟨b, o, none⟩ ∧ b < w.heap.size ∧ ls[k]? = some ls[k] ∧ OtCells w b (o + k * 8) ls[k] := by
  obtain ⟨a', c', he, h1, h2, h3⟩ := h
  have ha : a = a' := by injection he
  subst ha
  rcases h3 with h | ⟨b, o, ha, _, hb, hc⟩
  · subst h; simp at hk
  · have hx := List.getElem?_eq_getElem hk
    exact ⟨b, o, ha, hb, hx, hc k _ hx⟩
def OwnO (B : Nat) (w : World) (v : Value) (l : List Ot) : Prop := w.ownsRow B TO 8 v l.length (ocs l)
theorem ots_of_own {K : Nat → Prop} {w : World} {base : Nat} {v : Value} {l : List Ot} (h : OwnO base w v l) (hK : ∀ b, base ≤ b → K b) : OtsAt K w v l := by
  obtain ⟨hl, h⟩ := h
  rcases h with ⟨rfl, h0⟩ | ⟨g, cap, cur, rfl, hbg, hg, h1, h2, hs, ht⟩
  · obtain rfl := List.length_eq_zero_iff.1 h0
    exact OtsAt.nil _ _
  · refine ⟨_, cap, rfl, h1, h2, Or.inr ⟨g, 0, rfl, hK g hbg, (Array.getElem?_eq_some_iff.1 hg).1, fun j x hj => ?_⟩⟩
    have hjl : j < l.length := (List.getElem?_eq_some_iff.1 hj).1
    have e : ∀ i, i < 8 → w.cell? ⟨g, 0 + j * 8 + i, none⟩ = (oc x)[i]? := fun i hi => by
      have q := ocs_at l j x hj i hi
      rw [← ht, List.getElem?_take, if_pos (by omega)] at q
      rw [cell_of_row w g _ cur _ (0, 0) hg, Nat.zero_add]
      simpa using q
    exact ⟨e 0 (by omega), e 1 (by omega), e 2 (by omega), e 3 (by omega), e 4 (by omega), e 5 (by omega), e 6 (by omega), e 7 (by omega)⟩
theorem ownO_nil (B : Nat) (w : World) : OwnO B w (.slice none 0 0) [] := ⟨rfl, Or.inl ⟨rfl, rfl⟩⟩
theorem ownO_far {w w' : World} {B : Nat} {v : Value} {l : List Ot} (h : OwnO B w v l) (hb : Below w.heap.size w w') : OwnO B w' v l := by
  refine ⟨h.1, h.2.imp id ?_⟩
  rintro ⟨g, c, cur, rfl, h0, hh, hr⟩
  exact ⟨g, c, cur, rfl, h0, keepB hh hb, hr⟩
theorem ownO_form {w : World} {B : Nat} {v : Value} {l : List Ot} (h : OwnO B w v l) : ∃ a c, v = .slice a l.length c ∧ l.length ≤ c ∧ c ≤ 9223372036854775807 := (ots_of_own (K := All) h fun _ _ => trivial).form
theorem infoO : ∃ i, Try.prog.info? TO = some i ∧ i.zero = some (.agg #[.int .i64 0, .int .i64 0, .int .i64 0, .int .i64 0, .int .i64 0, .int .i64 0, .int .i64 0, .int .i64 0]) ∧ i.size = 8 ∧ i.bytes = 64 := by
  have hi : (Try.prog.info? TO).map (fun i => (i.zero, i.size, i.bytes)) = some (some (.agg #[.int .i64 0, .int .i64 0, .int .i64 0, .int .i64 0, .int .i64 0, .int .i64 0, .int .i64 0, .int .i64 0]), 8, 64) := by kernel_rfl
  cases hq : Try.prog.info? TO with
  | none => rw [hq] at hi; cases hi
  | some i =>
    rw [hq] at hi
    simp only [Option.map_some, Option.some.injEq, Prod.mk.injEq] at hi
    exact ⟨i, rfl, hi⟩
theorem outs_src {w : World} {b o : Nat} {l : List Ot} (h : ∀ (j : Nat) x, l[j]? = some x → OtCells w b (o + j * 8) x) (j : Nat) (u : Value) (hj : (ocs l)[j]? = some u) : w.cell? ⟨b, o + j, none⟩ = some u := by
  have hjl : j < l.length * 8 := by have := (List.getElem?_eq_some_iff.1 hj).1; rwa [ocs_len] at this
  have hq : j / 8 < l.length := by omega
  have hx := List.getElem?_eq_getElem hq
  obtain ⟨c0, c1, c2, c3, c4, c5, c6, c7⟩ := h _ _ hx
  have e := ocs_at l (j / 8) _ hx (j % 8) (Nat.mod_lt _ (by omega))
  rw [show j / 8 * 8 + j % 8 = j by omega, hj] at e
  have hr : j % 8 = 0 ∨ j % 8 = 1 ∨ j % 8 = 2 ∨ j % 8 = 3 ∨ j % 8 = 4 ∨ j % 8 = 5 ∨ j % 8 = 6 ∨ j % 8 = 7 := by omega
  rcases hr with r | r | r | r | r | r | r | r <;> rw [r] at e
  · rw [show o + j = o + j / 8 * 8 by omega, c0]; exact e.symm
  · rw [show o + j = o + j / 8 * 8 + 1 by omega, c1]; exact e.symm
  · rw [show o + j = o + j / 8 * 8 + 2 by omega, c2]; exact e.symm
  · rw [show o + j = o + j / 8 * 8 + 3 by omega, c3]; exact e.symm
  · rw [show o + j = o + j / 8 * 8 + 4 by omega, c4]; exact e.symm
  · rw [show o + j = o + j / 8 * 8 + 5 by omega, c5]; exact e.symm
  · rw [show o + j = o + j / 8 * 8 + 6 by omega, c6]; exact e.symm
  · rw [show o + j = o + j / 8 * 8 + 7 by omega, c7]; exact e.symm

end Go.Proofs.Ytpfpjbeofogbgaa.Bk
end
