/-
  Texts put together (merge.py): WLaws, PBack.
-/
import GoSem.Claim
import Derived.Test.YtmoldgmfhcmceaaGreatDoorMp2
import Derived.Test.YtmoldgmfhcmceaaGreatDoorMp4
/-
  What follows of words: joined and split again, where they stand, blanks and brackets between two texts.
-/
section
namespace Go.Proofs.YtmoldgmfhcmceaaGreatDoor.Wo

def wOk (t : Tx) : Prop := (∃ c, t = [c] ∧ kd c = 2) ∨ (t ≠ [] ∧ allI t = true)
theorem wOk_wds {t : Tx} (h : wOk t) (p : Nat) : wds p t = [(t, p)] := by
  rcases h with ⟨c, rfl, hc⟩ | ⟨h1, h2⟩
  · rw [wds_one, if_pos (Or.inl hc)]
  · exact wds_run t p h1 h2
theorem wOk_good {t : Tx} (h : wOk t) : good t = true := by
  rcases h with ⟨c, rfl, hc⟩ | ⟨h1, h2⟩
  · simp [good, hc]
  · exact allI_good h2
theorem wOk_ne {t : Tx} (h : wOk t) : t ≠ [] := by
  rcases h with ⟨c, rfl, hc⟩ | ⟨h1, h2⟩
  · simp
  · exact h1
theorem wds_allI : ∀ (l : Tx) (p : Nat), headI l = true → ∃ x r, wds p l = (x, p) :: r ∧ allI x = true
  | [], p, h => by cases h
  | c :: t, p, h => by
    have hc : kd c = 3 := by simpa [headI, inn] using h
    have hi : inn c = true := h
    rw [wds_cons, if_neg (by omega), if_pos hc]
    split
    · rename_i hh
      obtain ⟨x, r, e, ha⟩ := wds_allI t (p + 1) hh
      exact ⟨c :: x, r, by rw [e]; rfl, by simp [allI, hi] at ha ⊢; exact ha⟩
    · exact ⟨[c], _, rfl, by simp [allI, hi]⟩
theorem wds_ok : ∀ (l : Tx) (p : Nat), ∀ x ∈ wds p l, wOk x.1
  | [], p => by simp [wds]
  | c :: t, p => by
    have ih := wds_ok t (p + 1)
    rw [wds_cons]
    split
    · rename_i h2
      intro x hx
      rcases List.mem_cons.1 hx with rfl | hx
      · exact Or.inl ⟨c, rfl, h2⟩
      · exact ih x hx
    split
    · rename_i h3
      have hi : inn c = true := by simp [inn, h3]
      split
      · rename_i hh
        obtain ⟨x, r, e, ha⟩ := wds_allI t (p + 1) hh
        rw [e] at ih ⊢
        intro y hy
        rcases List.mem_cons.1 hy with rfl | hy
        · exact Or.inr ⟨by simp, by simp [allI, hi] at ha ⊢; exact ha⟩
        · exact ih y (List.mem_cons_of_mem _ hy)
      · intro x hx
        rcases List.mem_cons.1 hx with rfl | hx
        · exact Or.inr ⟨by simp, by simp [allI, hi]⟩
        · exact ih x hx
    · exact ih
theorem txs_glue (c : UInt8) (p q : Nat) (a b : List Wd) (h : txs a = txs b) : txs (glue c p a) = txs (glue c q b) := by
  cases a with
  | nil =>
    cases b with
    | nil => rfl
    | cons y s => simp [txs] at h
  | cons x r =>
    cases b with
    | nil => simp [txs] at h
    | cons y s => simp [txs, glue] at h ⊢; exact h
theorem txs_pos : ∀ (l : Tx) (p q : Nat), txs (wds p l) = txs (wds q l)
  | [], p, q => rfl
  | c :: t, p, q => by
    have ih := txs_pos t (p + 1) (q + 1)
    rw [wds_cons, wds_cons]
    split
    · simp only [txs, List.map_cons] at ih ⊢; rw [ih]
    split
    · split
      · exact txs_glue c p q _ _ ih
      · simp only [txs, List.map_cons] at ih ⊢; rw [ih]
    · exact ih
theorem wds_blank (p : Nat) (c : UInt8) (t : Tx) (h : kd c = 1) : wds p (c :: t) = wds (p + 1) t := by rw [wds_cons, if_neg (by omega), if_neg (by omega)]
theorem headI_blank {c : UInt8} {t : Tx} (h : kd c ≠ 3) : headI (c :: t) = false := by simp [headI, inn, h]
/-- A blank between two texts. -/
theorem wds_seam (x t : Tx) (c : UInt8) (h : kd c = 1) : txs (wds 0 (x ++ c :: t)) = txs (wds 0 x) ++ txs (wds 0 t) := by
  rw [wds_app x (c :: t) 0 (Or.inr (headI_blank (by omega))), wds_blank _ _ _ h]
  unfold txs
  rw [List.map_append]
  have := txs_pos t (0 + x.length + 1) 0
  unfold txs at this
  rw [this]
theorem split_joined : ∀ (ts : List Tx), (∀ t ∈ ts, wOk t) → txs (wds 0 (joinC 32 ts)) = ts ∧ good (joinC 32 ts) = true
  | [], _ => by decide
  | [t], h => by
    have ht := h t (by simp)
    rw [joinC_one, wOk_wds ht]
    exact ⟨rfl, wOk_good ht⟩
  | t :: u :: r, h => by
    have ht := h t (by simp)
    obtain ⟨h1, h2⟩ := split_joined (u :: r) (fun x hx => h x (List.mem_cons_of_mem _ hx))
    rw [joinC_cons]
    refine ⟨?_, ?_⟩
    · rw [wds_seam _ _ _ (by decide), h1, wOk_wds ht]; rfl
    · have e : good (32 :: joinC 32 (u :: r)) = true := by
        have : good (32 :: joinC 32 (u :: r)) = good (joinC 32 (u :: r)) := by simp [good]; intro _; decide
        rw [this]; exact h2
      rw [good_app, wOk_good ht, e]; rfl
/-- All words' bytes are bytes of the text. -/
theorem wds_sum : ∀ (l : Tx) (p : Nat), ((txs (wds p l)).map List.length).sum ≤ l.length
  | [], p => by simp [wds, txs]
  | c :: t, p => by
    have ih := wds_sum t (p + 1)
    rw [wds_cons]
    split
    · simp [txs] at ih ⊢; omega
    split
    · split
      · cases h : wds (p + 1) t with
        | nil => simp [txs, glue]
        | cons x r => rw [h] at ih; simp [txs, glue] at ih ⊢; omega
      · simp [txs] at ih ⊢; omega
    · simp at ih ⊢; omega
theorem joined_len (l : Tx) (p : Nat) : (joinC 32 (txs (wds p l))).length ≤ 2 * l.length := by
  have h1 := wds_sum l p
  have h2 := wds_len l p
  by_cases h : txs (wds p l) = []
  · rw [h]; exact Nat.zero_le _
  · have e := join_len 32 _ h
    have e2 : ((txs (wds p l)).map fun x => 1 + x.length).sum = (txs (wds p l)).length + ((txs (wds p l)).map List.length).sum := by
      generalize txs (wds p l) = xs
      induction xs with
      | nil => rfl
      | cons x r ih => simp only [List.map_cons, List.sum_cons, List.length_cons, ih]; omega
    have e3 : (txs (wds p l)).length = (wds p l).length := by simp [txs]
    omega
/-- Each word stands where it is told to. -/
def PlOk (s : Tx) : Nat → List Wd → Prop
  | _, [] => True
  | a, x :: r => a ≤ x.2 ∧ x.1 ≠ [] ∧ x.2 + x.1.length ≤ s.length ∧ (s.drop x.2).take x.1.length = x.1 ∧ PlOk s (x.2 + x.1.length) r
theorem PlOk.le {s : Tx} {a b : Nat} : ∀ {l : List Wd}, PlOk s b l → a ≤ b → PlOk s a l
  | [], _, _ => trivial
  | _ :: _, h, k => ⟨Nat.le_trans k h.1, h.2⟩
theorem places (L : Tx) : ∀ (l : Tx) (p : Nat), L.drop p = l → PlOk L p (wds p l)
  | [], p, _ => trivial
  | c :: t, p, h => by
    have hp : p < L.length := by
      rcases Nat.lt_or_ge p L.length with h' | h'
      · exact h'
      · rw [List.drop_eq_nil_of_le h'] at h; cases h
    have ht : L.drop (p + 1) = t := by
      have := congrArg (List.drop 1) h
      simpa [List.drop_drop, Nat.add_comm] using this
    have ih := places L t (p + 1) ht
    rw [wds_cons]
    have one : PlOk L p (([c], p) :: wds (p + 1) t) := ⟨Nat.le_refl _, by simp, by simp; omega, by rw [h]; rfl, ih⟩
    split
    · exact one
    split
    · split
      · rename_i hh
        obtain ⟨x, r, e, -⟩ := wds_allI t (p + 1) hh
        rw [e] at ih ⊢
        obtain ⟨-, i2, i3, i4, i5⟩ := ih
        simp only at i2 i3 i4 i5
        refine ⟨Nat.le_refl _, by simp, by simp; omega, ?_, ?_⟩
        · show (L.drop p).take (c :: x).length = c :: x
          rw [h, List.length_cons, List.take_succ_cons, ← ht, i4]
        · show PlOk L (p + (c :: x).length) r
          rw [List.length_cons, show p + (x.length + 1) = p + 1 + x.length by omega]
          exact i5
      · exact one
    · exact ih.le (by omega)
/-- Blanks and ends of lines between two texts. -/
def more : Nat → Tx
  | 0 => [32]
  | n + 1 => more n ++ [if n % 2 = 0 then 10 else 32]
theorem more_len (n : Nat) : (more n).length = n + 1 := by induction n <;> simp_all [more]
theorem more_gap (n : Nat) : ∀ c ∈ more n, kd c = 1 := by
  induction n with
  | zero => intro c hc; simp [more] at hc; subst hc; decide
  | succ n ih =>
    intro c hc
    rcases List.mem_append.1 hc with h | h
    · exact ih c h
    · simp at h
      subst h
      split <;> decide
theorem more_head (n : Nat) : ∃ r, more n = 32 :: r := by
  induction n with
  | zero => exact ⟨[], rfl⟩
  | succ n ih => obtain ⟨r, e⟩ := ih; exact ⟨_, by rw [more, e]; rfl⟩
theorem gaps_txs : ∀ (g t : Tx) (p : Nat), (∀ c ∈ g, kd c = 1) → txs (wds p (g ++ t)) = txs (wds 0 t)
  | [], t, p, _ => txs_pos t p 0
  | c :: r, t, p, h => by rw [List.cons_append, wds_blank _ _ _ (h c (by simp))]; exact gaps_txs r t (p + 1) fun d hd => h d (List.mem_cons_of_mem _ hd)
theorem gaps_good : ∀ (g : Tx), (∀ c ∈ g, kd c = 1) → good g = true := fun g h => by
  unfold good
  rw [List.all_eq_true]
  intro c hc
  rw [h c hc]; rfl
theorem blanks (x t : Tx) (n : Nat) : txs (wds 0 (x ++ more n ++ t)) = txs (wds 0 (x ++ 32 :: t)) ∧ good (x ++ more n ++ t) = good (x ++ 32 :: t) := by
  obtain ⟨r, e⟩ := more_head n
  have hg := more_gap n
  have h32 : good (32 :: t) = good t := by simp [good]; intro _; decide
  refine ⟨?_, ?_⟩
  · rw [wds_seam x t 32 (by decide), List.append_assoc, e, List.cons_append, wds_seam x (r ++ t) 32 (by decide), gaps_txs r t 0 (fun c hc => hg c (by rw [e]; exact List.mem_cons_of_mem _ hc))]
  · rw [good_app, good_app, good_app, gaps_good _ hg, h32, Bool.and_true]
/-- A bracket between two texts. -/
theorem brackets (x t : Tx) : wds 0 (x ++ 40 :: t) = wds 0 x ++ ([40], x.length) :: wds (x.length + 1) t ∧ good (x ++ 40 :: t) = (good x && good t) := by
  refine ⟨?_, ?_⟩
  · rw [wds_app x (40 :: t) 0 (Or.inr (headI_blank (by decide))), wds_cons, if_pos (by decide)]
    simp
  · have : good (40 :: t) = good t := by simp [good]; intro _; decide
    rw [good_app, this]
theorem fb_lt : ∀ (l : Tx) (p i : Nat), fb p l = some i → i < p + l.length
  | [], p, i, h => by cases h
  | c :: t, p, i, h => by
    rw [fb] at h
    split at h
    · cases h; simp
    · have := fb_lt t (p + 1) i h; simp; omega
theorem sp_fault {l : Tx} (h : l.length ≤ 65536) (hg : good l = false) : Wo.spE l = 4 ∧ Wo.spV l = [] ∧ Wo.spA l < l.length := by
  have h' : ¬ 65536 < l.length := by omega
  have hg' : ¬ good l = true := by rw [hg]; simp
  refine ⟨by rw [Wo.spE, if_neg h', if_neg hg'], by rw [Wo.spV, if_neg h', if_neg hg'], ?_⟩
  rw [Wo.spA, if_neg h']
  cases e : fb 0 l with
  | none => exact absurd ((fb_none l 0).1 e) hg'
  | some i => have := fb_lt l 0 i e; simpa using this
theorem sp_fine {l : Tx} (h : l.length ≤ 65536) (hg : good l = true) : Wo.spE l = 0 ∧ Wo.spV l = wds 0 l := by
  have h' : ¬ 65536 < l.length := by omega
  exact ⟨by rw [Wo.spE, if_neg h', if_pos hg], by rw [Wo.spV, if_neg h', if_pos hg]⟩
theorem PlOk.at {s : Tx} {a : Nat} {l : List Wd} {k : Nat} (h : PlOk s a (l.drop k)) (hk : k < l.length) : a ≤ l[k].2 ∧ l[k].1 ≠ [] ∧ l[k].2 + l[k].1.length ≤ s.length ∧ (s.drop l[k].2).take l[k].1.length = l[k].1 ∧ PlOk s (l[k].2 + l[k].1.length) (l.drop (k + 1)) := by
  rw [List.drop_eq_getElem_cons hk] at h
  exact h
theorem mk_cat3 (a b c : ByteArray) : (a ++ b ++ c).data.toList = a.data.toList ++ b.data.toList ++ c.data.toList := by simp
theorem sp_blanks (a b O : ByteArray) (n : Nat) (hO : O = mk (more n)) (ha : a.size ≤ 2000) (hb : b.size ≤ 2000) (hn : n ≤ 50) : Wo.spE (a ++ O ++ b).data.toList = Wo.spE (a ++ ⟨#[32]⟩ ++ b).data.toList ∧ txs (Wo.spV (a ++ O ++ b).data.toList) = txs (Wo.spV (a ++ ⟨#[32]⟩ ++ b).data.toList) := by
  rw [mk_cat3, mk_cat3, hO, mk_list]
  obtain ⟨h1, h2⟩ := blanks a.data.toList b.data.toList n
  have e : a.data.toList ++ (⟨#[32]⟩ : ByteArray).data.toList ++ b.data.toList = a.data.toList ++ 32 :: b.data.toList := by simp
  rw [e]
  have la : a.data.toList.length = a.size := (Lib.size_eq a).symm
  have lb : b.data.toList.length = b.size := (Lib.size_eq b).symm
  have l1 : (a.data.toList ++ more n ++ b.data.toList).length ≤ 65536 := by rw [List.length_append, List.length_append, more_len]; omega
  have l2 : (a.data.toList ++ 32 :: b.data.toList).length ≤ 65536 := by rw [List.length_append, List.length_cons]; omega
  cases hg : good (a.data.toList ++ 32 :: b.data.toList)
  · rw [hg] at h2
    obtain ⟨p1, p2, -⟩ := sp_fault l1 h2
    obtain ⟨q1, q2, -⟩ := sp_fault l2 hg
    rw [p1, p2, q1, q2]; exact ⟨rfl, rfl⟩
  · rw [hg] at h2
    obtain ⟨p1, p2⟩ := sp_fine l1 h2
    obtain ⟨q1, q2⟩ := sp_fine l2 hg
    rw [p1, p2, q1, q2]; exact ⟨rfl, h1⟩
theorem txs_len {a b : List Wd} (h : txs a = txs b) : a.length = b.length := by have := congrArg List.length h; simpa [txs] using this
theorem txs_at {a b : List Wd} (h : txs a = txs b) (k : Nat) (ha : k < a.length) (hb : k < b.length) : a[k].1 = b[k].1 := by
  have h1 : (txs a)[k]? = some a[k].1 := by simp [txs, ha]
  have h2 : (txs b)[k]? = some b[k].1 := by simp [txs, hb]
  rw [h, h2] at h1
  exact (Option.some.inj h1).symm
theorem byte_of {n : Int} (h : (Lit.int .u8 n).wf = true) : ∃ c : Nat, n = (c : Int) ∧ c ≤ 255 := by
  have hb : 0 ≤ n ∧ n ≤ 255 := by simpa [Lit.wf, IntKind.min, IntKind.max, IntKind.signed, IntKind.bits] using h
  exact ⟨n.toNat, by omega, by omega⟩
theorem sp_brackets (a b : ByteArray) (ha : a.size ≤ 2000) (hb : b.size ≤ 2000) : (good a.data.toList = false ∨ good b.data.toList = false → Wo.spE (a ++ ⟨#[40]⟩ ++ b).data.toList = 4) ∧ (good a.data.toList = true → good b.data.toList = true → Wo.spE (a ++ ⟨#[40]⟩ ++ b).data.toList = 0 ∧ Wo.spV (a ++ ⟨#[40]⟩ ++ b).data.toList = wds 0 a.data.toList ++ ([40], a.size) :: wds (a.size + 1) b.data.toList) := by
  have e : a.data.toList ++ (⟨#[40]⟩ : ByteArray).data.toList ++ b.data.toList = a.data.toList ++ 40 :: b.data.toList := by simp
  rw [mk_cat3, e]
  obtain ⟨h1, h2⟩ := brackets a.data.toList b.data.toList
  have la : a.data.toList.length = a.size := (Lib.size_eq a).symm
  have lb : b.data.toList.length = b.size := (Lib.size_eq b).symm
  have l2 : (a.data.toList ++ 40 :: b.data.toList).length ≤ 65536 := by rw [List.length_append, List.length_cons]; omega
  refine ⟨fun h => (sp_fault l2 (by rw [h2]; rcases h with h | h <;> rw [h] <;> simp)).1, fun p q => ?_⟩
  obtain ⟨r1, r2⟩ := sp_fine l2 (by rw [h2, p, q]; rfl)
  exact ⟨r1, by rw [r2, h1, la]⟩
def sumL (l : List Tx) : Nat := (l.map List.length).sum
theorem sumL_take (l : List Tx) (k : Nat) (h : k < l.length) : sumL (l.take (k + 1)) = sumL (l.take k) + l[k].length := by
  have e : l.take (k + 1) = l.take k ++ [l[k]] := by rw [List.take_add_one, List.getElem?_eq_getElem h]; rfl
  unfold sumL
  rw [e, List.map_append, List.sum_append]
  rfl
theorem join_sum (l : List Tx) : (joinC 32 l).length ≤ sumL l + l.length := by
  by_cases h : l = []
  · rw [h]; exact Nat.zero_le _
  · have e := join_len 32 _ h
    have e2 : (l.map fun x => 1 + x.length).sum = l.length + sumL l := by
      unfold sumL
      clear e h
      induction l with
      | nil => rfl
      | cons x r ih => simp only [List.map_cons, List.sum_cons, List.length_cons, ih]; omega
    omega
theorem sp_again (l : Tx) (h : l.length ≤ 5000) : Wo.spE (mk (joinC 32 (txs (wds 0 l)))).data.toList = 0 ∧ txs (Wo.spV (mk (joinC 32 (txs (wds 0 l)))).data.toList) = txs (wds 0 l) := by
  rw [mk_list]
  obtain ⟨h1, h2⟩ := split_joined (txs (wds 0 l)) (fun t ht => by
    obtain ⟨x, hx, rfl⟩ := List.mem_map.1 ht
    exact wds_ok l 0 x hx)
  have hl := joined_len l 0
  obtain ⟨q1, q2⟩ := sp_fine (l := joinC 32 (txs (wds 0 l))) (by omega) h2
  exact ⟨q1, by rw [q2, h1]⟩
theorem txs_take (V : List Wd) (k : Nat) (h : k < V.length) : (txs (V.take (k + 1))).map (fun t => Value.string (mk t)) = (txs (V.take k)).map (fun t => Value.string (mk t)) ++ [.string (mk V[k].1)] := by
  have e : V.take (k + 1) = V.take k ++ [V[k]] := by rw [List.take_add_one, List.getElem?_eq_getElem h]; rfl
  rw [e]
  unfold txs
  rw [List.map_append, List.map_append]
  rfl
end Go.Proofs.YtmoldgmfhcmceaaGreatDoor.Wo
end

/-
  A plan's words are parsed as that plan, over plain lists.
-/
section
set_option linter.unusedSimpArgs false
namespace Go.Proofs.YtmoldgmfhcmceaaGreatDoor.Pl
open Wo (Wd wOk kd allI inn)

theorem set_back (E : Nat) (s : St) (a rest : List Wd) (h : setB s = true) (ha : a.map (·.1) = setW s) : pSet E (a ++ rest) = .ok (s, rest) := by
  obtain ⟨w, n⟩ := s
  simp only [setB, Bool.and_eq_true, decide_eq_true_eq] at h
  obtain ⟨h0, h⟩ := h
  unfold setW at ha
  simp only at ha h0 h
  have ht : ∀ n : Int, 0 ≤ n → n ≤ 1 → ∀ p (r : List Wd), pTruth E ((yesW n, p) :: r) = .ok (n, r) := fun n a b p r => by
    obtain rfl | rfl : n = 0 ∨ n = 1 := by omega
    · rfl
    · rfl
  by_cases h1 : w = 1
  · subst h1
    obtain ⟨p, r1, rfl, g1⟩ := map_cons (ha.trans (if_pos rfl))
    obtain ⟨p1, r2, rfl, g2⟩ := map_cons g1
    obtain rfl := map_nil g2
    have hn : n ≤ 1 := by simpa using h
    show (match pTruth E ((yesW n, p1) :: rest) with | .error e => (.error e : R St) | .ok (n, r) => .ok (⟨1, n⟩, r)) = _
    simp only [ht n h0 hn]
  by_cases h2 : w = 2
  · subst h2
    obtain ⟨p, r1, rfl, g1⟩ := map_cons (ha.trans (show _ = [tDed, yesW n] from rfl))
    obtain ⟨p1, r2, rfl, g2⟩ := map_cons g1
    obtain rfl := map_nil g2
    have hn : n ≤ 1 := by simpa using h
    show (match pTruth E ((yesW n, p1) :: rest) with | .error e => (.error e : R St) | .ok (n, r) => .ok (⟨2, n⟩, r)) = _
    simp only [ht n h0 hn]
  by_cases h3 : w = 3
  · subst h3
    obtain ⟨p, r1, rfl, g1⟩ := map_cons (ha.trans (show _ = [tCopay, Nu.moneyL n] from rfl))
    obtain ⟨p1, r2, rfl, g2⟩ := map_cons g1
    obtain rfl := map_nil g2
    have hn : goodB n = true := by simpa using h
    show (match pMoney E ((Nu.moneyL n, p1) :: rest) with | .error e => (.error e : R St) | .ok (n, r) => .ok (⟨3, n⟩, r)) = _
    simp only [money_ok E hn]
  by_cases h4 : w = 4
  · subst h4
    obtain ⟨p, r1, rfl, g1⟩ := map_cons (ha.trans (show _ = [tCoins, Lib.itoa n] from rfl))
    obtain ⟨p1, r2, rfl, g2⟩ := map_cons g1
    obtain rfl := map_nil g2
    have hn : n ≤ 10000 := by simpa using h
    show (match pNum E 10000 ((Lib.itoa n, p1) :: rest) with | .error e => (.error e : R St) | .ok (n, r) => .ok (⟨4, n⟩, r)) = _
    simp only [num_ok E h0 hn (show n ≤ 99999 by omega)]
  · simp [h1, h2, h3, h4] at h
theorem setW_head (s : St) : ∃ t r, setW s = t :: r ∧ t ≠ tEnd := by
  unfold setW
  split
  · exact ⟨_, _, rfl, by decide⟩
  split
  · exact ⟨_, _, rfl, by decide⟩
  split
  · exact ⟨_, _, rfl, by decide⟩
  · exact ⟨_, _, rfl, by decide⟩
theorem sets_back (E : Nat) : ∀ (l : List St) (f : Nat) (acc : List St) (a rest : List Wd), l ≠ [] → l.length ≤ f → setsB (acc.map (·.what)) l = true → a.map (·.1) = setsW l ++ [tEnd] → pSets E f acc (a ++ rest) = .ok (acc ++ l, rest)
  | [], _, _, _, _, h, _, _, _ => absurd rfl h
  | s :: r, 0, _, _, _, _, h, _, _ => by simp at h
  | s :: r, f + 1, acc, a, rest, _, hf, h, ha => by
    simp only [setsB, Bool.and_eq_true, decide_eq_true_eq] at h
    obtain ⟨h1, h2, h3⟩ := h
    have e : setsW (s :: r) ++ [tEnd] = setW s ++ (setsW r ++ [tEnd]) := by simp [setsW]
    rw [e] at ha
    obtain ⟨a1, a2, rfl, g1, g2⟩ := map_app ha
    have hs := set_back E s a1 (a2 ++ rest) h1 g1
    unfold pSets
    rw [List.append_assoc, hs]
    show (if s.what ∈ acc.map (·.what) then (.error (12, pos E (a1 ++ (a2 ++ rest))) : R (List St)) else match a2 ++ rest with
        | (x, _) :: q => if x = tEnd then .ok (acc ++ [s], q) else pSets E f (acc ++ [s]) (a2 ++ rest)
        | [] => .error (4, E)) = _
    rw [if_neg h2]
    cases r with
    | nil =>
      obtain ⟨p, r2, rfl, g3⟩ := map_cons (g2.trans (show _ = [tEnd] from rfl))
      obtain rfl := map_nil g3
      show (if tEnd = tEnd then _ else _) = _
      rw [if_pos rfl]; rfl
    | cons u q =>
      obtain ⟨t, ws, hu, hne⟩ := setW_head u
      have e2 : setsW (u :: q) ++ [tEnd] = t :: (ws ++ (setsW q ++ [tEnd])) := by simp [setsW, hu]
      obtain ⟨p, r2, rfl, g3⟩ := map_cons (g2.trans e2)
      have ih := sets_back E (u :: q) f (acc ++ [s]) ((t, p) :: r2) rest (by simp) (by simp at hf ⊢; omega) (by rw [List.map_append]; exact h3) g2
      show (if t = tEnd then _ else pSets E f (acc ++ [s]) (((t, p) :: r2) ++ rest)) = _
      rw [if_neg hne, ih, List.append_assoc]; rfl
theorem rule_back (E : Nat) (r : Ru) (a rest : List Wd) (h : ruleB r = true) (ha : a.map (·.1) = ruleW r) : pRule E (a ++ rest) = .ok (r, rest) := by
  obtain ⟨k, c, u, ss⟩ := r
  simp only [ruleB, Bool.and_eq_true, decide_eq_true_eq, List.all_eq_true] at h
  obtain ⟨⟨h0, h1⟩, h2, h3, h4, h5, h6⟩ := h
  unfold ruleW at ha
  simp only at ha
  obtain ⟨p, r1, rfl, g1⟩ := map_cons ha
  obtain ⟨p1, r2, rfl, g2⟩ := map_cons g1
  obtain ⟨p2, r3, rfl, g3⟩ := map_cons g2
  obtain ⟨a1, r4, rfl, g4, g5⟩ := map_app g3
  obtain ⟨a2, r5, rfl, g6, g7⟩ := map_app g5
  obtain ⟨p3, r6, rfl, g8⟩ := map_cons g7
  have hc := cond_back E 16 c a1 (a2 ++ ((tSet, p3) :: (r6 ++ rest))) h2 g4
  have hu : pUnl E (a2 ++ ((tSet, p3) :: (r6 ++ rest))) = .ok (u, (tSet, p3) :: (r6 ++ rest)) := by
    unfold unlW at g6
    by_cases hl : u.length = 1
    · rw [if_pos hl] at g6
      obtain ⟨d, rfl⟩ := list1 hl
      obtain ⟨p4, r7, rfl, g9⟩ := map_cons g6
      have hd := cond_back E 16 d r7 ((tSet, p3) :: (r6 ++ rest)) (h4 d (by simp)) g9
      unfold pUnl
      simp only [List.cons_append, if_true, hd]
    · rw [if_neg hl] at g6
      obtain rfl := map_nil g6
      obtain rfl : u = [] := list0 (by omega)
      rfl
  have hs := sets_back E ss ((r6 ++ rest).length + 1) [] r6 rest (by intro e; rw [e] at h5; simp at h5) (by
    have : (setsW ss ++ [tEnd]).length = r6.length := by rw [← g8, List.length_map]
    have hge : ∀ l : List St, l.length ≤ (setsW l).length := fun l => by
      induction l with
      | nil => simp [setsW]
      | cons x q ih =>
        obtain ⟨t, ws, hx, -⟩ := setW_head x
        have : (setsW (x :: q)).length = (setW x).length + (setsW q).length := by simp [setsW]
        rw [this, hx]; simp; omega
    have := hge ss
    simp at *; omega) h6 g8
  have hn := num_ok E h0 h1 (show k ≤ 99999 by omega) p1 ((tIf, p2) :: (a1 ++ (a2 ++ ((tSet, p3) :: (r6 ++ rest)))))
  have e1 : ((tRule, p) :: (Lib.itoa k, p1) :: (tIf, p2) :: (a1 ++ (a2 ++ (tSet, p3) :: r6))) ++ rest = (tRule, p) :: (Lib.itoa k, p1) :: (tIf, p2) :: (a1 ++ (a2 ++ ((tSet, p3) :: (r6 ++ rest)))) := by simp
  rw [e1]
  unfold pRule
  simp only [take_ok, hn, hc, hu, hs, List.nil_append]
theorem rules_back (E : Nat) : ∀ (l : List Ru) (f : Nat) (acc : List Ru) (a : List Wd), l.length ≤ f → (∀ r ∈ l, ruleB r = true) → a.map (·.1) = l.flatMap ruleW → pRules E f acc a = .ok (acc ++ l)
  | [], f, acc, a, _, _, ha => by
    obtain rfl := map_nil (ha.trans (show _ = [] from rfl))
    cases f <;> simp [pRules]
  | r :: q, 0, acc, a, hf, _, _ => by simp at hf
  | r :: q, f + 1, acc, a, hf, h, ha => by
    have e : (r :: q).flatMap ruleW = ruleW r ++ q.flatMap ruleW := by simp
    rw [e] at ha
    obtain ⟨a1, a2, rfl, g1, g2⟩ := map_app ha
    have hr := rule_back E r a1 a2 (h r (by simp)) g1
    have ih := rules_back E q f (acc ++ [r]) a2 (by simp at hf; omega) (fun x hx => h x (List.mem_cons_of_mem _ hx)) g2
    have hne : (a1 ++ a2).isEmpty = false := by
      cases a1 with
      | nil => simp [ruleW] at g1
      | cons x y => rfl
    unfold pRules
    rw [hne]
    simp only [hr, ih, Bool.false_eq_true, if_false, List.append_assoc, List.singleton_append]
theorem lim_good {p : Pn} (h : limB p = true) : goodB p.indDed = true ∧ goodB p.indOop = true ∧ goodB p.famDed = true ∧ goodB p.famOop = true := by
  simp only [limB, goodB, Bool.and_eq_true, decide_eq_true_eq] at *
  omega
theorem plan_back (E : Nat) (p : Pn) (a : List Wd) (h : planB p = true) (ha : a.map (·.1) = planW p) : pPlan E a = .ok p := by
  have hp := h
  simp only [planB, Bool.and_eq_true, Bool.or_eq_true, decide_eq_true_eq, List.all_eq_true] at h
  obtain ⟨hm, h64, hl, hr⟩ := h
  obtain ⟨l1, l2, l3, l4⟩ := lim_good hl
  obtain ⟨m, a1, a2, a3, a4, rs⟩ := p
  simp only at *
  unfold planW headW at ha
  simp only at ha
  obtain ⟨b, c, rfl, g0, gr⟩ := map_app ha
  obtain ⟨p1, b1, rfl, g1⟩ := map_cons g0
  obtain ⟨p2, b2, rfl, g2⟩ := map_cons g1
  obtain ⟨p3, b3, rfl, g3⟩ := map_cons g2
  obtain ⟨p4, b4, rfl, g4⟩ := map_cons g3
  obtain ⟨p5, b5, rfl, g5⟩ := map_cons g4
  obtain ⟨p6, b6, rfl, g6⟩ := map_cons g5
  obtain ⟨p7, b7, rfl, g7⟩ := map_cons g6
  obtain ⟨p8, b8, rfl, g8⟩ := map_cons g7
  obtain rfl := map_nil g8
  have hR := rules_back E rs 64 [] c h64 hr gr
  have hM : ∀ r : List Wd, pMode E (((if m = 1 then tAgg else tEmb), p2) :: r) = .ok (m, r) := fun r => by
    rcases hm with rfl | rfl
    · rfl
    · rfl
  have hH : pHead E ([(tPlan, p1), ((if m = 1 then tAgg else tEmb), p2), (tMem, p3), (Nu.moneyL a1, p4), (Nu.moneyL a3, p5), (tFam, p6), (Nu.moneyL a2, p7), (Nu.moneyL a4, p8)] ++ c) = .ok (⟨m, a1, a2, a3, a4, []⟩, c) := by
    unfold pHead
    simp only [List.cons_append, List.nil_append, take_ok, hM, money_ok E l1, money_ok E l2, money_ok E l3, money_ok E l4]
  unfold pPlan
  rw [hH]
  simp only [hR, List.nil_append]
  rw [if_pos hp]
end Go.Proofs.YtmoldgmfhcmceaaGreatDoor.Pl
end
