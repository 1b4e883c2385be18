/-
  Texts put together (merge.py): WLaws.
-/
import GoSem.Claim
import Derived.Test.YtgloihilnbjmeaaDoorMc3
/-
  What follows of words: joined and split again, where they stand, blanks and brackets between two texts.
-/
section
namespace Go.Proofs.YtgloihilnbjmeaaDoor.Wo

def wOk (t : Tx) : Prop := (∃ c, t = [c] ∧ kd c = 2) ∨ (t ≠ [] ∧ allI t = true)
theorem wOk_wds {t : Tx} (h : wOk t) (p : Nat) : wds p t = [(t, p)] := by
  rcases h with ⟨c, rfl, hc⟩ | ⟨h1, h2⟩
  · rw [wds_one, if_pos (Or.inl hc)]
  · exact wds_run t p h1 h2
theorem wOk_good {t : Tx} (h : wOk t) : good t = true := by
  rcases h with ⟨c, rfl, hc⟩ | ⟨h1, h2⟩
  · simp [good, hc]
  · exact allI_good h2
theorem wOk_ne {t : Tx} (h : wOk t) : t ≠ [] := by
  rcases h with ⟨c, rfl, hc⟩ | ⟨h1, h2⟩
  · simp
  · exact h1
theorem wds_allI : ∀ (l : Tx) (p : Nat), headI l = true → ∃ x r, wds p l = (x, p) :: r ∧ allI x = true
  | [], p, h => by cases h
  | c :: t, p, h => by
    have hc : kd c = 3 := by simpa [headI, inn] using h
    have hi : inn c = true := h
    rw [wds_cons, if_neg (by omega), if_pos hc]
    split
    · rename_i hh
      obtain ⟨x, r, e, ha⟩ := wds_allI t (p + 1) hh
      exact ⟨c :: x, r, by rw [e]; rfl, by simp [allI, hi] at ha ⊢; exact ha⟩
    · exact ⟨[c], _, rfl, by simp [allI, hi]⟩
theorem wds_ok : ∀ (l : Tx) (p : Nat), ∀ x ∈ wds p l, wOk x.1
  | [], p => by simp [wds]
  | c :: t, p => by
    have ih := wds_ok t (p + 1)
    rw [wds_cons]
    split
    · rename_i h2
      intro x hx
      rcases List.mem_cons.1 hx with rfl | hx
      · exact Or.inl ⟨c, rfl, h2⟩
      · exact ih x hx
    split
    · rename_i h3
      have hi : inn c = true := by simp [inn, h3]
      split
      · rename_i hh
        obtain ⟨x, r, e, ha⟩ := wds_allI t (p + 1) hh
        rw [e] at ih ⊢
        intro y hy
        rcases List.mem_cons.1 hy with rfl | hy
        · exact Or.inr ⟨by simp, by simp [allI, hi] at ha ⊢; exact ha⟩
        · exact ih y (List.mem_cons_of_mem _ hy)
      · intro x hx
        rcases List.mem_cons.1 hx with rfl | hx
        · exact Or.inr ⟨by simp, by simp [allI, hi]⟩
        · exact ih x hx
    · exact ih
theorem txs_glue (c : UInt8) (p q : Nat) (a b : List Wd) (h : txs a = txs b) : txs (glue c p a) = txs (glue c q b) := by
  cases a with
  | nil =>
    cases b with
    | nil => rfl
    | cons y s => simp [txs] at h
  | cons x r =>
    cases b with
    | nil => simp [txs] at h
    | cons y s => simp [txs, glue] at h ⊢; exact h
theorem txs_pos : ∀ (l : Tx) (p q : Nat), txs (wds p l) = txs (wds q l)
  | [], p, q => rfl
  | c :: t, p, q => by
    have ih := txs_pos t (p + 1) (q + 1)
    rw [wds_cons, wds_cons]
    split
    · simp only [txs, List.map_cons] at ih ⊢; rw [ih]
    split
    · split
      · exact txs_glue c p q _ _ ih
      · simp only [txs, List.map_cons] at ih ⊢; rw [ih]
    · exact ih
theorem wds_blank (p : Nat) (c : UInt8) (t : Tx) (h : kd c = 1) : wds p (c :: t) = wds (p + 1) t := by rw [wds_cons, if_neg (by omega), if_neg (by omega)]
theorem headI_blank {c : UInt8} {t : Tx} (h : kd c ≠ 3) : headI (c :: t) = false := by simp [headI, inn, h]
/-- A blank between two texts. -/
theorem wds_seam (x t : Tx) (c : UInt8) (h : kd c = 1) : txs (wds 0 (x ++ c :: t)) = txs (wds 0 x) ++ txs (wds 0 t) := by
  rw [wds_app x (c :: t) 0 (Or.inr (headI_blank (by omega))), wds_blank _ _ _ h]
  unfold txs
  rw [List.map_append]
  have := txs_pos t (0 + x.length + 1) 0
  unfold txs at this
  rw [this]
theorem split_joined : ∀ (ts : List Tx), (∀ t ∈ ts, wOk t) → txs (wds 0 (joinC 32 ts)) = ts ∧ good (joinC 32 ts) = true
  | [], _ => by decide
  | [t], h => by
    have ht := h t (by simp)
    rw [joinC_one, wOk_wds ht]
    exact ⟨rfl, wOk_good ht⟩
  | t :: u :: r, h => by
    have ht := h t (by simp)
    obtain ⟨h1, h2⟩ := split_joined (u :: r) (fun x hx => h x (List.mem_cons_of_mem _ hx))
    rw [joinC_cons]
    refine ⟨?_, ?_⟩
    · rw [wds_seam _ _ _ (by decide), h1, wOk_wds ht]; rfl
    · have e : good (32 :: joinC 32 (u :: r)) = true := by
        have : good (32 :: joinC 32 (u :: r)) = good (joinC 32 (u :: r)) := by simp [good]; intro _; decide
        rw [this]; exact h2
      rw [good_app, wOk_good ht, e]; rfl
/-- All words' bytes are bytes of the text. -/
theorem wds_sum : ∀ (l : Tx) (p : Nat), ((txs (wds p l)).map List.length).sum ≤ l.length
  | [], p => by simp [wds, txs]
  | c :: t, p => by
    have ih := wds_sum t (p + 1)
    rw [wds_cons]
    split
    · simp [txs] at ih ⊢; omega
    split
    · split
      · cases h : wds (p + 1) t with
        | nil => simp [txs, glue]
        | cons x r => rw [h] at ih; simp [txs, glue] at ih ⊢; omega
      · simp [txs] at ih ⊢; omega
    · simp at ih ⊢; omega
theorem joined_len (l : Tx) (p : Nat) : (joinC 32 (txs (wds p l))).length ≤ 2 * l.length := by
  have h1 := wds_sum l p
  have h2 := wds_len l p
  by_cases h : txs (wds p l) = []
  · rw [h]; exact Nat.zero_le _
  · have e := join_len 32 _ h
    have e2 : ((txs (wds p l)).map fun x => 1 + x.length).sum = (txs (wds p l)).length + ((txs (wds p l)).map List.length).sum := by
      generalize txs (wds p l) = xs
      induction xs with
      | nil => rfl
      | cons x r ih => simp only [List.map_cons, List.sum_cons, List.length_cons, ih]; omega
    have e3 : (txs (wds p l)).length = (wds p l).length := by simp [txs]
    omega
/-- Each word stands where it is told to. -/
def PlOk (s : Tx) : Nat → List Wd → Prop
  | _, [] => True
  | a, x :: r => a ≤ x.2 ∧ x.1 ≠ [] ∧ x.2 + x.1.length ≤ s.length ∧ (s.drop x.2).take x.1.length = x.1 ∧ PlOk s (x.2 + x.1.length) r
theorem PlOk.le {s : Tx} {a b : Nat} : ∀ {l : List Wd}, PlOk s b l → a ≤ b → PlOk s a l
  | [], _, _ => trivial
  | _ :: _, h, k => ⟨Nat.le_trans k h.1, h.2⟩
theorem places (L : Tx) : ∀ (l : Tx) (p : Nat), L.drop p = l → PlOk L p (wds p l)
  | [], p, _ => trivial
  | c :: t, p, h => by
    have hp : p < L.length := by
      rcases Nat.lt_or_ge p L.length with h' | h'
      · exact h'
      · rw [List.drop_eq_nil_of_le h'] at h; cases h
    have ht : L.drop (p + 1) = t := by
      have := congrArg (List.drop 1) h
      simpa [List.drop_drop, Nat.add_comm] using this
    have ih := places L t (p + 1) ht
    rw [wds_cons]
    have one : PlOk L p (([c], p) :: wds (p + 1) t) := ⟨Nat.le_refl _, by simp, by simp; omega, by rw [h]; rfl, ih⟩
    split
    · exact one
    split
    · split
      · rename_i hh
        obtain ⟨x, r, e, -⟩ := wds_allI t (p + 1) hh
        rw [e] at ih ⊢
        obtain ⟨-, i2, i3, i4, i5⟩ := ih
        simp only at i2 i3 i4 i5
        refine ⟨Nat.le_refl _, by simp, by simp; omega, ?_, ?_⟩
        · show (L.drop p).take (c :: x).length = c :: x
          rw [h, List.length_cons, List.take_succ_cons, ← ht, i4]
        · show PlOk L (p + (c :: x).length) r
          rw [List.length_cons, show p + (x.length + 1) = p + 1 + x.length by omega]
          exact i5
      · exact one
    · exact ih.le (by omega)
/-- Blanks and ends of lines between two texts. -/
def more : Nat → Tx
  | 0 => [32]
  | n + 1 => more n ++ [if n % 2 = 0 then 10 else 32]
theorem more_len (n : Nat) : (more n).length = n + 1 := by induction n <;> simp_all [more]
theorem more_gap (n : Nat) : ∀ c ∈ more n, kd c = 1 := by
  induction n with
  | zero => intro c hc; simp [more] at hc; subst hc; decide
  | succ n ih =>
    intro c hc
    rcases List.mem_append.1 hc with h | h
    · exact ih c h
    · simp at h
      subst h
      split <;> decide
theorem more_head (n : Nat) : ∃ r, more n = 32 :: r := by
  induction n with
  | zero => exact ⟨[], rfl⟩
  | succ n ih => obtain ⟨r, e⟩ := ih; exact ⟨_, by rw [more, e]; rfl⟩
theorem gaps_txs : ∀ (g t : Tx) (p : Nat), (∀ c ∈ g, kd c = 1) → txs (wds p (g ++ t)) = txs (wds 0 t)
  | [], t, p, _ => txs_pos t p 0
  | c :: r, t, p, h => by rw [List.cons_append, wds_blank _ _ _ (h c (by simp))]; exact gaps_txs r t (p + 1) fun d hd => h d (List.mem_cons_of_mem _ hd)
theorem gaps_good : ∀ (g : Tx), (∀ c ∈ g, kd c = 1) → good g = true := fun g h => by
  unfold good
  rw [List.all_eq_true]
  intro c hc
  rw [h c hc]; rfl
theorem blanks (x t : Tx) (n : Nat) : txs (wds 0 (x ++ more n ++ t)) = txs (wds 0 (x ++ 32 :: t)) ∧ good (x ++ more n ++ t) = good (x ++ 32 :: t) := by
  obtain ⟨r, e⟩ := more_head n
  have hg := more_gap n
  have h32 : good (32 :: t) = good t := by simp [good]; intro _; decide
  refine ⟨?_, ?_⟩
  · rw [wds_seam x t 32 (by decide), List.append_assoc, e, List.cons_append, wds_seam x (r ++ t) 32 (by decide), gaps_txs r t 0 (fun c hc => hg c (by rw [e]; exact List.mem_cons_of_mem _ hc))]
  · rw [good_app, good_app, good_app, gaps_good _ hg, h32, Bool.and_true]
/-- A bracket between two texts. -/
theorem brackets (x t : Tx) : wds 0 (x ++ 40 :: t) = wds 0 x ++ ([40], x.length) :: wds (x.length + 1) t ∧ good (x ++ 40 :: t) = (good x && good t) := by
  refine ⟨?_, ?_⟩
  · rw [wds_app x (40 :: t) 0 (Or.inr (headI_blank (by decide))), wds_cons, if_pos (by decide)]
    simp
  · have : good (40 :: t) = good t := by simp [good]; intro _; decide
    rw [good_app, this]
theorem fb_lt : ∀ (l : Tx) (p i : Nat), fb p l = some i → i < p + l.length
  | [], p, i, h => by cases h
  | c :: t, p, i, h => by
    rw [fb] at h
    split at h
    · cases h; simp
    · have := fb_lt t (p + 1) i h; simp; omega
theorem sp_fault {l : Tx} (h : l.length ≤ 65536) (hg : good l = false) : Wo.spE l = 4 ∧ Wo.spV l = [] ∧ Wo.spA l < l.length := by
  have h' : ¬ 65536 < l.length := by omega
  have hg' : ¬ good l = true := by rw [hg]; simp
  refine ⟨by rw [Wo.spE, if_neg h', if_neg hg'], by rw [Wo.spV, if_neg h', if_neg hg'], ?_⟩
  rw [Wo.spA, if_neg h']
  cases e : fb 0 l with
  | none => exact absurd ((fb_none l 0).1 e) hg'
  | some i => have := fb_lt l 0 i e; simpa using this
theorem sp_fine {l : Tx} (h : l.length ≤ 65536) (hg : good l = true) : Wo.spE l = 0 ∧ Wo.spV l = wds 0 l := by
  have h' : ¬ 65536 < l.length := by omega
  exact ⟨by rw [Wo.spE, if_neg h', if_pos hg], by rw [Wo.spV, if_neg h', if_pos hg]⟩
theorem PlOk.at {s : Tx} {a : Nat} {l : List Wd} {k : Nat} (h : PlOk s a (l.drop k)) (hk : k < l.length) : a ≤ l[k].2 ∧ l[k].1 ≠ [] ∧ l[k].2 + l[k].1.length ≤ s.length ∧ (s.drop l[k].2).take l[k].1.length = l[k].1 ∧ PlOk s (l[k].2 + l[k].1.length) (l.drop (k + 1)) := by
  rw [List.drop_eq_getElem_cons hk] at h
  exact h
theorem mk_cat3 (a b c : ByteArray) : (a ++ b ++ c).data.toList = a.data.toList ++ b.data.toList ++ c.data.toList := by simp
theorem sp_blanks (a b O : ByteArray) (n : Nat) (hO : O = mk (more n)) (ha : a.size ≤ 2000) (hb : b.size ≤ 2000) (hn : n ≤ 50) : Wo.spE (a ++ O ++ b).data.toList = Wo.spE (a ++ ⟨#[32]⟩ ++ b).data.toList ∧ txs (Wo.spV (a ++ O ++ b).data.toList) = txs (Wo.spV (a ++ ⟨#[32]⟩ ++ b).data.toList) := by
  rw [mk_cat3, mk_cat3, hO, mk_list]
  obtain ⟨h1, h2⟩ := blanks a.data.toList b.data.toList n
  have e : a.data.toList ++ (⟨#[32]⟩ : ByteArray).data.toList ++ b.data.toList = a.data.toList ++ 32 :: b.data.toList := by simp
  rw [e]
  have la : a.data.toList.length = a.size := (Lib.size_eq a).symm
  have lb : b.data.toList.length = b.size := (Lib.size_eq b).symm
  have l1 : (a.data.toList ++ more n ++ b.data.toList).length ≤ 65536 := by rw [List.length_append, List.length_append, more_len]; omega
  have l2 : (a.data.toList ++ 32 :: b.data.toList).length ≤ 65536 := by rw [List.length_append, List.length_cons]; omega
  cases hg : good (a.data.toList ++ 32 :: b.data.toList)
  · rw [hg] at h2
    obtain ⟨p1, p2, -⟩ := sp_fault l1 h2
    obtain ⟨q1, q2, -⟩ := sp_fault l2 hg
    rw [p1, p2, q1, q2]; exact ⟨rfl, rfl⟩
  · rw [hg] at h2
    obtain ⟨p1, p2⟩ := sp_fine l1 h2
    obtain ⟨q1, q2⟩ := sp_fine l2 hg
    rw [p1, p2, q1, q2]; exact ⟨rfl, h1⟩
theorem txs_len {a b : List Wd} (h : txs a = txs b) : a.length = b.length := by have := congrArg List.length h; simpa [txs] using this
theorem txs_at {a b : List Wd} (h : txs a = txs b) (k : Nat) (ha : k < a.length) (hb : k < b.length) : a[k].1 = b[k].1 := by
  have h1 : (txs a)[k]? = some a[k].1 := by simp [txs, ha]
  have h2 : (txs b)[k]? = some b[k].1 := by simp [txs, hb]
  rw [h, h2] at h1
  exact (Option.some.inj h1).symm
theorem byte_of {n : Int} (h : (Lit.int .u8 n).wf = true) : ∃ c : Nat, n = (c : Int) ∧ c ≤ 255 := by
  have hb : 0 ≤ n ∧ n ≤ 255 := by simpa [Lit.wf, IntKind.min, IntKind.max, IntKind.signed, IntKind.bits] using h
  exact ⟨n.toNat, by omega, by omega⟩
theorem sp_brackets (a b : ByteArray) (ha : a.size ≤ 2000) (hb : b.size ≤ 2000) : (good a.data.toList = false ∨ good b.data.toList = false → Wo.spE (a ++ ⟨#[40]⟩ ++ b).data.toList = 4) ∧ (good a.data.toList = true → good b.data.toList = true → Wo.spE (a ++ ⟨#[40]⟩ ++ b).data.toList = 0 ∧ Wo.spV (a ++ ⟨#[40]⟩ ++ b).data.toList = wds 0 a.data.toList ++ ([40], a.size) :: wds (a.size + 1) b.data.toList) := by
  have e : a.data.toList ++ (⟨#[40]⟩ : ByteArray).data.toList ++ b.data.toList = a.data.toList ++ 40 :: b.data.toList := by simp
  rw [mk_cat3, e]
  obtain ⟨h1, h2⟩ := brackets a.data.toList b.data.toList
  have la : a.data.toList.length = a.size := (Lib.size_eq a).symm
  have lb : b.data.toList.length = b.size := (Lib.size_eq b).symm
  have l2 : (a.data.toList ++ 40 :: b.data.toList).length ≤ 65536 := by rw [List.length_append, List.length_cons]; omega
  refine ⟨fun h => (sp_fault l2 (by rw [h2]; rcases h with h | h <;> rw [h] <;> simp)).1, fun p q => ?_⟩
  obtain ⟨r1, r2⟩ := sp_fine l2 (by rw [h2, p, q]; rfl)
  exact ⟨r1, by rw [r2, h1, la]⟩
def sumL (l : List Tx) : Nat := (l.map List.length).sum
theorem sumL_take (l : List Tx) (k : Nat) (h : k < l.length) : sumL (l.take (k + 1)) = sumL (l.take k) + l[k].length := by
  have e : l.take (k + 1) = l.take k ++ [l[k]] := by rw [List.take_add_one, List.getElem?_eq_getElem h]; rfl
  unfold sumL
  rw [e, List.map_append, List.sum_append]
  rfl
theorem join_sum (l : List Tx) : (joinC 32 l).length ≤ sumL l + l.length := by
  by_cases h : l = []
  · rw [h]; exact Nat.zero_le _
  · have e := join_len 32 _ h
    have e2 : (l.map fun x => 1 + x.length).sum = l.length + sumL l := by
      unfold sumL
      clear e h
      induction l with
      | nil => rfl
      | cons x r ih => simp only [List.map_cons, List.sum_cons, List.length_cons, ih]; omega
    omega
theorem sp_again (l : Tx) (h : l.length ≤ 5000) : Wo.spE (mk (joinC 32 (txs (wds 0 l)))).data.toList = 0 ∧ txs (Wo.spV (mk (joinC 32 (txs (wds 0 l)))).data.toList) = txs (wds 0 l) := by
  rw [mk_list]
  obtain ⟨h1, h2⟩ := split_joined (txs (wds 0 l)) (fun t ht => by
    obtain ⟨x, hx, rfl⟩ := List.mem_map.1 ht
    exact wds_ok l 0 x hx)
  have hl := joined_len l 0
  obtain ⟨q1, q2⟩ := sp_fine (l := joinC 32 (txs (wds 0 l))) (by omega) h2
  exact ⟨q1, by rw [q2, h1]⟩
theorem txs_take (V : List Wd) (k : Nat) (h : k < V.length) : (txs (V.take (k + 1))).map (fun t => Value.string (mk t)) = (txs (V.take k)).map (fun t => Value.string (mk t)) ++ [.string (mk V[k].1)] := by
  have e : V.take (k + 1) = V.take k ++ [V[k]] := by rw [List.take_add_one, List.getElem?_eq_getElem h]; rfl
  rw [e]
  unfold txs
  rw [List.map_append, List.map_append]
  rfl
end Go.Proofs.YtgloihilnbjmeaaDoor.Wo
end
