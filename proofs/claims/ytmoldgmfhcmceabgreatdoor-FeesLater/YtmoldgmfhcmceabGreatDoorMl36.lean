/-
  Texts put together (merge.py): ZTwo, ZUni, ZLater.
-/
import Derived.Test.YtmoldgmfhcmceabGreatDoorMl9
import Derived.Test.YtmoldgmfhcmceabGreatDoorMl28
import Derived.Test.YtmoldgmfhcmceabGreatDoorMl13
/-
  Two texts of rows, one behind the other: plain.
-/
section
set_option linter.unusedSimpArgs false
set_option linter.unusedVariables false
namespace Go.Proofs.YtmoldgmfhcmceabGreatDoor.Fe
open Wo (Wd wds txs)

theorem rows_more (E E' : Nat) : ∀ (n : Nat) (f : Nat) (acc l : List Fee) (a b : List Wd), a.length ≤ n → txs a = txs b → pRows E f acc a = .ok l → ∃ r, l = acc ++ r ∧ (∀ x ∈ r, oneE x = 0) ∧ ∀ (g : Nat) (acc' : List Fee), (r.length ≤ g → pRows E' g acc' b = .ok (acc' ++ r)) ∧ (g < r.length → ∃ p, pRows E' g acc' b = .error (10, p))
  | n, f, acc, l, [], b, hn, ht, h => by
    obtain rfl : b = [] := Pl.map_nil ht.symm
    have : acc = l := by cases f <;> (simp only [pRows, Except.ok.injEq] at h; exact h)
    subst this
    exact ⟨[], by simp, by simp, fun g acc' => ⟨fun _ => by cases g <;> simp [pRows], fun h => by simp at h⟩⟩
  | n, 0, acc, l, x :: r, b, hn, ht, h => by simp [pRows] at h
  | 0, f + 1, acc, l, x :: r, b, hn, ht, h => by simp at hn
  | n + 1, f + 1, acc, l, x1 :: x2 :: x3 :: x4 :: x5 :: x6 :: r, b, hn, ht, h => by
    obtain ⟨p1, r1, rfl, g1⟩ := Pl.map_cons (show b.map (·.1) = x1.1 :: _ from ht.symm)
    obtain ⟨p2, r2, rfl, g2⟩ := Pl.map_cons g1
    obtain ⟨p3, r3, rfl, g3⟩ := Pl.map_cons g2
    obtain ⟨p4, r4, rfl, g4⟩ := Pl.map_cons g3
    obtain ⟨p5, r5, rfl, g5⟩ := Pl.map_cons g4
    obtain ⟨p6, r6, rfl, g6⟩ := Pl.map_cons g5
    unfold pRows at h
    split at h
    · cases h
    · next y hy =>
      obtain ⟨q, hq, ho, hg⟩ := rows_more E E' n f (acc ++ [y]) l r r6 (by simp at hn; omega) g6.symm h
      have hy' := row_txs hy (a' := (x1.1, p1)) (b' := (x2.1, p2)) (c' := (x3.1, p3)) (d' := (x4.1, p4)) (e' := (x5.1, p5)) (g' := (x6.1, p6)) rfl rfl rfl rfl rfl rfl
      refine ⟨y :: q, by rw [hq]; simp, fun x hx => ?_, fun g acc' => ?_⟩
      · rcases List.mem_cons.1 hx with rfl | hx
        · exact row_one hy
        · exact ho x hx
      · cases g with
        | zero => exact ⟨fun h => by simp at h, fun _ => ⟨p1, by simp [pRows]⟩⟩
        | succ g =>
          have e : pRows E' (g + 1) acc' ((x1.1, p1) :: (x2.1, p2) :: (x3.1, p3) :: (x4.1, p4) :: (x5.1, p5) :: (x6.1, p6) :: r6) = pRows E' g (acc' ++ [y]) r6 := by
            conv => lhs; unfold pRows
            simp only [hy']
          rw [e]
          obtain ⟨k1, k2⟩ := hg g (acc' ++ [y])
          exact ⟨fun h => by rw [k1 (by simp at h; omega)]; simp, fun h => k2 (by simp at h; omega)⟩
  | n + 1, f + 1, acc, l, [x1], b, hn, ht, h => by simp [pRows] at h
  | n + 1, f + 1, acc, l, [x1, x2], b, hn, ht, h => by simp [pRows] at h
  | n + 1, f + 1, acc, l, [x1, x2, x3], b, hn, ht, h => by simp [pRows] at h
  | n + 1, f + 1, acc, l, [x1, x2, x3, x4], b, hn, ht, h => by simp [pRows] at h
  | n + 1, f + 1, acc, l, [x1, x2, x3, x4, x5], b, hn, ht, h => by simp [pRows] at h
/-- What a text that is parsed tells. -/
theorem par_tells {s : Tx} {L : List Fee} (h : paR s = .ok L) : s.length ≤ 65536 ∧ Wo.good s = true ∧ ∃ l, pRows s.length 512 [] (wds 0 s) = .ok l ∧ L = srt l ∧ checkE (srt l) = 0 := by
  unfold paR at h
  split at h
  · next he =>
    unfold Wo.spE at he
    split at he
    · cases he
    · next hl =>
      split at he
      · next hg =>
        obtain ⟨-, q⟩ := Wo.sp_fine (l := s) (by omega) hg
        rw [q] at h
        split at h
        · cases h
        · next l hr =>
          split at h
          · next hc => exact ⟨by omega, hg, l, hr, (Except.ok.inj h).symm, hc⟩
          · cases h
      · cases he
  · cases h
/-- Two texts that are parsed, one behind the other. -/
theorem par_both {s t : Tx} {l r : List Fee} (hs : Wo.good s = true) (ht : Wo.good t = true) (hl : s.length + t.length ≤ 65000) (h1 : pRows s.length 512 [] (wds 0 s) = .ok l) (h2 : pRows t.length 512 [] (wds 0 t) = .ok r) :
    (l.length + r.length ≤ 512 → paR (s ++ 32 :: t) = if checkE (srt (l ++ r)) = 0 then .ok (srt (l ++ r)) else .error (checkE (srt (l ++ r)), 0)) ∧ (512 < l.length + r.length → ∃ p, paR (s ++ 32 :: t) = .error (10, p)) := by
  have hgd : Wo.good (s ++ 32 :: t) = true := by
    have e : 32 :: t = [32] ++ t := rfl
    rw [e, Wo.good_app, Wo.good_app, hs, ht]; rfl
  have hln : (s ++ 32 :: t).length = s.length + t.length + 1 := by simp; omega
  obtain ⟨q1, q2⟩ := Wo.sp_fine (l := s ++ 32 :: t) (by omega) hgd
  have hw : wds 0 (s ++ 32 :: t) = wds 0 s ++ wds (0 + s.length + 1) t := by
    rw [Wo.wds_app _ _ _ (Or.inr (Wo.headI_blank (by decide))), Wo.wds_blank _ _ _ (by decide)]
  obtain ⟨e0, e2, -, -⟩ := rows_two s.length (s ++ 32 :: t).length _ 512 [] l (wds 0 s) (wds 0 s) (wds (0 + s.length + 1) t) (Nat.le_refl _) rfl h1
  obtain ⟨k, hk, -, hg⟩ := rows_more t.length (s ++ 32 :: t).length _ 512 [] r (wds 0 t) (wds (0 + s.length + 1) t) (Nat.le_refl _) (Wo.txs_pos _ _ _) h2
  rw [List.nil_append] at hk
  subst hk
  obtain ⟨g1, g2⟩ := hg (512 - (l.length - ([] : List Fee).length)) l
  simp only [List.length_nil, Nat.sub_zero, Nat.add_zero, Nat.zero_add] at e0
  simp only [List.length_nil, Nat.sub_zero] at g1 g2 e2
  refine ⟨fun h => ?_, fun h => ?_⟩
  · unfold paR
    rw [if_pos q1, q2, hw, e2, g1 (by omega)]
  · by_cases h5 : 512 - l.length < r.length
    · obtain ⟨p, hp⟩ := g2 h5
      exact ⟨p, by unfold paR; rw [if_pos q1, q2, hw, e2, hp]⟩
    · omega
theorem rows_oks {s : Tx} {l : List Fee} (h : pRows s.length 512 [] (wds 0 s) = .ok l) : ∀ x ∈ l, oneE x = 0 := by
  obtain ⟨r, hr, ho, -⟩ := rows_more s.length 0 _ 512 [] l (wds 0 s) (wds 0 s) (Nat.le_refl _) rfl h
  rw [List.nil_append] at hr
  subst hr
  exact ho
/-- Both ways round. -/
theorem order_two {s t : Tx} {L R : List Fee} (hl : s.length + t.length ≤ 65000) (h1 : paR s = .ok L) (h2 : paR t = .ok R) :
    (∃ p q, paR (s ++ 32 :: t) = .error (10, p) ∧ paR (t ++ 32 :: s) = .error (10, q)) ∨ (∃ l, paR (s ++ 32 :: t) = .ok l ∧ paR (t ++ 32 :: s) = .ok l ∧ l.length ≤ 512) ∨ (paR (s ++ 32 :: t) = .error (12, 0) ∧ paR (t ++ 32 :: s) = .error (12, 0)) := by
  obtain ⟨-, a2, l, a3, -, -⟩ := par_tells h1
  obtain ⟨-, b2, r, b3, -, -⟩ := par_tells h2
  obtain ⟨c1, c2⟩ := par_both a2 b2 hl a3 b3
  obtain ⟨d1, d2⟩ := par_both b2 a2 (by omega) b3 a3
  by_cases h : l.length + r.length ≤ 512
  · have ho : ∀ f ∈ l ++ r, oneE f = 0 := fun f hf => (List.mem_append.1 hf).elim (rows_oks a3 f) (rows_oks b3 f)
    obtain ⟨e1, e2⟩ := srt_two l r ho
    have hp := srt_perm (l ++ r)
    have hlen : (srt (l ++ r)).length ≤ 512 := by rw [hp.length_eq, List.length_append]; exact h
    rw [c1 h, d1 (by omega), ← e1]
    by_cases hc : checkE (srt (l ++ r)) = 0
    · rw [if_pos hc, if_pos hc, ← e2 hc]
      exact Or.inr (Or.inl ⟨_, rfl, rfl, hlen⟩)
    · rw [if_neg hc, if_neg hc]
      have : checkE (srt (l ++ r)) = 12 := by
        have hf : firstE (srt (l ++ r)) = 0 := (first_all _).2 fun f hf => ho f (hp.mem_iff.1 hf)
        unfold checkE at hc ⊢
        rw [if_neg (by omega), if_pos hf] at hc ⊢
        exact (nb_wk _ (srt_wk _)).resolve_left hc
      rw [this]
      exact Or.inr (Or.inr ⟨rfl, rfl⟩)
  · obtain ⟨p, hp⟩ := c2 (by omega)
    obtain ⟨q, hq⟩ := d2 (by omega)
    exact Or.inl ⟨p, q, hp, hq⟩
theorem row_not {a b c d e g : Wd} {x : Int × Nat} (h : pRow a b c d e g = .error x) : x.1 ≠ 0 := by
  unfold pRow at h
  split at h
  · split at h
    · split at h
      · split at h
        · split at h
          · split at h
            · cases h
            · next hm => obtain rfl := Except.error.inj h; exact hm
          · obtain rfl := Except.error.inj h; simp
        · obtain rfl := Except.error.inj h; simp
      · obtain rfl := Except.error.inj h; simp
    · obtain rfl := Except.error.inj h; simp
  · obtain rfl := Except.error.inj h; simp
theorem rows_not (E : Nat) : ∀ (n f : Nat) (acc : List Fee) (a : List Wd) (x : Int × Nat), a.length ≤ n → pRows E f acc a = .error x → x.1 ≠ 0
  | n, f, acc, [], x, hn, h => by cases f <;> simp [pRows] at h
  | n, 0, acc, y :: r, x, hn, h => by simp only [pRows] at h; obtain rfl := Except.error.inj h; simp
  | 0, f + 1, acc, y :: r, x, hn, h => by simp at hn
  | n + 1, f + 1, acc, x1 :: x2 :: x3 :: x4 :: x5 :: x6 :: r, x, hn, h => by
    unfold pRows at h
    split at h
    · next hr => obtain rfl := Except.error.inj h; exact row_not hr
    · exact rows_not E n f _ r x (by simp at hn; omega) h
  | n + 1, f + 1, acc, [x1], x, hn, h => by simp only [pRows] at h; obtain rfl := Except.error.inj h; simp
  | n + 1, f + 1, acc, [x1, x2], x, hn, h => by simp only [pRows] at h; obtain rfl := Except.error.inj h; simp
  | n + 1, f + 1, acc, [x1, x2, x3], x, hn, h => by simp only [pRows] at h; obtain rfl := Except.error.inj h; simp
  | n + 1, f + 1, acc, [x1, x2, x3, x4], x, hn, h => by simp only [pRows] at h; obtain rfl := Except.error.inj h; simp
  | n + 1, f + 1, acc, [x1, x2, x3, x4, x5], x, hn, h => by simp only [pRows] at h; obtain rfl := Except.error.inj h; simp
theorem par_not {s : Tx} {x : Int × Nat} (h : paR s = .error x) : x.1 ≠ 0 := by
  unfold paR at h
  split at h
  · split at h
    · next hr => obtain rfl := Except.error.inj h; exact rows_not _ _ _ _ _ _ (Nat.le_refl _) hr
    · split at h
      · cases h
      · next hc => obtain rfl := Except.error.inj h; exact hc
  · next hs => obtain rfl := Except.error.inj h; exact hs
end Go.Proofs.YtmoldgmfhcmceabGreatDoor.Fe
end

/-
  What Parse answers, all in one.
-/
section
set_option linter.unusedSimpArgs false
set_option linter.unusedVariables false
namespace Go.Proofs.YtmoldgmfhcmceabGreatDoor.Fe
open Go.RowKit

theorem parse_uni (s : ByteArray) (w : World) (hs : s.size ≤ maxLen) (hT : Da.Tab w) :
    Calls Tryz.prog 8 #[.string s] w fun e w' => (∃ (a : Option Addr) (n c : Nat) (E A : Int), e = .returned (.tuple #[.slice a n c, .agg #[.int .i64 E, .int .i64 A]]) ∧ (E = 0 → ∃ l, paR s.data.toList = .ok l)) ∧ Below w.heap.size w w' := by
  refine (parse_any s w hs hT).mono ?_
  rintro e w' ⟨h1, h2⟩
  refine ⟨?_, h2⟩
  cases hp : paR s.data.toList with
  | ok l =>
    rw [hp] at h1
    obtain ⟨v, rfl, h3⟩ := h1
    obtain ⟨a, c, rfl, -, -⟩ := h3.form
    exact ⟨a, _, c, 0, 0, rfl, fun _ => ⟨l, rfl⟩⟩
  | error x =>
    rw [hp] at h1
    exact ⟨none, 0, 0, x.1, (x.2 : Nat), h1, fun h => absurd h (par_not hp)⟩
theorem parse_same (s : ByteArray) (w : World) (hs : s.size ≤ maxLen) (hT : Da.Tab w) (l : List Fee) (E : Int) (h : (paR s.data.toList = .ok l ∧ E = 0) ∨ (paR s.data.toList = .error (E, 0) ∧ l = [])) :
    Calls Tryz.prog 8 #[.string s] w fun e w' => (∃ (a : Option Addr) (c : Nat), e = .returned (.tuple #[.slice a l.length c, .agg #[.int .i64 E, .int .i64 0]]) ∧ FesAt All w' (.slice a l.length c) l) ∧ Below w.heap.size w w' := by
  refine (parse_any s w hs hT).mono ?_
  rintro e w' ⟨h1, h2⟩
  refine ⟨?_, h2⟩
  rcases h with ⟨hp, rfl⟩ | ⟨hp, rfl⟩
  · rw [hp] at h1
    obtain ⟨v, rfl, h3⟩ := h1
    obtain ⟨a, c, rfl, -, -⟩ := h3.form
    exact ⟨a, c, rfl, h3⟩
  · rw [hp] at h1
    exact ⟨none, 0, h1, FesAt.nil _ _⟩
theorem parse_lim (s : ByteArray) (w : World) (hs : s.size ≤ maxLen) (hT : Da.Tab w) (E : Int) (A : Nat) (h : paR s.data.toList = .error (E, A)) :
    Calls Tryz.prog 8 #[.string s] w fun e w' => e = .returned (.tuple #[.slice none 0 0, .agg #[.int .i64 E, .int .i64 (A : Nat)]]) ∧ Below w.heap.size w w' := by
  refine (parse_any s w hs hT).mono ?_
  rintro e w' ⟨h1, h2⟩
  rw [h] at h1
  exact ⟨h1, h2⟩
end Go.Proofs.YtmoldgmfhcmceabGreatDoor.Fe
end

/-
  A row more, from a later day on: plain, and what Parse answers.
-/
section
set_option linter.unusedSimpArgs false
set_option linter.unusedVariables false
namespace Go.Proofs.YtmoldgmfhcmceabGreatDoor.Fe
open Go.RowKit
open Wo (Wd wds txs)

theorem rows_text {l : List Fee} (h : checkE l = 0) : Wo.good (prT l) = true ∧ pRows (prT l).length 512 [] (wds 0 (prT l)) = .ok l ∧ (prT l).length ≤ 25600 := by
  obtain ⟨h1, h2, h3⟩ := check_facts h
  obtain ⟨s1, s2⟩ := Wo.split_joined (tabW l) (tab_w h2)
  have hz := tab_size l h2
  have hj := Pl.join_size (tabW l)
  refine ⟨s2, ?_, by unfold prT; omega⟩
  rw [rows_back _ l 512 [] (wds 0 (prT l)) h1 h2 s1]
  rfl
theorem prV_size (l : List Fee) : (prV l).length ≤ 25600 := by
  unfold prV
  split
  · next h => exact (rows_text h).2.2
  · simp
theorem par_later {l m : List Fee} {f : Fee} (h : checkE l = 0) (hf : checkE [f] = 0) (hp : paR (prV l ++ 32 :: prV [f]) = .ok m) : m = srt (l ++ [f]) ∧ m.length ≤ 512 ∧ Up m ∧ Apart (l ++ [f]) := by
  have e1 : prV l = prT l := by unfold prV; rw [if_pos h]
  have e2 : prV [f] = prT [f] := by unfold prV; rw [if_pos hf]
  rw [e1, e2] at hp
  obtain ⟨a1, a2, a3⟩ := rows_text h
  obtain ⟨b1, b2, b3⟩ := rows_text hf
  obtain ⟨c1, c2⟩ := par_both a1 b1 (by omega) a2 b2
  by_cases hl : l.length + [f].length ≤ 512
  · rw [c1 hl] at hp
    split at hp
    · next hc =>
      obtain rfl := Except.ok.inj hp
      obtain ⟨k1, -, k3⟩ := check_facts hc
      exact ⟨rfl, k1, k3, apart_perm (srt_perm _) ((wk_up (srt_wk _)).1 k3)⟩
    · cases hp
  · obtain ⟨p, hp'⟩ := c2 (by omega)
    rw [hp'] at hp
    cases hp
theorem later_ahead {l m : List Fee} {f : Fee} (d : Int) (hm : m = srt (l ++ [f])) (ha : Apart (l ++ [f])) (hd : d < f.frm) : lookV ⟨f.proc, f.mod, f.net, d⟩ m = lookV ⟨f.proc, f.mod, f.net, d⟩ l ∧ lookB ⟨f.proc, f.mod, f.net, d⟩ m = lookB ⟨f.proc, f.mod, f.net, d⟩ l := by
  have := look_ahead ⟨f.proc, f.mod, f.net, d⟩ l f ha (by
    cases hh : hit ⟨f.proc, f.mod, f.net, d⟩ f with
    | false => rfl
    | true => have := (hit_iff.1 hh).2.2.2; simp only at this; omega)
  unfold lookV lookB
  rw [hm, this]
  exact ⟨rfl, rfl⟩
theorem later_there {l m : List Fee} {f : Fee} (d : Int) (hm : m = srt (l ++ [f])) (ha : Apart (l ++ [f])) (hd : ¬ d < f.frm) : lookB ⟨f.proc, f.mod, f.net, d⟩ m = true ∧ lookV ⟨f.proc, f.mod, f.net, f.frm⟩ m = f.cents ∧ lookB ⟨f.proc, f.mod, f.net, f.frm⟩ m = true := by
  have h1 := look_there ⟨f.proc, f.mod, f.net, d⟩ l f (hit_iff.2 ⟨rfl, rfl, rfl, by show f.frm ≤ d; omega⟩)
  have h2 := look_own l f ha
  rw [hm]
  refine ⟨h1, ?_, ?_⟩
  · unfold lookV; rw [h2]; rfl
  · unfold lookB; rw [h2]; rfl
theorem fes_one {W : World} {g : Nat} {x : Fee} {T : TypeId} (h : W.heap[g]? = some (.cells #[.string (mk x.proc), .string (mk x.mod), .int .i64 x.net, .int .i64 x.frm, .int .i64 x.cents] T (0, 0))) : FesAt All W (.slice (some ⟨g, 0, none⟩) 1 1) [x] :=
  ⟨some ⟨g, 0, none⟩, 1, rfl, by simp, by simp [maxLen], Or.inr ⟨g, 0, rfl, trivial, (Array.getElem?_eq_some_iff.1 h).1, fun j y hj => by
    match j, hj with
    | 0, hj => obtain rfl := Option.some.inj hj; exact cells5 h
    | n + 1, hj => simp at hj⟩⟩
theorem parse_ex (s : ByteArray) (w : World) (hs : s.size ≤ maxLen) (hT : Da.Tab w) :
    Calls Tryz.prog 8 #[.string s] w fun e w' => (∃ (a : Option Addr) (n c : Nat) (E A : Int), e = .returned (.tuple #[.slice a n c, .agg #[.int .i64 E, .int .i64 A]]) ∧ (E = 0 → ∃ m, n = m.length ∧ paR s.data.toList = .ok m ∧ FesAt All w' (.slice a m.length c) m)) ∧ Below w.heap.size w w' := by
  refine (parse_any s w hs hT).mono ?_
  rintro e w' ⟨h1, h2⟩
  refine ⟨?_, h2⟩
  cases hp : paR s.data.toList with
  | ok l =>
    rw [hp] at h1
    obtain ⟨v, rfl, h3⟩ := h1
    obtain ⟨a, c, rfl, -, -⟩ := h3.form
    exact ⟨a, _, c, 0, 0, rfl, fun _ => ⟨l, rfl, rfl, h3⟩⟩
  | error x =>
    rw [hp] at h1
    exact ⟨none, 0, 0, x.1, (x.2 : Nat), h1, fun h => absurd h (par_not hp)⟩
end Go.Proofs.YtmoldgmfhcmceabGreatDoor.Fe
end
