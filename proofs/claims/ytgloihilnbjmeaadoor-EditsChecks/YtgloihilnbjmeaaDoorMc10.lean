/-
  Texts put together (merge.py): PBack.
-/
import Derived.Test.YtgloihilnbjmeaaDoorMc8
import Derived.Test.YtgloihilnbjmeaaDoorMc9
/-
  A plan's words are parsed as that plan, over plain lists.
-/
section
set_option linter.unusedSimpArgs false
namespace Go.Proofs.YtgloihilnbjmeaaDoor.Pl
open Wo (Wd wOk kd allI inn)

theorem set_back (E : Nat) (s : St) (a rest : List Wd) (h : setB s = true) (ha : a.map (·.1) = setW s) : pSet E (a ++ rest) = .ok (s, rest) := by
  obtain ⟨w, n⟩ := s
  simp only [setB, Bool.and_eq_true, decide_eq_true_eq] at h
  obtain ⟨h0, h⟩ := h
  unfold setW at ha
  simp only at ha h0 h
  have ht : ∀ n : Int, 0 ≤ n → n ≤ 1 → ∀ p (r : List Wd), pTruth E ((yesW n, p) :: r) = .ok (n, r) := fun n a b p r => by
    obtain rfl | rfl : n = 0 ∨ n = 1 := by omega
    · rfl
    · rfl
  by_cases h1 : w = 1
  · subst h1
    obtain ⟨p, r1, rfl, g1⟩ := map_cons (ha.trans (if_pos rfl))
    obtain ⟨p1, r2, rfl, g2⟩ := map_cons g1
    obtain rfl := map_nil g2
    have hn : n ≤ 1 := by simpa using h
    show (match pTruth E ((yesW n, p1) :: rest) with | .error e => (.error e : R St) | .ok (n, r) => .ok (⟨1, n⟩, r)) = _
    simp only [ht n h0 hn]
  by_cases h2 : w = 2
  · subst h2
    obtain ⟨p, r1, rfl, g1⟩ := map_cons (ha.trans (show _ = [tDed, yesW n] from rfl))
    obtain ⟨p1, r2, rfl, g2⟩ := map_cons g1
    obtain rfl := map_nil g2
    have hn : n ≤ 1 := by simpa using h
    show (match pTruth E ((yesW n, p1) :: rest) with | .error e => (.error e : R St) | .ok (n, r) => .ok (⟨2, n⟩, r)) = _
    simp only [ht n h0 hn]
  by_cases h3 : w = 3
  · subst h3
    obtain ⟨p, r1, rfl, g1⟩ := map_cons (ha.trans (show _ = [tCopay, Nu.moneyL n] from rfl))
    obtain ⟨p1, r2, rfl, g2⟩ := map_cons g1
    obtain rfl := map_nil g2
    have hn : goodB n = true := by simpa using h
    show (match pMoney E ((Nu.moneyL n, p1) :: rest) with | .error e => (.error e : R St) | .ok (n, r) => .ok (⟨3, n⟩, r)) = _
    simp only [money_ok E hn]
  by_cases h4 : w = 4
  · subst h4
    obtain ⟨p, r1, rfl, g1⟩ := map_cons (ha.trans (show _ = [tCoins, Lib.itoa n] from rfl))
    obtain ⟨p1, r2, rfl, g2⟩ := map_cons g1
    obtain rfl := map_nil g2
    have hn : n ≤ 10000 := by simpa using h
    show (match pNum E 10000 ((Lib.itoa n, p1) :: rest) with | .error e => (.error e : R St) | .ok (n, r) => .ok (⟨4, n⟩, r)) = _
    simp only [num_ok E h0 hn (show n ≤ 99999 by omega)]
  · simp [h1, h2, h3, h4] at h
theorem setW_head (s : St) : ∃ t r, setW s = t :: r ∧ t ≠ tEnd := by
  unfold setW
  split
  · exact ⟨_, _, rfl, by decide⟩
  split
  · exact ⟨_, _, rfl, by decide⟩
  split
  · exact ⟨_, _, rfl, by decide⟩
  · exact ⟨_, _, rfl, by decide⟩
theorem sets_back (E : Nat) : ∀ (l : List St) (f : Nat) (acc : List St) (a rest : List Wd), l ≠ [] → l.length ≤ f → setsB (acc.map (·.what)) l = true → a.map (·.1) = setsW l ++ [tEnd] → pSets E f acc (a ++ rest) = .ok (acc ++ l, rest)
  | [], _, _, _, _, h, _, _, _ => absurd rfl h
  | s :: r, 0, _, _, _, _, h, _, _ => by simp at h
  | s :: r, f + 1, acc, a, rest, _, hf, h, ha => by
    simp only [setsB, Bool.and_eq_true, decide_eq_true_eq] at h
    obtain ⟨h1, h2, h3⟩ := h
    have e : setsW (s :: r) ++ [tEnd] = setW s ++ (setsW r ++ [tEnd]) := by simp [setsW]
    rw [e] at ha
    obtain ⟨a1, a2, rfl, g1, g2⟩ := map_app ha
    have hs := set_back E s a1 (a2 ++ rest) h1 g1
    unfold pSets
    rw [List.append_assoc, hs]
    show (if s.what ∈ acc.map (·.what) then (.error (12, pos E (a1 ++ (a2 ++ rest))) : R (List St)) else match a2 ++ rest with
        | (x, _) :: q => if x = tEnd then .ok (acc ++ [s], q) else pSets E f (acc ++ [s]) (a2 ++ rest)
        | [] => .error (4, E)) = _
    rw [if_neg h2]
    cases r with
    | nil =>
      obtain ⟨p, r2, rfl, g3⟩ := map_cons (g2.trans (show _ = [tEnd] from rfl))
      obtain rfl := map_nil g3
      show (if tEnd = tEnd then _ else _) = _
      rw [if_pos rfl]; rfl
    | cons u q =>
      obtain ⟨t, ws, hu, hne⟩ := setW_head u
      have e2 : setsW (u :: q) ++ [tEnd] = t :: (ws ++ (setsW q ++ [tEnd])) := by simp [setsW, hu]
      obtain ⟨p, r2, rfl, g3⟩ := map_cons (g2.trans e2)
      have ih := sets_back E (u :: q) f (acc ++ [s]) ((t, p) :: r2) rest (by simp) (by simp at hf ⊢; omega) (by rw [List.map_append]; exact h3) g2
      show (if t = tEnd then _ else pSets E f (acc ++ [s]) (((t, p) :: r2) ++ rest)) = _
      rw [if_neg hne, ih, List.append_assoc]; rfl
theorem rule_back (E : Nat) (r : Ru) (a rest : List Wd) (h : ruleB r = true) (ha : a.map (·.1) = ruleW r) : pRule E (a ++ rest) = .ok (r, rest) := by
  obtain ⟨k, c, u, ss⟩ := r
  simp only [ruleB, Bool.and_eq_true, decide_eq_true_eq, List.all_eq_true] at h
  obtain ⟨⟨h0, h1⟩, h2, h3, h4, h5, h6⟩ := h
  unfold ruleW at ha
  simp only at ha
  obtain ⟨p, r1, rfl, g1⟩ := map_cons ha
  obtain ⟨p1, r2, rfl, g2⟩ := map_cons g1
  obtain ⟨p2, r3, rfl, g3⟩ := map_cons g2
  obtain ⟨a1, r4, rfl, g4, g5⟩ := map_app g3
  obtain ⟨a2, r5, rfl, g6, g7⟩ := map_app g5
  obtain ⟨p3, r6, rfl, g8⟩ := map_cons g7
  have hc := cond_back E 16 c a1 (a2 ++ ((tSet, p3) :: (r6 ++ rest))) h2 g4
  have hu : pUnl E (a2 ++ ((tSet, p3) :: (r6 ++ rest))) = .ok (u, (tSet, p3) :: (r6 ++ rest)) := by
    unfold unlW at g6
    by_cases hl : u.length = 1
    · rw [if_pos hl] at g6
      obtain ⟨d, rfl⟩ := list1 hl
      obtain ⟨p4, r7, rfl, g9⟩ := map_cons g6
      have hd := cond_back E 16 d r7 ((tSet, p3) :: (r6 ++ rest)) (h4 d (by simp)) g9
      unfold pUnl
      simp only [List.cons_append, if_true, hd]
    · rw [if_neg hl] at g6
      obtain rfl := map_nil g6
      obtain rfl : u = [] := list0 (by omega)
      rfl
  have hs := sets_back E ss ((r6 ++ rest).length + 1) [] r6 rest (by intro e; rw [e] at h5; simp at h5) (by
    have : (setsW ss ++ [tEnd]).length = r6.length := by rw [← g8, List.length_map]
    have hge : ∀ l : List St, l.length ≤ (setsW l).length := fun l => by
      induction l with
      | nil => simp [setsW]
      | cons x q ih =>
        obtain ⟨t, ws, hx, -⟩ := setW_head x
        have : (setsW (x :: q)).length = (setW x).length + (setsW q).length := by simp [setsW]
        rw [this, hx]; simp; omega
    have := hge ss
    simp at *; omega) h6 g8
  have hn := num_ok E h0 h1 (show k ≤ 99999 by omega) p1 ((tIf, p2) :: (a1 ++ (a2 ++ ((tSet, p3) :: (r6 ++ rest)))))
  have e1 : ((tRule, p) :: (Lib.itoa k, p1) :: (tIf, p2) :: (a1 ++ (a2 ++ (tSet, p3) :: r6))) ++ rest = (tRule, p) :: (Lib.itoa k, p1) :: (tIf, p2) :: (a1 ++ (a2 ++ ((tSet, p3) :: (r6 ++ rest)))) := by simp
  rw [e1]
  unfold pRule
  simp only [take_ok, hn, hc, hu, hs, List.nil_append]
theorem rules_back (E : Nat) : ∀ (l : List Ru) (f : Nat) (acc : List Ru) (a : List Wd), l.length ≤ f → (∀ r ∈ l, ruleB r = true) → a.map (·.1) = l.flatMap ruleW → pRules E f acc a = .ok (acc ++ l)
  | [], f, acc, a, _, _, ha => by
    obtain rfl := map_nil (ha.trans (show _ = [] from rfl))
    cases f <;> simp [pRules]
  | r :: q, 0, acc, a, hf, _, _ => by simp at hf
  | r :: q, f + 1, acc, a, hf, h, ha => by
    have e : (r :: q).flatMap ruleW = ruleW r ++ q.flatMap ruleW := by simp
    rw [e] at ha
    obtain ⟨a1, a2, rfl, g1, g2⟩ := map_app ha
    have hr := rule_back E r a1 a2 (h r (by simp)) g1
    have ih := rules_back E q f (acc ++ [r]) a2 (by simp at hf; omega) (fun x hx => h x (List.mem_cons_of_mem _ hx)) g2
    have hne : (a1 ++ a2).isEmpty = false := by
      cases a1 with
      | nil => simp [ruleW] at g1
      | cons x y => rfl
    unfold pRules
    rw [hne]
    simp only [hr, ih, Bool.false_eq_true, if_false, List.append_assoc, List.singleton_append]
theorem lim_good {p : Pn} (h : limB p = true) : goodB p.indDed = true ∧ goodB p.indOop = true ∧ goodB p.famDed = true ∧ goodB p.famOop = true := by
  simp only [limB, goodB, Bool.and_eq_true, decide_eq_true_eq] at *
  omega
theorem plan_back (E : Nat) (p : Pn) (a : List Wd) (h : planB p = true) (ha : a.map (·.1) = planW p) : pPlan E a = .ok p := by
  have hp := h
  simp only [planB, Bool.and_eq_true, Bool.or_eq_true, decide_eq_true_eq, List.all_eq_true] at h
  obtain ⟨hm, h64, hl, hr⟩ := h
  obtain ⟨l1, l2, l3, l4⟩ := lim_good hl
  obtain ⟨m, a1, a2, a3, a4, rs⟩ := p
  simp only at *
  unfold planW headW at ha
  simp only at ha
  obtain ⟨b, c, rfl, g0, gr⟩ := map_app ha
  obtain ⟨p1, b1, rfl, g1⟩ := map_cons g0
  obtain ⟨p2, b2, rfl, g2⟩ := map_cons g1
  obtain ⟨p3, b3, rfl, g3⟩ := map_cons g2
  obtain ⟨p4, b4, rfl, g4⟩ := map_cons g3
  obtain ⟨p5, b5, rfl, g5⟩ := map_cons g4
  obtain ⟨p6, b6, rfl, g6⟩ := map_cons g5
  obtain ⟨p7, b7, rfl, g7⟩ := map_cons g6
  obtain ⟨p8, b8, rfl, g8⟩ := map_cons g7
  obtain rfl := map_nil g8
  have hR := rules_back E rs 64 [] c h64 hr gr
  have hM : ∀ r : List Wd, pMode E (((if m = 1 then tAgg else tEmb), p2) :: r) = .ok (m, r) := fun r => by
    rcases hm with rfl | rfl
    · rfl
    · rfl
  have hH : pHead E ([(tPlan, p1), ((if m = 1 then tAgg else tEmb), p2), (tMem, p3), (Nu.moneyL a1, p4), (Nu.moneyL a3, p5), (tFam, p6), (Nu.moneyL a2, p7), (Nu.moneyL a4, p8)] ++ c) = .ok (⟨m, a1, a2, a3, a4, []⟩, c) := by
    unfold pHead
    simp only [List.cons_append, List.nil_append, take_ok, hM, money_ok E l1, money_ok E l2, money_ok E l3, money_ok E l4]
  unfold pPlan
  rw [hH]
  simp only [hR, List.nil_append]
  rw [if_pos hp]
end Go.Proofs.YtgloihilnbjmeaaDoor.Pl
end
