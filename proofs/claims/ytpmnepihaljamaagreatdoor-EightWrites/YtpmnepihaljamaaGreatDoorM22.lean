/-
  Texts put together (merge.py): EBack.
-/
import Derived.Test.YtpmnepihaljamaaGreatDoorM20
/-
  What is written is read as what it was: over plain lists.
-/
section
namespace Go.Proofs.YtpmnepihaljamaaGreatDoor.Et
open Cm

theorem lx_ne : tLX ≠ tAMT := by decide
theorem am_cons (g : Sg) (r : List Sg) (h : tx (g :: r) 0 ≠ tAMT) : amB (g :: r) = false := by
  unfold amB txB behB
  rw [decide_eq_false h]
  simp
theorem am_nil : amB [] = false := rfl
theorem lx_nil : isLX [] = false := rfl
theorem sv_back (x : Ln) (rest : List Sg) (h : lineE x = 0) (hr : amB rest = false) :
    svE ((lnS 0 x).tail ++ rest) = 0 ∧ svX ((lnS 0 x).tail ++ rest) = x ∧ svN ((lnS 0 x).tail ++ rest) = rest := by
  obtain ⟨f1, f2, f3, f4, f5, f6, f7, f8, f9, f10, f11⟩ := line_facts h
  obtain ⟨m1, m2, -⟩ := mn_moneyL x.billed f8 f9
  obtain ⟨p1, p2, -⟩ := mn_moneyL x.prior f10 f11
  obtain ⟨u1, u2, -, -⟩ := ri_itoa x.units 4 (by omega) (by omega) (by omega) (by omega)
  obtain ⟨d1, d2, -, -⟩ := ri_itoa x.date 8 (by omega) (by omega) (by omega) (by omega)
  generalize hq : (if 0 < x.prior then [[[tAMT], [tD], [Nu.moneyL x.prior]]] else ([] : List Sg)) ++ rest = q
  have hl : (lnS 0 x).tail ++ rest = [[tSV], tHC :: x.proc :: x.mods, [Nu.moneyL x.billed], [Lib.itoa x.units]] :: [[tDTP], [t472], [Lib.itoa x.date]] :: q := by rw [← hq]; rfl
  rw [hl]
  have e1 : dnE ([[tSV], tHC :: x.proc :: x.mods, [Nu.moneyL x.billed], [Lib.itoa x.units]] :: [[tDTP], [t472], [Lib.itoa x.date]] :: q) = 0 := by
    unfold dnE
    rw [if_pos (by simp [dnOk, behB, tx, el])]
    show (if Nu.mnE (Nu.moneyL x.billed) = 0 then Nu.riE (Lib.itoa x.units) 4 else _) = 0
    rw [if_pos m1]; exact u1
  have e2 : dyE ([[tDTP], [t472], [Lib.itoa x.date]] :: q) = 0 := by
    unfold dyE
    rw [if_pos (by simp [dyOk, txB, behB, tx, el, oneB])]
    show (if Nu.riE (Lib.itoa x.date) 8 = 0 then _ else _) = (0 : Int)
    exact if_pos d1
  have e3 : dyV ([[tDTP], [t472], [Lib.itoa x.date]] :: q) = x.date := by
    unfold dyV
    rw [if_pos e2]
    exact d2
  by_cases hp : 0 < x.prior
  · rw [if_pos hp] at hq
    have a1 : amB q = true := by rw [← hq]; simp [amB, txB, behB, tx, el, oneB]
    have a2 : amOk q = true := by
      rw [← hq]
      simp only [amOk, Bool.and_eq_true, decide_eq_true_eq]
      refine ⟨rfl, p1, ?_⟩
      show Nu.mnV (Nu.moneyL x.prior) ≠ 0
      rw [p2]; omega
    refine ⟨?_, ?_, ?_⟩
    · unfold svE
      rw [if_pos e1]
      show (if dyE ([[tDTP], [t472], [Lib.itoa x.date]] :: q) = 0 then (if amB q = true then (if amOk q = true then 0 else 8) else 0) else _) = (0 : Int)
      rw [if_pos e2, if_pos a1, if_pos a2]
    · unfold svX
      show (⟨x.proc, x.mods, dyV ([[tDTP], [t472], [Lib.itoa x.date]] :: q), Nu.riV (Lib.itoa x.units) 4, Nu.mnV (Nu.moneyL x.billed), if amB q = true then Nu.mnV (tx q 2) else 0⟩ : Ln) = x
      rw [if_pos a1, e3, m2]
      have : Nu.riV (Lib.itoa x.units) 4 = x.units := u2
      rw [this, ← hq]
      show (⟨x.proc, x.mods, x.date, x.units, x.billed, Nu.mnV (Nu.moneyL x.prior)⟩ : Ln) = x
      rw [p2]
    · unfold svN
      show (if amB q = true then q.tail else q) = rest
      rw [if_pos a1, ← hq]; rfl
  · rw [if_neg hp, List.nil_append] at hq
    subst hq
    refine ⟨?_, ?_, ?_⟩
    · unfold svE
      rw [if_pos e1]
      show (if dyE ([[tDTP], [t472], [Lib.itoa x.date]] :: rest) = 0 then (if amB rest = true then (if amOk rest = true then 0 else 8) else 0) else _) = (0 : Int)
      rw [if_pos e2, hr]; rfl
    · unfold svX
      show (⟨x.proc, x.mods, dyV ([[tDTP], [t472], [Lib.itoa x.date]] :: rest), Nu.riV (Lib.itoa x.units) 4, Nu.mnV (Nu.moneyL x.billed), if amB rest = true then Nu.mnV (tx rest 2) else 0⟩ : Ln) = x
      rw [hr, e3, m2]
      have : Nu.riV (Lib.itoa x.units) 4 = x.units := u2
      rw [this]
      show (⟨x.proc, x.mods, x.date, x.units, x.billed, 0⟩ : Ln) = x
      have : x.prior = 0 := by omega
      rw [← this]
    · unfold svN
      show (if amB rest = true then rest.tail else rest) = rest
      rw [hr]; rfl
theorem lns_am (k : Nat) (ls : List Ln) (rest : List Sg) (hr : amB rest = false) : amB (lnsS k ls ++ rest) = false := by
  cases ls with
  | nil => exact hr
  | cons x r => exact am_cons _ _ lx_ne
theorem svs_back : ∀ (ls acc : List Ln) (rest : List Sg) (f : Nat), (∀ x ∈ ls, lineE x = 0) → isLX rest = false → amB rest = false → ls.length ≤ f → svsA f acc (lnsS acc.length ls ++ rest) = (0, acc ++ ls, rest)
  | [], acc, rest, f, _, hl, _, _ => by
    cases f with
    | zero => simp [svsA, lnsS]
    | succ f => simp [svsA, lnsS, hl]
  | x :: r, acc, rest, f, h, hl, ha, hf => by
    obtain ⟨f, rfl⟩ : ∃ g, f = g + 1 := ⟨f - 1, by simp at hf; omega⟩
    have hx := h x List.mem_cons_self
    have e0 : lnsS acc.length (x :: r) ++ rest = [[tLX], [Lib.itoa ((acc.length + 1 : Nat) : Int)]] :: ((lnS 0 x).tail ++ (lnsS (acc.length + 1) r ++ rest)) := by
      show (lnS (acc.length + 1) x ++ lnsS (acc.length + 1) r) ++ rest = _
      rw [List.append_assoc]; rfl
    obtain ⟨s1, s2, s3⟩ := sv_back x (lnsS (acc.length + 1) r ++ rest) hx (lns_am _ _ _ ha)
    have ih := svs_back r (acc ++ [x]) rest f (fun y hy => h y (List.mem_cons_of_mem _ hy)) hl ha (by simp at hf; omega)
    rw [List.length_append, List.length_singleton] at ih
    rw [e0]
    unfold svsA
    rw [if_pos (by simp [isLX, tx, el]), if_pos (by simp [plB, txB, behB, oneB, tx, el])]
    show (if svE ((lnS 0 x).tail ++ (lnsS (acc.length + 1) r ++ rest)) = 0 then svsA f (acc ++ [svX ((lnS 0 x).tail ++ (lnsS (acc.length + 1) r ++ rest))]) (svN ((lnS 0 x).tail ++ (lnsS (acc.length + 1) r ++ rest))) else _) = _
    rw [if_pos s1, s2, s3, ih]
    simp
theorem lnsS_len_ge : ∀ (k : Nat) (ls : List Ln), ls.length ≤ (lnsS k ls).length
  | _, [] => by simp
  | k, x :: r => by
    have := lnsS_len_ge (k + 1) r
    unfold lnsS lnS
    simp
    omega
theorem cl_back (k : Nat) (c : Cl) (rest : List Sg) (h : checkE c = 0) (hl : isLX rest = false) (ha : amB rest = false) :
    clE k (clS k c ++ rest) = 0 ∧ clC (clS k c ++ rest) = c ∧ (clP (clS k c ++ rest)).2.2 = rest := by
  obtain ⟨f1, f2, f3, f4, f5, f6, f7, f8, f9, f10, f11⟩ := check_facts h
  obtain ⟨m1, m2, -⟩ := mn_moneyL (totV c.lines) f10 f11
  have hn : Nu.riE (Lib.itoa c.net) 1 = 0 ∧ Nu.riV (Lib.itoa c.net) 1 = c.net := by
    obtain ⟨u1, u2, -, -⟩ := ri_itoa c.net 1 (by omega) (by omega) (by omega) (by omega)
    exact ⟨u1, u2⟩
  have hd : Nu.riE (Lib.itoa c.does) 1 = 0 ∧ Nu.riV (Lib.itoa c.does) 1 = c.does := by
    obtain ⟨u1, u2, -, -⟩ := ri_itoa c.does 1 (by omega) (by omega) (by omega) (by omega)
    exact ⟨u1, u2⟩
  have e0 : clS k c ++ rest = [[tHL], [Lib.itoa (k : Int)]] :: [[tNM], [c.mem], [c.fam]] :: [[tCLM], [c.id], [Nu.moneyL (totV c.lines)], [Lib.itoa c.net], [Lib.itoa c.does], [c.ref]] :: (lnsS 0 c.lines ++ rest) := by
    unfold clS hdS; simp
  have hP : clP (clS k c ++ rest) = (0, c.lines, rest) := by
    unfold clP
    have hle : c.lines.length ≤ (clS k c ++ rest).length := by
      rw [e0]
      have := lnsS_len_ge 0 c.lines
      simp
      omega
    have := svs_back c.lines [] rest (clS k c ++ rest).length f8 hl ha hle
    have e1 : (clS k c ++ rest).tail.tail.tail = lnsS ([] : List Ln).length c.lines ++ rest := by rw [e0]; rfl
    rw [e1, this]
    rfl
  have hH : hdE (clS k c ++ rest).tail = 0 := by
    rw [e0]
    unfold hdE
    rw [if_pos (by simp [hdOk, txB, behB, tx, el, oneB])]
    show (if Nu.mnE (Nu.moneyL (totV c.lines)) = 0 then (if Nu.riE (Lib.itoa c.net) 1 = 0 then (if Nu.riE (Lib.itoa c.does) 1 = 0 then 0 else 4) else 4) else _) = (0 : Int)
    rw [if_pos m1, if_pos hn.1, if_pos hd.1]
  have hC : clC (clS k c ++ rest) = c := by
    unfold clC
    rw [hP, e0]
    show (⟨c.id, c.mem, c.fam, Nu.riV (Lib.itoa c.net) 1, Nu.riV (Lib.itoa c.does) 1, c.ref, c.lines⟩ : Cl) = c
    rw [hn.2, hd.2]
  refine ⟨?_, hC, by rw [hP]⟩
  unfold clE
  rw [if_pos (by rw [e0]; simp [plB, txB, behB, oneB, tx, el]), if_pos hH, hP, hC]
  rw [if_pos rfl, if_pos h, if_pos]
  rw [e0]
  show totV c.lines = Nu.mnV (Nu.moneyL (totV c.lines))
  rw [m2]
theorem cls_am (k : Nat) (l : List Cl) : amB (clsS k l) = false ∧ isLX (clsS k l) = false := by
  cases l with
  | nil => exact ⟨rfl, rfl⟩
  | cons c r => exact ⟨am_cons _ _ (show tHL ≠ tAMT by decide), by simp [isLX, clsS, clS, hdS, tx, el]; decide⟩
theorem cls_back : ∀ (l acc : List Cl) (f : Nat), (∀ c ∈ l, checkE c = 0) → acc.length + l.length ≤ 256 → l.length ≤ f → clsA f acc (clsS acc.length l) = (0, acc ++ l)
  | [], acc, f, _, _, _ => by
    cases f with
    | zero => simp [clsA]
    | succ f => simp [clsA, clsS]
  | c :: r, acc, f, h, h2, hf => by
    obtain ⟨f, rfl⟩ : ∃ g, f = g + 1 := ⟨f - 1, by simp at hf; omega⟩
    have ham := cls_am (acc.length + 1) r
    obtain ⟨c1, c2, c3⟩ := cl_back (acc.length + 1) c (clsS (acc.length + 1) r) (h c List.mem_cons_self) ham.2 ham.1
    have ih := cls_back r (acc ++ [c]) f (fun y hy => h y (List.mem_cons_of_mem _ hy)) (by simp at h2 ⊢; omega) (by simp at hf; omega)
    rw [List.length_append, List.length_singleton] at ih
    unfold clsA
    have e0 : clsS acc.length (c :: r) = clS (acc.length + 1) c ++ clsS (acc.length + 1) r := rfl
    rw [e0, if_neg (by simp [clS, hdS]), if_neg (by simp at h2; omega), if_pos c1, c2, c3, ih]
    simp
theorem clsS_len_ge : ∀ (k : Nat) (ls : List Cl), ls.length ≤ (clsS k ls).length
  | _, [] => by simp
  | k, x :: r => by
    have := clsS_len_ge (k + 1) r
    unfold clsS clS hdS
    simp
    omega
/-- A batch that may be: its segments are read as it. -/
theorem rs_back (n : Int) (l : List Cl) (h : batchE n l = 0) : rsE (segs l) = 0 ∧ rsV (segs l) = l := by
  obtain ⟨-, -, h2, h3⟩ := batch_facts h
  obtain ⟨u1, u2, -, -⟩ := ri_itoa (l.length : Int) 3 (by omega) (by omega) (by omega) (by omega)
  have hP : rsP (segs l) = (0, l) := by
    unfold rsP
    have := cls_back l [] (segs l).length h3 (by simpa using h2) (by have := clsS_len_ge 0 l; unfold segs; simp; omega)
    exact this
  have hE : rsE (segs l) = 0 := by
    unfold rsE
    rw [if_pos (by simp [segs, txB, behB, tx, el, oneB]), hP]
    show (if Nu.riE (Lib.itoa (l.length : Int)) 3 = 0 then (if (0 : Int) = 0 then (if ((l.length : Nat) : Int) = Nu.riV (Lib.itoa (l.length : Int)) 3 then 0 else 6) else 0) else _) = (0 : Int)
    rw [if_pos (show Nu.riE (Lib.itoa (l.length : Int)) 3 = 0 from u1), if_pos rfl, if_pos (show ((l.length : Nat) : Int) = Nu.riV (Lib.itoa (l.length : Int)) 3 from u2.symm)]
  exact ⟨hE, by unfold rsV; rw [if_pos hE, hP]⟩
/-- EVERY BATCH COMES BACK. -/
theorem eight_back {e p s : UInt8} {n : Int} {l : List Cl} (h : wtE e p s n l = 0) : rE (wtV e p s n l) = 0 ∧ rD (wtV e p s n l) = (e, p, s) ∧ rN (wtV e p s n l) = n ∧ rV (wtV e p s n l) = l := by
  have hb : batchE n l = 0 := by
    unfold wtE at h
    split at h
    · assumption
    · exact h
  have hw : wpE e p s t837 n (segs l) = 0 := by unfold wtE at h; rwa [if_pos hb] at h
  have hv : wtV e p s n l = wpV e p s t837 n (segs l) := by unfold wtV; rw [if_pos hb]
  obtain ⟨o1, o2, o3, o4⟩ := cover_back hw
  obtain ⟨r1, r2⟩ := rs_back n l hb
  rw [hv]
  have hE : rE (wpV e p s t837 n (segs l)) = 0 := by unfold rE; rw [if_pos o1, o4, r1]
  refine ⟨hE, ?_, ?_, ?_⟩
  · unfold rD; rw [if_pos hE, o2]
  · unfold rN; rw [if_pos hE, o3]
  · unfold rV; rw [if_pos hE, o4, r2]
end Go.Proofs.YtpmnepihaljamaaGreatDoor.Et
end
