/-
  Plans over plain lists: which may be, their words, and words as plans: what layer 10's calls answer.
-/
import Derived.Test.YtdppelkfcnbgbaaWMath
import Derived.Test.YtdppelkfcnbgbaaLMath
import Derived.Test.YtdppelkfcnbgbaaNMath
namespace Go.Proofs.Ytdppelkfcnbgbaa.Pl
open Wo (Wd)

structure Cd where
  kind : Int
  lo : Tx
  hi : Tx
  n : Int
  kids : List Cd
structure St where
  what : Int
  n : Int
structure Ru where
  rank : Int
  cif : Cd
  unl : List Cd
  sets : List St
structure Pn where
  mode : Int
  indDed : Int
  famDed : Int
  indOop : Int
  famOop : Int
  rules : List Ru
def cd0 : Cd := .mk 0 [] [] 0 []
def pn0 : Pn := ⟨0, 0, 0, 0, 0, []⟩
def goodB (n : Int) : Bool := decide (0 ≤ n) && decide (n ≤ 10000000000000)

/-! ### Which may be -/
def kidN (k : Int) : Nat := if k = 6 then 1 else if k = 7 ∨ k = 8 then 2 else 0
def loB (k : Int) (lo : Tx) : Bool := if k = 1 then Cm.codeB lo 5 5 else if k = 2 then Cm.codeB lo 2 2 else decide (lo = [])
def hiB (k : Int) (hi : Tx) : Bool := if k = 1 then Cm.codeB hi 5 5 else decide (hi = [])
def nB (k n : Int) : Bool := if k = 3 then decide (0 ≤ n) && decide (n ≤ 9999) else if k = 4 then goodB n else decide (n = 0)
def leafB (k : Int) (lo hi : Tx) (n : Int) : Bool := (decide (0 ≤ k) && decide (k ≤ 8)) && (loB k lo && (hiB k hi && nB k n))
/-- f: how many deep there may be yet (16 at first). -/
def condB : Nat → Cd → Bool
  | 0, _ => false
  | f + 1, .mk k lo hi n ks => decide (ks.length = kidN k) && (ks.all (condB f) && leafB k lo hi n)
def setB (s : St) : Bool := decide (0 ≤ s.n) && (if s.what = 1 ∨ s.what = 2 then decide (s.n ≤ 1) else if s.what = 3 then goodB s.n else if s.what = 4 then decide (s.n ≤ 10000) else false)
def setsB : List Int → List St → Bool
  | _, [] => true
  | seen, s :: r => setB s && (decide (s.what ∉ seen) && setsB (seen ++ [s.what]) r)
def ruleB (r : Ru) : Bool := (decide (0 ≤ r.rank) && decide (r.rank ≤ 9999)) && (condB 16 r.cif && (decide (r.unl.length ≤ 1) && (r.unl.all (condB 16) && (decide (1 ≤ r.sets.length) && setsB [] r.sets))))
def limB (p : Pn) : Bool := goodB p.indDed && (goodB p.famOop && (decide (p.indDed ≤ p.famDed) && (decide (p.famDed ≤ p.famOop) && (decide (p.indDed ≤ p.indOop) && decide (p.indOop ≤ p.famOop)))))
def planB (p : Pn) : Bool := (decide (p.mode = 0) || decide (p.mode = 1)) && (decide (p.rules.length ≤ 64) && (limB p && p.rules.all ruleB))
def checkE (p : Pn) : Int := if planB p = true then 0 else 15

/-! ### The words -/
def tPlan : Tx := [112, 108, 97, 110]
def tEmb : Tx := [101, 109, 98, 101, 100, 100, 101, 100]
def tAgg : Tx := [97, 103, 103, 114, 101, 103, 97, 116, 101]
def tMem : Tx := [109, 101, 109, 98, 101, 114]
def tFam : Tx := [102, 97, 109, 105, 108, 121]
def tRule : Tx := [114, 117, 108, 101]
def tIf : Tx := [105, 102]
def tUnl : Tx := [117, 110, 108, 101, 115, 115]
def tSet : Tx := [115, 101, 116]
def tEnd : Tx := [101, 110, 100]
def tCover : Tx := [99, 111, 118, 101, 114]
def tDed : Tx := [100, 101, 100, 117, 99, 116]
def tCopay : Tx := [99, 111, 112, 97, 121]
def tCoins : Tx := [99, 111, 105, 110, 115]
def tYes : Tx := [121, 101, 115]
def tNo : Tx := [110, 111]
def tAll : Tx := [97, 108, 108]
def tProc : Tx := [112, 114, 111, 99]
def tMod : Tx := [109, 111, 100]
def tUnits : Tx := [117, 110, 105, 116, 115]
def tBilled : Tx := [98, 105, 108, 108, 101, 100]
def tOut : Tx := [111, 117, 116]
def tNot : Tx := [110, 111, 116]
def tAnd : Tx := [97, 110, 100]
def tOr : Tx := [111, 114]
def tO : Tx := [40]
def tC : Tx := [41]
def condW : Nat → Cd → List Tx
  | 0, _ => []
  | f + 1, .mk k lo hi n ks =>
    if k = 0 then [tAll] else if k = 1 then [tProc, lo, hi] else if k = 2 then [tMod, lo] else if k = 3 then [tUnits, Lib.itoa n] else if k = 4 then [tBilled, Nu.moneyL n] else if k = 5 then [tOut]
    else if k = 6 then tNot :: condW f (ks.headD cd0)
    else tO :: (condW f (ks.headD cd0) ++ ((if k = 7 then tAnd else tOr) :: (condW f (ks.tail.headD cd0) ++ [tC])))
def yesW (n : Int) : Tx := if n = 0 then tNo else tYes
def setW (s : St) : List Tx := if s.what = 1 then [tCover, yesW s.n] else if s.what = 2 then [tDed, yesW s.n] else if s.what = 3 then [tCopay, Nu.moneyL s.n] else [tCoins, Lib.itoa s.n]
def setsW (l : List St) : List Tx := l.flatMap setW
def unlW (l : List Cd) : List Tx := if l.length = 1 then tUnl :: condW 16 (l.headD cd0) else []
def ruleW (r : Ru) : List Tx := tRule :: Lib.itoa r.rank :: tIf :: (condW 16 r.cif ++ (unlW r.unl ++ (tSet :: (setsW r.sets ++ [tEnd]))))
def headW (p : Pn) : List Tx := [tPlan, if p.mode = 1 then tAgg else tEmb, tMem, Nu.moneyL p.indDed, Nu.moneyL p.indOop, tFam, Nu.moneyL p.famDed, Nu.moneyL p.famOop]
def planW (p : Pn) : List Tx := headW p ++ p.rules.flatMap ruleW

/-! ### Words as plans: E: where the text ends -/
abbrev R (α : Type) := Except (Int × Nat) (α × List Wd)
def pos (E : Nat) : List Wd → Nat
  | [] => E
  | x :: _ => x.2
def pTake (E : Nat) (t : Tx) (l : List Wd) : Except (Int × Nat) (List Wd) :=
  match l with
  | [] => .error (4, E)
  | (x, a) :: r => if x = t then .ok r else .error (4, a)
def pMoney (E : Nat) (l : List Wd) : R Int :=
  match l with
  | [] => .error (8, E)
  | (x, a) :: r => if Nu.mnE x = 0 then .ok (Nu.mnV x, r) else .error (Nu.mnE x, a)
def pNum (E : Nat) (most : Int) (l : List Wd) : R Int :=
  match l with
  | [] => .error (4, E)
  | (x, a) :: r => if Nu.riE x 5 = 0 ∧ Nu.riV x 5 ≤ most then .ok (Nu.riV x 5, r) else .error (4, a)
def pCode (E : Nat) (n : Int) (l : List Wd) : R Tx :=
  match l with
  | [] => .error (9, E)
  | (x, a) :: r => if Cm.codeB x n n = true then .ok (x, r) else .error (9, a)
def pTruth (E : Nat) (l : List Wd) : R Int :=
  match l with
  | [] => .error (4, E)
  | (x, a) :: r => if x = tYes then .ok (1, r) else if x = tNo then .ok (0, r) else .error (4, a)
def pOp (E : Nat) (l : List Wd) : R Int :=
  match l with
  | [] => .error (4, E)
  | (x, a) :: r => if x = tAnd then .ok (7, r) else if x = tOr then .ok (8, r) else .error (4, a)
/-- Words that begin a condition. -/
def begB (x : Tx) : Bool := decide (x = tAll ∨ x = tProc ∨ x = tMod ∨ x = tUnits ∨ x = tBilled ∨ x = tOut ∨ x = tNot ∨ x = tO)
def pC (E : Nat) : Nat → List Wd → R Cd
  | 0, [] => .error (4, E)
  | 0, (x, a) :: _ => .error (if begB x = true then 10 else 4, a)
  | f + 1, l =>
    match l with
    | [] => .error (4, E)
    | (x, a) :: r =>
      if x = tAll then .ok (cd0, r)
      else if x = tProc then (match pCode E 5 r with | .error e => .error e | .ok (lo, r) => match pCode E 5 r with | .error e => .error e | .ok (hi, r) => .ok (.mk 1 lo hi 0 [], r))
      else if x = tMod then (match pCode E 2 r with | .error e => .error e | .ok (lo, r) => .ok (.mk 2 lo [] 0 [], r))
      else if x = tUnits then (match pNum E 9999 r with | .error e => .error e | .ok (n, r) => .ok (.mk 3 [] [] n [], r))
      else if x = tBilled then (match pMoney E r with | .error e => .error e | .ok (n, r) => .ok (.mk 4 [] [] n [], r))
      else if x = tOut then .ok (.mk 5 [] [] 0 [], r)
      else if x = tNot then (match pC E f r with | .error e => .error e | .ok (c, r) => .ok (.mk 6 [] [] 0 [c], r))
      else if x = tO then (match pC E f r with
        | .error e => .error e
        | .ok (c, r) => match pOp E r with
          | .error e => .error e
          | .ok (k, r) => match pC E f r with
            | .error e => .error e
            | .ok (d, r) => match pTake E tC r with
              | .error e => .error e
              | .ok r => .ok (.mk k [] [] 0 [c, d], r))
      else .error (4, a)
def pSet (E : Nat) (l : List Wd) : R St :=
  match l with
  | [] => .error (4, E)
  | (x, a) :: r =>
    if x = tCover then (match pTruth E r with | .error e => .error e | .ok (n, r) => .ok (⟨1, n⟩, r))
    else if x = tDed then (match pTruth E r with | .error e => .error e | .ok (n, r) => .ok (⟨2, n⟩, r))
    else if x = tCopay then (match pMoney E r with | .error e => .error e | .ok (n, r) => .ok (⟨3, n⟩, r))
    else if x = tCoins then (match pNum E 10000 r with | .error e => .error e | .ok (n, r) => .ok (⟨4, n⟩, r))
    else .error (4, a)
/-- Sets, one by one, up to 'end': fuel: words that are left. -/
def pSets (E : Nat) : Nat → List St → List Wd → R (List St)
  | 0, _, l => .error (4, pos E l)
  | f + 1, acc, l =>
    match pSet E l with
    | .error e => .error e
    | .ok (s, r) =>
      if s.what ∈ acc.map (·.what) then .error (12, pos E l)
      else match r with
        | (x, _) :: q => if x = tEnd then .ok (acc ++ [s], q) else pSets E f (acc ++ [s]) r
        | [] => .error (4, E)
def pUnl (E : Nat) (l : List Wd) : R (List Cd) :=
  match l with
  | (x, _) :: r => if x = tUnl then (match pC E 16 r with | .error e => .error e | .ok (c, r) => .ok ([c], r)) else .ok ([], l)
  | [] => .ok ([], [])
def pRule (E : Nat) (l : List Wd) : R Ru :=
  match pTake E tRule l with
  | .error e => .error e
  | .ok l => match pNum E 9999 l with
    | .error e => .error e
    | .ok (k, l) => match pTake E tIf l with
      | .error e => .error e
      | .ok l => match pC E 16 l with
        | .error e => .error e
        | .ok (c, l) => match pUnl E l with
          | .error e => .error e
          | .ok (u, l) => match pTake E tSet l with
            | .error e => .error e
            | .ok l => match pSets E (l.length + 1) [] l with
              | .error e => .error e
              | .ok (s, l) => .ok (⟨k, c, u, s⟩, l)
def pRules (E : Nat) : Nat → List Ru → List Wd → Except (Int × Nat) (List Ru)
  | 0, acc, [] => .ok acc
  | 0, _, (x, a) :: _ => .error (if x = tRule then 10 else 4, a)
  | f + 1, acc, l =>
    if l.isEmpty then .ok acc
    else match pRule E l with
      | .error e => .error e
      | .ok (r, l) => pRules E f (acc ++ [r]) l
def pMode (E : Nat) (l : List Wd) : R Int :=
  match l with
  | [] => .error (4, E)
  | (x, a) :: r => if x = tEmb then .ok (0, r) else if x = tAgg then .ok (1, r) else .error (4, a)
def pHead (E : Nat) (l : List Wd) : R Pn :=
  match pTake E tPlan l with
  | .error e => .error e
  | .ok l => match pMode E l with
    | .error e => .error e
    | .ok (m, l) => match pTake E tMem l with
      | .error e => .error e
      | .ok l => match pMoney E l with
        | .error e => .error e
        | .ok (a, l) => match pMoney E l with
          | .error e => .error e
          | .ok (b, l) => match pTake E tFam l with
            | .error e => .error e
            | .ok l => match pMoney E l with
              | .error e => .error e
              | .ok (c, l) => match pMoney E l with
                | .error e => .error e
                | .ok (d, l) => .ok (⟨m, a, c, b, d, []⟩, l)
def pPlan (E : Nat) (l : List Wd) : Except (Int × Nat) Pn :=
  match pHead E l with
  | .error e => .error e
  | .ok (p, l) => match pRules E 64 [] l with
    | .error e => .error e
    | .ok rs => if planB { p with rules := rs } = true then .ok { p with rules := rs } else .error (15, 0)

/-! ### There and back -/
theorem map_cons {a : List Wd} {t : Tx} {ts : List Tx} (h : a.map (·.1) = t :: ts) : ∃ p r, a = (t, p) :: r ∧ r.map (·.1) = ts := by
  cases a with
  | nil => cases h
  | cons x r => simp only [List.map_cons, List.cons.injEq] at h; exact ⟨x.2, r, by rw [← h.1], h.2⟩
theorem map_app {a : List Wd} {x y : List Tx} (h : a.map (·.1) = x ++ y) : ∃ b c, a = b ++ c ∧ b.map (·.1) = x ∧ c.map (·.1) = y := List.map_eq_append_iff.1 h
theorem map_nil {a : List Wd} (h : a.map (·.1) = []) : a = [] := by simpa using h
theorem ri_itoa (n : Int) (h0 : 0 ≤ n) (h1 : n ≤ 99999) : Nu.riE (Lib.itoa n) 5 = 0 ∧ Nu.riV (Lib.itoa n) 5 = n := by
  obtain ⟨m, rfl⟩ : ∃ m : Nat, n = m := ⟨n.toNat, by omega⟩
  have e : Lib.itoa (m : Int) = Lib.decDigits m := by simp [Lib.itoa]
  have ho := Nu.ri_dec m 5 5 (by omega) (by omega) (by omega) (by omega)
  rw [e]
  exact ⟨by unfold Nu.riE; rw [if_pos ho], by unfold Nu.riV; rw [if_pos ho, Nu.dec_num]⟩
theorem mn_moneyL {a : Int} (h : goodB a = true) : Nu.mnE (Nu.moneyL a) = 0 ∧ Nu.mnV (Nu.moneyL a) = a := by
  simp only [goodB, Bool.and_eq_true, decide_eq_true_eq] at h
  have e : Nu.moneyL a = Nu.moneyU a.natAbs := by unfold Nu.moneyL; rw [if_neg (by omega)]; rfl
  obtain ⟨ho, hv⟩ := Nu.mn_money a.natAbs (by omega)
  rw [e]
  exact ⟨by unfold Nu.mnE; rw [if_pos ho], by rw [hv]; omega⟩
theorem take_ok (E : Nat) (t : Tx) (p : Nat) (r : List Wd) : pTake E t ((t, p) :: r) = .ok r := if_pos rfl
theorem money_ok (E : Nat) {n : Int} (h : goodB n = true) (p : Nat) (r : List Wd) : pMoney E ((Nu.moneyL n, p) :: r) = .ok (n, r) := by
  obtain ⟨h1, h2⟩ := mn_moneyL h
  unfold pMoney
  simp only [h1, h2, if_true]
theorem num_ok (E : Nat) {n m : Int} (h0 : 0 ≤ n) (h1 : n ≤ m) (h2 : n ≤ 99999) (p : Nat) (r : List Wd) : pNum E m ((Lib.itoa n, p) :: r) = .ok (n, r) := by
  obtain ⟨e1, e2⟩ := ri_itoa n h0 h2
  unfold pNum
  simp only [e1, e2, h1, and_self, if_true]
theorem code_ok (E : Nat) {n : Int} {t : Tx} (h : Cm.codeB t n n = true) (p : Nat) (r : List Wd) : pCode E n ((t, p) :: r) = .ok (t, r) := by
  unfold pCode
  simp only [h, if_true]
theorem leaf_facts {k : Int} {lo hi : Tx} {n : Int} (h : leafB k lo hi n = true) : 0 ≤ k ∧ k ≤ 8 ∧ loB k lo = true ∧ hiB k hi = true ∧ nB k n = true := by
  simp only [leafB, Bool.and_eq_true, decide_eq_true_eq] at h
  exact ⟨h.1.1, h.1.2, h.2.1, h.2.2.1, h.2.2.2⟩
theorem k_cases {k : Int} (h0 : 0 ≤ k) (h8 : k ≤ 8) : k = 0 ∨ k = 1 ∨ k = 2 ∨ k = 3 ∨ k = 4 ∨ k = 5 ∨ k = 6 ∨ k = 7 ∨ k = 8 := by omega
theorem list0 {α : Type} {l : List α} (h : l.length = 0) : l = [] := List.length_eq_zero_iff.1 h
theorem list1 {α : Type} {l : List α} (h : l.length = 1) : ∃ x, l = [x] := List.length_eq_one_iff.1 h
theorem list2 {α : Type} {l : List α} (h : l.length = 2) : ∃ x y, l = [x, y] := by
  match l, h with
  | [x, y], _ => exact ⟨x, y, rfl⟩
theorem cond_back (E : Nat) : ∀ (f : Nat) (c : Cd) (a rest : List Wd), condB f c = true → a.map (·.1) = condW f c → pC E f (a ++ rest) = .ok (c, rest)
  | 0, c, _, _, h, _ => by cases h
  | f + 1, .mk k lo hi n ks, a, rest, h, ha => by
    simp only [condB, Bool.and_eq_true, decide_eq_true_eq, List.all_eq_true] at h
    obtain ⟨hk, hks, hl⟩ := h
    obtain ⟨h0, h8, hlo, hhi, hn⟩ := leaf_facts hl
    unfold condW at ha
    rcases k_cases h0 h8 with rfl | rfl | rfl | rfl | rfl | rfl | rfl | rfl | rfl
    · obtain rfl := list0 (show ks.length = 0 from hk)
      obtain rfl : lo = [] := by simpa [loB] using hlo
      obtain rfl : hi = [] := by simpa [hiB] using hhi
      obtain rfl : n = 0 := by simpa [nB] using hn
      obtain ⟨p, r1, rfl, g1⟩ := map_cons (ha.trans (if_pos rfl))
      obtain rfl := map_nil g1
      rfl
    · obtain rfl := list0 (show ks.length = 0 from hk)
      have hlo : Cm.codeB lo 5 5 = true := by simpa [loB] using hlo
      have hhi : Cm.codeB hi 5 5 = true := by simpa [hiB] using hhi
      obtain rfl : n = 0 := by simpa [nB] using hn
      obtain ⟨p, r1, rfl, g1⟩ := map_cons (ha.trans (show _ = [tProc, lo, hi] from rfl))
      obtain ⟨p1, r2, rfl, g2⟩ := map_cons g1
      obtain ⟨p2, r3, rfl, g3⟩ := map_cons g2
      obtain rfl := map_nil g3
      show (match pCode E 5 ((lo, p1) :: (hi, p2) :: rest) with | .error e => (.error e : R Cd) | .ok (lo, r) => match pCode E 5 r with | .error e => .error e | .ok (hi, r) => .ok (.mk 1 lo hi 0 [], r)) = _
      simp only [code_ok E hlo, code_ok E hhi]
    · obtain rfl := list0 (show ks.length = 0 from hk)
      have hlo : Cm.codeB lo 2 2 = true := by simpa [loB] using hlo
      obtain rfl : hi = [] := by simpa [hiB] using hhi
      obtain rfl : n = 0 := by simpa [nB] using hn
      obtain ⟨p, r1, rfl, g1⟩ := map_cons (ha.trans (show _ = [tMod, lo] from rfl))
      obtain ⟨p1, r2, rfl, g2⟩ := map_cons g1
      obtain rfl := map_nil g2
      show (match pCode E 2 ((lo, p1) :: rest) with | .error e => (.error e : R Cd) | .ok (lo, r) => .ok (.mk 2 lo [] 0 [], r)) = _
      simp only [code_ok E hlo]
    · obtain rfl := list0 (show ks.length = 0 from hk)
      obtain rfl : lo = [] := by simpa [loB] using hlo
      obtain rfl : hi = [] := by simpa [hiB] using hhi
      have hn : 0 ≤ n ∧ n ≤ 9999 := by simpa [nB] using hn
      obtain ⟨p, r1, rfl, g1⟩ := map_cons (ha.trans (show _ = [tUnits, Lib.itoa n] from rfl))
      obtain ⟨p1, r2, rfl, g2⟩ := map_cons g1
      obtain rfl := map_nil g2
      show (match pNum E 9999 ((Lib.itoa n, p1) :: rest) with | .error e => (.error e : R Cd) | .ok (n, r) => .ok (.mk 3 [] [] n [], r)) = _
      simp only [num_ok E hn.1 hn.2 (show n ≤ 99999 by omega)]
    · obtain rfl := list0 (show ks.length = 0 from hk)
      obtain rfl : lo = [] := by simpa [loB] using hlo
      obtain rfl : hi = [] := by simpa [hiB] using hhi
      have hn : goodB n = true := by simpa [nB] using hn
      obtain ⟨p, r1, rfl, g1⟩ := map_cons (ha.trans (show _ = [tBilled, Nu.moneyL n] from rfl))
      obtain ⟨p1, r2, rfl, g2⟩ := map_cons g1
      obtain rfl := map_nil g2
      show (match pMoney E ((Nu.moneyL n, p1) :: rest) with | .error e => (.error e : R Cd) | .ok (n, r) => .ok (.mk 4 [] [] n [], r)) = _
      simp only [money_ok E hn]
    · obtain rfl := list0 (show ks.length = 0 from hk)
      obtain rfl : lo = [] := by simpa [loB] using hlo
      obtain rfl : hi = [] := by simpa [hiB] using hhi
      obtain rfl : n = 0 := by simpa [nB] using hn
      obtain ⟨p, r1, rfl, g1⟩ := map_cons (ha.trans (show _ = [tOut] from rfl))
      obtain rfl := map_nil g1
      rfl
    · obtain ⟨c, rfl⟩ := list1 (show ks.length = 1 from hk)
      obtain rfl : lo = [] := by simpa [loB] using hlo
      obtain rfl : hi = [] := by simpa [hiB] using hhi
      obtain rfl : n = 0 := by simpa [nB] using hn
      obtain ⟨p, r1, rfl, g1⟩ := map_cons (ha.trans (show _ = tNot :: condW f c from rfl))
      have hc := cond_back E f c r1 rest (hks c (by simp)) g1
      show (match pC E f (r1 ++ rest) with | .error e => (.error e : R Cd) | .ok (c, r) => .ok (.mk 6 [] [] 0 [c], r)) = _
      simp only [hc]
    all_goals
      obtain ⟨c, d, rfl⟩ := list2 (show ks.length = 2 from hk)
      obtain rfl : lo = [] := by simpa [loB] using hlo
      obtain rfl : hi = [] := by simpa [hiB] using hhi
      obtain rfl : n = 0 := by simpa [nB] using hn
    · obtain ⟨p, r1, rfl, g1⟩ := map_cons (ha.trans (show _ = tO :: (condW f c ++ (tAnd :: (condW f d ++ [tC]))) from rfl))
      obtain ⟨a1, r2, rfl, h1, g2⟩ := map_app g1
      obtain ⟨p2, r3, rfl, g3⟩ := map_cons g2
      obtain ⟨a2, r4, rfl, h2, g4⟩ := map_app g3
      obtain ⟨p3, r5, rfl, g5⟩ := map_cons g4
      obtain rfl := map_nil g5
      have hc := cond_back E f c a1 ((tAnd, p2) :: (a2 ++ ((tC, p3) :: rest))) (hks c (by simp)) h1
      have hd := cond_back E f d a2 ((tC, p3) :: rest) (hks d (by simp)) h2
      have e1 : ((tO, p) :: (a1 ++ (tAnd, p2) :: (a2 ++ [(tC, p3)]))) ++ rest = (tO, p) :: (a1 ++ ((tAnd, p2) :: (a2 ++ ((tC, p3) :: rest)))) := by simp
      have e2 : pOp E ((tAnd, p2) :: (a2 ++ ((tC, p3) :: rest))) = .ok (7, a2 ++ ((tC, p3) :: rest)) := rfl
      rw [e1]
      show (match pC E f (a1 ++ ((tAnd, p2) :: (a2 ++ ((tC, p3) :: rest)))) with
        | .error e => (.error e : R Cd)
        | .ok (c, r) => match pOp E r with
          | .error e => .error e
          | .ok (k, r) => match pC E f r with
            | .error e => .error e
            | .ok (d, r) => match pTake E tC r with
              | .error e => .error e
              | .ok r => .ok (.mk k [] [] 0 [c, d], r)) = _
      simp only [hc, e2, hd, take_ok]
    · obtain ⟨p, r6, rfl, g6⟩ := map_cons (ha.trans (show _ = tO :: (condW f c ++ (tOr :: (condW f d ++ [tC]))) from rfl))
      obtain ⟨a1, r7, rfl, h1, g7⟩ := map_app g6
      obtain ⟨p2, r8, rfl, g8⟩ := map_cons g7
      obtain ⟨a2, r9, rfl, h2, g9⟩ := map_app g8
      obtain ⟨p3, r10, rfl, g10⟩ := map_cons g9
      obtain rfl := map_nil g10
      have hc := cond_back E f c a1 ((tOr, p2) :: (a2 ++ ((tC, p3) :: rest))) (hks c (by simp)) h1
      have hd := cond_back E f d a2 ((tC, p3) :: rest) (hks d (by simp)) h2
      have e1 : ((tO, p) :: (a1 ++ (tOr, p2) :: (a2 ++ [(tC, p3)]))) ++ rest = (tO, p) :: (a1 ++ ((tOr, p2) :: (a2 ++ ((tC, p3) :: rest)))) := by simp
      have e2 : pOp E ((tOr, p2) :: (a2 ++ ((tC, p3) :: rest))) = .ok (8, a2 ++ ((tC, p3) :: rest)) := rfl
      rw [e1]
      show (match pC E f (a1 ++ ((tOr, p2) :: (a2 ++ ((tC, p3) :: rest)))) with
        | .error e => (.error e : R Cd)
        | .ok (c, r) => match pOp E r with
          | .error e => .error e
          | .ok (k, r) => match pC E f r with
            | .error e => .error e
            | .ok (d, r) => match pTake E tC r with
              | .error e => .error e
              | .ok r => .ok (.mk k [] [] 0 [c, d], r)) = _
      simp only [hc, e2, hd, take_ok]
end Go.Proofs.Ytdppelkfcnbgbaa.Pl
