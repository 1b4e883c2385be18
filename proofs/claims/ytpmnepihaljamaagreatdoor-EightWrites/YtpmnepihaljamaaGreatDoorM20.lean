/-
  Texts put together (merge.py): EMath, EMem.
-/
import Derived.Deep.AppendLies
import Derived.Test.YtpmnepihaljamaaGreatDoorM10
import Derived.Test.YtpmnepihaljamaaGreatDoorM2
import Derived.Test.YtpmnepihaljamaaGreatDoorM19
/-
  Batches as segments, and segments as batches, over plain lists: what layer 8's calls answer.
-/
section
namespace Go.Proofs.YtpmnepihaljamaaGreatDoor.Et
open Cm

def tBHT : Tx := [66, 72, 84]
def tHL : Tx := [72, 76]
def tNM : Tx := [78, 77]
def tCLM : Tx := [67, 76, 77]
def tLX : Tx := [76, 88]
def tSV : Tx := [83, 86]
def tHC : Tx := [72, 67]
def tDTP : Tx := [68, 84, 80]
def t472 : Tx := [52, 55, 50]
def tAMT : Tx := [65, 77, 84]
def tD : Tx := [68]
def t837 : Tx := [56, 51, 55]

/-! ### Writing -/
def lnS (k : Nat) (x : Ln) : List Sg :=
  [[[tLX], [Lib.itoa (k : Int)]], [[tSV], tHC :: x.proc :: x.mods, [Nu.moneyL x.billed], [Lib.itoa x.units]], [[tDTP], [t472], [Lib.itoa x.date]]] ++ (if 0 < x.prior then [[[tAMT], [tD], [Nu.moneyL x.prior]]] else [])
def lnsS : Nat → List Ln → List Sg
  | _, [] => []
  | k, x :: r => lnS (k + 1) x ++ lnsS (k + 1) r
def hdS (k : Nat) (c : Cl) : List Sg := [[[tHL], [Lib.itoa (k : Int)]], [[tNM], [c.mem], [c.fam]], [[tCLM], [c.id], [Nu.moneyL (totV c.lines)], [Lib.itoa c.net], [Lib.itoa c.does], [c.ref]]]
def clS (k : Nat) (c : Cl) : List Sg := hdS k c ++ lnsS 0 c.lines
def clsS : Nat → List Cl → List Sg
  | _, [] => []
  | k, c :: r => clS (k + 1) c ++ clsS (k + 1) r
def segs (l : List Cl) : List Sg := [[tBHT], [Lib.itoa (l.length : Int)]] :: clsS 0 l
theorem lnsS_app : ∀ (a b : List Ln) (k : Nat), lnsS k (a ++ b) = lnsS k a ++ lnsS (k + a.length) b
  | [], b, k => by simp [lnsS]
  | x :: a, b, k => by
    show lnS (k + 1) x ++ lnsS (k + 1) (a ++ b) = (lnS (k + 1) x ++ lnsS (k + 1) a) ++ lnsS (k + (a.length + 1)) b
    rw [lnsS_app a b (k + 1), List.append_assoc, show k + 1 + a.length = k + (a.length + 1) by omega]
theorem clsS_app : ∀ (a b : List Cl) (k : Nat), clsS k (a ++ b) = clsS k a ++ clsS (k + a.length) b
  | [], b, k => by simp [clsS]
  | x :: a, b, k => by
    show clS (k + 1) x ++ clsS (k + 1) (a ++ b) = (clS (k + 1) x ++ clsS (k + 1) a) ++ clsS (k + (a.length + 1)) b
    rw [clsS_app a b (k + 1), List.append_assoc, show k + 1 + a.length = k + (a.length + 1) by omega]
theorem take_len {α : Type} (l : List α) (k : Nat) (x : α) (h : l[k]? = some x) : (l.take k).length = k := by
  have := (List.getElem?_eq_some_iff.1 h).1
  simp; omega
theorem lnsS_snoc (ls : List Ln) (k : Nat) (x : Ln) (h : ls[k]? = some x) : lnsS 0 (ls.take (k + 1)) = lnsS 0 (ls.take k) ++ lnS (k + 1) x := by
  rw [List.take_add_one, h, lnsS_app, take_len ls k x h, Nat.zero_add]
  simp [lnsS]
theorem clsS_snoc (ls : List Cl) (k : Nat) (x : Cl) (h : ls[k]? = some x) : clsS 0 (ls.take (k + 1)) = clsS 0 (ls.take k) ++ clS (k + 1) x := by
  rw [List.take_add_one, h, clsS_app, take_len ls k x h, Nat.zero_add]
  simp [clsS]
def wtE (e p s : UInt8) (n : Int) (l : List Cl) : Int := if batchE n l = 0 then wpE e p s t837 n (segs l) else batchE n l
def wtV (e p s : UInt8) (n : Int) (l : List Cl) : Tx := if batchE n l = 0 then wpV e p s t837 n (segs l) else []

/-! ### Reading -/
def el (l : List Sg) (i : Nat) : List Tx := (l.headD []).getD i []
def tx (l : List Sg) (i : Nat) : Tx := (el l i).headD []
def behB (l : List Sg) (t : Tx) (n : Nat) : Bool := !l.isEmpty && (decide (tx l 0 = t) && decide ((l.headD []).length = n + 1))
def behV (l : List Sg) (t : Tx) (n : Nat) : Sg := if behB l t n = true then (l.headD []).tail else []
def oneB (g : Sg) : Bool := g.all fun ps => decide (ps.length = 1)
def txB (l : List Sg) (t : Tx) (n : Nat) : Bool := behB l t n && oneB (l.headD []).tail
def txV (l : List Sg) (t : Tx) (n : Nat) : List Tx := if txB l t n = true then (l.headD []).tail.map (fun ps => ps.headD []) else []
def plB (l : List Sg) (t : Tx) (k : Nat) : Bool := txB l t 1 && decide (tx l 1 = Lib.itoa (k : Int))
def isLX (l : List Sg) : Bool := !l.isEmpty && decide (tx l 0 = tLX)
def dnOk (l : List Sg) : Bool := behB l tSV 3 && (decide (2 ≤ (el l 1).length) && (decide (tx l 1 = tHC) && (decide ((el l 2).length = 1) && decide ((el l 3).length = 1))))
def dnE (l : List Sg) : Int := if dnOk l = true then (if Nu.mnE (tx l 2) = 0 then Nu.riE (tx l 3) 4 else Nu.mnE (tx l 2)) else 4
def dnX (l : List Sg) : Ln := ⟨(el l 1).getD 1 [], (el l 1).drop 2, 0, Nu.riV (tx l 3) 4, Nu.mnV (tx l 2), 0⟩
def dnV (l : List Sg) : Ln := if dnE l = 0 then dnX l else ln0
def dyOk (l : List Sg) : Bool := txB l tDTP 2 && decide (tx l 1 = t472)
def dyE (l : List Sg) : Int := if dyOk l = true then (if Nu.riE (tx l 2) 8 = 0 then 0 else 7) else 4
def dyV (l : List Sg) : Int := if dyE l = 0 then Nu.riV (tx l 2) 8 else 0
def amB (l : List Sg) : Bool := txB l tAMT 2
def amOk (l : List Sg) : Bool := decide (tx l 1 = tD) && (decide (Nu.mnE (tx l 2) = 0) && decide (Nu.mnV (tx l 2) ≠ 0))
def svE (l : List Sg) : Int := if dnE l = 0 then (if dyE l.tail = 0 then (if amB l.tail.tail = true then (if amOk l.tail.tail = true then 0 else 8) else 0) else dyE l.tail) else dnE l
def svX (l : List Sg) : Ln := ⟨(dnX l).proc, (dnX l).mods, dyV l.tail, (dnX l).units, (dnX l).billed, if amB l.tail.tail = true then Nu.mnV (tx l.tail.tail 2) else 0⟩
def svV (l : List Sg) : Ln := if svE l = 0 then svX l else ln0
def svN (l : List Sg) : List Sg := if amB l.tail.tail = true then l.tail.tail.tail else l.tail.tail
def svR (l : List Sg) : List Sg := if svE l = 0 then svN l else []
def svsA : Nat → List Ln → List Sg → Int × List Ln × List Sg
  | 0, acc, l => (0, acc, l)
  | f + 1, acc, l => if isLX l = true then (if plB l tLX (acc.length + 1) = true then (if svE l.tail = 0 then svsA f (acc ++ [svX l.tail]) (svN l.tail) else (svE l.tail, [], [])) else (11, [], [])) else (0, acc, l)
def hdOk (l : List Sg) : Bool := txB l tNM 2 && txB l.tail tCLM 5
def hdE (l : List Sg) : Int := if hdOk l = true then (if Nu.mnE (tx l.tail 2) = 0 then (if Nu.riE (tx l.tail 3) 1 = 0 then (if Nu.riE (tx l.tail 4) 1 = 0 then 0 else 4) else 4) else Nu.mnE (tx l.tail 2)) else 4
def hdC (l : List Sg) : Cl := ⟨tx l.tail 1, tx l 1, tx l 2, Nu.riV (tx l.tail 3) 1, Nu.riV (tx l.tail 4) 1, tx l.tail 5, []⟩
def hdT (l : List Sg) : Int := Nu.mnV (tx l.tail 2)
def clP (l : List Sg) : Int × List Ln × List Sg := svsA l.length [] l.tail.tail.tail
def clC (l : List Sg) : Cl := { hdC l.tail with lines := (clP l).2.1 }
def clE (k : Nat) (l : List Sg) : Int := if plB l tHL k = true then (if hdE l.tail = 0 then (if (clP l).1 = 0 then (if checkE (clC l) = 0 then (if totV (clC l).lines = hdT l.tail then 0 else 17) else checkE (clC l)) else (clP l).1) else hdE l.tail) else 11
def clsA : Nat → List Cl → List Sg → Int × List Cl
  | 0, acc, _ => (0, acc)
  | f + 1, acc, l => if l.isEmpty = true then (0, acc) else if acc.length = 256 then (10, []) else if clE (acc.length + 1) l = 0 then clsA f (acc ++ [clC l]) (clP l).2.2 else (clE (acc.length + 1) l, [])
def rsP (l : List Sg) : Int × List Cl := clsA l.length [] l.tail
def rsE (l : List Sg) : Int := if txB l tBHT 1 = true then (if Nu.riE (tx l 1) 3 = 0 then (if (rsP l).1 = 0 then (if ((rsP l).2.length : Int) = Nu.riV (tx l 1) 3 then 0 else 6) else (rsP l).1) else Nu.riE (tx l 1) 3) else 4
def rsV (l : List Sg) : List Cl := if rsE l = 0 then (rsP l).2 else []
def rE (s : Tx) : Int := if opE t837 s = 0 then rsE (opL t837 s) else opE t837 s
def rD (s : Tx) : UInt8 × UInt8 × UInt8 := if rE s = 0 then opD t837 s else (0, 0, 0)
def rN (s : Tx) : Int := if rE s = 0 then opN t837 s else 0
def rV (s : Tx) : List Cl := if rE s = 0 then rsV (opL t837 s) else []

/-! ### What a check says -/
theorem ri_itoa (n : Int) (k : Nat) (h0 : 0 ≤ n) (h1 : n < 10 ^ k) (hk : 1 ≤ k) (h18 : k ≤ 18) : Nu.riE (Lib.itoa n) (k : Int) = 0 ∧ Nu.riV (Lib.itoa n) (k : Int) = n ∧ (Lib.itoa n).length ≤ k ∧ 1 ≤ (Lib.itoa n).length := by
  obtain ⟨m, rfl⟩ : ∃ m : Nat, n = m := ⟨n.toNat, by omega⟩
  have e : Lib.itoa (m : Int) = Lib.decDigits m := by simp [Lib.itoa]
  have hm : m < 10 ^ k := by exact_mod_cast h1
  have ho := Nu.ri_dec m (k : Int) k hm hk h18 (Int.le_refl _)
  rw [e]
  refine ⟨by unfold Nu.riE; rw [if_pos ho], by unfold Nu.riV; rw [if_pos ho, Nu.dec_num], Nu.dec_len m k hm hk, ?_⟩
  have := Nu.dec_ne m
  cases h : Lib.decDigits m with
  | nil => exact absurd h this
  | cons a t => simp
theorem mn_moneyL (a : Int) (h0 : 0 ≤ a) (h1 : a ≤ 10000000000000) : Nu.mnE (Nu.moneyL a) = 0 ∧ Nu.mnV (Nu.moneyL a) = a ∧ (Nu.moneyL a).length ≤ 15 := by
  have e : Nu.moneyL a = Nu.moneyU a.natAbs := by unfold Nu.moneyL; rw [if_neg (by omega)]; rfl
  obtain ⟨ho, hv⟩ := Nu.mn_money a.natAbs (by omega)
  rw [e]
  refine ⟨by unfold Nu.mnE; rw [if_pos ho], by rw [hv]; omega, ?_⟩
  unfold Nu.moneyU
  have := Nu.dec_len (a.natAbs / 100) 12 (by omega) (by omega)
  simp [Nu.two]
  omega
theorem code_len {t : Tx} {f m : Int} (h : codeB t f m = true) : f ≤ (t.length : Int) ∧ (t.length : Int) ≤ m ∧ t.all Cm.signB = true := by
  simp only [codeB, Bool.and_eq_true, decide_eq_true_eq] at h
  exact ⟨h.1.1, h.1.2, h.2⟩
theorem line_facts {x : Ln} (h : lineE x = 0) : codeB x.proc 5 5 = true ∧ x.mods.length ≤ 4 ∧ (∀ t ∈ x.mods, codeB t 2 2 = true) ∧ 0 ≤ x.date ∧ x.date < 100000000 ∧ 1 ≤ x.units ∧ x.units ≤ 9999 ∧ 0 ≤ x.billed ∧ x.billed ≤ 10000000000000 ∧ 0 ≤ x.prior ∧ x.prior ≤ 10000000000000 := by
  unfold lineE at h
  split at h
  · next h1 =>
    split at h
    · next h2 =>
      split at h
      · next h3 =>
        split at h
        · next h4 =>
          simp only [codesB, modsB, Bool.and_eq_true, decide_eq_true_eq, List.all_eq_true] at h1
          simp only [unitsB, Bool.and_eq_true, decide_eq_true_eq] at h3
          simp only [moneyB, Ce.good, Bool.and_eq_true, decide_eq_true_eq] at h4
          have h2' := Da.good_bd _ h2
          refine ⟨h1.1, h1.2.1, h1.2.2, ?_, ?_, by omega, by omega, by omega, by omega, by omega, by omega⟩ <;> omega
        · cases h
      · cases h
    · cases h
  · cases h
theorem firstE_all (y : Int) : ∀ (ls : List Ln), firstE y ls = 0 → ∀ x ∈ ls, lineE x = 0
  | [], _, x, hx => by cases hx
  | z :: r, h, x, hx => by
    unfold firstE at h
    split at h
    · next h0 =>
      split at h
      · rcases List.mem_cons.1 hx with e | e
        · rw [e]; exact h0
        · exact firstE_all y r h x e
      · cases h
    · next h0 => exact absurd h h0
theorem check_facts {c : Cl} (h : checkE c = 0) : codeB c.id 1 12 = true ∧ codeB c.mem 1 12 = true ∧ codeB c.fam 1 12 = true ∧ (c.net = 0 ∨ c.net = 1) ∧ (c.does = 1 ∨ c.does = 7 ∨ c.does = 8) ∧ (c.ref = [] ∨ codeB c.ref 1 12 = true) ∧ c.lines.length ≤ 999 ∧ (∀ x ∈ c.lines, lineE x = 0) ∧ totE c.lines = 0 ∧ 0 ≤ totV c.lines ∧ totV c.lines ≤ 10000000000000 := by
  unfold checkE at h
  split at h
  case isFalse h0 => exact absurd h h0
  case isTrue h0 =>
    unfold headE at h0
    split at h0
    case isFalse => cases h0
    case isTrue n1 =>
    split at h0
    case isFalse => cases h0
    case isTrue n2 =>
    split at h0
    case isFalse => cases h0
    case isTrue n3 =>
    split at h0
    case isFalse => cases h0
    case isTrue n4 =>
    unfold restE at h
    split at h
    case isFalse => cases h
    case isTrue r1 =>
    split at h
    case isFalse => cases h
    case isTrue r2 =>
    split at h
    case isFalse r3 => exact absurd h r3
    case isTrue r3 =>
    simp only [namesB, Bool.and_eq_true] at n1
    simp only [netB, Bool.or_eq_true, decide_eq_true_eq] at n2
    simp only [doesB, Bool.or_eq_true, decide_eq_true_eq] at n4
    have n3' : c.ref = [] ∨ codeB c.ref 1 12 = true := by
      unfold refB at n3
      split at n3
      · exact Or.inl (by simpa using n3)
      · exact Or.inr n3
    have ht : 0 ≤ totV c.lines ∧ totV c.lines ≤ 10000000000000 := by
      unfold totE at h
      split at h
      case isFalse => cases h
      case isTrue s0 =>
      unfold totV
      rw [if_pos s0]
      unfold Ce.sumV
      obtain ⟨g, t⟩ := (sumE_zero _ _).1 s0
      have := Ce.tot_le (bil c.lines) c.lines.length g c.lines.length 0 (by omega)
      simp only [Ce.tot] at this
      repeat' split
      all_goals omega
    exact ⟨n1.1, n1.2.1, n1.2.2, n2, n4, n3', r1, firstE_all _ _ r3, h, ht.1, ht.2⟩
theorem firstC_all : ∀ (l : List Cl), firstC l = 0 → ∀ c ∈ l, checkE c = 0
  | [], _, x, hx => by cases hx
  | z :: r, h, x, hx => by
    unfold firstC at h
    split at h
    · next h0 =>
      rcases List.mem_cons.1 hx with e | e
      · rw [e]; exact h0
      · exact firstC_all r h x e
    · next h0 => exact absurd h h0
theorem firstC_of : ∀ (l : List Cl), (∀ c ∈ l, checkE c = 0) → firstC l = 0
  | [], _ => rfl
  | z :: r, h => by
    unfold firstC
    rw [if_pos (h z List.mem_cons_self)]
    exact firstC_of r fun c hc => h c (List.mem_cons_of_mem _ hc)
theorem batch_facts {n : Int} {l : List Cl} (h : batchE n l = 0) : 0 ≤ n ∧ n ≤ 999999999 ∧ l.length ≤ 256 ∧ ∀ c ∈ l, checkE c = 0 := by
  unfold batchE at h
  split at h
  case isFalse => cases h
  case isTrue h1 =>
  split at h
  case isFalse => cases h
  case isTrue h2 =>
  simp only [Bool.and_eq_true, decide_eq_true_eq] at h1
  exact ⟨h1.1, h1.2, h2, firstC_all l h⟩
theorem batch_of {n : Int} {l : List Cl} (h0 : 0 ≤ n) (h1 : n ≤ 999999999) (h2 : l.length ≤ 256) (h3 : ∀ c ∈ l, checkE c = 0) : batchE n l = 0 := by
  unfold batchE
  rw [if_pos (by simp [h0, h1]), if_pos h2]
  exact firstC_of l h3
end Go.Proofs.YtpmnepihaljamaaGreatDoor.Et
end

/-
  Segments in new memory: elements of one part each, laid one by one; rows of segments that grow.
-/
section
set_option linter.unusedSimpArgs false
namespace Go.Proofs.YtpmnepihaljamaaGreatDoor
open Go.RowKit

abbrev slc (p : Nat) : Value := .slice (some ⟨p, 0, none⟩) 1 1
/-- Texts, each in a block of its own. -/
def PtsAt (B : Nat) (ts : List Tx) (ps : List Nat) (w : World) : Prop :=
  ps.length = ts.length ∧ ps.Pairwise (· < ·) ∧ ∀ (j : Nat) t, ts[j]? = some t → ∃ p, ps[j]? = some p ∧ B ≤ p ∧ w.heap[p]? = some (.cells #[.string (mk t)] 9 (0, 0))
theorem PtsAt.nil (B : Nat) (w : World) : PtsAt B [] [] w := ⟨rfl, List.Pairwise.nil, fun j t h => by simp at h⟩
theorem PtsAt.at {B : Nat} {ts : List Tx} {ps : List Nat} {w : World} (h : PtsAt B ts ps w) (p : Nat) (hp : p ∈ ps) : ∃ t, B ≤ p ∧ w.heap[p]? = some (.cells #[.string (mk t)] 9 (0, 0)) := by
  obtain ⟨j, hj⟩ := List.getElem?_of_mem hp
  have hl : j < ts.length := by rw [← h.1]; exact (List.getElem?_eq_some_iff.1 hj).1
  obtain ⟨p', hp', h1, h2⟩ := h.2.2 j ts[j] (List.getElem?_eq_getElem hl)
  rw [hj] at hp'
  obtain rfl := Option.some.inj hp'
  exact ⟨_, h1, h2⟩
theorem PtsAt.lt {B : Nat} {ts : List Tx} {ps : List Nat} {w : World} (h : PtsAt B ts ps w) (p : Nat) (hp : p ∈ ps) : p < w.heap.size := by
  obtain ⟨t, _, h2⟩ := h.at p hp
  exact (Array.getElem?_eq_some_iff.1 h2).1
theorem PtsAt.kept {B : Nat} {ts : List Tx} {ps : List Nat} {w w' : World} {row : Option Nat} (h : PtsAt B ts ps w) (hg : w.grownBy w' row) (hne : ∀ p ∈ ps, some p ≠ row) : PtsAt B ts ps w' := by
  refine ⟨h.1, h.2.1, fun j t hj => ?_⟩
  obtain ⟨p, hp, h1, h2⟩ := h.2.2 j t hj
  exact ⟨p, hp, h1, by rw [hg.block p (h.lt p (List.mem_of_getElem? hp)) (hne p (List.mem_of_getElem? hp))]; exact h2⟩
theorem grownBy_below {w w' : World} (hb : Below w.heap.size w w') : w.grownBy w' none := ⟨hb.os, hb.tape, hb.output, hb.size, fun k hk _ => hb.block k hk⟩
theorem PtsAt.grw {B : Nat} {ts : List Tx} {ps : List Nat} {w w' : World} (h : PtsAt B ts ps w) (hb : Below w.heap.size w w') : PtsAt B ts ps w' := h.kept (grownBy_below hb) (by simp)
theorem PtsAt.snoc {B : Nat} {ts : List Tx} {ps : List Nat} {w : World} (h : PtsAt B ts ps w) (t : Tx) (hB : B ≤ w.heap.size) : PtsAt B (ts ++ [t]) (ps ++ [w.heap.size]) (w.alloc (.cells #[.string (mk t)] 9)) := by
  have hk := h.grw (below_alloc w (.cells #[.string (mk t)] 9))
  refine ⟨by simp [h.1], ?_, ?_⟩
  · rw [List.pairwise_append]
    refine ⟨h.2.1, by simp, fun a ha b hb => ?_⟩
    simp at hb
    subst hb
    exact h.lt a ha
  · exact snoc_get (R := fun (y : Tx) (p : Nat) => B ≤ p ∧ (w.alloc (.cells #[.string (mk t)] 9)).heap[p]? = some (.cells #[.string (mk y)] 9 (0, 0))) (xs := ts) (us := ps) (x := t) (u := w.heap.size) h.1 hk.2.2 ⟨hB, heap_alloc_new w _⟩
theorem tx_block {K : Nat → Prop} {w : World} {p : Nat} {t : Tx} (h : w.heap[p]? = some (.cells #[.string (mk t)] 9 (0, 0))) (hK : K p) : TxAt K w (slc p) [t] := by
  refine ⟨_, 1, rfl, Nat.le_refl _, by simp [maxLen], Or.inr ⟨p, 0, rfl, hK, (Array.getElem?_eq_some_iff.1 h).1, fun j x hj => ?_⟩⟩
  have h0 : j = 0 := by have := (List.getElem?_eq_some_iff.1 hj).1; simp at this; omega
  subst h0
  simp at hj
  subst hj
  exact ⟨_, by rw [cell_of_row w p 0 _ 9 (0, 0) h]; rfl, rfl⟩
/-- Elements of one part each, in a row that a box holds. -/
structure Sq (B gb : Nat) (ts : List Tx) (ps : List Nat) (gv : Value) (w : World) : Prop where
  box : w.heap[gb]? = some (.cells #[gv] 50 (0, 0))
  own : w.ownsRow B 45 1 gv ts.length (ps.map slc)
  pts : PtsAt B ts ps w
def SegAt (B : Nat) (ts : List Tx) (u : Value) (w : World) : Prop := ∃ ps, w.ownsRow B 45 1 u ts.length (ps.map slc) ∧ PtsAt B ts ps w
theorem pts_apart {B : Nat} {ts : List Tx} {ps : List Nat} {w : World} {v : Value} {n : Nat} {xs : List Value} {T : TypeId} (h : PtsAt B ts ps w) (ho : w.ownsRow B T 1 v n xs) (hT : (9 : TypeId) ≠ T) (p : Nat) (hp : p ∈ ps) : some p ≠ v.ownBlock := by
  obtain ⟨t, _, h2⟩ := h.at p hp
  exact fun e => Lib.ownBlock_ne ho h2 hT e.symm
theorem pts_not {B : Nat} {ts : List Tx} {ps : List Nat} {w : World} (h : PtsAt B ts ps w) {b : Nat} {cs : Array Value} {T : TypeId} {fr : Nat × Nat} (hb : w.heap[b]? = some (.cells cs T fr)) (hT : (9 : TypeId) ≠ T) (p : Nat) (hp : p ∈ ps) : p ≠ b := by
  obtain ⟨t, _, h2⟩ := h.at p hp
  intro e
  subst e
  rw [h2] at hb
  simp only [Option.some.injEq, Obj.cells.injEq] at hb
  exact hT hb.2.1
theorem SegAt.grw {B : Nat} {ts : List Tx} {u : Value} {w w' : World} (h : SegAt B ts u w) (hb : Below w.heap.size w w') : SegAt B ts u w' := by
  obtain ⟨ps, h1, h2⟩ := h
  exact ⟨ps, h1.kept (grownBy_below hb) (or_ne fun b _ => by simp), h2.grw hb⟩
/-- Such a segment, as elements that lie apart from whatever lay there before. -/
theorem SegAt.els {B : Nat} {ts : List Tx} {u : Value} {w : World} (h : SegAt B ts u w) : ElAt (fun b => B ≤ b) w u (ones ts) := by
  obtain ⟨ps, h1, h2⟩ := h
  have hl : (ones ts).length = ts.length := by simp [ones]
  refine row_of_own (by rw [hl]; exact h1) (fun b hb => (h1.lt b hb).1) fun j u y hu hy => ?_
  unfold ones at hy
  rw [List.getElem?_map] at hy hu
  cases ht : ts[j]? with
  | none => rw [ht] at hy; cases hy
  | some t =>
    rw [ht] at hy
    obtain rfl : [t] = y := by simpa using hy
    obtain ⟨p, hp, q1, q2⟩ := h2.2.2 j t ht
    rw [hp] at hu
    obtain rfl : slc p = u := by simpa using hu
    exact tx_block q2 q1
theorem SegAt.els_all {B : Nat} {ts : List Tx} {u : Value} {w : World} (h : SegAt B ts u w) : ElAt All w u (ones ts) := ElAt.move h.els (moves_weak w fun _ _ _ => trivial)
theorem Sq.lt {B gb : Nat} {ts : List Tx} {ps : List Nat} {gv : Value} {w : World} (h : Sq B gb ts ps gv w) : gb < w.heap.size := (Array.getElem?_eq_some_iff.1 h.box).1
theorem Sq.start (w : World) (n : Nat) (hn : n ≤ maxLen) :
    Sq w.heap.size (w.heap.size + 2) [] [] (.slice (some ⟨w.heap.size + 1, 0, none⟩) 0 n) (((w.alloc (.cells #[.slice none 0 0] 50)).alloc (.cells (madeCells #[.slice none 0 0] n) 45)).alloc (.cells #[.slice (some ⟨w.heap.size + 1, 0, none⟩) 0 n] 50)) := by
  have e1 : (w.alloc (.cells #[.slice none 0 0] 50)).heap.size = w.heap.size + 1 := by simp
  have hE := World.ownsRow_made (base := w.heap.size) (size := 1) (e := 45) (w.alloc (.cells #[.slice none 0 0] 50)) (madeCells #[.slice none 0 0] n) n (by rw [e1]; omega) hn (by rw [size_madeCells, Nat.mul_one])
  rw [e1] at hE
  refine ⟨?_, hE.alloc _, PtsAt.nil _ _⟩
  have := heap_alloc_new ((w.alloc (.cells #[.slice none 0 0] 50)).alloc (.cells (madeCells #[.slice none 0 0] n) 45)) (.cells #[.slice (some ⟨w.heap.size + 1, 0, none⟩) 0 n] 50)
  rwa [show ((w.alloc (.cells #[.slice none 0 0] 50)).alloc (.cells (madeCells #[.slice none 0 0] n) 45)).heap.size = w.heap.size + 2 from by simp] at this
theorem Sq.lay {B gb : Nat} {ts : List Tx} {ps : List Nat} {gv : Value} {w : World} (h : Sq B gb ts ps gv w) (x : Tx) (hB : B ≤ w.heap.size) (o : Obj) :
    (((w.alloc (.cells #[.string (_root_.Go.Proofs.YtpmnepihaljamaaGreatDoor.mk x)] 9)).alloc o).ownsRow B 45 1 gv ts.length (ps.map slc)) ∧ PtsAt B (ts ++ [x]) (ps ++ [w.heap.size]) ((w.alloc (.cells #[.string (_root_.Go.Proofs.YtpmnepihaljamaaGreatDoor.mk x)] 9)).alloc o) ∧ ((w.alloc (.cells #[.string (_root_.Go.Proofs.YtpmnepihaljamaaGreatDoor.mk x)] 9)).alloc o).heap[gb]? = some (.cells #[gv] 50 (0, 0)) := by
  have hb := below_trans (below_alloc w (.cells #[.string (_root_.Go.Proofs.YtpmnepihaljamaaGreatDoor.mk x)] 9)) (below_alloc _ o)
  exact ⟨(h.own.alloc _).alloc _, (h.pts.snoc x hB).grw (below_alloc _ o), by rw [hb.block gb h.lt]; exact h.box⟩
theorem Sq.elem {B gb q : Nat} {ts : List Tx} {ps : List Nat} {gv gv' : Value} {W w' : World} {n : Nat} (ho : W.ownsRow B 45 1 gv n (ps.map slc)) (hp : PtsAt B ts (ps ++ [q]) W) (hx : W.heap[gb]? = some (.cells #[gv] 50 (0, 0)))
    (hown : w'.ownsRow B 45 1 gv' ts.length (ps.map slc ++ [slc q])) (hg : W.grownBy w' gv.ownBlock) : Sq B gb ts (ps ++ [q]) gv' (w'.setCell ⟨gb, 0, none⟩ gv') := by
  have hgbw : w'.heap[gb]? = some (.cells #[gv] 50 (0, 0)) := by rw [hg.block gb (Array.getElem?_eq_some_iff.1 hx).1 (Ne.symm (own_box ho hx (by decide)))]; exact hx
  have hs : w'.grownBy (w'.setCell ⟨gb, 0, none⟩ gv') (some gb) := ⟨rfl, rfl, rfl, by simp [World.setCell], fun k _ hk => Below.heap_setCell _ _ _ _ (fun e => hk (by rw [show k = gb from e]))⟩
  have hp' := hp.kept hg (pts_apart hp ho (by decide))
  refine ⟨by rw [heap_set hgbw]; rfl, ?_, hp'.kept hs fun p hpm e => pts_not hp' hgbw (by decide) p hpm (Option.some.inj e)⟩
  rw [List.map_append]
  exact World.ownsRow.kept hown hs (or_ne fun b hb e => by
    have h1 := Lib.ownBlock_ne hown hgbw (by decide)
    rw [hb, ← e] at h1
    exact h1 rfl)
/-- Behind the store of what is answered, in a box apart. -/
theorem Sq.done {B gb rb : Nat} {ts : List Tx} {ps : List Nat} {gv cv v : Value} {w : World} (h : Sq B gb ts ps gv w) (hr : w.heap[rb]? = some (.cells #[cv] 50 (0, 0))) : SegAt B ts gv (w.setCell ⟨rb, 0, none⟩ v) := by
  have hs : w.grownBy (w.setCell ⟨rb, 0, none⟩ v) (some rb) := ⟨rfl, rfl, rfl, by simp [World.setCell], fun k _ hk => Below.heap_setCell _ _ _ _ (fun e => hk (by rw [show k = rb from e]))⟩
  refine ⟨ps, World.ownsRow.kept h.own hs (or_ne fun b hb e => ?_), h.pts.kept hs fun p hpm e => pts_not h.pts hr (by decide) p hpm (Option.some.inj e)⟩
  have h1 := Lib.ownBlock_ne h.own hr (by decide)
  rw [hb, ← e] at h1
  exact h1 rfl

/-! ### Rows of segments that grow, in new memory -/
def NewAt (B : Nat) (gs : List Sg) (lv : Value) (w : World) : Prop := ∃ cs : List Value, w.ownsRow B 50 1 lv gs.length cs ∧ ∀ (i : Nat) g, gs[i]? = some g → ∃ u, cs[i]? = some u ∧ ElAt (fun b => B ≤ b ∧ lv.ownBlock ≠ some b) w u g
theorem NewAt.grw {B : Nat} {gs : List Sg} {lv : Value} {w w' : World} (h : NewAt B gs lv w) (hb : Below w.heap.size w w') : NewAt B gs lv w' := by
  obtain ⟨cs, h1, h2⟩ := h
  refine ⟨cs, h1.kept (grownBy_below hb) (or_ne fun b _ => by simp), fun i g hi => ?_⟩
  obtain ⟨u, hu, he⟩ := h2 i g hi
  exact ⟨u, hu, ElAt.move he ⟨hb.size, fun b hb' hk => ⟨hk, hb.block b hb'⟩⟩⟩
theorem NewAt.segs {B : Nat} {gs : List Sg} {lv : Value} {w : World} (h : NewAt B gs lv w) : SgAt (fun b => B ≤ b) w lv gs := by
  obtain ⟨cs, h1, h2⟩ := h
  refine row_of_own h1 (fun b hb => (h1.lt b hb).1) fun j u y hu hy => ?_
  obtain ⟨u', hu', he⟩ := h2 j y hy
  rw [hu] at hu'
  obtain rfl := Option.some.inj hu'
  exact ElAt.move he (moves_weak w fun _ _ hk => hk.1)
theorem NewAt.all {B : Nat} {gs : List Sg} {lv : Value} {w : World} (h : NewAt B gs lv w) : SgAt All w lv gs := SgAt.move h.segs (moves_weak w fun _ _ _ => trivial)
theorem NewAt.form {B : Nat} {gs : List Sg} {lv : Value} {w : World} (h : NewAt B gs lv w) : ∃ a c, lv = .slice a gs.length c := by
  obtain ⟨cs, h1, -⟩ := h
  exact own_form h1
/-- What lies in memory made since, appended. -/
theorem NewAt.app {B : Nat} {gs l : List Sg} {lv v' : Value} {w w' : World} {cs news : List Value} (h1 : w.ownsRow B 50 1 lv gs.length cs) (h2 : ∀ (i : Nat) g, gs[i]? = some g → ∃ u, cs[i]? = some u ∧ ElAt (fun b => B ≤ b ∧ lv.ownBlock ≠ some b) w u g)
    (hl : news.length = l.length) (hu : ∀ (j : Nat) u g, news[j]? = some u → l[j]? = some g → ElAt (fun b => B ≤ b ∧ lv.ownBlock ≠ some b) w u g) (ho : w'.ownsRow B 50 1 v' (gs.length + l.length) (cs ++ news)) (hg : w.grownBy w' lv.ownBlock) (hat : v'.ownBlock = lv.ownBlock ∨ v'.ownBlock = some w.heap.size) : NewAt B (gs ++ l) v' w' := by
  have hm : Moves (fun b => B ≤ b ∧ lv.ownBlock ≠ some b) (fun b => B ≤ b ∧ v'.ownBlock ≠ some b) w w' := moves_grown hg fun b hb hk => ⟨⟨hk.1, by
    rcases hat with e | e
    · rw [e]; exact hk.2
    · rw [e]; intro e2; have := Option.some.inj e2; omega⟩, Ne.symm hk.2⟩
  have hcl : cs.length = gs.length := by have := h1.1; omega
  refine ⟨cs ++ news, by rw [List.length_append]; exact ho, fun i x hi => ?_⟩
  rcases Nat.lt_or_ge i gs.length with hlt | hge
  · rw [List.getElem?_append_left hlt] at hi
    obtain ⟨u', hu', he⟩ := h2 i x hi
    exact ⟨u', by rw [List.getElem?_append_left (by omega)]; exact hu', ElAt.move he hm⟩
  · rw [List.getElem?_append_right hge] at hi
    have hil : i - gs.length < news.length := by rw [hl]; exact (List.getElem?_eq_some_iff.1 hi).1
    have hn := List.getElem?_eq_getElem hil
    refine ⟨news[i - gs.length], by rw [List.getElem?_append_right (by omega), hcl]; exact hn, ElAt.move (hu _ _ _ hn hi) hm⟩
/-- A row of segments that was just laid. -/
theorem NewAt.laid {B : Nat} {w : World} (us : List Value) (gs : List Sg) (hB : B ≤ w.heap.size) (hl : us.length = gs.length) (hm : gs.length ≤ maxLen) (hE : ∀ (j : Nat) u g, us[j]? = some u → gs[j]? = some g → ElAt (fun b => B ≤ b) w u g) :
    NewAt B gs (.slice (some ⟨w.heap.size, 0, none⟩) gs.length gs.length) (w.alloc (.cells us.toArray 50)) := by
  refine ⟨us, ⟨by rw [hl, Nat.mul_one], Or.inr ⟨w.heap.size, gs.length, us.toArray, rfl, hB, heap_alloc_new w _, Nat.le_refl _, hm, by simp [hl], by rw [Nat.mul_one, ← hl]; simp⟩⟩, fun i g hi => ?_⟩
  have hil : i < us.length := by rw [hl]; exact (List.getElem?_eq_some_iff.1 hi).1
  refine ⟨us[i], List.getElem?_eq_getElem hil, ElAt.move (hE i _ g (List.getElem?_eq_getElem hil) hi) ⟨by simp, fun b hb hk => ⟨⟨hk, ?_⟩, Below.heap_alloc w _ b hb⟩⟩⟩
  simp only [Value.ownBlock]
  intro e
  have := Option.some.inj e
  omega
/-- Memory that was made behind a row's is not the row's. -/
theorem new_apart {B : Nat} {gs : List Sg} {lv u : Value} {w w' : World} {g : Sg} (h : NewAt B gs lv w) (he : ElAt (fun b => w.heap.size ≤ b) w' u g) (hB : B ≤ w.heap.size) : ElAt (fun b => B ≤ b ∧ lv.ownBlock ≠ some b) w' u g := by
  obtain ⟨cs, h1, _⟩ := h
  refine ElAt.move he (moves_weak w' fun b hb' hk => ⟨by omega, fun e => ?_⟩)
  have := (h1.lt b e).2
  omega
end Go.Proofs.YtpmnepihaljamaaGreatDoor
end
