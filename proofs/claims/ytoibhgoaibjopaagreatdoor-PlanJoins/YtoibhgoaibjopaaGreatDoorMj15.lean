/-
  Texts put together (merge.py): PPair, NLib, NCut.
-/
import Derived.Lib.ItoaMem
import Derived.Below
import Derived.Deep.QuietTactic
import Derived.BigQuiet
import Derived.RegionTactic
import Derived.ChangeAlike
import Derived.Lib.IndexBytes
import Derived.Shelf.RegionOpenPlain
import Derived.Test.YtoibhgoaibjopaaGreatDoorMj11
import Derived.Test.YtoibhgoaibjopaaGreatDoorShelf
/-
  What the reader's pair does, as a contract, where condition does what it should one deeper.
-/
section
set_option linter.unusedSimpArgs false
set_option linter.unusedVariables false
set_option maxRecDepth 100000
namespace Go.Proofs.YtoibhgoaibjopaaGreatDoor.Pl
open Go.RowKit
open Wo (Wd WdsAt box_cell box_two keepB heap_far)

/-- A condition that was read: its rows lie in blocks from B on. -/
def Cnd (B : Nat) (c : Cd) (v : Value) (w : World) : Prop := ∃ a n k, v = cdv c (.slice a n k) ∧ KsAt (fun b => B ≤ b) w (.slice a n k) c.kids ∧ Ok1 c
theorem moves_rd {q B : Nat} {w w' : World} (hg : w.grownBy w' (some q)) (hq : q < B) : Moves (fun b => B ≤ b) (fun b => B ≤ b) w w' := moves_grown hg fun b _ hk => ⟨hk, fun e => by have : b = q := Option.some.inj e; omega⟩
theorem moves_set {B p j : Nat} (w : World) (u : Value) (hp : p < B) : Moves (fun b => B ≤ b) (fun b => B ≤ b) w (w.setCell ⟨p, j, none⟩ u) := ⟨by simp [World.setCell], fun b _ hk => ⟨hk, Below.heap_setCell _ _ _ _ (by show b ≠ p; omega)⟩⟩
theorem moves_low {B C : Nat} (w : World) (h : C ≤ B) : Moves (fun b => B ≤ b) (fun b => C ≤ b) w w := moves_weak w fun b _ hk => by show C ≤ b; have : B ≤ b := hk; omega
theorem moves_new {K : Nat → Prop} {w w' : World} (hb : Below w.heap.size w w') : Moves K K w w' := ⟨hb.size, fun b hb' hk => ⟨hk, hb.block b hb'⟩⟩
theorem box_froz {w : World} {q : Nat} {cs : Array Value} {T : TypeId} (h : w.heap[q]? = some (.cells cs T (0, 0))) (j : Nat) : w.frozen? ⟨q, j, none⟩ = false := Lib.frozen_of_heap h j
theorem box_five {w : World} {q : Nat} {a b c d e : Value} {T : TypeId} (h : w.heap[q]? = some (.cells #[a, b, c, d, e] T (0, 0))) : w.cell? ⟨q, 0, none⟩ = some a ∧ w.cell? ⟨q, 1, none⟩ = some b ∧ w.cell? ⟨q, 2, none⟩ = some c ∧ w.cell? ⟨q, 3, none⟩ = some d ∧ w.cell? ⟨q, 4, none⟩ = some e := by
  refine ⟨?_, ?_, ?_, ?_, ?_⟩ <;> rw [cell_of_row w q _ _ T (0, 0) h] <;> rfl
theorem thrown {P : Program} {fn : Func} {R : Ending → World → Prop} {a : Act} {w : World} {ch : List PanicEntry} (h : a.defers = []) (hR : R (.panicked ch) w) : bodyPost P fn R (.panic ch) a w := ⟨h, hR⟩
abbrev z5 : Array Value := #[.int .i64 0, .string ⟨#[]⟩, .string ⟨#[]⟩, .int .i64 0, .slice none 0 0]
/-- Five cells laid into a box. -/
abbrev put5 (w : World) (p : Nat) (a b c d e : Value) : World := ((((w.setCell ⟨p, 0, none⟩ a).setCell ⟨p, 1, none⟩ b).setCell ⟨p, 2, none⟩ c).setCell ⟨p, 3, none⟩ d).setCell ⟨p, 4, none⟩ e
theorem moves_put5 {B p : Nat} (w : World) (a b c d e : Value) (hp : p < B) : Moves (fun b => B ≤ b) (fun b => B ≤ b) w (put5 w p a b c d e) := ((((moves_set w a hp).trans (moves_set _ b hp)).trans (moves_set _ c hp)).trans (moves_set _ d hp)).trans (moves_set _ e hp)
theorem grown_put5 {w W : World} {q : Option Nat} (h : w.grownBy W q) {p : Nat} (hp : w.heap.size ≤ p) (a b c d e : Value) : w.grownBy (put5 W p a b c d e) q := grown_new (grown_new (grown_new (grown_new (grown_new h hp 0 a) hp 1 b) hp 2 c) hp 3 d) hp 4 e
theorem rd_set {q E p : Nat} {l : List Wd} {w : World} (h : RdAt q E l w) (hp : q < p) (j : Nat) (u : Value) : RdAt q E l (w.setCell ⟨p, j, none⟩ u) := by
  obtain ⟨v, h1, h2, h3⟩ := h
  exact ⟨v, heap_far h1 (by omega), h2.move ⟨by simp [World.setCell], fun b _ hk => ⟨hk, Below.heap_setCell _ _ _ _ (by show b ≠ p; have : b < q := hk; omega)⟩⟩, h3⟩
theorem rd_put5 {q E p : Nat} {l : List Wd} {w : World} (h : RdAt q E l w) (hp : q < p) (a b c d e : Value) : RdAt q E l (put5 w p a b c d e) := rd_set (rd_set (rd_set (rd_set (rd_set h hp 0 a) hp 1 b) hp 2 c) hp 3 d) hp 4 e
abbrev c5 (c : Cd) (m : Value) : List Value := [.int .i64 c.kind, .string (mk c.lo), .string (mk c.hi), .int .i64 c.n, m]
theorem cells_at {w : World} {b : Nat} {cs : Array Value} {T : TypeId} (h : w.heap[b]? = some (.cells cs T (0, 0))) (k : Nat) (c : Cd) (m : Value) (hc : ∀ j, j < 5 → cs[k * 5 + j]? = (c5 c m)[j]?) : CdCells w b (0 + k * 5) c m := by
  have e : ∀ j, j < 5 → w.cell? ⟨b, 0 + k * 5 + j, none⟩ = (c5 c m)[j]? := fun j hj => by rw [cell_of_row w b _ cs T (0, 0) h, Nat.zero_add]; exact hc j hj
  exact ⟨e 0 (by omega), e 1 (by omega), e 2 (by omega), e 3 (by omega), e 4 (by omega)⟩
theorem ks_one {K : Nat → Prop} {w : World} {b : Nat} {c : Cd} {m : Value} {T : TypeId} (h : w.heap[b]? = some (.cells #[.int .i64 c.kind, .string (mk c.lo), .string (mk c.hi), .int .i64 c.n, m] T (0, 0))) (hK : K b) (hc : KsAt K w m c.kids) (ho : Ok1 c) : KsAt K w (.slice (some ⟨b, 0, none⟩) 1 1) [c] := by
  refine KsAt.mk (some ⟨b, 0, none⟩) 1 (fun _ => m) rfl (by simp) (by simp [maxLen]) (by simpa using ho) (Or.inr ⟨b, 0, rfl, hK, (Array.getElem?_eq_some_iff.1 h).1, fun j x hj => ?_⟩) (fun j x hj => ?_)
  · match j, hj with
    | 0, hj => simp at hj; subst hj; exact cells_at h 0 c m fun j hj => by match j, hj with | 0, _ => rfl | 1, _ => rfl | 2, _ => rfl | 3, _ => rfl | 4, _ => rfl
  · match j, hj with
    | 0, hj => simp at hj; subst hj; exact hc
theorem ks_two {K : Nat → Prop} {w : World} {b : Nat} {c d : Cd} {m m' : Value} {T : TypeId} (h : w.heap[b]? = some (.cells #[.int .i64 c.kind, .string (mk c.lo), .string (mk c.hi), .int .i64 c.n, m, .int .i64 d.kind, .string (mk d.lo), .string (mk d.hi), .int .i64 d.n, m'] T (0, 0))) (hK : K b) (hc : KsAt K w m c.kids) (ho : Ok1 c) (hc' : KsAt K w m' d.kids) (ho' : Ok1 d) : KsAt K w (.slice (some ⟨b, 0, none⟩) 2 2) [c, d] := by
  refine KsAt.mk (some ⟨b, 0, none⟩) 2 (fun j => if j = 0 then m else m') rfl (by simp) (by simp [maxLen]) (by simp; exact ⟨ho, ho'⟩) (Or.inr ⟨b, 0, rfl, hK, (Array.getElem?_eq_some_iff.1 h).1, fun j x hj => ?_⟩) (fun j x hj => ?_)
  · match j, hj with
    | 0, hj => simp at hj; subst hj; exact cells_at h 0 c m fun j hj => by match j, hj with | 0, _ => rfl | 1, _ => rfl | 2, _ => rfl | 3, _ => rfl | 4, _ => rfl
    | 1, hj => simp at hj; subst hj; exact cells_at h 1 d m' fun j hj => by match j, hj with | 0, _ => rfl | 1, _ => rfl | 2, _ => rfl | 3, _ => rfl | 4, _ => rfl
  · match j, hj with
    | 0, hj => simp at hj; subst hj; exact hc
    | 1, hj => simp at hj; subst hj; exact hc'
theorem tx1 {K : Nat → Prop} (w : World) (t : Tx) (hK : K w.heap.size) : TxAt K (w.alloc (.cells #[.string (mk t)] 9)) (.slice (some ⟨w.heap.size, 0, none⟩) 1 1) [t] := by
  refine ⟨_, 1, rfl, by simp, by simp [maxLen], Or.inr ⟨w.heap.size, 0, rfl, hK, by simp, fun j x hj => ?_⟩⟩
  have h := heap_alloc_new w (.cells #[.string (mk t)] 9)
  match j, hj with
  | 0, hj => simp at hj; subst hj; exact ⟨_, by rw [cell_of_row _ _ _ _ _ _ h]; rfl, rfl⟩
theorem tx2 {K : Nat → Prop} (w : World) (t s : Tx) (hK : K w.heap.size) : TxAt K (w.alloc (.cells #[.string (mk t), .string (mk s)] 9)) (.slice (some ⟨w.heap.size, 0, none⟩) 2 2) [t, s] := by
  refine ⟨_, 2, rfl, by simp, by simp [maxLen], Or.inr ⟨w.heap.size, 0, rfl, hK, by simp, fun j x hj => ?_⟩⟩
  have h := heap_alloc_new w (.cells #[.string (mk t), .string (mk s)] 9)
  match j, hj with
  | 0, hj => simp at hj; subst hj; exact ⟨_, by rw [cell_of_row _ _ _ _ _ _ h]; rfl, rfl⟩
  | 1, hj => simp at hj; subst hj; exact ⟨_, by rw [cell_of_row _ _ _ _ _ _ h]; rfl, rfl⟩
/-- One word that must stand there, as its caller lays it. -/
theorem must_any (q E : Nat) (l : List Wd) (t : Tx) (w : World) (h : RdAt q E l w) (ht : t ≠ []) :
    Calls Tryz.prog 46 #[.pointer (some ⟨q, 0, none⟩), .slice (some ⟨w.heap.size, 0, none⟩) 1 1] (w.alloc (.cells #[.string (mk t)] 9)) fun e w' =>
      w.grownBy w' (some q) ∧ match pTake E t l with | .ok r => e = .returned (.int .i64 0) ∧ RdAt q E r w' | .error f => e = thr f := by
  have hb := below_alloc w (.cells #[.string (mk t)] 9)
  refine (choice_any q E l _ [t] _ (h.grw hb) (tx1 w t (by have := h.lt; omega)) (by simp only [List.mem_singleton]; exact fun e => ht e.symm)).mono ?_
  rintro e w' ⟨hg, ha⟩
  refine ⟨grown_tr (grown_of hb) hg, ?_⟩
  cases l with
  | nil => exact ha
  | cons x r =>
    obtain ⟨x, a⟩ := x
    simp only [pCh, List.mem_singleton] at ha
    simp only [pTake]
    by_cases hx : x = t
    · rw [if_pos hx] at ha ⊢
      obtain ⟨⟨v, rfl, hv⟩, hr⟩ := ha
      obtain rfl : v = _ := hv
      exact ⟨by simp [ixI, ixF, hx], hr⟩
    · rw [if_neg hx] at ha ⊢
      exact ha
/-- One of two words. -/
theorem one_any (q E : Nat) (l : List Wd) (t s : Tx) (w : World) (h : RdAt q E l w) (ht : t ≠ []) (hs : s ≠ []) (hts : t ≠ s) :
    Calls Tryz.prog 46 #[.pointer (some ⟨q, 0, none⟩), .slice (some ⟨w.heap.size, 0, none⟩) 2 2] (w.alloc (.cells #[.string (mk t), .string (mk s)] 9)) fun e w' =>
      w.grownBy w' (some q) ∧ ((∃ r, (∃ a, l = (t, a) :: r) ∧ e = .returned (.int .i64 0) ∧ RdAt q E r w') ∨ (∃ r, (∃ a, l = (s, a) :: r) ∧ e = .returned (.int .i64 1) ∧ RdAt q E r w') ∨ ((∀ x, l.head? = some x → x.1 ≠ t ∧ x.1 ≠ s) ∧ e = thr (4, pos E l))) := by
  have hb := below_alloc w (.cells #[.string (mk t), .string (mk s)] 9)
  refine (choice_any q E l _ [t, s] _ (h.grw hb) (tx2 w t s (by have := h.lt; omega)) (by simp only [List.mem_cons, List.not_mem_nil, or_false, not_or]; exact ⟨fun e => ht e.symm, fun e => hs e.symm⟩)).mono ?_
  rintro e w' ⟨hg, ha⟩
  refine ⟨grown_tr (grown_of hb) hg, ?_⟩
  cases l with
  | nil => exact Or.inr (Or.inr ⟨by simp, ha⟩)
  | cons x r =>
    obtain ⟨x, a⟩ := x
    simp only [pCh, List.mem_cons, List.not_mem_nil, or_false] at ha
    by_cases hx : x = t
    · rw [if_pos (Or.inl hx)] at ha
      obtain ⟨⟨v, rfl, hv⟩, hr⟩ := ha
      obtain rfl : v = _ := hv
      exact Or.inl ⟨r, ⟨a, by rw [hx]⟩, by simp [ixI, ixF, hx], hr⟩
    by_cases hy : x = s
    · rw [if_pos (Or.inr hy)] at ha
      obtain ⟨⟨v, rfl, hv⟩, hr⟩ := ha
      obtain rfl : v = _ := hv
      exact Or.inr (Or.inl ⟨r, ⟨a, by rw [hy]⟩, by simp [ixI, ixF, hy, fun e : t = s => hts e], hr⟩)
    · rw [if_neg (by simp [hx, hy])] at ha
      exact Or.inr (Or.inr ⟨fun z hz => by simp at hz; subst hz; exact ⟨hx, hy⟩, ha⟩)
def pPair (E f : Nat) (l : List Wd) : R Cd :=
  match pC E f l with
  | .error e => .error e
  | .ok (c, r) => match pOp E r with
    | .error e => .error e
    | .ok (k, r) => match pC E f r with
      | .error e => .error e
      | .ok (d, r) => match pTake E tC r with
        | .error e => .error e
        | .ok r => .ok (.mk k [] [] 0 [c, d], r)
theorem op_none {E : Nat} {l : List Wd} (h : ∀ x, l.head? = some x → x.1 ≠ tAnd ∧ x.1 ≠ tOr) : pOp E l = .error (4, pos E l) := by
  cases l with
  | nil => rfl
  | cons x r =>
    obtain ⟨x, a⟩ := x
    obtain ⟨h1, h2⟩ := h (x, a) rfl
    simp only [pOp]
    rw [if_neg h1, if_neg h2]; rfl
theorem ok1_zero {k : Int} (hk : Cm.I64 k) (ks : List Cd) (h : ks.length ≤ Big) : Ok1 (.mk k [] [] 0 ks) := ⟨hk, ⟨by show (-9223372036854775808 : Int) ≤ 0; omega, by show (0 : Int) ≤ 9223372036854775807; omega⟩, Nat.zero_le _, Nat.zero_le _, h⟩
set_option maxHeartbeats 8000000 in
theorem pair_any (f : Nat) (d : Int) (q E : Nat) (IH : ∀ l w, RdAt q E l w → Calls Tryz.prog 80 #[.pointer (some ⟨q, 0, none⟩), .int .i64 d] w fun e w' => Ans q E w (Cnd w.heap.size) (pC E f l) e w') (l : List Wd) (w : World) (h : RdAt q E l w) :
    Calls Tryz.prog 97 #[.pointer (some ⟨q, 0, none⟩), .int .i64 d] w fun e w' => Ans q E w (Cnd w.heap.size) (pPair E f l) e w' := by
  have hq := h.lt
  have hb0 := below_alloc w (.cells z5 32)
  have HR0 := Lib.hid (h.grw hb0)
  have HG0 := Lib.hid (grown_of (p := some q) hb0)
  have HB0 := Lib.hid (heap_alloc_new w (.cells z5 32))
  have HS0 : Hid ((w.alloc (.cells z5 32)).heap.size = w.heap.size + 1) := by show _ = _; simp
  clear h hb0
  go_enter Tryz.func97, Tryz.ntmps97
  go_upto_region 1 with fail
  generalize w.alloc (.cells z5 32) = Wa at *
  go_wp2_with fail
  go_at_call 80
  refine (IH l Wa HR0.out).mono ?_
  rintro e w1 ⟨hg1, ha1⟩
  cases hc1 : pC E f l with
  | error fl =>
    rw [hc1] at ha1
    obtain rfl := ha1
    refine thrown rfl ⟨grown_tr HG0.out hg1, ?_⟩
    unfold pPair
    rw [hc1]
  | ok p1 =>
    obtain ⟨c, r1⟩ := p1
    rw [hc1] at ha1
    obtain ⟨⟨v1, rfl, a1, n1, k1, rfl, hK1, ho1⟩, hr1⟩ := ha1
    have hbx := below_alloc w1 (.cells #[.int .i64 c.kind, .string (mk c.lo), .string (mk c.hi), .int .i64 c.n, .slice a1 n1 k1] 32)
    have hs1 := hg1.size
    have HR1 := Lib.hid (hr1.grw hbx)
    have HG1 := Lib.hid (grown_tr HG0.out (grown_alloc hg1 (.cells #[.int .i64 c.kind, .string (mk c.lo), .string (mk c.hi), .int .i64 c.n, .slice a1 n1 k1] 32)))
    have HB1 := Lib.hid (keepB (grown_heap HB0.out hg1 (by omega)) hbx)
    have HP1 := Lib.hid (heap_alloc_new w1 (.cells #[.int .i64 c.kind, .string (mk c.lo), .string (mk c.hi), .int .i64 c.n, .slice a1 n1 k1] 32))
    rw [HS0.out] at hK1 hs1
    have HK1 := Lib.hid (hK1.move (moves_new hbx))
    have HO1 := Lib.hid ho1
    have HC1 := Lib.hid hc1
    clear hg1 hr1 hK1 ho1 hc1 hbx HR0 HG0 HB0 HS0
    go_upto_region 3 with fail
    have hp1 : w1.heap.size ≠ q := by omega
    have hz1 : w.heap.size + 2 ≤ (w1.alloc (.cells #[.int .i64 c.kind, .string (mk c.lo), .string (mk c.hi), .int .i64 c.n, .slice a1 n1 k1] 32)).heap.size := by simp; omega
    generalize w1.alloc (.cells #[.int .i64 c.kind, .string (mk c.lo), .string (mk c.hi), .int .i64 c.n, .slice a1 n1 k1] 32) = W1 at *
    generalize w1.heap.size = b1 at *
    go_wp2_with fail
    go_at_call 46
    refine (one_any q E r1 tAnd tOr W1 HR1.out (by decide) (by decide) (by decide)).mono ?_
    rintro e w2 ⟨hg2, ha2⟩
    have hs2 := HG1.out.size
    have hs3 := hg2.size
    have HG2 := Lib.hid (grown_tr HG1.out hg2)
    have HB2 := Lib.hid (grown_heap HB1.out hg2 (by omega))
    have HP2 := Lib.hid (grown_heap HP1.out hg2 hp1)
    have HK2 := Lib.hid (HK1.out.move (moves_rd hg2 (by omega)))
    clear hg2 HG1 HB1 HP1 HK1 HR1
    rcases ha2 with ⟨r2, ⟨pa, rfl⟩, rfl, hr2⟩ | ⟨r2, ⟨pa, rfl⟩, rfl, hr2⟩ | ⟨hno, rfl⟩
    case inr.inr =>
      refine thrown rfl ⟨HG2.out, ?_⟩
      unfold pPair
      rw [HC1.out]
      simp only [op_none hno]
    all_goals
      have HR2 := Lib.hid hr2
      clear hr2
      go_wp2_with fail
      go_at_call 80
      refine (IH r2 w2 HR2.out).mono ?_
      rintro e w3 ⟨hg3, ha3⟩
      cases hc3 : pC E f r2 with
      | error fl =>
        rw [hc3] at ha3
        obtain rfl := ha3
        refine thrown rfl ⟨grown_tr HG2.out hg3, ?_⟩
        unfold pPair
        rw [HC1.out]
        simp [pOp, tAnd, tOr, hc3]
      | ok p3 =>
        obtain ⟨d3, r3⟩ := p3
        rw [hc3] at ha3
        obtain ⟨⟨v3, rfl, a3, n3, k3, rfl, hK3, ho3⟩, hr3⟩ := ha3
        have hbx := below_alloc w3 (.cells #[.int .i64 d3.kind, .string (mk d3.lo), .string (mk d3.hi), .int .i64 d3.n, .slice a3 n3 k3] 32)
        have hs4 := hg3.size
        have HR3 := Lib.hid (hr3.grw hbx)
        have HG3 := Lib.hid (grown_tr HG2.out (grown_alloc hg3 (.cells #[.int .i64 d3.kind, .string (mk d3.lo), .string (mk d3.hi), .int .i64 d3.n, .slice a3 n3 k3] 32)))
        have HB3 := Lib.hid (keepB (grown_heap HB2.out hg3 (by omega)) hbx)
        have HP3 := Lib.hid (keepB (grown_heap HP2.out hg3 hp1) hbx)
        have HD3 := Lib.hid (heap_alloc_new w3 (.cells #[.int .i64 d3.kind, .string (mk d3.lo), .string (mk d3.hi), .int .i64 d3.n, .slice a3 n3 k3] 32))
        have HK3 := Lib.hid ((HK2.out.move (moves_rd hg3 (by omega))).move (moves_new hbx))
        have HKD := Lib.hid ((hK3.move (moves_low _ (show w.heap.size + 1 ≤ w2.heap.size by omega))).move (moves_new hbx))
        have HO3 := Lib.hid ho3
        have HC3 := Lib.hid hc3
        have hp3 : w3.heap.size ≠ q := by omega
        have hz3 : w.heap.size + 3 ≤ (w3.alloc (.cells #[.int .i64 d3.kind, .string (mk d3.lo), .string (mk d3.hi), .int .i64 d3.n, .slice a3 n3 k3] 32)).heap.size := by simp; omega
        clear hg3 hr3 hK3 ho3 hc3 hbx HR2 HG2 HB2 HP2 HK2
        go_upto_region 6 with fail
        generalize w3.alloc (.cells #[.int .i64 d3.kind, .string (mk d3.lo), .string (mk d3.hi), .int .i64 d3.n, .slice a3 n3 k3] 32) = W3 at *
        generalize w3.heap.size = b3 at *
        go_wp2_with fail
        go_at_call 46
        refine (must_any q E r3 tC W3 HR3.out (by decide)).mono ?_
        rintro e w4 ⟨hg4, ha4⟩
        have hs5 := HG3.out.size
        have hs6 := hg4.size
        have HG4 := Lib.hid (grown_tr HG3.out hg4)
        have HB4 := Lib.hid (grown_heap HB3.out hg4 (by omega))
        have HP4 := Lib.hid (grown_heap HP3.out hg4 hp1)
        have HD4 := Lib.hid (grown_heap HD3.out hg4 hp3)
        have HK4 := Lib.hid (HK3.out.move (moves_rd hg4 (by omega)))
        have HKD4 := Lib.hid (HKD.out.move (moves_rd hg4 (by omega)))
        clear hg4 HG3 HB3 HP3 HK3 HR3 HKD HD3
        cases hc4 : pTake E tC r3 with
        | error fl =>
          rw [hc4] at ha4
          obtain rfl := ha4
          refine thrown rfl ⟨HG4.out, ?_⟩
          unfold pPair
          rw [HC1.out]
          simp [pOp, tAnd, tOr, HC3.out, hc4]
        | ok r4 =>
          rw [hc4] at ha4
          obtain ⟨rfl, hr4⟩ := ha4
          have HC4 := Lib.hid hc4
          have hbx := below_alloc w4 (.cells #[.int .i64 c.kind, .string (mk c.lo), .string (mk c.hi), .int .i64 c.n, .slice a1 n1 k1, .int .i64 d3.kind, .string (mk d3.lo), .string (mk d3.hi), .int .i64 d3.n, .slice a3 n3 k3] 32)
          obtain ⟨x0, x1, x2, x3, x4⟩ := box_five HP4.out
          obtain ⟨y0, y1, y2, y3, y4⟩ := box_five HD4.out
          have hB5 := keepB HB4.out hbx
          obtain ⟨g0, g1, g2, g3, g4⟩ := box_five hB5
          have f0 := box_froz hB5 0
          have f1 := box_froz hB5 1
          have f2 := box_froz hB5 2
          have f3 := box_froz hB5 3
          have f4 := box_froz hB5 4
          have HR5 := Lib.hid (hr4.grw hbx)
          have HG5 := Lib.hid (grown_tr HG4.out (grown_of hbx))
          have HN5 := Lib.hid (heap_alloc_new w4 (.cells #[.int .i64 c.kind, .string (mk c.lo), .string (mk c.hi), .int .i64 c.n, .slice a1 n1 k1, .int .i64 d3.kind, .string (mk d3.lo), .string (mk d3.hi), .int .i64 d3.n, .slice a3 n3 k3] 32))
          have HK5 := Lib.hid (HK4.out.move (moves_new hbx))
          have HKD5 := Lib.hid (HKD4.out.move (moves_new hbx))
          clear hr4 hc4 hbx hB5 HG4 HB4 HP4 HD4 HK4 HKD4
          have hs7 : w.heap.size + 1 ≤ w4.heap.size := by omega
          go_wp2
          first
            | (refine bodyPost_ret (v := .agg #[.int .i64 7, .string ⟨#[]⟩, .string ⟨#[]⟩, .int .i64 0, .slice (some ⟨w4.heap.size, 0, none⟩) 2 2]) (by simp [results, Tryz.results97, go_sem, g0, g1, g2, g3, g4]) rfl ?_
               have hres : pPair E f l = .ok (.mk 7 [] [] 0 [c, d3], r4) := by unfold pPair; rw [HC1.out]; simp [pOp, tAnd, tOr, HC3.out, HC4.out]
               refine ⟨grown_put5 HG5.out (Nat.le_refl _) _ _ _ _ _, ?_⟩
               rw [hres]
               exact ⟨⟨_, rfl, _, 2, 2, rfl, ((ks_two HN5.out hs7 HK5.out HO1.out HKD5.out HO3.out).move (moves_put5 _ _ _ _ _ _ (Nat.lt_succ_self _))).move (moves_low _ (Nat.le_succ _)), ok1_zero ⟨by decide, by decide⟩ _ (by show 2 ≤ 281474976710656; omega)⟩, rd_put5 HR5.out hq _ _ _ _ _⟩)
            | (refine bodyPost_ret (v := .agg #[.int .i64 8, .string ⟨#[]⟩, .string ⟨#[]⟩, .int .i64 0, .slice (some ⟨w4.heap.size, 0, none⟩) 2 2]) (by simp [results, Tryz.results97, go_sem, g0, g1, g2, g3, g4]) rfl ?_
               have hres : pPair E f l = .ok (.mk 8 [] [] 0 [c, d3], r4) := by unfold pPair; rw [HC1.out]; simp [pOp, tAnd, tOr, HC3.out, HC4.out]
               refine ⟨grown_put5 HG5.out (Nat.le_refl _) _ _ _ _ _, ?_⟩
               rw [hres]
               exact ⟨⟨_, rfl, _, 2, 2, rfl, ((ks_two HN5.out hs7 HK5.out HO1.out HKD5.out HO3.out).move (moves_put5 _ _ _ _ _ _ (Nat.lt_succ_self _))).move (moves_low _ (Nat.le_succ _)), ok1_zero ⟨by decide, by decide⟩ _ (by show 2 ≤ 281474976710656; omega)⟩, rd_put5 HR5.out hq _ _ _ _ _⟩)
end Go.Proofs.YtoibhgoaibjopaaGreatDoor.Pl
end

/-
  What strconv.FormatInt and FormatUint (at base 10), strings.Cut (at a dot) and strings.CutPrefix (at a -) answer at this program, as contracts; the world behind: as it was, or grown.
-/
section
namespace Go.Proofs.YtoibhgoaibjopaaGreatDoor.Nu
open Go.RowKit Go.Sort Go.Lib

def Tab (w : World) : Prop := Lib.TabIs Tryz.prog w "internal/strconv.uint64pow10" .u64 Lib.pow10Tab
def Grw (w w' : World) : Prop := Below w.heap.size w w'
theorem grw_refl (w : World) : Grw w w := Below.refl _ _
theorem grw_trans {a b c : World} (h : Grw a b) (k : Grw b c) : Grw a c := Below.trans h (Below.mono k h.size)
theorem grw_drewN (w : World) (k : Nat) : Grw w (w.drewN k) := ⟨rfl, rfl, rfl, Nat.le_refl _, fun _ _ => rfl⟩
theorem grw_grow (w : World) (k : Nat) (os : Array Obj) : Grw w (grow (w.drewN k) os) :=
  ⟨rfl, rfl, rfl, by simp [grow, World.drewN], fun _ hi => heap_grow_old (w.drewN k) os hi⟩
theorem tab_grw {w w' : World} (h : Tab w) (b : Grw w w') : Tab w' := by
  unfold Tab Lib.TabIs World.var? at *
  cases hg : Tryz.prog.globalNamed "internal/strconv.uint64pow10" with
  | none => simp [hg] at h
  | some g =>
    simp only [hg, Option.bind_some] at h ⊢
    have hlt : g < w.heap.size := by
      rcases Nat.lt_or_ge g w.heap.size with h' | h'
      · exact h'
      · rw [Array.getElem?_eq_none h'] at h; simp at h
    rw [b.block g hlt]
    exact h

theorem tab_below {B : Nat} {w w' : World} (h : Tab w) (b : Below B w w') (hB : 0 < B) : Tab w' := by
  unfold Tab Lib.TabIs World.var? at *
  have hg : Tryz.prog.globalNamed "internal/strconv.uint64pow10" = some 0 := by kernel_rfl
  simp only [hg, Option.bind_some] at h ⊢
  rw [b.block 0 hB]
  exact h
theorem int_any (n : Int) (h0 : -9223372036854775808 ≤ n) (h1 : n ≤ 9223372036854775807) (w : World) (hT : Tab w) :
    Calls Tryz.prog 31 #[.int .i64 n] w fun e w' => e = .returned (.string ⟨(Lib.itoa n).toArray⟩) ∧ Grw w w' := by
  go_enter Tryz.func31, Tryz.ntmps31
  go_wp2_with (go_at_call 54; refine (Tryz.strconv_FormatInt_10 n h0 h1 _ hT).mono ?_; rintro e w1 ⟨rfl, k, os, rfl⟩)
  go_ret
  exact ⟨rfl, grw_grow _ _ _⟩
end Go.Proofs.YtoibhgoaibjopaaGreatDoor.Nu
end

/-
  What strings.Cut at a dot answers at this program, of every text; digits.ReadMoney and digits.ReadSigned, as contracts: of every text.
-/
section
namespace Go.Proofs.YtoibhgoaibjopaaGreatDoor.Nu
open Go.RowKit Go.Sort Go.Lib

theorem whole_le (l : List UInt8) : (whole l).length ≤ l.length := by unfold whole; exact (List.takeWhile_sublist _).length_le
theorem whole_take (l : List UInt8) : whole l = l.take (whole l).length := by
  unfold whole
  induction l with
  | nil => rfl
  | cons a t ih =>
    by_cases h : (a != 46) = true
    · rw [List.takeWhile_cons, if_pos h, List.length_cons, List.take_succ_cons, ← ih]
    · rw [List.takeWhile_cons, if_neg h]; rfl
theorem index_dot (l : List UInt8) : indexByte l 46 = if hasDot l = true then ((whole l).length : Int) else -1 := by
  unfold hasDot
  induction l with
  | nil => rfl
  | cons a t ih =>
    unfold indexByte
    by_cases h : a = 46
    · subst h
      have e : whole (46 :: t) = [] := rfl
      rw [e]; rfl
    · have hb : (a == 46) = false := by simpa using h
      have e : whole (a :: t) = a :: whole t := by
        unfold whole
        rw [List.takeWhile_cons, if_pos (by simpa using h)]
      rw [if_neg (by rw [hb]; decide), e, ih]
      simp only [List.length_cons, Nat.add_lt_add_iff_right]
      by_cases hd : (whole t).length < t.length
      · have hn : (((whole t).length : Int) == -1) = false := by rw [beq_eq_false_iff_ne]; omega
        simp [hd, hn]
      · simp [hd]

set_option maxHeartbeats 2000000 in
theorem cutIn_any (s : ByteArray) (w : World) (hs : s.size ≤ maxLen) :
    Calls Tryz.prog 92 #[.string s, .string ⟨#[46]⟩] w fun e w' => e = .returned (.tuple #[.string ⟨(whole s.data.toList).toArray⟩, .string ⟨(behind s.data.toList).toArray⟩, .bool (hasDot s.data.toList)]) ∧ Grw w w' := by
  unfold maxLen at hs
  have el : s.data.toList.length = s.size := (Lib.size_eq s).symm
  have hix := index_dot s.data.toList
  have hle := whole_le s.data.toList
  cases hd : hasDot s.data.toList
  · have e0 : (whole s.data.toList).length = s.data.toList.length := by
      unfold hasDot at hd
      rw [decide_eq_false_iff_not] at hd
      omega
    have e1 : (⟨(whole s.data.toList).toArray⟩ : ByteArray) = s := by
      rw [whole_take, e0, List.take_length]
    have e2 : (⟨(behind s.data.toList).toArray⟩ : ByteArray) = ByteArray.empty := by
      unfold behind; rw [e0, List.drop_of_length_le (by omega)]; rfl
    rw [hd] at hix
    rw [e1, e2]
    have hix' : indexByte s.data.toList 46 = -1 := hix
    clear hix e0 e1 e2 hle el
    go_enter Tryz.func92, Tryz.ntmps92
    go_wp2_with (go_at_call 106; refine (Tryz.stringslite_Index_one s 46 _).mono ?_; rintro e w' ⟨rfl, rfl⟩; rw [hix'])
    go_ret3
    exact ⟨rfl, grw_refl _⟩
  · have hlt : (whole s.data.toList).length < s.data.toList.length := by
      unfold hasDot at hd
      exact of_decide_eq_true hd
    have e1 : (⟨(whole s.data.toList).toArray⟩ : ByteArray) = s.extract 0 (whole s.data.toList).length := by
      rw [Lib.extract_eq]; simp only [List.drop_zero, Nat.sub_zero]; rw [← whole_take]
    have e2 : (⟨(behind s.data.toList).toArray⟩ : ByteArray) = s.extract ((whole s.data.toList).length + 1) s.size := by
      rw [Lib.extract_eq, List.take_of_length_le (by rw [List.length_drop]; omega)]; rfl
    rw [hd] at hix
    have hix' : indexByte s.data.toList 46 = ((whole s.data.toList).length : Int) := hix
    rw [e1, e2]
    have hlt' : (whole s.data.toList).length < s.size := by omega
    clear hix e1 e2 hle el hlt
    generalize (whole s.data.toList).length = i at hix' hlt' ⊢
    have c1 : (0 : Int) ≤ ↑i := by omega
    have c2 : (↑i : Int) ≤ ↑s.size := by omega
    have c3 : (0 : Int) ≤ ↑i + 1 := by omega
    have c4 : (↑i + 1 : Int) ≤ ↑s.size := by omega
    go_enter Tryz.func92, Tryz.ntmps92
    go_wp2_with (go_at_call 106; refine (Tryz.stringslite_Index_one s 46 _).mono ?_; rintro e w' ⟨rfl, rfl⟩; rw [hix'])
    go_quiet (fail)
    go_wp2
    go_ret3
    exact ⟨rfl, grw_drewN _ _⟩

theorem cut_any (s : ByteArray) (w : World) (hs : s.size ≤ maxLen) :
    Calls Tryz.prog 76 #[.string s, .string ⟨#[46]⟩] w fun e w' => e = .returned (.tuple #[.string ⟨(whole s.data.toList).toArray⟩, .string ⟨(behind s.data.toList).toArray⟩, .bool (hasDot s.data.toList)]) ∧ Grw w w' := by
  go_enter Tryz.func76, Tryz.ntmps76
  go_wp2_with (go_at_call 92; refine (cutIn_any s _ hs).mono ?_; rintro e w1 ⟨rfl, g1⟩)
  go_ret3
  exact ⟨rfl, g1⟩
end Go.Proofs.YtoibhgoaibjopaaGreatDoor.Nu
end
