/-
  Texts put together (merge.py): PCode, PRd, NDig.
-/
import Derived.WalkKit
import Derived.WalkMore
import Derived.Test.YtoibhgoaibjopaaGreatDoorMj9
import Derived.Test.YtoibhgoaibjopaaGreatDoorProg
import Derived.Test.YtoibhgoaibjopaaGreatDoorMj3
/-
  What claim.codeSign, Code and the reference's Code answer, as contracts: for every text; the world stands.
-/
section
set_option linter.unusedSimpArgs false
namespace Go.Proofs.YtoibhgoaibjopaaGreatDoor.Cm
open Go.RowKit

theorem sign_any (c : UInt8) (w : World) :
    Calls Tryz.prog 108 #[.int .u8 c.toNat] w fun e w' => e = .returned (.bool (signB c)) ∧ w' = w := by
  unfold signB
  generalize c.toNat = n
  cases h1 : decide (65 ≤ n) <;> cases h2 : decide (n ≤ 90) <;> cases h3 : decide (48 ≤ n) <;> cases h4 : decide (n ≤ 57) <;>
  · simp only [decide_eq_true_eq, decide_eq_false_iff_not] at h1 h2 h3 h4
    first
      | omega
      | (go_enter Tryz.func108, Tryz.ntmps108
         go_wp2
         go_ret
         exact ⟨by first | rfl | (simp; omega), rfl⟩)

theorem all_take {p : UInt8 → Bool} (s : Tx) (k : Nat) (c : UInt8) (h : s[k]? = some c) (hk : (s.take k).all p = true) (hc : p c = true) : (s.take (k + 1)).all p = true := by
  rw [List.take_add_one, h]; simp_all
theorem all_not {p : UInt8 → Bool} (s : Tx) (k : Nat) (c : UInt8) (h : s[k]? = some c) (hc : p c = false) : s.all p = false := by
  rw [List.all_eq_false]
  exact ⟨c, List.mem_of_getElem? h, by simp [hc]⟩
theorem code_short (s : Tx) (f t : Int) (h : (s.length : Int) < f) : codeB s f t = false := by unfold codeB; rw [decide_eq_false (by omega)]; simp
theorem code_long (s : Tx) (f t : Int) (h : t < (s.length : Int)) : codeB s f t = false := by unfold codeB; rw [decide_eq_false (p := (s.length : Int) ≤ t) (by omega)]; simp
theorem code_in (s : Tx) (f t : Int) (h1 : f ≤ (s.length : Int)) (h2 : (s.length : Int) ≤ t) : codeB s f t = s.all signB := by unfold codeB; rw [decide_eq_true h1, decide_eq_true h2]; simp
theorem mk_at (s : Tx) (k : Nat) (hk : k < (mk s).size) : s[k]? = some (mk s)[k] := by
  have hl : k < s.length := by rw [← mk_size]; exact hk
  rw [List.getElem?_eq_getElem hl]
  rfl

set_option maxHeartbeats 1000000 in
theorem code_any (s : Tx) (f t : Int) (w : World) (hs : s.length ≤ 9223372036854775807) :
    Calls Tryz.prog 99 #[.string (mk s), .int .i64 f, .int .i64 t] w fun e w' => e = .returned (.bool (codeB s f t)) ∧ w' = w := by
  have hz := mk_size s
  have HS := Lib.hid hs
  have HAT := Lib.hid (mk_at s)
  have HSH := Lib.hid (code_short s f t)
  have HLO := Lib.hid (code_long s f t)
  have HIN := Lib.hid (code_in s f t)
  generalize codeB s f t = R at *
  rw [← hz] at hs HSH HLO HIN
  have HZ := Lib.hid hz
  clear hz
  generalize mk s = X at *
  by_cases h1 : (X.size : Int) < f
  · rw [HSH.out h1]
    go_enter Tryz.func99, Tryz.ntmps99
    go_wp2
    go_ret
    exact ⟨rfl, rfl⟩
  by_cases h2 : t < (X.size : Int)
  · rw [HLO.out h2]
    go_enter Tryz.func99, Tryz.ntmps99
    go_wp2
    go_ret
    exact ⟨rfl, rfl⟩
  rw [HIN.out (by omega) (by omega)]
  go_enter Tryz.func99, Tryz.ntmps99
  go_wp2
  go_loopg [20] (X.size) (fun g i wr => ∃ k : Nat, k ≤ X.size ∧ g = X.size - k ∧ i = .int .i64 k ∧ wr = w ∧ Hid ((s.take k).all signB = true))
  case atStart => exact ⟨0, Nat.zero_le _, rfl, rfl, rfl, rfl⟩
  case round =>
    obtain ⟨k, hk, hg, rfl, hw, HA⟩ := hrel
    rw [hw]
    clear hw wr
    by_cases hlt : k < X.size
    · have HC := Lib.hid (HAT.out k hlt)
      cases hq : signB X[k]
      · go_wp2_with (go_at_call 108; refine (sign_any _ _).mono ?_; rintro e w' ⟨rfl, rfl⟩)
        go_ret
        exact ⟨by rw [all_not s k _ HC.out hq]; rfl, rfl⟩
      · go_wp2_with (go_at_call 108; refine (sign_any _ _).mono ?_; rintro e w' ⟨rfl, rfl⟩)
        go_roundg (X.size - (k + 1))
        case rel => exact ⟨k + 1, by omega, rfl, by go_num, rfl, all_take s k _ HC.out HA.out hq⟩
        case measure => omega
    · have hall : (s.take k) = s := List.take_of_length_le (by rw [← HZ.out]; omega)
      rw [hall] at HA
      clear hall
      go_wp2
      go_ret
      exact ⟨by rw [HA.out]; rfl, rfl⟩

set_option maxHeartbeats 1000000 in
theorem rcode_any (s : Tx) (f t : Int) (w : World) (hs : s.length ≤ 9223372036854775807) :
    Calls Tryz.prog 62 #[.string (mk s), .int .i64 f, .int .i64 t] w fun e w' => e = .returned (.bool (codeB s f t)) ∧ w' = w := by
  have hz := mk_size s
  have HS := Lib.hid hs
  have HAT := Lib.hid (mk_at s)
  have HSH := Lib.hid (code_short s f t)
  have HLO := Lib.hid (code_long s f t)
  have HIN := Lib.hid (code_in s f t)
  generalize codeB s f t = R at *
  rw [← hz] at hs HSH HLO HIN
  have HZ := Lib.hid hz
  clear hz
  generalize mk s = X at *
  by_cases h1 : (X.size : Int) < f
  · rw [HSH.out h1]
    go_enter Tryz.func62, Tryz.ntmps62
    go_wp2
    go_ret
    exact ⟨rfl, rfl⟩
  by_cases h2 : t < (X.size : Int)
  · rw [HLO.out h2]
    go_enter Tryz.func62, Tryz.ntmps62
    go_wp2
    go_ret
    exact ⟨rfl, rfl⟩
  rw [HIN.out (by omega) (by omega)]
  go_enter Tryz.func62, Tryz.ntmps62
  go_wp2
  go_loopg [7] (X.size) (fun g i wr => ∃ k : Nat, k ≤ X.size ∧ g = X.size - k ∧ i = .int .i64 k ∧ wr = w ∧ Hid ((s.take k).all signB = true))
  case atStart => exact ⟨0, Nat.zero_le _, rfl, rfl, rfl, rfl⟩
  case round =>
    obtain ⟨k, hk, hg, rfl, hw, HA⟩ := hrel
    rw [hw]
    clear hw wr
    by_cases hlt : k < X.size
    · have HC := Lib.hid (HAT.out k hlt)
      have HQ : Hid (signB X[k] = ((decide (65 ≤ X[k].toNat) && decide (X[k].toNat ≤ 90)) || (decide (48 ≤ X[k].toNat) && decide (X[k].toNat ≤ 57)))) := rfl
      by_cases g1 : 65 ≤ X[k].toNat ∧ X[k].toNat ≤ 90
      · obtain ⟨g1, g2⟩ := g1
        have g3 : 48 ≤ X[k].toNat := by omega
        have g4 : ¬ X[k].toNat ≤ 57 := by omega
        have d4 : decide ((X[k].toNat : Int) ≤ 57) = false := decide_eq_false (by omega)
        have d2 : decide ((X[k].toNat : Int) ≤ 90) = true := decide_eq_true (by omega)
        have hq := HQ.out
        rw [decide_eq_true g1, decide_eq_true g2] at hq
        have HQ2 := Lib.hid hq
        clear hq
        go_wp2
        go_roundg (X.size - (k + 1))
        case rel => exact ⟨k + 1, by omega, rfl, by go_num, rfl, all_take s k _ HC.out HA.out HQ2.out⟩
        case measure => omega
      by_cases g3 : 48 ≤ X[k].toNat ∧ X[k].toNat ≤ 57
      · obtain ⟨g3, g4⟩ := g3
        have g5 : ¬ 65 ≤ X[k].toNat := by omega
        have d4 : decide ((X[k].toNat : Int) ≤ 57) = true := decide_eq_true (by omega)
        have hq := HQ.out
        rw [decide_eq_true g3, decide_eq_true g4, Bool.and_self, Bool.or_true] at hq
        have HQ2 := Lib.hid hq
        clear hq g1
        go_wp2
        go_roundg (X.size - (k + 1))
        case rel => exact ⟨k + 1, by omega, rfl, by go_num, rfl, all_take s k _ HC.out HA.out HQ2.out⟩
        case measure => omega
      have HQ2 : Hid (signB X[k] = false) := by
        show _ = _
        rw [HQ.out]
        simp
        omega
      by_cases g5 : 65 ≤ X[k].toNat
      · have g6 : ¬ X[k].toNat ≤ 90 := by omega
        have g7 : 48 ≤ X[k].toNat := by omega
        have g8 : ¬ X[k].toNat ≤ 57 := by omega
        have d4 : decide ((X[k].toNat : Int) ≤ 57) = false := decide_eq_false (by omega)
        have d2 : decide ((X[k].toNat : Int) ≤ 90) = false := decide_eq_false (by omega)
        clear g1 g3
        go_wp2
        go_ret
        exact ⟨by rw [all_not s k _ HC.out HQ2.out]; rfl, rfl⟩
      · by_cases g7 : 48 ≤ X[k].toNat
        · have g8 : ¬ X[k].toNat ≤ 57 := by omega
          have d4 : decide ((X[k].toNat : Int) ≤ 57) = false := decide_eq_false (by omega)
          clear g1 g3
          go_wp2
          go_ret
          exact ⟨by rw [all_not s k _ HC.out HQ2.out]; rfl, rfl⟩
        · clear g1 g3
          go_wp2
          go_ret
          exact ⟨by rw [all_not s k _ HC.out HQ2.out]; rfl, rfl⟩
    · have hall : (s.take k) = s := List.take_of_length_le (by rw [← HZ.out]; omega)
      rw [hall] at HA
      clear hall
      go_wp2
      go_ret
      exact ⟨by rw [HA.out]; rfl, rfl⟩
end Go.Proofs.YtoibhgoaibjopaaGreatDoor.Cm
end

/-
  What the reader's take, choice, amount, number, code and answer do, as contracts: what they answer, or the fault that they throw; the reader goes on.
-/
section
set_option linter.unusedSimpArgs false
set_option linter.unusedVariables false
set_option maxRecDepth 100000
namespace Go.Proofs.YtoibhgoaibjopaaGreatDoor.Pl
open Go.RowKit
open Wo (Wd WdsAt box_cell box_two keepB heap_far)

/-- Words that are not too long, and not too many. -/
def Wb (l : List Wd) : Prop := (∀ x ∈ l, x.1.length ≤ 65536) ∧ l.length ≤ 65536
/-- The reader in its box: what is left, where the text ends. -/
def RdAt (q E : Nat) (l : List Wd) (w : World) : Prop := ∃ v, w.heap[q]? = some (.cells #[v, .int .i64 (E : Nat)] 58 (0, 0)) ∧ WdsAt (fun b => b < q) w v l ∧ Wb l
theorem RdAt.lt {q E : Nat} {l : List Wd} {w : World} (h : RdAt q E l w) : q < w.heap.size := by obtain ⟨v, h, -⟩ := h; exact (Array.getElem?_eq_some_iff.1 h).1
theorem RdAt.grw {q E : Nat} {l : List Wd} {w w' : World} (h : RdAt q E l w) (hb : Below w.heap.size w w') : RdAt q E l w' := by
  obtain ⟨v, h1, h2, h3⟩ := h
  exact ⟨v, keepB h1 hb, h2.move ⟨hb.size, fun b hb' hk => ⟨hk, hb.block b hb'⟩⟩, h3⟩
theorem RdAt.len {q E : Nat} {l : List Wd} {w : World} (h : RdAt q E l w) : ∀ x ∈ l, x.1.length ≤ 65536 := by obtain ⟨v, _, _, h⟩ := h; exact h.1
theorem RdAt.cnt {q E : Nat} {l : List Wd} {w : World} (h : RdAt q E l w) : l.length ≤ 65536 := by obtain ⟨v, _, _, h⟩ := h; exact h.2
/-- Of a grown world: what was written ahead of it stands, but the reader's box. -/
theorem grown_tr {w W W' : World} {p : Option Nat} (h : w.grownBy W p) (h' : W.grownBy W' p) : w.grownBy W' p :=
  ⟨h'.os.trans h.os, h'.tape.trans h.tape, h'.output.trans h.output, Nat.le_trans h.size h'.size, fun k hk hne => (h'.block k (Nat.lt_of_lt_of_le hk h.size) hne).trans (h.block k hk hne)⟩
theorem grown_of {w w' : World} {p : Option Nat} (hb : Below w.heap.size w w') : w.grownBy w' p := ⟨hb.os, hb.tape, hb.output, hb.size, fun k hk _ => hb.block k hk⟩
theorem grown_heap {W W' : World} {p q : Nat} {o : Obj} (h : W.heap[q]? = some o) (hG : W.grownBy W' (some p)) (hne : q ≠ p) : W'.heap[q]? = some o := by
  rw [hG.block q (Array.getElem?_eq_some_iff.1 h).1 (fun e => hne (Option.some.inj e))]; exact h
theorem grown_set {w W : World} {p : Nat} (h : w.grownBy W (some p)) (j : Nat) (v : Value) : w.grownBy (W.setCell ⟨p, j, none⟩ v) (some p) :=
  ⟨h.os, h.tape, h.output, by simp [World.setCell]; exact h.size, fun k hk hne => by rw [Below.heap_setCell _ _ _ _ (fun e => hne (by rw [show k = p from e]))]; exact h.block k hk hne⟩
theorem grown_new {w W : World} {p : Option Nat} (h : w.grownBy W p) {q : Nat} (hq : w.heap.size ≤ q) (j : Nat) (v : Value) : w.grownBy (W.setCell ⟨q, j, none⟩ v) p :=
  ⟨h.os, h.tape, h.output, by simp [World.setCell]; exact h.size, fun k hk hne => by rw [Below.heap_setCell _ _ _ _ (by show k ≠ q; omega)]; exact h.block k hk hne⟩
theorem grown_alloc {w W : World} {p : Option Nat} (h : w.grownBy W p) (o : Obj) : w.grownBy (W.alloc o) p := grown_tr h (grown_of (below_alloc W o))

/-- The next word; behind the last one none, where the text ends. -/
def tkW (E : Nat) (l : List Wd) : Wd := match l with | [] => ([], E) | x :: _ => x
abbrev wdv (x : Wd) : Value := .agg #[.string (mk x.1), .int .i64 (x.2 : Nat)]

set_option maxHeartbeats 4000000 in
theorem take_any (q E : Nat) (l : List Wd) (w : World) (h : RdAt q E l w) :
    Calls Tryz.prog 63 #[.pointer (some ⟨q, 0, none⟩)] w fun e w' => e = .returned (wdv (tkW E l)) ∧ RdAt q E l.tail w' ∧ w.grownBy w' (some q) := by
  obtain ⟨v, hq, hW, hX⟩ := h
  have HXL := Lib.hid hX
  clear hX
  have hlt : q < w.heap.size := (Array.getElem?_eq_some_iff.1 hq).1
  have hb1 := below_alloc w (.cells #[.string ⟨#[]⟩, .int .i64 0] 73)
  have hq1 := keepB hq hb1
  obtain ⟨c0, c1, -, -⟩ := box_two hq1
  have hW1 : WdsAt (fun b => b < q) _ v l := hW.move ⟨hb1.size, fun b hb' hk => ⟨hk, hb1.block b hb'⟩⟩
  obtain ⟨a, c, rfl, hl1, hl2⟩ := hW.form
  have HQ := Lib.hid hq
  have HW := Lib.hid hW
  have HQ1 := Lib.hid hq1
  have HW1 := Lib.hid hW1
  have HB1 := Lib.hid hb1
  have hne : ¬ w.heap.size = q := by omega
  have hne' : ¬ q = w.heap.size := by omega
  cases l with
  | nil =>
    simp only [List.length_nil] at c0 hl1
    clear hq hW hq1 hW1 hb1
    go_enter Tryz.func63, Tryz.ntmps63
    go_wp2
    refine bodyPost_ret (v := wdv ([], E)) (by simp [results, Tryz.results63, go_sem]; rfl) rfl ?_
    have hb2 := below_alloc w (.cells #[.string ⟨#[]⟩, .int .i64 (E : Nat)] 73)
    exact ⟨rfl, ⟨_, keepB HQ.out hb2, WdsAt.move HW.out ⟨hb2.size, fun b hb' hk => ⟨hk, hb2.block b hb'⟩⟩, by simp, by simp⟩, grown_of hb2⟩
  | cons x r =>
    have hpos : 0 < (x :: r).length := by simp
    obtain ⟨b, o, rfl, hb, -, x0, x1⟩ := WdsAt.get hW1 0 hpos
    have hbq : b ≠ q := by
      obtain ⟨a', c', he, _, _, h3⟩ := hW
      rcases h3 with h | ⟨b', o', ha, hk, _⟩
      · cases h
      · injection he with he _ _; rw [ha] at he; injection he with he; injection he with he; rw [he]; exact Nat.ne_of_lt hk
    simp only [List.length_cons, List.getElem_cons_zero, Nat.zero_mul, Nat.add_zero] at c0 hl1 x0 x1
    have hz : ((r.length : Int) + 1 == 0) = false := by simp; omega
    have hq2 := keepB hq1 (below_alloc _ (.cells #[.string (mk x.1), .int .i64 (x.2 : Nat)] 73))
    obtain ⟨d0, d1, d2, d3⟩ := box_two hq2
    simp only [List.length_cons] at d0
    have HQ2 := Lib.hid hq2
    clear hq hW hq1 hW1 hb1 hq2
    have HR : Hid (∀ (v' : Value), WdsAt (fun b => b < q) w v' r → ∀ o1 o2, RdAt q E r (((w.setCell ⟨q, 0, none⟩ v').alloc o1).alloc o2) ∧ w.grownBy (((w.setCell ⟨q, 0, none⟩ v').alloc o1).alloc o2) (some q)) := fun v' hv' o1 o2 => by
      have hs := heap_setCell_same w q 0 _ _ v' HQ.out
      have h1 : RdAt q E r (w.setCell ⟨q, 0, none⟩ v') := ⟨v', hs, WdsAt.move hv' ⟨by simp [World.setCell], fun b _ hk => ⟨hk, Below.heap_setCell _ _ _ _ (Nat.ne_of_lt hk)⟩⟩, fun y hy => HXL.out.1 y (List.mem_cons_of_mem _ hy), by have := HXL.out.2; simp at this; omega⟩
      have hb2 := below_trans (below_alloc (w.setCell ⟨q, 0, none⟩ v') o1) (below_alloc _ o2)
      exact ⟨h1.grw hb2, grown_tr (grown_set (grown_of (Below.refl _ w)) 0 v') (grown_of hb2)⟩
    have HWW := HW
    clear HW HQ
    by_cases hc : c = 1
    · subst hc
      obtain rfl : r = [] := List.length_eq_zero_iff.1 (by omega)
      simp only [List.length_nil] at *
      go_enter Tryz.func63, Tryz.ntmps63
      go_wp2
      refine bodyPost_ret (v := wdv x) (by simp [results, Tryz.results63, go_sem]) rfl ?_
      exact ⟨rfl, HR.out (.slice (some ⟨b, o, none⟩) 0 0) ⟨_, 0, rfl, by simp, by simp [maxLen], Or.inl rfl⟩ _ _⟩
    · go_enter Tryz.func63, Tryz.ntmps63
      go_wp2
      refine bodyPost_ret (v := wdv x) (by simp [results, Tryz.results63, go_sem]) rfl ?_
      refine ⟨rfl, HR.out (.slice (some ⟨b, o + 2, none⟩) r.length (c - 1)) ?_ _ _⟩
      obtain ⟨a', c', he, k1, k2, h3⟩ := HWW.out
      injection he with he1 he2 he3
      subst he1 he3
      refine ⟨_, c - 1, rfl, by simp at k1; omega, by unfold maxLen at *; omega, ?_⟩
      rcases h3 with h | ⟨b', o', ha, hk, hb', hcc⟩
      · cases h
      · simp only [Option.some.injEq, Addr.mk.injEq, and_true] at ha
        obtain ⟨rfl, rfl⟩ := ha
        refine Or.inr ⟨b, o + 2, rfl, hk, hb', fun j y hj => ?_⟩
        have := hcc (j + 1) y (by simpa using hj)
        rw [show o + 2 + j * 2 = o + (j + 1) * 2 by omega]
        exact this

/-! ### What is answered, or thrown -/
abbrev ftv (f : Int × Nat) : Value := .agg #[.int .i64 f.1, .int .i64 (f.2 : Nat)]
abbrev thr (f : Int × Nat) : Ending := .panicked [{ v := .iface 38 (ftv f), recovered := false }]
def Ans {α : Type} (q E : Nat) (w : World) (Rep : α → Value → World → Prop) (res : R α) (e : Ending) (w' : World) : Prop :=
  w.grownBy w' (some q) ∧ match res with
    | .ok (x, r) => (∃ v, e = .returned v ∧ Rep x v w') ∧ RdAt q E r w'
    | .error f => e = thr f
def Num (n : Int) (v : Value) (_ : World) : Prop := v = .int .i64 n
def Str (t : Tx) (v : Value) (_ : World) : Prop := v = .string (mk t)

theorem fault_any (e : Int) (x : Wd) (w : World) :
    Calls Tryz.prog 65 #[.int .i64 e, wdv x] w fun r w' => r = .returned (ftv (e, x.2)) ∧ Below w.heap.size w w' := by
  go_enter Tryz.func65, Tryz.ntmps65
  go_wp2
  refine bodyPost_ret (v := ftv (e, x.2)) (by simp [results, Tryz.results65, go_sem]) rfl ?_
  exact ⟨rfl, below_trans (below_alloc _ _) (below_alloc _ _)⟩

theorem mk_eqs (x y : Tx) : ((mk x).toList == (mk y).toList) = decide (x = y) := by
  rw [Lib.toList_data, Lib.toList_data, mk_list, mk_list]
  rw [Bool.eq_iff_iff]
  simp
def ixF : Nat → List Tx → Tx → Int
  | _, [], _ => -1
  | n, y :: r, x => if y = x then (n : Nat) else ixF (n + 1) r x
abbrev ixI (ts : List Tx) (x : Tx) : Int := ixF 0 ts x
theorem ix_hitF : ∀ {ts : List Tx} {x : Tx} {k n : Nat}, ts[k]? = some x → x ∉ ts.take k → ixF n ts x = (n + k : Nat)
  | [], x, k, n, h, _ => by simp at h
  | y :: r, x, 0, n, h, _ => by simp at h; subst h; simp [ixF]
  | y :: r, x, k + 1, n, h, hn => by
    simp only [List.take_succ_cons, List.mem_cons, not_or] at hn
    have ih := ix_hitF (ts := r) (x := x) (k := k) (n := n + 1) (by simpa using h) hn.2
    simp only [ixF]
    rw [if_neg (fun e => hn.1 e.symm), ih]
    omega
theorem ix_missF : ∀ {ts : List Tx} {x : Tx} {n : Nat}, x ∉ ts → ixF n ts x = -1
  | [], _, _, _ => rfl
  | y :: r, x, n, h => by
    simp only [List.mem_cons, not_or] at h
    simp only [ixF]
    rw [if_neg (fun e => h.1 e.symm), ix_missF h.2]
theorem ix_hit {ts : List Tx} {x : Tx} {k : Nat} (h : ts[k]? = some x) (hn : x ∉ ts.take k) : ixI ts x = (k : Nat) := by rw [ixI, ix_hitF h hn, Nat.zero_add]
theorem ix_miss {ts : List Tx} {x : Tx} (hn : x ∉ ts) : ixI ts x = -1 := ix_missF hn
set_option maxHeartbeats 2000000 in
theorem index_any (v : Value) (ts : List Tx) (x : Tx) (w : World) (h : TxAt All w v ts) :
    Calls Tryz.prog 64 #[v, .string (mk x)] w fun e w' => e = .returned (.int .i64 (ixI ts x)) ∧ w' = w := by
  obtain ⟨a, c, rfl, h1, h2, h3⟩ := h
  have H3 := Lib.hid h3
  unfold maxLen at h2
  clear h3
  have HH := Lib.hid fun (k : Nat) (hk : k < ts.length) (he : ts[k] = x) (hn : x ∉ ts.take k) => ix_hit (by rw [List.getElem?_eq_getElem hk, he]) hn
  have HM := Lib.hid fun (hn : x ∉ ts) => ix_miss hn
  generalize ixI ts x = R at *
  go_enter Tryz.func64, Tryz.ntmps64
  go_wp2
  go_loopg [8] (ts.length) (fun g i wr => ∃ (k : Nat), k ≤ ts.length ∧ g = ts.length - k ∧ i = .int .i64 k ∧ wr = w ∧ Hid (x ∉ ts.take k))
  case atStart => exact ⟨0, Nat.zero_le _, rfl, rfl, rfl, by show _ ∉ _; simp⟩
  case round =>
    obtain ⟨k, hk, hg, rfl, hw, HA⟩ := hrel
    rw [hw]
    clear hw wr
    by_cases hlt : k < ts.length
    · obtain ⟨b, o, rfl, hx, hu⟩ : ∃ b o, a = some ⟨b, o, none⟩ ∧ ts[k]? = some ts[k] ∧ w.cell? ⟨b, o + k, none⟩ = some (.string (mk ts[k])) := by
        rcases H3.out with h | ⟨b, o, ha, _, hb, hc⟩
        · subst h; simp at hlt
        · have hx := List.getElem?_eq_getElem hlt
          obtain ⟨u, q1, rfl⟩ := hc k _ hx
          exact ⟨b, o, ha, hx, q1⟩
      have hn := mk_eqs x ts[k]
      have HK := Lib.hid fun he => HH.out k hlt he HA.out
      have HN : Hid (¬ ts[k] = x → x ∉ ts.take (k + 1)) := fun he => by
        show x ∉ ts.take (k + 1)
        rw [List.take_add_one, hx]
        simp only [Option.toList_some, List.mem_append, List.mem_singleton, not_or]
        exact ⟨HA.out, fun e => he e.symm⟩
      clear hx
      by_cases he : x = ts[k]
      · rw [decide_eq_true he] at hn
        have HK2 := Lib.hid (HK.out he.symm)
        clear he
        generalize mk ts[k] = Y at *
        generalize mk x = X at *
        go_wp2
        go_ret
        exact ⟨by rw [HK2.out]; rfl, rfl⟩
      · rw [decide_eq_false he] at hn
        have HN2 := Lib.hid (HN.out fun e => he e.symm)
        clear he
        generalize mk ts[k] = Y at *
        generalize mk x = X at *
        go_wp2
        go_roundg (ts.length - (k + 1))
        case rel => exact ⟨k + 1, by omega, rfl, by go_num, rfl, HN2.out⟩
        case measure => omega
    · have hall : ts.take k = ts := List.take_of_length_le (by omega)
      have HM2 := Lib.hid (HM.out (by rw [← hall]; exact HA.out))
      clear hall
      go_wp2
      go_ret
      exact ⟨by rw [HM2.out]; rfl, rfl⟩

/-! ### One of some words -/
def pCh (E : Nat) (ts : List Tx) (l : List Wd) : R Int :=
  match l with
  | [] => .error (4, E)
  | (x, a) :: r => if x ∈ ts then .ok (ixI ts x, r) else .error (4, a)
theorem TxAt.rd {q : Nat} {w w' : World} {v : Value} {ts : List Tx} (h : TxAt (fun b => b ≠ q) w v ts) (hg : w.grownBy w' (some q)) : TxAt (fun b => b ≠ q) w' v ts := h.move (moves_grown hg fun b _ hk => ⟨hk, fun e => hk (Option.some.inj e)⟩)
theorem ix_ge : ∀ (ts : List Tx) (x : Tx) (n : Nat), x ∈ ts → 0 ≤ ixF n ts x
  | [], x, n, h => by cases h
  | y :: r, x, n, h => by
    simp only [ixF]
    split
    · omega
    · next e => exact ix_ge r x (n + 1) (by rcases List.mem_cons.1 h with h | h; exact absurd h.symm e; exact h)
set_option maxHeartbeats 4000000 in
theorem choice_any (q E : Nat) (l : List Wd) (v : Value) (ts : List Tx) (w : World) (h : RdAt q E l w) (ht : TxAt (fun b => b ≠ q) w v ts) (hn : [] ∉ ts) :
    Calls Tryz.prog 46 #[.pointer (some ⟨q, 0, none⟩), v] w fun e w' => Ans q E w Num (pCh E ts l) e w' := by
  have HT := Lib.hid (take_any q E l w h)
  have HV := Lib.hid fun w' (hg : w.grownBy w' (some q)) o => (TxAt.move (K' := All) (TxAt.rd ht hg) (Moves.trans (moves_alloc _ w' o) (moves_weak _ fun _ _ _ => trivial)))
  obtain ⟨a, c, rfl, h1, h2, -⟩ := ht
  have HP : Hid ((∃ i : Int, 0 ≤ i ∧ ixI ts (tkW E l).1 = i ∧ pCh E ts l = .ok (i, l.tail)) ∨ (ixI ts (tkW E l).1 = -1 ∧ pCh E ts l = .error (4, (tkW E l).2))) := by
    cases l with
    | nil => exact Or.inr ⟨ix_miss hn, rfl⟩
    | cons x r =>
      by_cases hx : x.1 ∈ ts
      · exact Or.inl ⟨ixI ts x.1, ix_ge ts _ 0 hx, rfl, by show pCh E ts ((x.1, x.2) :: r) = _; simp only [pCh]; rw [if_pos hx]; rfl⟩
      · exact Or.inr ⟨ix_miss hx, by show pCh E ts ((x.1, x.2) :: r) = _; simp only [pCh]; rw [if_neg hx]; rfl⟩
  have HI := Lib.hid fun W u (hu : TxAt All W u ts) => index_any u ts (tkW E l).1 W hu
  have HF := Lib.hid fun W => fault_any 4 (tkW E l) W
  clear h hn
  generalize pCh E ts l = RR at *
  generalize tkW E l = x at *
  go_enter Tryz.func46, Tryz.ntmps46
  go_wp2_with fail
  go_at_call 63
  refine HT.out.mono ?_
  rintro e w1 ⟨rfl, hr, hg⟩
  have hb := below_alloc w1 (.cells #[.string (mk x.1), .int .i64 (x.2 : Nat)] 73)
  have HV1 := Lib.hid (HV.out w1 hg (.cells #[.string (mk x.1), .int .i64 (x.2 : Nat)] 73))
  have HR1 := Lib.hid (hr.grw hb)
  have HG1 := Lib.hid (grown_alloc hg (.cells #[.string (mk x.1), .int .i64 (x.2 : Nat)] 73))
  have HX := Lib.hid (heap_alloc_new w1 (.cells #[.string (mk x.1), .int .i64 (x.2 : Nat)] 73))
  obtain ⟨d0, d1, -, -⟩ := box_two HX.out
  clear hr hg hb HV HT
  go_upto_region 2 with fail
  generalize w1.alloc (.cells #[.string (mk x.1), .int .i64 (x.2 : Nat)] 73) = W at *
  generalize w1.heap.size = p at *
  rcases HP.out with ⟨i, hi0, hi, hres⟩ | ⟨hi, hres⟩
  · rw [hi] at HI
    clear hi HP
    go_wp2_with (first | (go_at_call 64; refine (HI.out _ _ HV1.out).mono ?_; rintro e w2 ⟨rfl, rfl⟩))
    go_ret
    refine ⟨HG1.out, ?_⟩
    rw [hres]
    exact ⟨⟨_, rfl, rfl⟩, HR1.out⟩
  · rw [hi] at HI
    clear hi HP
    go_wp2_with (first | (go_at_call 64; refine (HI.out _ _ HV1.out).mono ?_; rintro e w2 ⟨rfl, rfl⟩) | (go_at_call 65; refine (HF.out _).mono ?_; rintro e w2 ⟨rfl, hb2⟩; have HB2 := Lib.hid hb2; clear hb2))
    refine ⟨rfl, ?_⟩
    refine ⟨grown_tr HG1.out (grown_of HB2.out), ?_⟩
    rw [hres]
end Go.Proofs.YtoibhgoaibjopaaGreatDoor.Pl
end

/-
  What digits.allDigits and digits.number answer, as contracts.
-/
section
namespace Go.Proofs.YtoibhgoaibjopaaGreatDoor.Nu
open Go.RowKit

theorem ret_int {k : IntKind} {a b : Int} (h : a = b) : Ending.returned (.int k a) = .returned (.int k b) := by rw [h]
theorem take_snoc (s : ByteArray) (k : Nat) (h : k < s.size) : s.data.toList.take (k + 1) = s.data.toList.take k ++ [s[k]] := by
  rw [List.take_succ_eq_append_getElem (by simpa using h)]; rfl
theorem take_all (s : ByteArray) (k : Nat) (h : s.size ≤ k) : s.data.toList.take k = s.data.toList := List.take_of_length_le (by simpa using h)
theorem isD_mem (s : ByteArray) (k : Nat) (h : k < s.size) (hd : allD s.data.toList = true) : isD s[k] = true := by
  unfold allD at hd
  rw [List.all_eq_true] at hd
  refine hd _ ?_
  have : s[k] = s.data.toList[k]'(by simpa using h) := by rfl
  rw [this]
  exact List.getElem_mem _

set_option maxHeartbeats 400000 in
theorem allD_any (s : ByteArray) (w : World) (hs : s.size ≤ maxLen) :
    Calls Tryz.prog 93 #[.string s] w fun e w' => e = .returned (.bool (allD s.data.toList)) ∧ w' = w := by
  unfold maxLen at hs
  go_enter Tryz.func93, Tryz.ntmps93
  go_wp2
  go_loop [6] (fun i => ∃ k : Nat, k ≤ s.size ∧ i = .int .i64 k ∧ allD (s.data.toList.take k) = true) (fun i => s.size - (intOf i).toNat)
  case atStart => exact ⟨0, Nat.zero_le _, rfl, rfl⟩
  case round =>
    obtain ⟨k, hk, rfl, ha⟩ := hrel
    have HA : Hid (allD (s.data.toList.take k) = true) := ha
    clear ha
    by_cases hlt : k < s.size
    · have HS : Hid (allD (s.data.toList.take (k + 1)) = isD s[k]) := by
        show allD (s.data.toList.take (k + 1)) = isD s[k]
        rw [take_snoc s k hlt, allD_snoc, HA.out]; simp
      by_cases h1 : (s[k].toNat : Int) < 48
      · have HF : Hid (allD s.data.toList = false) := by
          cases e : allD s.data.toList
          · rfl
          · have := (isD_iff _).1 (isD_mem s k hlt e); omega
        go_wp2
        go_ret
        exact ⟨by rw [HF.out]; rfl, rfl⟩
      · by_cases h2 : 57 < (s[k].toNat : Int)
        · have HF : Hid (allD s.data.toList = false) := by
            cases e : allD s.data.toList
            · rfl
            · have := (isD_iff _).1 (isD_mem s k hlt e); omega
          go_wp2
          go_ret
          exact ⟨by rw [HF.out]; rfl, rfl⟩
        · go_wp2
          go_round
          case rel => exact ⟨k + 1, by omega, by go_num, by rw [HS.out, isD_iff]; omega⟩
          case measure => simp [intOf]; omega
    · go_wp2
      go_ret
      exact ⟨by rw [← take_all s k (by omega), HA.out]; rfl, rfl⟩

set_option maxHeartbeats 400000 in
theorem number_any (s : ByteArray) (w : World) (hs : s.size ≤ 18) (hd : allD s.data.toList = true) :
    Calls Tryz.prog 94 #[.string s] w fun e w' => e = .returned (.int .i64 (numL s.data.toList)) ∧ w' = w := by
  have HD : Hid (allD s.data.toList = true) := hd
  clear hd
  go_enter Tryz.func94, Tryz.ntmps94
  go_wp2
  go_loop [3, 7] (fun n i => ∃ k : Nat, k ≤ s.size ∧ i = .int .i64 k ∧ n = .int .i64 (numL (s.data.toList.take k))) (fun _ i => s.size - (intOf i).toNat)
  case atStart => exact ⟨0, Nat.zero_le _, rfl, rfl⟩
  case round =>
    obtain ⟨k, hk, rfl, rfl⟩ := hrel
    by_cases hlt : k < s.size
    · have hdk := (isD_iff _).1 (isD_mem s k hlt HD.out)
      have HS : Hid (numL (s.data.toList.take (k + 1)) = numL (s.data.toList.take k) * 10 + (s[k].toNat - 48)) := by
        show numL (s.data.toList.take (k + 1)) = _
        rw [take_snoc s k hlt, numL_snoc]
      have hb : numL (s.data.toList.take k) < 100000000000000000 := by
        have h1 := numL_lt (s.data.toList.take k) (by
          have := HD.out
          unfold allD at this ⊢
          rw [List.all_eq_true] at this ⊢
          exact fun x hx => this x (List.mem_of_mem_take hx))
        have h2 : (s.data.toList.take k).length ≤ 17 := by simp; omega
        have h3 : 10 ^ (s.data.toList.take k).length ≤ 10 ^ 17 := Nat.pow_le_pow_right (by omega) h2
        have h4 : (10 : Nat) ^ 17 = 100000000000000000 := rfl
        omega
      go_wp2
      go_round
      case rel => exact ⟨k + 1, by omega, by go_num, by rw [HS.out]; go_num⟩
      case measure => simp [intOf]; omega
    · go_wp2
      go_ret
      exact ⟨ret_int (by rw [take_all s k (by omega)]), rfl⟩
end Go.Proofs.YtoibhgoaibjopaaGreatDoor.Nu
end
