/-
  Texts put together (merge.py): ERCk.
-/
import Derived.Test.YtpmnepihaljamaaGreatDoorM36
import Derived.Test.YtpmnepihaljamaaGreatDoorM25
import Derived.Test.YtpmnepihaljamaaGreatDoorM38
import Derived.Test.YtpmnepihaljamaaGreatDoorM37
/-
  What the reference's claim answers, as a contract. (Written by gen_rck.py.)
-/
section
set_option linter.unusedSimpArgs false
set_option linter.unusedVariables false
set_option maxRecDepth 100000
namespace Go.Proofs.YtpmnepihaljamaaGreatDoor
open Go.RowKit
open Et
open Cm (Ln lnv ln0 Cl clv cl0)
theorem grown_put7 {w W : World} {p q : Nat} (h : w.grownBy W (some p)) (hq : w.heap.size ≤ q) (a0 a1 a2 a3 a4 a5 a6 : Value) : w.grownBy (put7 W q a0 a1 a2 a3 a4 a5 a6) (some p) :=
  grown_set (grown_put6 h hq a0 a1 a2 a3 a4 a5) (Or.inl hq)
/-- Services in a row of the call's own, their modifiers elsewhere (in blocks of K). -/
def RsvAt (K : Nat → Prop) (B : Nat) (w : World) (v : Value) (xs : List Ln) : Prop :=
  ∃ ms : List Value, ms.length = xs.length ∧ w.ownsRow B 47 6 v xs.length (lcs xs ms) ∧ ∀ (j : Nat) (x : Ln) (m : Value), xs[j]? = some x → ms[j]? = some m → TxAt K w m x.mods
theorem RsvAt.nil (K : Nat → Prop) (B : Nat) (w : World) : RsvAt K B w (.slice none 0 0) [] := ⟨[], rfl, World.ownsRow_nil _ _ _ _, fun j x m h _ => by simp at h⟩
theorem own_keep {B : Nat} {w w' : World} {e : TypeId} {z : Nat} {v : Value} {n : Nat} {xs : List Value} (h : w.ownsRow B e z v n xs) (hk : ∀ g, B ≤ g → ∀ cs, w.heap[g]? = some (.cells cs e (0, 0)) → w'.heap[g]? = some (.cells cs e (0, 0))) : w'.ownsRow B e z v n xs := by
  refine ⟨h.1, h.2.imp id ?_⟩
  rintro ⟨g, c, cur, rfl, h0, hh, hr⟩
  exact ⟨g, c, cur, rfl, h0, hk _ h0 _ hh, hr⟩
theorem RsvAt.keep {K : Nat → Prop} {B : Nat} {w w' : World} {v : Value} {xs : List Ln} (h : RsvAt K B w v xs) (hk : ∀ g, B ≤ g → ∀ cs, w.heap[g]? = some (.cells cs 47 (0, 0)) → w'.heap[g]? = some (.cells cs 47 (0, 0))) (hm : Moves K K w w') : RsvAt K B w' v xs := by
  obtain ⟨ms, h1, h2, h3⟩ := h
  exact ⟨ms, h1, own_keep h2 hk, fun j x m hx hn => TxAt.move (h3 j x m hx hn) hm⟩
theorem RsvAt.grw {K : Nat → Prop} {B : Nat} {w w' : World} {v : Value} {xs : List Ln} (h : RsvAt K B w v xs) (hb : Below w.heap.size w w') : RsvAt K B w' v xs :=
  h.keep (fun g _ cs hg => keepB hg hb) ⟨hb.size, fun b hb' hk => ⟨hk, hb.block b hb'⟩⟩
theorem RsvAt.grown {K : Nat → Prop} {B p : Nat} {w w' : World} {v : Value} {xs : List Ln} (h : RsvAt K B w v xs) (hG : w.grownBy w' (some p)) (hp : p < B) (hKp : ∀ b, K b → b ≠ p) : RsvAt K B w' v xs :=
  h.keep (fun g hg cs hh => by rw [hG.block g (Array.getElem?_eq_some_iff.1 hh).1 (fun e => by have := Option.some.inj e; omega)]; exact hh) (moves_grown hG fun b _ hk => ⟨hk, fun e => hKp b hk (Option.some.inj e)⟩)
theorem RsvAt.set {K : Nat → Prop} {B q j : Nat} {w : World} {v u : Value} {xs : List Ln} {cs : Array Value} {T : TypeId} (h : RsvAt K B w v xs) (hq : w.heap[q]? = some (.cells cs T (0, 0))) (hT : 47 ≠ T) (hK : ∀ b, K b → b ≠ q) : RsvAt K B (w.setCell ⟨q, j, none⟩ u) v xs :=
  h.keep (fun g _ ds hg => heap_far hg (other_block hg hq hT)) ⟨by simp [World.setCell], fun b hb hk => ⟨hk, Below.heap_setCell _ _ _ _ (hK b hk)⟩⟩
theorem RsvAt.put7 {K : Nat → Prop} {B q : Nat} {w : World} {v : Value} {xs : List Ln} {cs : Array Value} {T : TypeId} (h : RsvAt K B w v xs) (hq : w.heap[q]? = some (.cells cs T (0, 0))) (hT : 47 ≠ T) (hK : ∀ b, K b → b ≠ q) (a0 a1 a2 a3 a4 a5 a6 : Value) : RsvAt K B (Go.Proofs.YtpmnepihaljamaaGreatDoor.put7 w q a0 a1 a2 a3 a4 a5 a6) v xs := by
  have s1 := h.set (j := 0) (u := a0) hq hT hK
  have q1 := heap_set hq 0 a0
  have s2 := s1.set (j := 1) (u := a1) q1 hT hK
  have q2 := heap_set q1 1 a1
  have s3 := s2.set (j := 2) (u := a2) q2 hT hK
  have q3 := heap_set q2 2 a2
  have s4 := s3.set (j := 3) (u := a3) q3 hT hK
  have q4 := heap_set q3 3 a3
  have s5 := s4.set (j := 4) (u := a4) q4 hT hK
  have q5 := heap_set q4 4 a4
  have s6 := s5.set (j := 5) (u := a5) q5 hT hK
  have q6 := heap_set q5 5 a5
  exact s6.set (j := 6) (u := a6) q6 hT hK
theorem RsvAt.form {K : Nat → Prop} {B : Nat} {w : World} {v : Value} {xs : List Ln} (h : RsvAt K B w v xs) : ∃ a c, v = .slice a xs.length c := by
  obtain ⟨ms, -, h2, -⟩ := h
  rcases h2.2 with ⟨rfl, e⟩ | ⟨g, c, cur, rfl, _⟩
  · exact ⟨none, 0, by rw [e]⟩
  · exact ⟨_, _, rfl⟩
theorem RsvAt.lns {K : Nat → Prop} {B : Nat} {w : World} {v : Value} {xs : List Ln} (h : RsvAt K B w v xs) : Cm.LnsAt (fun b => B ≤ b ∨ K b) w v xs := by
  obtain ⟨ms, h1, ⟨hl, h⟩, h3⟩ := h
  rcases h with ⟨rfl, h0⟩ | ⟨g, cap, cur, rfl, hB, hg, h4, h2, hs, ht⟩
  · obtain rfl := List.length_eq_zero_iff.1 h0
    exact ⟨none, 0, rfl, by simp, by simp [maxLen], Or.inl rfl⟩
  · refine ⟨_, cap, rfl, h4, h2, Or.inr ⟨g, 0, rfl, Or.inl hB, (Array.getElem?_eq_some_iff.1 hg).1, fun j x hj => ?_⟩⟩
    have hjl : j < xs.length := (List.getElem?_eq_some_iff.1 hj).1
    have hm : ms[j]? = some ms[j] := List.getElem?_eq_getElem (by omega)
    obtain ⟨e0, e1, e2, e3, e4, e5⟩ := lcs_at xs ms j x _ hj hm
    rw [← ht, List.getElem?_take, if_pos (by omega)] at e0 e1 e2 e3 e4 e5
    refine ⟨ms[j], ⟨?_, ?_, ?_, ?_, ?_, ?_⟩, TxAt.move (h3 j x _ hj hm) (moves_weak _ fun b _ hk => Or.inr hk)⟩
    all_goals rw [Nat.zero_add, cell_of_row w g _ cur _ (0, 0) hg]
    · simpa using e0
    · simpa using e1
    · simpa using e2
    · simpa using e3
    · simpa using e4
    · simpa using e5
theorem RsvAt.app {K : Nat → Prop} {B : Nat} {w w' : World} {v v' : Value} {xs : List Ln} {x : Ln} {ms : List Value} {m : Value} (hKB : ∀ b, K b → b < B) (h1 : ms.length = xs.length) (h2 : w.ownsRow B 47 6 v xs.length (lcs xs ms))
    (h3 : ∀ (j : Nat) (x : Ln) (m : Value), xs[j]? = some x → ms[j]? = some m → TxAt K w m x.mods) (hm : TxAt K w m x.mods)
    (hown : w'.ownsRow B 47 6 v' (xs.length + 1) (lcs xs ms ++ [.string (mk x.proc), m, .int .i64 x.date, .int .i64 x.units, .int .i64 x.billed, .int .i64 x.prior])) (hg : w.grownBy w' v.ownBlock) : RsvAt K B w' v' (xs ++ [x]) := by
  have hmv : Moves K K w w' := moves_grown hg fun b hb hk => ⟨hk, fun he => by have := (h2.lt b he.symm).1; have := hKB b hk; omega⟩
  refine ⟨ms ++ [m], by simp [h1], by rw [lcs_app xs ms x m h1, List.length_append]; exact hown, fun j y n hy hn => ?_⟩
  rcases Nat.lt_or_ge j xs.length with hj | hj
  · rw [List.getElem?_append_left hj] at hy
    rw [List.getElem?_append_left (by omega)] at hn
    exact TxAt.move (h3 j y n hy hn) hmv
  · rw [List.getElem?_append_right hj] at hy
    rw [List.getElem?_append_right (by omega)] at hn
    have hj0 : j - xs.length = 0 := by
      have := (List.getElem?_eq_some_iff.1 hy).1
      simp at this; omega
    rw [hj0] at hy
    rw [show j - ms.length = 0 by omega] at hn
    simp at hy hn
    subst hy hn
    exact TxAt.move hm hmv
theorem hd_nd {l : List Sg} (h1 : txB l tNM 2 = true) (h2 : txB l.tail tCLM 5 = true) (h3 : Nu.mnE (tx l.tail 2) = 0) (h4 : ¬ (Nu.riE (tx l.tail 3) 1 = 0 ∧ Nu.riE (tx l.tail 4) 1 = 0)) : hdE l = 4 := by
  unfold hdE hdOk; rw [h1, h2]
  by_cases h5 : Nu.riE (tx l.tail 3) 1 = 0
  · have h6 : ¬ Nu.riE (tx l.tail 4) 1 = 0 := fun h => h4 ⟨h5, h⟩
    simp [h3, h5, h6]
  · simp [h3, h5]
theorem cl_e1 {k : Nat} {l : List Sg} (h : plB l tHL k = false) : clE k l = 11 := by unfold clE; rw [h]; rfl
theorem cl_e2 {k : Nat} {l : List Sg} (h : plB l tHL k = true) (h2 : hdE l.tail ≠ 0) : clE k l = hdE l.tail := by unfold clE; rw [if_pos h, if_neg h2]
theorem cl_e3 {k : Nat} {l : List Sg} (h : plB l tHL k = true) (h2 : hdE l.tail = 0) : clE k l = if (clP l).1 = 0 then (if Cm.checkE (clC l) = 0 then (if Cm.totV (clC l).lines = hdT l.tail then 0 else 17) else Cm.checkE (clC l)) else (clP l).1 := by unfold clE; rw [if_pos h, if_pos h2]
theorem grown_heap {W W' : World} {p q : Nat} {o : Obj} (h : W.heap[q]? = some o) (hG : W.grownBy W' (some p)) (hne : q ≠ p) : W'.heap[q]? = some o := by
  rw [hG.block q (Array.getElem?_eq_some_iff.1 h).1 (fun e => hne (Option.some.inj e))]; exact h
theorem grown_tr {w W W' : World} {p : Option Nat} (h : w.grownBy W p) (h' : W.grownBy W' p) : w.grownBy W' p :=
  ⟨h'.os.trans h.os, h'.tape.trans h.tape, h'.output.trans h.output, Nat.le_trans h.size h'.size, fun k hk hne => (h'.block k (Nat.lt_of_lt_of_le hk h.size) hne).trans (h.block k hk hne)⟩
theorem own_form6 {w : World} {B : Nat} {e : TypeId} {z : Nat} {v : Value} {n : Nat} {xs : List Value} (h : w.ownsRow B e z v n xs) : ∃ a c, v = .slice a n c := by
  rcases h.2 with ⟨rfl, e⟩ | ⟨g, c, cur, rfl, _⟩
  · exact ⟨none, 0, by rw [e]⟩
  · exact ⟨_, _, rfl⟩
set_option maxHeartbeats 32000000 in
theorem rck_any (K : Nat → Prop) (p : Nat) (hKp : ∀ b, K b → b ≠ p) (la : Option Addr) (lc a k : Nat) (l : List Sg) (w : World) (hb : SgBox p la l.length lc a w) (hS : SgAt K w (.slice la l.length lc) l) (hn : Nm l) (hs : Sh l) (hqs : Qs l) (ha : a ≤ l.length) (hl : l.length ≤ 100000) (hk : k ≤ 1000000) :
    Calls Tryz.prog 35 #[.pointer (some ⟨p, 0, none⟩), .int .i64 (k : Int)] w fun e w' => (∃ (c : Cl) (ma : Option Addr) (mn mc : Nat), e = .returned (.tuple #[clv c (.slice ma mn mc), .int .i64 (clE k (l.drop a))]) ∧ (clE k (l.drop a) = 0 → c = clC (l.drop a) ∧ RsvAt (fun b => K b ∧ b < w.heap.size) w.heap.size w' (.slice ma mn mc) c.lines ∧ ∃ a', SgBox p la l.length lc a' w' ∧ l.drop a' = (clP (l.drop a)).2.2 ∧ a' ≤ l.length ∧ a < a')) ∧ w.grownBy w' (some p) := by
  have hpw : p < w.heap.size := (Array.getElem?_eq_some_iff.1 hb).1
  obtain ⟨Kc, hKc⟩ : ∃ Kc : Nat → Prop, Kc = fun b => K b ∧ b < w.heap.size := ⟨_, rfl⟩
  rw [← hKc]
  have hKcp : ∀ b, Kc b → b ≠ p := fun b h => by rw [hKc] at h; exact hKp b h.1
  have hKcB : ∀ b, Kc b → b < w.heap.size := fun b h => by rw [hKc] at h; exact h.2
  have hSc : SgAt Kc w (.slice la l.length lc) l := SgAt.move hS ⟨Nat.le_refl _, fun b hb hk => ⟨by rw [hKc]; exact ⟨hk, hb⟩, rfl⟩⟩
  have HSK := Lib.hid fun W (hG : w.grownBy W (some p)) => SgAt.move (K' := Kc) hSc (moves_grown hG fun b _ hk => ⟨hk, fun e => hKcp b hk (Option.some.inj e)⟩)
  have HSA := Lib.hid fun W (hG : w.grownBy W (some p)) => SgAt.move (K' := All) (HSK.out W hG) (moves_weak _ fun _ _ _ => trivial)
  have HIs := Lib.hid fun W a' n t but (hG : w.grownBy W (some p)) (hp : SgBox p la l.length lc a' W) (ha' : a' ≤ l.length) (h1 : 1 ≤ n) (h10 : n ≤ 10) => ris_any p la lc a' n t but l W hp (HSA.out W hG) hn ha' hl h1 h10
  have b01 := below_alloc w (.cells #[.string ⟨#[]⟩, .string ⟨#[]⟩, .string ⟨#[]⟩, .int .i64 0, .int .i64 0, .string ⟨#[]⟩, .slice none 0 0] 43)
  have b12 := below_alloc (w.alloc (.cells #[.string ⟨#[]⟩, .string ⟨#[]⟩, .string ⟨#[]⟩, .int .i64 0, .int .i64 0, .string ⟨#[]⟩, .slice none 0 0] 43)) (.cells #[.string ⟨#[]⟩, .string ⟨#[]⟩, .string ⟨#[]⟩, .int .i64 0, .int .i64 0, .string ⟨#[]⟩, .slice none 0 0] 43)
  have HG0 := Lib.hid (grownBy_below (below_trans b01 b12))
  have hG0 : w.grownBy ((w.alloc (.cells #[.string ⟨#[]⟩, .string ⟨#[]⟩, .string ⟨#[]⟩, .int .i64 0, .int .i64 0, .string ⟨#[]⟩, .slice none 0 0] 43)).alloc (.cells #[.string ⟨#[]⟩, .string ⟨#[]⟩, .string ⟨#[]⟩, .int .i64 0, .int .i64 0, .string ⟨#[]⟩, .slice none 0 0] 43)) (some p) := ⟨HG0.out.os, HG0.out.tape, HG0.out.output, HG0.out.size, fun k hk _ => HG0.out.block k hk (by simp)⟩
  have HP0 := Lib.hid (hb.grw (below_trans b01 b12))
  have HZ0 := Lib.hid (keepB (heap_alloc_new w (.cells #[.string ⟨#[]⟩, .string ⟨#[]⟩, .string ⟨#[]⟩, .int .i64 0, .int .i64 0, .string ⟨#[]⟩, .slice none 0 0] 43)) b12)
  have HL0 := Lib.hid (new_at (w.alloc (.cells #[.string ⟨#[]⟩, .string ⟨#[]⟩, .string ⟨#[]⟩, .int .i64 0, .int .i64 0, .string ⟨#[]⟩, .slice none 0 0] 43)) (.cells #[.string ⟨#[]⟩, .string ⟨#[]⟩, .string ⟨#[]⟩, .int .i64 0, .int .i64 0, .string ⟨#[]⟩, .slice none 0 0] 43) (w.heap.size + 1) (by simp))
  clear HG0
  have HG0 := Lib.hid hG0
  clear b01 b12 hG0
  obtain ⟨L, hL⟩ : ∃ L, L = l.drop a := ⟨_, rfl⟩
  rw [← hL]
  have HLL := Lib.hid hL
  obtain ⟨EE, hEE⟩ : ∃ EE, EE = clE k L := ⟨_, rfl⟩
  rw [← hEE]
  have HEE := Lib.hid hEE
  have HNm := Lib.hid hn
  have HCK := Lib.hid (show Cm.ClOk (clC L) ∧ (clC L).lines.length ≤ 100000 from by rw [hL]; exact cl_ok (fun g hg => hs g (List.mem_of_mem_drop hg)) (fun g hg => hqs g (List.mem_of_mem_drop hg)) (by rw [List.length_drop]; omega))
  have HKC := Lib.hid (And.intro hKcp (And.intro hKcB hs))
  clear hEE hS hSc hb hL hKc hKp
  go_enter Tryz.func35, Tryz.ntmps35
  go_upto_region 2 with fail
  generalize (w.alloc (.cells #[.string ⟨#[]⟩, .string ⟨#[]⟩, .string ⟨#[]⟩, .int .i64 0, .int .i64 0, .string ⟨#[]⟩, .slice none 0 0] 43)).alloc (.cells #[.string ⟨#[]⟩, .string ⟨#[]⟩, .string ⟨#[]⟩, .int .i64 0, .int .i64 0, .string ⟨#[]⟩, .slice none 0 0] 43) = w0 at *
  have HBd := Lib.hid (Below.drew (Below.refl w0.heap.size w0))
  obtain ⟨b0, b1⟩ := HP0.out.cells
  cases hA : txB (l.drop a) tHL 1
  · have HC : Hid (∀ W, (∃ q, W = w0.drewN q) → Calls Tryz.prog 32 #[.pointer (some ⟨p, 0, none⟩), .string ⟨#[72, 76]⟩, .int .i64 2, .int .i64 (-1)] W fun e w' => e = .returned (.bool false) ∧ ∃ q, w' = W.drewN q) := fun W hW => by
      have hB := below_drewq hW
      have := ris_q p la lc a 2 tHL (-1) l W (HP0.out.grw hB) (HSA.out W (grown_below HG0.out hB)) HNm.out ha hl (by omega) (by omega)
      rw [is_tx, hA] at this
      exact this
    have hpl : plB L tHL k = false := by rw [HLL.out]; unfold plB; rw [hA]; rfl
    go_quiet (first | (go_at_call 32; exact Calls.quiet_of (HC.out _ ⟨_, rfl⟩)))
    have HB1 : Hid (Below w0.heap.size w0 (w0.drewN nq)) := below_drewq ⟨_, rfl⟩
    have HP1 := Lib.hid (HP0.out.grw HB1.out)
    have HZ1 := Lib.hid (keepB HZ0.out HB1.out)
    have HL1 := Lib.hid (keepB HL0.out HB1.out)
    have HG1 := Lib.hid (grown_below HG0.out HB1.out)
    generalize w0.drewN nq = w1 at *
    clear b0 b1
    have HX : Hid (EE = 11) := by show _ = _; rw [HEE.out, cl_e1 hpl]
    obtain ⟨b0, b1⟩ := HP1.out.cells
    have bf := Lib.frozen_of_heap HP1.out 1
    obtain ⟨l0, l1, l2, l3, l4, l5, l6⟩ := claim_cells HL1.out
    obtain ⟨g0, g1, g2, g3, g4, g5, g6⟩ := claim_frozen HL1.out
    obtain ⟨d0, d1, d2, d3, d4, d5, d6⟩ := claim_cells HZ1.out
    obtain ⟨f0, f1, f2, f3, f4, f5, f6⟩ := claim_frozen HZ1.out
    go_wp2
    clear b0 b1 bf l0 l1 l2 l3 l4 l5 l6 g0 g1 g2 g3 g4 g5 g6 d0 d1 d2 d3 d4 d5 d6 f0 f1 f2 f3 f4 f5 f6
    have HZF : Hid ((((((((w1.setCell ⟨w.heap.size, 0, none⟩ (.string ⟨#[]⟩)).setCell ⟨w.heap.size, 1, none⟩ (.string ⟨#[]⟩)).setCell ⟨w.heap.size, 2, none⟩ (.string ⟨#[]⟩)).setCell ⟨w.heap.size, 3, none⟩ (.int .i64 0)).setCell ⟨w.heap.size, 4, none⟩ (.int .i64 0)).setCell ⟨w.heap.size, 5, none⟩ (.string ⟨#[]⟩)).setCell ⟨w.heap.size, 6, none⟩ (.slice none 0 0)).heap[w.heap.size]? = some (.cells #[.string ⟨#[]⟩, .string ⟨#[]⟩, .string ⟨#[]⟩, .int .i64 0, .int .i64 0, .string ⟨#[]⟩, .slice none 0 0] 43 (0, 0))) := put7_heap HZ1.out
    have HGF : Hid (w.grownBy (((((((w1.setCell ⟨w.heap.size, 0, none⟩ (.string ⟨#[]⟩)).setCell ⟨w.heap.size, 1, none⟩ (.string ⟨#[]⟩)).setCell ⟨w.heap.size, 2, none⟩ (.string ⟨#[]⟩)).setCell ⟨w.heap.size, 3, none⟩ (.int .i64 0)).setCell ⟨w.heap.size, 4, none⟩ (.int .i64 0)).setCell ⟨w.heap.size, 5, none⟩ (.string ⟨#[]⟩)).setCell ⟨w.heap.size, 6, none⟩ (.slice none 0 0)) (some p)) := grown_put7 HG1.out (Nat.le_refl _) _ _ _ _ _ _ _
    generalize (((((((w1.setCell ⟨w.heap.size, 0, none⟩ (.string ⟨#[]⟩)).setCell ⟨w.heap.size, 1, none⟩ (.string ⟨#[]⟩)).setCell ⟨w.heap.size, 2, none⟩ (.string ⟨#[]⟩)).setCell ⟨w.heap.size, 3, none⟩ (.int .i64 0)).setCell ⟨w.heap.size, 4, none⟩ (.int .i64 0)).setCell ⟨w.heap.size, 5, none⟩ (.string ⟨#[]⟩)).setCell ⟨w.heap.size, 6, none⟩ (.slice none 0 0)) = wz at *
    obtain ⟨e0, e1', e2, e3, e4, e5, e6⟩ := claim_cells HZF.out
    refine bodyPost_ret (v := .tuple #[.agg #[.string ⟨#[]⟩, .string ⟨#[]⟩, .string ⟨#[]⟩, .int .i64 0, .int .i64 0, .string ⟨#[]⟩, .slice none 0 0], .int .i64 (11)]) (by simp [results, Tryz.results35, go_sem, e0, e1', e2, e3, e4, e5, e6]) rfl ?_
    exact ⟨⟨⟨[], [], [], 0, 0, [], []⟩, none, 0, 0, by rw [HX.out] <;> rfl, fun h => absurd (HX.out.symm.trans h) (by decide)⟩, HGF.out⟩
  obtain ⟨pp, y, r, hr, -⟩ := tx1_form hA
  obtain ⟨hlt, hla, hdr⟩ := at_drop hr
  have HDR := Lib.hid hdr
  have HTX : Hid (plB L tHL k = decide (y = Lib.itoa (k : Int)) ∧ L.tail = r) := ⟨by rw [HLL.out]; unfold plB; rw [hA, hr]; rfl, by rw [HLL.out, hr]; rfl⟩
  have HC : Hid (∀ W, Below w0.heap.size w0 W → Calls Tryz.prog 32 #[.pointer (some ⟨p, 0, none⟩), .string ⟨#[72, 76]⟩, .int .i64 2, .int .i64 (-1)] W fun e w' => e = .returned (.bool true) ∧ Below W.heap.size W w') := fun W hW => by
    have := HIs.out W a 2 tHL (-1) (grown_below HG0.out hW) (HP0.out.grw hW) ha (by omega) (by omega)
    rw [is_tx, hA] at this
    exact this
  obtain ⟨b, o, u, rfl, -, hu, hel⟩ := RowAt.get (HSA.out w0 HG0.out) a hlt
  rw [hla] at hel
  obtain ⟨ea, ec, he, f3, f4, -⟩ := id hel
  subst he
  obtain ⟨be, oe, u1, rfl, -, hu1, htx⟩ := RowAt.get hel 1 (by simp)
  have htx' : TxAt All w0 u1 [y] := htx
  obtain ⟨ta, tc, ht, f5, f6, -⟩ := id htx'
  subst ht
  obtain ⟨bt, ot, u2, rfl, -, hu2, rfl⟩ := RowAt.get htx' 0 (by simp)
  rw [Nat.add_zero] at hu2
  have hu' : w0.cell? ⟨b, o + a, none⟩ = some (.slice (some ⟨be, oe, none⟩) 2 ec) := hu
  have hu1' : w0.cell? ⟨be, oe + 1, none⟩ = some (.slice (some ⟨bt, ot, none⟩) 1 tc) := hu1
  have hu2' : w0.cell? ⟨bt, ot, none⟩ = some (.string (mk y)) := hu2
  have f3' : 2 ≤ ec := f3
  have f5' : 1 ≤ tc := f5
  obtain ⟨f1, f2⟩ : l.length ≤ lc ∧ lc ≤ 9223372036854775807 := by obtain ⟨_, _, e, q1, q2, -⟩ := HSA.out w0 HG0.out; simp only [Value.slice.injEq] at e; obtain ⟨-, -, rfl⟩ := e; exact ⟨q1, q2⟩
  unfold maxLen at f4 f6
  have heq := Cm.mk_ne y (Lib.itoa (k : Int))
  have HNu : Hid (∀ W : World, Calls Tryz.prog 26 #[.int .i64 (k : Int)] W fun e w' => e = .returned (.string (mk (Lib.itoa (k : Int)))) ∧ Below W.heap.size W w') := fun W => rnum_any _ W (by omega) (by omega)
  clear hr hla hA hu hu1 hu2 hel htx htx' f3 f5 hdr
  have HCf : Hid (∀ W, Below w0.heap.size w0 W → W.cell? ⟨p, 0, none⟩ = some (.slice (some ⟨b, o, none⟩) l.length lc) ∧ W.cell? ⟨p, 1, none⟩ = some (.int .i64 (a : Int)) ∧ W.cell? ⟨b, o + a, none⟩ = some (.slice (some ⟨be, oe, none⟩) 2 ec) ∧ W.cell? ⟨be, oe + 1, none⟩ = some (.slice (some ⟨bt, ot, none⟩) 1 tc) ∧ W.cell? ⟨bt, ot, none⟩ = some (.string (mk y))) := fun W hW => ⟨(HP0.out.grw hW).cells.1, (HP0.out.grw hW).cells.2, keepC hu' hW, keepC hu1' hW, keepC hu2' hW⟩
  by_cases hy : y = Lib.itoa (k : Int)
  case neg =>
    rw [decide_eq_false hy] at heq HTX
    generalize Lib.itoa (k : Int) = it at *
    go_region_held3 (fun w' => w'.cell? ⟨p, 0, none⟩ = some (.slice (some ⟨b, o, none⟩) l.length lc) ∧ w'.cell? ⟨p, 1, none⟩ = some (.int .i64 (a : Int)) ∧ w'.cell? ⟨b, o + a, none⟩ = some (.slice (some ⟨be, oe, none⟩) 2 ec) ∧ w'.cell? ⟨be, oe + 1, none⟩ = some (.slice (some ⟨bt, ot, none⟩) 1 tc) ∧ w'.cell? ⟨bt, ot, none⟩ = some (.string (mk y))) (go_keep) (first | (go_at_call 26; refine (HNu.out _).mono ?_; rintro z w2 ⟨rfl, hb⟩; have HB2 := Lib.hid (below_trans HB1.out hb); obtain ⟨q0, q1, q2, q3, q4⟩ := HCf.out _ HB2.out; clear hb) | (go_at_call 32; refine (HC.out _ (by with_reducible exact HBd.out)).mono ?_; rintro z w1 ⟨rfl, hb⟩; have HB1 := Lib.hid (below_trans HBd.out hb); obtain ⟨r0, r1, r2, r3, r4⟩ := HCf.out _ HB1.out; clear hb))
    all_goals
      rename_i hHeld
      clear hHeld
      have HP2 := Lib.hid (HP0.out.grw HB2.out)
      have HZ2 := Lib.hid (keepB HZ0.out HB2.out)
      have HL2 := Lib.hid (keepB HL0.out HB2.out)
      have HG2 := Lib.hid (grown_below HG0.out HB2.out)
      clear b0 b1 hu' hu1' hu2' q0 q1 q2 q3 q4 r0 r1 r2 r3 r4
      have HX : Hid (EE = 11) := by show _ = _; rw [HEE.out, cl_e1 HTX.out.1]
      obtain ⟨b0, b1⟩ := HP2.out.cells
      have bf := Lib.frozen_of_heap HP2.out 1
      obtain ⟨l0, l1, l2, l3, l4, l5, l6⟩ := claim_cells HL2.out
      obtain ⟨g0, g1, g2, g3, g4, g5, g6⟩ := claim_frozen HL2.out
      obtain ⟨d0, d1, d2, d3, d4, d5, d6⟩ := claim_cells HZ2.out
      obtain ⟨f0, f1, f2, f3, f4, f5, f6⟩ := claim_frozen HZ2.out
      go_wp2
      clear b0 b1 bf l0 l1 l2 l3 l4 l5 l6 g0 g1 g2 g3 g4 g5 g6 d0 d1 d2 d3 d4 d5 d6 f0 f1 f2 f3 f4 f5 f6
      have HZF : Hid ((((((((w2.setCell ⟨w.heap.size, 0, none⟩ (.string ⟨#[]⟩)).setCell ⟨w.heap.size, 1, none⟩ (.string ⟨#[]⟩)).setCell ⟨w.heap.size, 2, none⟩ (.string ⟨#[]⟩)).setCell ⟨w.heap.size, 3, none⟩ (.int .i64 0)).setCell ⟨w.heap.size, 4, none⟩ (.int .i64 0)).setCell ⟨w.heap.size, 5, none⟩ (.string ⟨#[]⟩)).setCell ⟨w.heap.size, 6, none⟩ (.slice none 0 0)).heap[w.heap.size]? = some (.cells #[.string ⟨#[]⟩, .string ⟨#[]⟩, .string ⟨#[]⟩, .int .i64 0, .int .i64 0, .string ⟨#[]⟩, .slice none 0 0] 43 (0, 0))) := put7_heap HZ2.out
      have HGF : Hid (w.grownBy (((((((w2.setCell ⟨w.heap.size, 0, none⟩ (.string ⟨#[]⟩)).setCell ⟨w.heap.size, 1, none⟩ (.string ⟨#[]⟩)).setCell ⟨w.heap.size, 2, none⟩ (.string ⟨#[]⟩)).setCell ⟨w.heap.size, 3, none⟩ (.int .i64 0)).setCell ⟨w.heap.size, 4, none⟩ (.int .i64 0)).setCell ⟨w.heap.size, 5, none⟩ (.string ⟨#[]⟩)).setCell ⟨w.heap.size, 6, none⟩ (.slice none 0 0)) (some p)) := grown_put7 HG2.out (Nat.le_refl _) _ _ _ _ _ _ _
      generalize (((((((w2.setCell ⟨w.heap.size, 0, none⟩ (.string ⟨#[]⟩)).setCell ⟨w.heap.size, 1, none⟩ (.string ⟨#[]⟩)).setCell ⟨w.heap.size, 2, none⟩ (.string ⟨#[]⟩)).setCell ⟨w.heap.size, 3, none⟩ (.int .i64 0)).setCell ⟨w.heap.size, 4, none⟩ (.int .i64 0)).setCell ⟨w.heap.size, 5, none⟩ (.string ⟨#[]⟩)).setCell ⟨w.heap.size, 6, none⟩ (.slice none 0 0)) = wz at *
      obtain ⟨e0, e1', e2, e3, e4, e5, e6⟩ := claim_cells HZF.out
      refine bodyPost_ret (v := .tuple #[.agg #[.string ⟨#[]⟩, .string ⟨#[]⟩, .string ⟨#[]⟩, .int .i64 0, .int .i64 0, .string ⟨#[]⟩, .slice none 0 0], .int .i64 (11)]) (by simp [results, Tryz.results35, go_sem, e0, e1', e2, e3, e4, e5, e6]) rfl ?_
      exact ⟨⟨⟨[], [], [], 0, 0, [], []⟩, none, 0, 0, by rw [HX.out] <;> rfl, fun h => absurd (HX.out.symm.trans h) (by decide)⟩, HGF.out⟩
  rw [decide_eq_true hy] at heq HTX
  clear hy
  generalize Lib.itoa (k : Int) = it at *
  go_region_held3 (fun w' => w'.cell? ⟨p, 0, none⟩ = some (.slice (some ⟨b, o, none⟩) l.length lc) ∧ w'.cell? ⟨p, 1, none⟩ = some (.int .i64 (a : Int)) ∧ w'.cell? ⟨b, o + a, none⟩ = some (.slice (some ⟨be, oe, none⟩) 2 ec) ∧ w'.cell? ⟨be, oe + 1, none⟩ = some (.slice (some ⟨bt, ot, none⟩) 1 tc) ∧ w'.cell? ⟨bt, ot, none⟩ = some (.string (mk y))) (go_keep) (first | (go_at_call 26; refine (HNu.out _).mono ?_; rintro z w2 ⟨rfl, hb⟩; have HB2 := Lib.hid (below_trans HB1.out hb); obtain ⟨q0, q1, q2, q3, q4⟩ := HCf.out _ HB2.out; clear hb) | (go_at_call 32; refine (HC.out _ (by with_reducible exact HBd.out)).mono ?_; rintro z w1 ⟨rfl, hb⟩; have HB1 := Lib.hid (below_trans HBd.out hb); obtain ⟨r0, r1, r2, r3, r4⟩ := HCf.out _ HB1.out; clear hb))
  rename_i hHeld
  clear hHeld
  have HP2 := Lib.hid (HP0.out.grw HB2.out)
  have HZ2 := Lib.hid (keepB HZ0.out HB2.out)
  have HL2 := Lib.hid (keepB HL0.out HB2.out)
  have HG2 := Lib.hid (grown_below HG0.out HB2.out)
  clear b0 b1 hu' hu1' hu2' q0 q1 q2 q3 q4 r0 r1 r2 r3 r4
  clear HCf HC HNu HBd HB1 HB2 heq
  obtain ⟨a1, ha1⟩ : ∃ a1 : Nat, a1 = a + 1 := ⟨_, rfl⟩
  have HAa1 := Lib.hid ha1
  have la1 : a1 ≤ l.length := by omega
  clear ha1
  obtain ⟨b0, b1⟩ := HP2.out.cells
  have bf := Lib.frozen_of_heap HP2.out 1
  go_upto_region 5 with fail
  have HP3 : Hid (SgBox p (some ⟨b, o, none⟩) l.length lc a1 (w2.setCell ⟨p, 1, none⟩ (.int .i64 ((a : Int) + 1)))) := HP2.out.set _ (by rw [HAa1.out]; simp)
  have HZ3 := Lib.hid (heap_far (j := 1) (u := (.int .i64 ((a : Int) + 1))) HZ2.out (show w.heap.size ≠ p by omega))
  have HL3 := Lib.hid (heap_far (j := 1) (u := (.int .i64 ((a : Int) + 1))) HL2.out (show w.heap.size + 1 ≠ p by omega))
  have HG3 : Hid (w.grownBy (w2.setCell ⟨p, 1, none⟩ (.int .i64 ((a : Int) + 1))) (some p)) := grown_set HG2.out (Or.inr rfl)
  generalize w2.setCell ⟨p, 1, none⟩ (.int .i64 ((a : Int) + 1)) = w3 at *
  clear b0 b1 bf HP2 HZ2 HL2 HG2
  have HLD1 : Hid (l.drop a1 = r) := by show _ = _; rw [HAa1.out]; exact HDR.out
  have HER : Hid (hdE r ≠ 0 → EE = hdE r) := fun h => by rw [HEE.out, cl_e2 HTX.out.1 (by rw [HTX.out.2]; exact h), HTX.out.2]
  have HC1 : Hid (∀ W, w.grownBy W (some p) → SgBox p (some ⟨b, o, none⟩) l.length lc a1 W → Calls Tryz.prog 32 #[.pointer (some ⟨p, 0, none⟩), .string ⟨#[78, 77]⟩, .int .i64 3, .int .i64 (-1)] W fun e w' => e = .returned (.bool (txB r tNM 2)) ∧ Below W.heap.size W w') := fun W hG hp => by
    have := HIs.out W a1 3 tNM (-1) hG hp (by omega) (by omega) (by omega)
    rw [HLD1.out, is_tx] at this
    exact this
  cases hN : txB r tNM 2
  · rw [hN] at HC1
    go_wp2_with fail
    go_at_call 32
    refine (HC1.out _ HG3.out HP3.out).mono ?_
    rintro z w4 ⟨rfl, hb⟩
    have HP4 := Lib.hid (HP3.out.grw hb)
    have HZ4 := Lib.hid (keepB HZ3.out hb)
    have HL4 := Lib.hid (keepB HL3.out hb)
    have HG4 := Lib.hid (grown_below HG3.out hb)
    clear hb
    have HX : Hid (EE = 4) := by show _ = _; rw [HER.out (by rw [hd_no1 hN]; decide), hd_no1 hN]
    obtain ⟨b0, b1⟩ := HP4.out.cells
    have bf := Lib.frozen_of_heap HP4.out 1
    obtain ⟨l0, l1, l2, l3, l4, l5, l6⟩ := claim_cells HL4.out
    obtain ⟨g0, g1, g2, g3, g4, g5, g6⟩ := claim_frozen HL4.out
    obtain ⟨d0, d1, d2, d3, d4, d5, d6⟩ := claim_cells HZ4.out
    obtain ⟨f0, f1, f2, f3, f4, f5, f6⟩ := claim_frozen HZ4.out
    go_wp2
    clear b0 b1 bf l0 l1 l2 l3 l4 l5 l6 g0 g1 g2 g3 g4 g5 g6 d0 d1 d2 d3 d4 d5 d6 f0 f1 f2 f3 f4 f5 f6
    have HZF : Hid ((((((((w4.setCell ⟨w.heap.size, 0, none⟩ (.string ⟨#[]⟩)).setCell ⟨w.heap.size, 1, none⟩ (.string ⟨#[]⟩)).setCell ⟨w.heap.size, 2, none⟩ (.string ⟨#[]⟩)).setCell ⟨w.heap.size, 3, none⟩ (.int .i64 0)).setCell ⟨w.heap.size, 4, none⟩ (.int .i64 0)).setCell ⟨w.heap.size, 5, none⟩ (.string ⟨#[]⟩)).setCell ⟨w.heap.size, 6, none⟩ (.slice none 0 0)).heap[w.heap.size]? = some (.cells #[.string ⟨#[]⟩, .string ⟨#[]⟩, .string ⟨#[]⟩, .int .i64 0, .int .i64 0, .string ⟨#[]⟩, .slice none 0 0] 43 (0, 0))) := put7_heap HZ4.out
    have HGF : Hid (w.grownBy (((((((w4.setCell ⟨w.heap.size, 0, none⟩ (.string ⟨#[]⟩)).setCell ⟨w.heap.size, 1, none⟩ (.string ⟨#[]⟩)).setCell ⟨w.heap.size, 2, none⟩ (.string ⟨#[]⟩)).setCell ⟨w.heap.size, 3, none⟩ (.int .i64 0)).setCell ⟨w.heap.size, 4, none⟩ (.int .i64 0)).setCell ⟨w.heap.size, 5, none⟩ (.string ⟨#[]⟩)).setCell ⟨w.heap.size, 6, none⟩ (.slice none 0 0)) (some p)) := grown_put7 HG4.out (Nat.le_refl _) _ _ _ _ _ _ _
    generalize (((((((w4.setCell ⟨w.heap.size, 0, none⟩ (.string ⟨#[]⟩)).setCell ⟨w.heap.size, 1, none⟩ (.string ⟨#[]⟩)).setCell ⟨w.heap.size, 2, none⟩ (.string ⟨#[]⟩)).setCell ⟨w.heap.size, 3, none⟩ (.int .i64 0)).setCell ⟨w.heap.size, 4, none⟩ (.int .i64 0)).setCell ⟨w.heap.size, 5, none⟩ (.string ⟨#[]⟩)).setCell ⟨w.heap.size, 6, none⟩ (.slice none 0 0)) = wz at *
    obtain ⟨e0, e1', e2, e3, e4, e5, e6⟩ := claim_cells HZF.out
    refine bodyPost_ret (v := .tuple #[.agg #[.string ⟨#[]⟩, .string ⟨#[]⟩, .string ⟨#[]⟩, .int .i64 0, .int .i64 0, .string ⟨#[]⟩, .slice none 0 0], .int .i64 (4)]) (by simp [results, Tryz.results35, go_sem, e0, e1', e2, e3, e4, e5, e6]) rfl ?_
    exact ⟨⟨⟨[], [], [], 0, 0, [], []⟩, none, 0, 0, by rw [HX.out] <;> rfl, fun h => absurd (HX.out.symm.trans h) (by decide)⟩, HGF.out⟩
  rw [hN] at HC1
  go_wp2_with fail
  go_at_call 32
  refine (HC1.out _ HG3.out HP3.out).mono ?_
  rintro z w4 ⟨rfl, hb⟩
  have HP4 := Lib.hid (HP3.out.grw hb)
  have HZ4 := Lib.hid (keepB HZ3.out hb)
  have HL4 := Lib.hid (keepB HL3.out hb)
  have HG4 := Lib.hid (grown_below HG3.out hb)
  clear hb
  obtain ⟨pn, m1, m2, r2, hr1, -⟩ := tx2_form hN
  have HR1 : Hid (r.tail = r2 ∧ tx r 1 = m1 ∧ tx r 2 = m2) := by rw [hr1]; exact ⟨rfl, rfl, rfl⟩
  rw [hr1] at HLD1
  obtain ⟨la1', hg1, hd1⟩ := at_drop HLD1.out
  have HD1 := Lib.hid hd1
  clear hr1 hd1 HC1
  obtain ⟨a2, ha2⟩ : ∃ a2 : Nat, a2 = a1 + 1 := ⟨_, rfl⟩
  have HAa2 := Lib.hid ha2
  have la2 : a2 ≤ l.length := by omega
  clear ha2
  obtain ⟨b0, b1⟩ := HP4.out.cells
  have bf := Lib.frozen_of_heap HP4.out 1
  go_upto_region 8 with fail
  have HP5 : Hid (SgBox p (some ⟨b, o, none⟩) l.length lc a2 (w4.setCell ⟨p, 1, none⟩ (.int .i64 ((a1 : Int) + 1)))) := HP4.out.set _ (by rw [HAa2.out]; simp)
  have HZ5 := Lib.hid (heap_far (j := 1) (u := (.int .i64 ((a1 : Int) + 1))) HZ4.out (show w.heap.size ≠ p by omega))
  have HL5 := Lib.hid (heap_far (j := 1) (u := (.int .i64 ((a1 : Int) + 1))) HL4.out (show w.heap.size + 1 ≠ p by omega))
  have HG5 : Hid (w.grownBy (w4.setCell ⟨p, 1, none⟩ (.int .i64 ((a1 : Int) + 1))) (some p)) := grown_set HG4.out (Or.inr rfl)
  generalize w4.setCell ⟨p, 1, none⟩ (.int .i64 ((a1 : Int) + 1)) = w5 at *
  clear b0 b1 bf HP4 HZ4 HL4 HG4
  have HLD2 : Hid (l.drop a2 = r2) := by show _ = _; rw [HAa2.out]; exact HD1.out
  have HE1 : Hid (∀ W, w.grownBy W (some p) → SgBox p (some ⟨b, o, none⟩) l.length lc a2 W → Calls Tryz.prog 34 #[.pointer (some ⟨p, 0, none⟩), .int .i64 1] W fun e w' => e = .returned (.string (mk m1)) ∧ Below W.heap.size W w') := fun W hG hp => rel_at p _ lc a1 1 l _ r2 m1 W (by rw [← HAa2.out]; exact hp) (HSA.out W hG) hl HLD1.out rfl (by omega)
  have HE2 : Hid (∀ W, w.grownBy W (some p) → SgBox p (some ⟨b, o, none⟩) l.length lc a2 W → Calls Tryz.prog 34 #[.pointer (some ⟨p, 0, none⟩), .int .i64 2] W fun e w' => e = .returned (.string (mk m2)) ∧ Below W.heap.size W w') := fun W hG hp => rel_at p _ lc a1 2 l _ r2 m2 W (by rw [← HAa2.out]; exact hp) (HSA.out W hG) hl HLD1.out rfl (by omega)
  go_wp2_with fail
  go_at_call 34
  refine (HE1.out _ HG5.out HP5.out).mono ?_
  rintro z w6 ⟨rfl, hb⟩
  have HP6 := Lib.hid (HP5.out.grw hb)
  have HZ6 := Lib.hid (keepB HZ5.out hb)
  have HL6 := Lib.hid (keepB HL5.out hb)
  have HG6 := Lib.hid (grown_below HG5.out hb)
  clear hb
  obtain ⟨b0, b1⟩ := HP6.out.cells
  have bf := Lib.frozen_of_heap HP6.out 1
  obtain ⟨l0, l1, l2, l3, l4, l5, l6⟩ := claim_cells HL6.out
  obtain ⟨g0, g1, g2, g3, g4, g5, g6⟩ := claim_frozen HL6.out
  go_upto_region 9 with fail
  have HL7 : Hid ((w6.setCell ⟨w.heap.size + 1, 1, none⟩ (.string (mk m1))).heap[w.heap.size + 1]? = some (.cells #[.string ⟨#[]⟩, .string (mk m1), .string ⟨#[]⟩, .int .i64 0, .int .i64 0, .string ⟨#[]⟩, .slice none 0 0] 43 (0, 0))) := heap_set (HL6.out) 1 (.string (mk m1))
  have HP7 : Hid (SgBox p (some ⟨b, o, none⟩) l.length lc a2 (w6.setCell ⟨w.heap.size + 1, 1, none⟩ (.string (mk m1)))) := heap_far (j := 1) (u := .string (mk m1)) (HP6.out) (show p ≠ w.heap.size + 1 by omega)
  have HZ7 := Lib.hid (heap_far (j := 1) (u := .string (mk m1)) (HZ6.out) (show w.heap.size ≠ w.heap.size + 1 by omega))
  have HG7 := Lib.hid (grown_set (j := 1) (v := .string (mk m1)) (HG6.out) (Or.inl (show w.heap.size ≤ w.heap.size + 1 by omega)))
  generalize (w6.setCell ⟨w.heap.size + 1, 1, none⟩ (.string (mk m1))) = w7 at *
  clear b0 b1 bf l0 l1 l2 l3 l4 l5 l6 g0 g1 g2 g3 g4 g5 g6 HP6 HZ6 HL6 HG6
  go_wp2_with fail
  go_at_call 34
  refine (HE2.out _ HG7.out HP7.out).mono ?_
  rintro z w8 ⟨rfl, hb⟩
  have HP8 := Lib.hid (HP7.out.grw hb)
  have HZ8 := Lib.hid (keepB HZ7.out hb)
  have HL8 := Lib.hid (keepB HL7.out hb)
  have HG8 := Lib.hid (grown_below HG7.out hb)
  clear hb
  obtain ⟨b0, b1⟩ := HP8.out.cells
  have bf := Lib.frozen_of_heap HP8.out 1
  obtain ⟨l0, l1, l2, l3, l4, l5, l6⟩ := claim_cells HL8.out
  obtain ⟨g0, g1, g2, g3, g4, g5, g6⟩ := claim_frozen HL8.out
  go_upto_region 10 with fail
  have HL9 : Hid ((w8.setCell ⟨w.heap.size + 1, 2, none⟩ (.string (mk m2))).heap[w.heap.size + 1]? = some (.cells #[.string ⟨#[]⟩, .string (mk m1), .string (mk m2), .int .i64 0, .int .i64 0, .string ⟨#[]⟩, .slice none 0 0] 43 (0, 0))) := heap_set (HL8.out) 2 (.string (mk m2))
  have HP9 : Hid (SgBox p (some ⟨b, o, none⟩) l.length lc a2 (w8.setCell ⟨w.heap.size + 1, 2, none⟩ (.string (mk m2)))) := heap_far (j := 2) (u := .string (mk m2)) (HP8.out) (show p ≠ w.heap.size + 1 by omega)
  have HZ9 := Lib.hid (heap_far (j := 2) (u := .string (mk m2)) (HZ8.out) (show w.heap.size ≠ w.heap.size + 1 by omega))
  have HG9 := Lib.hid (grown_set (j := 2) (v := .string (mk m2)) (HG8.out) (Or.inl (show w.heap.size ≤ w.heap.size + 1 by omega)))
  generalize (w8.setCell ⟨w.heap.size + 1, 2, none⟩ (.string (mk m2))) = w9 at *
  clear b0 b1 bf l0 l1 l2 l3 l4 l5 l6 g0 g1 g2 g3 g4 g5 g6 HP8 HZ8 HL8 HG8
  clear HE1 HE2
  have HC2 : Hid (∀ W, w.grownBy W (some p) → SgBox p (some ⟨b, o, none⟩) l.length lc a2 W → Calls Tryz.prog 32 #[.pointer (some ⟨p, 0, none⟩), .string ⟨#[67, 76, 77]⟩, .int .i64 6, .int .i64 (-1)] W fun e w' => e = .returned (.bool (txB r2 tCLM 5)) ∧ Below W.heap.size W w') := fun W hG hp => by
    have := HIs.out W a2 6 tCLM (-1) hG hp (by omega) (by omega) (by omega)
    rw [HLD2.out, is_tx] at this
    exact this
  cases hM : txB r2 tCLM 5
  · rw [hM] at HC2
    have HH : Hid (hdE r = 4) := hd_no2 (by rw [HR1.out.1]; exact hM)
    go_wp2_with fail
    go_at_call 32
    refine (HC2.out _ HG9.out HP9.out).mono ?_
    rintro z w10 ⟨rfl, hb⟩
    have HP10 := Lib.hid (HP9.out.grw hb)
    have HZ10 := Lib.hid (keepB HZ9.out hb)
    have HL10 := Lib.hid (keepB HL9.out hb)
    have HG10 := Lib.hid (grown_below HG9.out hb)
    clear hb
    have HX : Hid (EE = 4) := by show _ = _; rw [HER.out (by rw [HH.out]; decide), HH.out]
    obtain ⟨b0, b1⟩ := HP10.out.cells
    have bf := Lib.frozen_of_heap HP10.out 1
    obtain ⟨l0, l1, l2, l3, l4, l5, l6⟩ := claim_cells HL10.out
    obtain ⟨g0, g1, g2, g3, g4, g5, g6⟩ := claim_frozen HL10.out
    obtain ⟨d0, d1, d2, d3, d4, d5, d6⟩ := claim_cells HZ10.out
    obtain ⟨f0, f1, f2, f3, f4, f5, f6⟩ := claim_frozen HZ10.out
    go_wp2
    clear b0 b1 bf l0 l1 l2 l3 l4 l5 l6 g0 g1 g2 g3 g4 g5 g6 d0 d1 d2 d3 d4 d5 d6 f0 f1 f2 f3 f4 f5 f6
    have HZF : Hid ((((((((w10.setCell ⟨w.heap.size, 0, none⟩ (.string ⟨#[]⟩)).setCell ⟨w.heap.size, 1, none⟩ (.string (mk m1))).setCell ⟨w.heap.size, 2, none⟩ (.string (mk m2))).setCell ⟨w.heap.size, 3, none⟩ (.int .i64 0)).setCell ⟨w.heap.size, 4, none⟩ (.int .i64 0)).setCell ⟨w.heap.size, 5, none⟩ (.string ⟨#[]⟩)).setCell ⟨w.heap.size, 6, none⟩ (.slice none 0 0)).heap[w.heap.size]? = some (.cells #[.string ⟨#[]⟩, .string (mk m1), .string (mk m2), .int .i64 0, .int .i64 0, .string ⟨#[]⟩, .slice none 0 0] 43 (0, 0))) := put7_heap HZ10.out
    have HGF : Hid (w.grownBy (((((((w10.setCell ⟨w.heap.size, 0, none⟩ (.string ⟨#[]⟩)).setCell ⟨w.heap.size, 1, none⟩ (.string (mk m1))).setCell ⟨w.heap.size, 2, none⟩ (.string (mk m2))).setCell ⟨w.heap.size, 3, none⟩ (.int .i64 0)).setCell ⟨w.heap.size, 4, none⟩ (.int .i64 0)).setCell ⟨w.heap.size, 5, none⟩ (.string ⟨#[]⟩)).setCell ⟨w.heap.size, 6, none⟩ (.slice none 0 0)) (some p)) := grown_put7 HG10.out (Nat.le_refl _) _ _ _ _ _ _ _
    generalize (((((((w10.setCell ⟨w.heap.size, 0, none⟩ (.string ⟨#[]⟩)).setCell ⟨w.heap.size, 1, none⟩ (.string (mk m1))).setCell ⟨w.heap.size, 2, none⟩ (.string (mk m2))).setCell ⟨w.heap.size, 3, none⟩ (.int .i64 0)).setCell ⟨w.heap.size, 4, none⟩ (.int .i64 0)).setCell ⟨w.heap.size, 5, none⟩ (.string ⟨#[]⟩)).setCell ⟨w.heap.size, 6, none⟩ (.slice none 0 0)) = wz at *
    obtain ⟨e0, e1', e2, e3, e4, e5, e6⟩ := claim_cells HZF.out
    refine bodyPost_ret (v := .tuple #[.agg #[.string ⟨#[]⟩, .string (mk m1), .string (mk m2), .int .i64 0, .int .i64 0, .string ⟨#[]⟩, .slice none 0 0], .int .i64 (4)]) (by simp [results, Tryz.results35, go_sem, e0, e1', e2, e3, e4, e5, e6]) rfl ?_
    exact ⟨⟨⟨[], m1, m2, 0, 0, [], []⟩, none, 0, 0, by rw [HX.out] <;> rfl, fun h => absurd (HX.out.symm.trans h) (by decide)⟩, HGF.out⟩
  rw [hM] at HC2
  go_wp2_with fail
  go_at_call 32
  refine (HC2.out _ HG9.out HP9.out).mono ?_
  rintro z w10 ⟨rfl, hb⟩
  have HP10 := Lib.hid (HP9.out.grw hb)
  have HZ10 := Lib.hid (keepB HZ9.out hb)
  have HL10 := Lib.hid (keepB HL9.out hb)
  have HG10 := Lib.hid (grown_below HG9.out hb)
  clear hb
  obtain ⟨pc, i1, i2, i3, i4, i5, r3, hr2, -⟩ := tx5_form hM
  have HR2 : Hid (r2.tail = r3 ∧ tx r2 1 = i1 ∧ tx r2 2 = i2 ∧ tx r2 3 = i3 ∧ tx r2 4 = i4 ∧ tx r2 5 = i5) := by rw [hr2]; exact ⟨rfl, rfl, rfl, rfl, rfl, rfl⟩
  have HMm : Hid (txB r tNM 2 = true ∧ txB r.tail tCLM 5 = true) := ⟨hN, by rw [HR1.out.1]; exact hM⟩
  rw [hr2] at HLD2
  obtain ⟨la2', hg2, hd2⟩ := at_drop HLD2.out
  have HD2 := Lib.hid hd2
  have hmem2 : ([pc, [i1], [i2], [i3], [i4], [i5]] : Sg) ∈ l := hg2 ▸ List.getElem_mem la2'
  have hi2 : i2.length ≤ 65536 := hs _ hmem2 [i2] (by simp) i2 (by simp)
  clear hr2 hd2 HC2 hN hM
  obtain ⟨a3, ha3⟩ : ∃ a3 : Nat, a3 = a2 + 1 := ⟨_, rfl⟩
  have HAa3 := Lib.hid ha3
  have la3 : a3 ≤ l.length := by omega
  clear ha3
  obtain ⟨b0, b1⟩ := HP10.out.cells
  have bf := Lib.frozen_of_heap HP10.out 1
  go_upto_region 13 with fail
  have HP11 : Hid (SgBox p (some ⟨b, o, none⟩) l.length lc a3 (w10.setCell ⟨p, 1, none⟩ (.int .i64 ((a2 : Int) + 1)))) := HP10.out.set _ (by rw [HAa3.out]; simp)
  have HZ11 := Lib.hid (heap_far (j := 1) (u := (.int .i64 ((a2 : Int) + 1))) HZ10.out (show w.heap.size ≠ p by omega))
  have HL11 := Lib.hid (heap_far (j := 1) (u := (.int .i64 ((a2 : Int) + 1))) HL10.out (show w.heap.size + 1 ≠ p by omega))
  have HG11 : Hid (w.grownBy (w10.setCell ⟨p, 1, none⟩ (.int .i64 ((a2 : Int) + 1))) (some p)) := grown_set HG10.out (Or.inr rfl)
  generalize w10.setCell ⟨p, 1, none⟩ (.int .i64 ((a2 : Int) + 1)) = w11 at *
  clear b0 b1 bf HP10 HZ10 HL10 HG10
  have HLD3 : Hid (l.drop a3 = r3) := by show _ = _; rw [HAa3.out]; exact HD2.out
  have HE1 : Hid (∀ W, w.grownBy W (some p) → SgBox p (some ⟨b, o, none⟩) l.length lc a3 W → Calls Tryz.prog 34 #[.pointer (some ⟨p, 0, none⟩), .int .i64 1] W fun e w' => e = .returned (.string (mk i1)) ∧ Below W.heap.size W w') := fun W hG hp => rel_at p _ lc a2 1 l _ r3 i1 W (by rw [← HAa3.out]; exact hp) (HSA.out W hG) hl HLD2.out rfl (by omega)
  have HE2 : Hid (∀ W, w.grownBy W (some p) → SgBox p (some ⟨b, o, none⟩) l.length lc a3 W → Calls Tryz.prog 34 #[.pointer (some ⟨p, 0, none⟩), .int .i64 2] W fun e w' => e = .returned (.string (mk i2)) ∧ Below W.heap.size W w') := fun W hG hp => rel_at p _ lc a2 2 l _ r3 i2 W (by rw [← HAa3.out]; exact hp) (HSA.out W hG) hl HLD2.out rfl (by omega)
  have HE3 : Hid (∀ W, w.grownBy W (some p) → SgBox p (some ⟨b, o, none⟩) l.length lc a3 W → Calls Tryz.prog 34 #[.pointer (some ⟨p, 0, none⟩), .int .i64 3] W fun e w' => e = .returned (.string (mk i3)) ∧ Below W.heap.size W w') := fun W hG hp => rel_at p _ lc a2 3 l _ r3 i3 W (by rw [← HAa3.out]; exact hp) (HSA.out W hG) hl HLD2.out rfl (by omega)
  have HE4 : Hid (∀ W, w.grownBy W (some p) → SgBox p (some ⟨b, o, none⟩) l.length lc a3 W → Calls Tryz.prog 34 #[.pointer (some ⟨p, 0, none⟩), .int .i64 4] W fun e w' => e = .returned (.string (mk i4)) ∧ Below W.heap.size W w') := fun W hG hp => rel_at p _ lc a2 4 l _ r3 i4 W (by rw [← HAa3.out]; exact hp) (HSA.out W hG) hl HLD2.out rfl (by omega)
  have HE5 : Hid (∀ W, w.grownBy W (some p) → SgBox p (some ⟨b, o, none⟩) l.length lc a3 W → Calls Tryz.prog 34 #[.pointer (some ⟨p, 0, none⟩), .int .i64 5] W fun e w' => e = .returned (.string (mk i5)) ∧ Below W.heap.size W w') := fun W hG hp => rel_at p _ lc a2 5 l _ r3 i5 W (by rw [← HAa3.out]; exact hp) (HSA.out W hG) hl HLD2.out rfl (by omega)
  have HM2 : Hid (∀ W : World, Calls Tryz.prog 70 #[.string (mk i2)] W fun e w' => e = .returned (.tuple #[.int .i64 (Nu.mnV i2), .int .i64 (Nu.mnE i2)]) ∧ Below W.heap.size W w') := fun W => rmoney_tx i2 W hi2
  have HM3 : Hid (∀ W : World, Calls Tryz.prog 33 #[.string (mk i3), .int .i64 1] W fun e w' => e = .returned (.tuple #[.int .i64 (Nu.riV i3 1), .int .i64 (Nu.riE i3 1)]) ∧ Below W.heap.size W w') := fun W => rint_tx i3 1 W
  have HM4 : Hid (∀ W : World, Calls Tryz.prog 33 #[.string (mk i4), .int .i64 1] W fun e w' => e = .returned (.tuple #[.int .i64 (Nu.riV i4 1), .int .i64 (Nu.riE i4 1)]) ∧ Below W.heap.size W w') := fun W => rint_tx i4 1 W
  obtain ⟨V2, hV2⟩ : ∃ V2, V2 = Nu.mnV i2 := ⟨_, rfl⟩
  obtain ⟨V3, hV3⟩ : ∃ V3, V3 = Nu.riV i3 1 := ⟨_, rfl⟩
  obtain ⟨V4, hV4⟩ : ∃ V4, V4 = Nu.riV i4 1 := ⟨_, rfl⟩
  rw [← hV2] at HM2
  rw [← hV3] at HM3
  rw [← hV4] at HM4
  have HVV := Lib.hid (And.intro hV2 (And.intro hV3 hV4))
  clear hV2 hV3 hV4 hi2 hmem2
  go_wp2_with fail
  go_at_call 34
  refine (HE1.out _ HG11.out HP11.out).mono ?_
  rintro z w12 ⟨rfl, hb⟩
  have HP12 := Lib.hid (HP11.out.grw hb)
  have HZ12 := Lib.hid (keepB HZ11.out hb)
  have HL12 := Lib.hid (keepB HL11.out hb)
  have HG12 := Lib.hid (grown_below HG11.out hb)
  clear hb
  obtain ⟨b0, b1⟩ := HP12.out.cells
  have bf := Lib.frozen_of_heap HP12.out 1
  obtain ⟨l0, l1, l2, l3, l4, l5, l6⟩ := claim_cells HL12.out
  obtain ⟨g0, g1, g2, g3, g4, g5, g6⟩ := claim_frozen HL12.out
  go_upto_region 14 with fail
  have HL13 : Hid ((w12.setCell ⟨w.heap.size + 1, 0, none⟩ (.string (mk i1))).heap[w.heap.size + 1]? = some (.cells #[.string (mk i1), .string (mk m1), .string (mk m2), .int .i64 0, .int .i64 0, .string ⟨#[]⟩, .slice none 0 0] 43 (0, 0))) := heap_set (HL12.out) 0 (.string (mk i1))
  have HP13 : Hid (SgBox p (some ⟨b, o, none⟩) l.length lc a3 (w12.setCell ⟨w.heap.size + 1, 0, none⟩ (.string (mk i1)))) := heap_far (j := 0) (u := .string (mk i1)) (HP12.out) (show p ≠ w.heap.size + 1 by omega)
  have HZ13 := Lib.hid (heap_far (j := 0) (u := .string (mk i1)) (HZ12.out) (show w.heap.size ≠ w.heap.size + 1 by omega))
  have HG13 := Lib.hid (grown_set (j := 0) (v := .string (mk i1)) (HG12.out) (Or.inl (show w.heap.size ≤ w.heap.size + 1 by omega)))
  generalize (w12.setCell ⟨w.heap.size + 1, 0, none⟩ (.string (mk i1))) = w13 at *
  clear b0 b1 bf l0 l1 l2 l3 l4 l5 l6 g0 g1 g2 g3 g4 g5 g6 HP12 HZ12 HL12 HG12
  go_wp2_with fail
  go_at_call 34
  refine (HE5.out _ HG13.out HP13.out).mono ?_
  rintro z w14 ⟨rfl, hb⟩
  have HP14 := Lib.hid (HP13.out.grw hb)
  have HZ14 := Lib.hid (keepB HZ13.out hb)
  have HL14 := Lib.hid (keepB HL13.out hb)
  have HG14 := Lib.hid (grown_below HG13.out hb)
  clear hb
  obtain ⟨b0, b1⟩ := HP14.out.cells
  have bf := Lib.frozen_of_heap HP14.out 1
  obtain ⟨l0, l1, l2, l3, l4, l5, l6⟩ := claim_cells HL14.out
  obtain ⟨g0, g1, g2, g3, g4, g5, g6⟩ := claim_frozen HL14.out
  go_upto_region 15 with fail
  have HL15 : Hid ((w14.setCell ⟨w.heap.size + 1, 5, none⟩ (.string (mk i5))).heap[w.heap.size + 1]? = some (.cells #[.string (mk i1), .string (mk m1), .string (mk m2), .int .i64 0, .int .i64 0, .string (mk i5), .slice none 0 0] 43 (0, 0))) := heap_set (HL14.out) 5 (.string (mk i5))
  have HP15 : Hid (SgBox p (some ⟨b, o, none⟩) l.length lc a3 (w14.setCell ⟨w.heap.size + 1, 5, none⟩ (.string (mk i5)))) := heap_far (j := 5) (u := .string (mk i5)) (HP14.out) (show p ≠ w.heap.size + 1 by omega)
  have HZ15 := Lib.hid (heap_far (j := 5) (u := .string (mk i5)) (HZ14.out) (show w.heap.size ≠ w.heap.size + 1 by omega))
  have HG15 := Lib.hid (grown_set (j := 5) (v := .string (mk i5)) (HG14.out) (Or.inl (show w.heap.size ≤ w.heap.size + 1 by omega)))
  generalize (w14.setCell ⟨w.heap.size + 1, 5, none⟩ (.string (mk i5))) = w15 at *
  clear b0 b1 bf l0 l1 l2 l3 l4 l5 l6 g0 g1 g2 g3 g4 g5 g6 HP14 HZ14 HL14 HG14
  go_wp2_with fail
  go_at_call 34
  refine (HE2.out _ HG15.out HP15.out).mono ?_
  rintro z w16 ⟨rfl, hb⟩
  have HP16 := Lib.hid (HP15.out.grw hb)
  have HZ16 := Lib.hid (keepB HZ15.out hb)
  have HL16 := Lib.hid (keepB HL15.out hb)
  have HG16 := Lib.hid (grown_below HG15.out hb)
  clear hb
  clear HE1 HE5 HE2
  by_cases hm0 : Nu.mnE i2 = 0
  case neg =>
    have hne : (Nu.mnE i2 != 0) = true := by simpa using hm0
    have HH : Hid (hdE r = Nu.mnE i2) := by show _ = _; rw [hd_mn HMm.out.1 HMm.out.2 (by rw [HR1.out.1, HR2.out.2.2.1]; exact hm0), HR1.out.1, HR2.out.2.2.1]
    generalize Nu.mnE i2 = E2 at *
    go_wp2_with fail
    go_at_call 70
    refine (HM2.out _).mono ?_
    rintro z w17 ⟨rfl, hb⟩
    have HP17 := Lib.hid (HP16.out.grw hb)
    have HZ17 := Lib.hid (keepB HZ16.out hb)
    have HL17 := Lib.hid (keepB HL16.out hb)
    have HG17 := Lib.hid (grown_below HG16.out hb)
    clear hb
    have HX : Hid (EE = E2) := by show _ = _; rw [HER.out (by rw [HH.out]; exact hm0), HH.out]
    obtain ⟨b0, b1⟩ := HP17.out.cells
    have bf := Lib.frozen_of_heap HP17.out 1
    obtain ⟨l0, l1, l2, l3, l4, l5, l6⟩ := claim_cells HL17.out
    obtain ⟨g0, g1, g2, g3, g4, g5, g6⟩ := claim_frozen HL17.out
    obtain ⟨d0, d1, d2, d3, d4, d5, d6⟩ := claim_cells HZ17.out
    obtain ⟨f0, f1, f2, f3, f4, f5, f6⟩ := claim_frozen HZ17.out
    go_wp2
    clear b0 b1 bf l0 l1 l2 l3 l4 l5 l6 g0 g1 g2 g3 g4 g5 g6 d0 d1 d2 d3 d4 d5 d6 f0 f1 f2 f3 f4 f5 f6
    have HZF : Hid ((((((((w17.setCell ⟨w.heap.size, 0, none⟩ (.string (mk i1))).setCell ⟨w.heap.size, 1, none⟩ (.string (mk m1))).setCell ⟨w.heap.size, 2, none⟩ (.string (mk m2))).setCell ⟨w.heap.size, 3, none⟩ (.int .i64 0)).setCell ⟨w.heap.size, 4, none⟩ (.int .i64 0)).setCell ⟨w.heap.size, 5, none⟩ (.string (mk i5))).setCell ⟨w.heap.size, 6, none⟩ (.slice none 0 0)).heap[w.heap.size]? = some (.cells #[.string (mk i1), .string (mk m1), .string (mk m2), .int .i64 0, .int .i64 0, .string (mk i5), .slice none 0 0] 43 (0, 0))) := put7_heap HZ17.out
    have HGF : Hid (w.grownBy (((((((w17.setCell ⟨w.heap.size, 0, none⟩ (.string (mk i1))).setCell ⟨w.heap.size, 1, none⟩ (.string (mk m1))).setCell ⟨w.heap.size, 2, none⟩ (.string (mk m2))).setCell ⟨w.heap.size, 3, none⟩ (.int .i64 0)).setCell ⟨w.heap.size, 4, none⟩ (.int .i64 0)).setCell ⟨w.heap.size, 5, none⟩ (.string (mk i5))).setCell ⟨w.heap.size, 6, none⟩ (.slice none 0 0)) (some p)) := grown_put7 HG17.out (Nat.le_refl _) _ _ _ _ _ _ _
    generalize (((((((w17.setCell ⟨w.heap.size, 0, none⟩ (.string (mk i1))).setCell ⟨w.heap.size, 1, none⟩ (.string (mk m1))).setCell ⟨w.heap.size, 2, none⟩ (.string (mk m2))).setCell ⟨w.heap.size, 3, none⟩ (.int .i64 0)).setCell ⟨w.heap.size, 4, none⟩ (.int .i64 0)).setCell ⟨w.heap.size, 5, none⟩ (.string (mk i5))).setCell ⟨w.heap.size, 6, none⟩ (.slice none 0 0)) = wz at *
    obtain ⟨e0, e1', e2, e3, e4, e5, e6⟩ := claim_cells HZF.out
    refine bodyPost_ret (v := .tuple #[.agg #[.string (mk i1), .string (mk m1), .string (mk m2), .int .i64 0, .int .i64 0, .string (mk i5), .slice none 0 0], .int .i64 (E2)]) (by simp [results, Tryz.results35, go_sem, e0, e1', e2, e3, e4, e5, e6]) rfl ?_
    exact ⟨⟨⟨i1, m1, m2, 0, 0, i5, []⟩, none, 0, 0, by rw [HX.out] <;> rfl, fun h => absurd (HX.out.symm.trans h) (hm0)⟩, HGF.out⟩
  rw [hm0] at HM2
  go_wp2_with fail
  go_at_call 70
  refine (HM2.out _).mono ?_
  rintro z w17 ⟨rfl, hb⟩
  have HP17 := Lib.hid (HP16.out.grw hb)
  have HZ17 := Lib.hid (keepB HZ16.out hb)
  have HL17 := Lib.hid (keepB HL16.out hb)
  have HG17 := Lib.hid (grown_below HG16.out hb)
  clear hb
  go_wp2_with fail
  go_at_call 34
  refine (HE3.out _ HG17.out HP17.out).mono ?_
  rintro z w18 ⟨rfl, hb⟩
  have HP18 := Lib.hid (HP17.out.grw hb)
  have HZ18 := Lib.hid (keepB HZ17.out hb)
  have HL18 := Lib.hid (keepB HL17.out hb)
  have HG18 := Lib.hid (grown_below HG17.out hb)
  clear hb
  go_wp2_with fail
  go_at_call 33
  refine (HM3.out _).mono ?_
  rintro z w19 ⟨rfl, hb⟩
  have HP19 := Lib.hid (HP18.out.grw hb)
  have HZ19 := Lib.hid (keepB HZ18.out hb)
  have HL19 := Lib.hid (keepB HL18.out hb)
  have HG19 := Lib.hid (grown_below HG18.out hb)
  clear hb
  go_wp2_with fail
  go_at_call 34
  refine (HE4.out _ HG19.out HP19.out).mono ?_
  rintro z w20 ⟨rfl, hb⟩
  have HP20 := Lib.hid (HP19.out.grw hb)
  have HZ20 := Lib.hid (keepB HZ19.out hb)
  have HL20 := Lib.hid (keepB HL19.out hb)
  have HG20 := Lib.hid (grown_below HG19.out hb)
  clear hb
  go_wp2_with fail
  go_at_call 33
  refine (HM4.out _).mono ?_
  rintro z w21 ⟨rfl, hb⟩
  have HP21 := Lib.hid (HP20.out.grw hb)
  have HZ21 := Lib.hid (keepB HZ20.out hb)
  have HL21 := Lib.hid (keepB HL20.out hb)
  have HG21 := Lib.hid (grown_below HG20.out hb)
  clear hb
  clear HM2 HM3 HM4 HE3 HE4
  by_cases h3 : Nu.riE i3 1 = 0
  case neg =>
    have hne : (Nu.riE i3 1 != 0) = true := by simpa using h3
    have HH : Hid (hdE r = 4) := hd_nd HMm.out.1 HMm.out.2 (by rw [HR1.out.1, HR2.out.2.2.1]; exact hm0) (by rw [HR1.out.1, HR2.out.2.2.2.1]; exact fun h => h3 h.1)
    clear h3 hm0
    generalize Nu.riE i3 1 = E3 at *
    generalize Nu.riE i4 1 = E4 at *
    have HX : Hid (EE = 4) := by show _ = _; rw [HER.out (by rw [HH.out]; decide), HH.out]
    obtain ⟨b0, b1⟩ := HP21.out.cells
    have bf := Lib.frozen_of_heap HP21.out 1
    obtain ⟨l0, l1, l2, l3, l4, l5, l6⟩ := claim_cells HL21.out
    obtain ⟨g0, g1, g2, g3, g4, g5, g6⟩ := claim_frozen HL21.out
    obtain ⟨d0, d1, d2, d3, d4, d5, d6⟩ := claim_cells HZ21.out
    obtain ⟨f0, f1, f2, f3, f4, f5, f6⟩ := claim_frozen HZ21.out
    go_wp2
    clear b0 b1 bf l0 l1 l2 l3 l4 l5 l6 g0 g1 g2 g3 g4 g5 g6 d0 d1 d2 d3 d4 d5 d6 f0 f1 f2 f3 f4 f5 f6
    have HZF : Hid ((((((((w21.setCell ⟨w.heap.size, 0, none⟩ (.string (mk i1))).setCell ⟨w.heap.size, 1, none⟩ (.string (mk m1))).setCell ⟨w.heap.size, 2, none⟩ (.string (mk m2))).setCell ⟨w.heap.size, 3, none⟩ (.int .i64 0)).setCell ⟨w.heap.size, 4, none⟩ (.int .i64 0)).setCell ⟨w.heap.size, 5, none⟩ (.string (mk i5))).setCell ⟨w.heap.size, 6, none⟩ (.slice none 0 0)).heap[w.heap.size]? = some (.cells #[.string (mk i1), .string (mk m1), .string (mk m2), .int .i64 0, .int .i64 0, .string (mk i5), .slice none 0 0] 43 (0, 0))) := put7_heap HZ21.out
    have HGF : Hid (w.grownBy (((((((w21.setCell ⟨w.heap.size, 0, none⟩ (.string (mk i1))).setCell ⟨w.heap.size, 1, none⟩ (.string (mk m1))).setCell ⟨w.heap.size, 2, none⟩ (.string (mk m2))).setCell ⟨w.heap.size, 3, none⟩ (.int .i64 0)).setCell ⟨w.heap.size, 4, none⟩ (.int .i64 0)).setCell ⟨w.heap.size, 5, none⟩ (.string (mk i5))).setCell ⟨w.heap.size, 6, none⟩ (.slice none 0 0)) (some p)) := grown_put7 HG21.out (Nat.le_refl _) _ _ _ _ _ _ _
    generalize (((((((w21.setCell ⟨w.heap.size, 0, none⟩ (.string (mk i1))).setCell ⟨w.heap.size, 1, none⟩ (.string (mk m1))).setCell ⟨w.heap.size, 2, none⟩ (.string (mk m2))).setCell ⟨w.heap.size, 3, none⟩ (.int .i64 0)).setCell ⟨w.heap.size, 4, none⟩ (.int .i64 0)).setCell ⟨w.heap.size, 5, none⟩ (.string (mk i5))).setCell ⟨w.heap.size, 6, none⟩ (.slice none 0 0)) = wz at *
    obtain ⟨e0, e1', e2, e3, e4, e5, e6⟩ := claim_cells HZF.out
    refine bodyPost_ret (v := .tuple #[.agg #[.string (mk i1), .string (mk m1), .string (mk m2), .int .i64 0, .int .i64 0, .string (mk i5), .slice none 0 0], .int .i64 (4)]) (by simp [results, Tryz.results35, go_sem, e0, e1', e2, e3, e4, e5, e6]) rfl ?_
    exact ⟨⟨⟨i1, m1, m2, 0, 0, i5, []⟩, none, 0, 0, by rw [HX.out] <;> rfl, fun h => absurd (HX.out.symm.trans h) (by decide)⟩, HGF.out⟩
  by_cases h4 : Nu.riE i4 1 = 0
  case neg =>
    have hne : (Nu.riE i4 1 != 0) = true := by simpa using h4
    have HH : Hid (hdE r = 4) := hd_nd HMm.out.1 HMm.out.2 (by rw [HR1.out.1, HR2.out.2.2.1]; exact hm0) (by rw [HR1.out.1, HR2.out.2.2.2.2.1]; exact fun h => h4 h.2)
    have hz3 : (Nu.riE i3 1 != 0) = false := by simpa using h3
    clear h3 h4 hm0
    generalize Nu.riE i3 1 = E3 at *
    generalize Nu.riE i4 1 = E4 at *
    have HX : Hid (EE = 4) := by show _ = _; rw [HER.out (by rw [HH.out]; decide), HH.out]
    obtain ⟨b0, b1⟩ := HP21.out.cells
    have bf := Lib.frozen_of_heap HP21.out 1
    obtain ⟨l0, l1, l2, l3, l4, l5, l6⟩ := claim_cells HL21.out
    obtain ⟨g0, g1, g2, g3, g4, g5, g6⟩ := claim_frozen HL21.out
    obtain ⟨d0, d1, d2, d3, d4, d5, d6⟩ := claim_cells HZ21.out
    obtain ⟨f0, f1, f2, f3, f4, f5, f6⟩ := claim_frozen HZ21.out
    go_wp2
    clear b0 b1 bf l0 l1 l2 l3 l4 l5 l6 g0 g1 g2 g3 g4 g5 g6 d0 d1 d2 d3 d4 d5 d6 f0 f1 f2 f3 f4 f5 f6
    have HZF : Hid ((((((((w21.setCell ⟨w.heap.size, 0, none⟩ (.string (mk i1))).setCell ⟨w.heap.size, 1, none⟩ (.string (mk m1))).setCell ⟨w.heap.size, 2, none⟩ (.string (mk m2))).setCell ⟨w.heap.size, 3, none⟩ (.int .i64 0)).setCell ⟨w.heap.size, 4, none⟩ (.int .i64 0)).setCell ⟨w.heap.size, 5, none⟩ (.string (mk i5))).setCell ⟨w.heap.size, 6, none⟩ (.slice none 0 0)).heap[w.heap.size]? = some (.cells #[.string (mk i1), .string (mk m1), .string (mk m2), .int .i64 0, .int .i64 0, .string (mk i5), .slice none 0 0] 43 (0, 0))) := put7_heap HZ21.out
    have HGF : Hid (w.grownBy (((((((w21.setCell ⟨w.heap.size, 0, none⟩ (.string (mk i1))).setCell ⟨w.heap.size, 1, none⟩ (.string (mk m1))).setCell ⟨w.heap.size, 2, none⟩ (.string (mk m2))).setCell ⟨w.heap.size, 3, none⟩ (.int .i64 0)).setCell ⟨w.heap.size, 4, none⟩ (.int .i64 0)).setCell ⟨w.heap.size, 5, none⟩ (.string (mk i5))).setCell ⟨w.heap.size, 6, none⟩ (.slice none 0 0)) (some p)) := grown_put7 HG21.out (Nat.le_refl _) _ _ _ _ _ _ _
    generalize (((((((w21.setCell ⟨w.heap.size, 0, none⟩ (.string (mk i1))).setCell ⟨w.heap.size, 1, none⟩ (.string (mk m1))).setCell ⟨w.heap.size, 2, none⟩ (.string (mk m2))).setCell ⟨w.heap.size, 3, none⟩ (.int .i64 0)).setCell ⟨w.heap.size, 4, none⟩ (.int .i64 0)).setCell ⟨w.heap.size, 5, none⟩ (.string (mk i5))).setCell ⟨w.heap.size, 6, none⟩ (.slice none 0 0)) = wz at *
    obtain ⟨e0, e1', e2, e3, e4, e5, e6⟩ := claim_cells HZF.out
    refine bodyPost_ret (v := .tuple #[.agg #[.string (mk i1), .string (mk m1), .string (mk m2), .int .i64 0, .int .i64 0, .string (mk i5), .slice none 0 0], .int .i64 (4)]) (by simp [results, Tryz.results35, go_sem, e0, e1', e2, e3, e4, e5, e6]) rfl ?_
    exact ⟨⟨⟨i1, m1, m2, 0, 0, i5, []⟩, none, 0, 0, by rw [HX.out] <;> rfl, fun h => absurd (HX.out.symm.trans h) (by decide)⟩, HGF.out⟩
  have HH : Hid (hdE r = 0) := hd_ok HMm.out.1 HMm.out.2 (by rw [HR1.out.1, HR2.out.2.2.1]; exact hm0) (by rw [HR1.out.1, HR2.out.2.2.2.1]; exact h3) (by rw [HR1.out.1, HR2.out.2.2.2.2.1]; exact h4)
  have hz3 : (Nu.riE i3 1 != 0) = false := by simpa using h3
  have hz4 : (Nu.riE i4 1 != 0) = false := by simpa using h4
  clear h3 h4 hm0
  generalize Nu.riE i3 1 = E3 at *
  generalize Nu.riE i4 1 = E4 at *
  obtain ⟨b0, b1⟩ := HP21.out.cells
  have bf := Lib.frozen_of_heap HP21.out 1
  obtain ⟨l0, l1, l2, l3, l4, l5, l6⟩ := claim_cells HL21.out
  obtain ⟨g0, g1, g2, g3, g4, g5, g6⟩ := claim_frozen HL21.out
  go_upto_region 24 with fail
  have HL22 : Hid (((w21.setCell ⟨w.heap.size + 1, 3, none⟩ (.int .i64 V3)).setCell ⟨w.heap.size + 1, 4, none⟩ (.int .i64 V4)).heap[w.heap.size + 1]? = some (.cells #[.string (mk i1), .string (mk m1), .string (mk m2), .int .i64 V3, .int .i64 V4, .string (mk i5), .slice none 0 0] 43 (0, 0))) := heap_set (heap_set (HL21.out) 3 (.int .i64 V3)) 4 (.int .i64 V4)
  have HP22 : Hid (SgBox p (some ⟨b, o, none⟩) l.length lc a3 ((w21.setCell ⟨w.heap.size + 1, 3, none⟩ (.int .i64 V3)).setCell ⟨w.heap.size + 1, 4, none⟩ (.int .i64 V4))) := heap_far (j := 4) (u := .int .i64 V4) (heap_far (j := 3) (u := .int .i64 V3) (HP21.out) (show p ≠ w.heap.size + 1 by omega)) (show p ≠ w.heap.size + 1 by omega)
  have HZ22 := Lib.hid (heap_far (j := 4) (u := .int .i64 V4) (heap_far (j := 3) (u := .int .i64 V3) (HZ21.out) (show w.heap.size ≠ w.heap.size + 1 by omega)) (show w.heap.size ≠ w.heap.size + 1 by omega))
  have HG22 := Lib.hid (grown_set (j := 4) (v := .int .i64 V4) (grown_set (j := 3) (v := .int .i64 V3) (HG21.out) (Or.inl (show w.heap.size ≤ w.heap.size + 1 by omega))) (Or.inl (show w.heap.size ≤ w.heap.size + 1 by omega)))
  generalize ((w21.setCell ⟨w.heap.size + 1, 3, none⟩ (.int .i64 V3)).setCell ⟨w.heap.size + 1, 4, none⟩ (.int .i64 V4)) = w22 at *
  clear b0 b1 bf l0 l1 l2 l3 l4 l5 l6 g0 g1 g2 g3 g4 g5 g6 HP21 HZ21 HL21 HG21
  have HE3 : Hid (EE = if (clP L).1 = 0 then (if Cm.checkE (clC L) = 0 then (if Cm.totV (clC L).lines = V2 then 0 else 17) else Cm.checkE (clC L)) else (clP L).1) := by
    show _ = _
    rw [HEE.out, cl_e3 HTX.out.1 (by rw [HTX.out.2]; exact HH.out), HTX.out.2]
    show (if (clP L).1 = 0 then (if Cm.checkE (clC L) = 0 then (if Cm.totV (clC L).lines = Nu.mnV (tx r.tail 2) then 0 else 17) else Cm.checkE (clC L)) else (clP L).1) = _
    rw [HR1.out.1, HR2.out.2.2.1, HVV.out.1]
  have HC3 : Hid (clC L = ⟨i1, m1, m2, V3, V4, i5, (clP L).2.1⟩) := by
    show _ = _
    unfold clC hdC
    rw [HTX.out.2, HR1.out.1, HR1.out.2.1, HR1.out.2.2, HR2.out.2.1, HR2.out.2.2.2.1, HR2.out.2.2.2.2.1, HR2.out.2.2.2.2.2, HVV.out.2.1, HVV.out.2.2]
  have HF3 : Hid ((l.drop a3).length ≤ L.length ∧ svsA L.length [] (l.drop a3) = clP L) := by
    refine ⟨by rw [HLL.out, List.length_drop, List.length_drop]; have q1 := HAa1.out; have q2 := HAa2.out; have q3 := HAa3.out; omega, ?_⟩
    rw [HLD3.out]
    show _ = svsA L.length [] L.tail.tail.tail
    rw [HTX.out.2, HR1.out.1, HR2.out.1]
  have hlt3 : a < a3 := by have q1 := HAa1.out; have q2 := HAa2.out; have q3 := HAa3.out; omega
  have HR22 : Hid (RsvAt Kc w.heap.size w22 (.slice none 0 0) []) := RsvAt.nil _ _ _
  clear HER HH HVV HR1 HR2 HMm HD1 HD2 HLD1 HLD2 HLD3 HTX HDR HEE
  have HSK0 := Lib.hid (HSK.out w ⟨rfl, rfl, rfl, Nat.le_refl _, fun _ _ _ => rfl⟩)
  go_loopg [14] (l.length - a3) (fun gg _ wr => ∃ (a' : Nat) (acc : List Ln) (f : Nat) (sa : Option Addr) (sc : Nat), gg = l.length - a' ∧ a' ≤ l.length ∧ a3 ≤ a' ∧ acc.length ≤ a' ∧ Hid (SgBox p (some ⟨b, o, none⟩) l.length lc a' wr) ∧ Hid (wr.heap[w.heap.size]? = some (.cells #[.string ⟨#[]⟩, .string ⟨#[]⟩, .string ⟨#[]⟩, .int .i64 0, .int .i64 0, .string ⟨#[]⟩, .slice none 0 0] 43 (0, 0))) ∧ Hid (wr.heap[w.heap.size + 1]? = some (.cells #[.string (mk i1), .string (mk m1), .string (mk m2), .int .i64 V3, .int .i64 V4, .string (mk i5), .slice sa acc.length sc] 43 (0, 0))) ∧ Hid (RsvAt Kc w.heap.size wr (.slice sa acc.length sc) acc) ∧ Hid (w.grownBy wr (some p)) ∧ Hid ((l.drop a').length ≤ f ∧ svsA f acc (l.drop a') = clP L))
  case atStart => exact ⟨a3, [], L.length, none, 0, rfl, la3, Nat.le_refl _, Nat.zero_le _, HP22.out, HZ22.out, HL22.out, HR22.out, HG22.out, HF3.out⟩
  case round =>
    clear HP22 HZ22 HL22 HR22 HG22 HF3
    obtain ⟨a', acc, f, sa, sc, hgg, la', h3a, hac, HP30, HZ30, HL30, HR30, HG30, HFr⟩ := hrel
    generalize wr = w30 at *
    go_upto_region 24 with fail
    go_cut [147] from 120 to 166 (fun s147 wx => s147 = .bool (isLX (l.drop a')) ∧ Hid (∃ q, wx = w30.drewN q))
    case first =>
      obtain ⟨b0, b1⟩ := HP30.out.cells
      by_cases hlt' : a' < l.length
      case neg =>
        have HX : Hid (isLX (l.drop a') = false) := by show _ = _; rw [List.drop_eq_nil_of_le (by omega)]; rfl
        have hd : decide ((a' : Int) < (l.length : Int)) = false := by simp; omega
        go_wp2_with fail
        go_quiet (fail)
        go_wp2_with fail
        go_meet
        exact ⟨by rw [HX.out], ⟨_, rfl⟩⟩
      obtain ⟨t0, r0, hgr⟩ := named_form (HNm.out _ (List.getElem_mem hlt'))
      obtain ⟨be', oe', ec', k1, k2, kc, kp⟩ := seg_at HKC.out.1 HSK0.out hlt' (by rw [hgr]; simp)
      rw [hgr] at k1 kc kp
      obtain ⟨ta', tc', k3, k4, kt⟩ := kp 0 [t0] rfl
      have c1 := kc _ HG30.out
      obtain ⟨c2, ht⟩ := kt _ HG30.out
      obtain ⟨bt', ot', rfl⟩ := tx_addr ht (by simp)
      obtain ⟨b5, o5, u5, e5, -, hu5, rfl⟩ := RowAt.get ht 0 (by simp)
      simp only [Option.some.injEq, Addr.mk.injEq, and_true] at e5
      obtain ⟨rfl, rfl⟩ := e5
      have c3 : w30.cell? ⟨bt', ot', none⟩ = some (.string (mk t0)) := hu5
      rw [Nat.add_zero] at c2
      have c2' : w30.cell? ⟨be', oe', none⟩ = some (.slice (some ⟨bt', ot', none⟩) 1 tc') := c2
      have k3' : 1 ≤ tc' := k3
      have k1' : r0.length + 1 ≤ ec' := k1
      have c1' : w30.cell? ⟨b, o + a', none⟩ = some (.slice (some ⟨be', oe', none⟩) (r0.length + 1) ec') := c1
      have HDL : Hid (isLX (l.drop a') = decide (t0 = tLX)) := by show _ = _; rw [drop_cons hlt', hgr]; rfl
      have heq : ((mk t0).toList == [76, 88]) = decide (t0 = tLX) := mk_lit t0 tLX
      have hli : (a' : Int) < (l.length : Int) := by omega
      clear kc kp kt c1 c2 ht hu5 k1 k3 hgr
      by_cases htl : t0 = tLX
      · rw [decide_eq_true htl] at heq HDL
        clear htl
        go_wp2_with fail
        go_quiet (fail)
        go_wp2_with fail
        go_meet
        exact ⟨by rw [HDL.out], ⟨_, rfl⟩⟩
      · rw [decide_eq_false htl] at heq HDL
        clear htl
        go_wp2_with fail
        go_quiet (fail)
        go_wp2_with fail
        go_meet
        exact ⟨by rw [HDL.out], ⟨_, rfl⟩⟩
    case rest =>
      obtain ⟨rfl, HQ⟩ := hcut
      have hbq := below_drewq HQ.out
      have HP31 := Lib.hid (HP30.out.grw hbq)
      have HZ31 := Lib.hid (keepB HZ30.out hbq)
      have HL31 := Lib.hid (keepB HL30.out hbq)
      have HG31 := Lib.hid (grown_below HG30.out hbq)
      have HR31 := Lib.hid (HR30.out.grw hbq)
      clear HQ hbq HP30 HZ30 HL30 HG30 HR30
      generalize wc = w31 at *
      cases hX : isLX (l.drop a')
      · have HE0 : Hid (clP L = (0, acc, l.drop a')) := by show _ = _; rw [← HFr.out.2, svs_stop hX]
        have HCl : Hid (clC L = ⟨i1, m1, m2, V3, V4, i5, acc⟩) := by show _ = _; rw [HC3.out, HE0.out]
        have HE4 : Hid (EE = if Cm.checkE ⟨i1, m1, m2, V3, V4, i5, acc⟩ = 0 then (if Cm.totV acc = V2 then 0 else 17) else Cm.checkE ⟨i1, m1, m2, V3, V4, i5, acc⟩) := by show _ = _; rw [HE3.out, HE0.out, HCl.out]; rfl
        have HOk : Hid (Cm.ClOk ⟨i1, m1, m2, V3, V4, i5, acc⟩ ∧ acc.length ≤ 100000) := by have := HCK.out; rw [HCl.out] at this; exact this
        have HCh : Hid (∀ W, RsvAt Kc w.heap.size W (.slice sa acc.length sc) acc → Calls Tryz.prog 37 #[clv ⟨i1, m1, m2, V3, V4, i5, acc⟩ (.slice sa acc.length sc)] W fun e w' => e = .returned (.int .i64 (Cm.checkE ⟨i1, m1, m2, V3, V4, i5, acc⟩)) ∧ Below W.heap.size W w') := fun W hW => Cm.rcheck_any ⟨i1, m1, m2, V3, V4, i5, acc⟩ _ W (Cm.LnsAt.move hW.lns (moves_weak _ fun _ _ _ => trivial)) HOk.out.1 (by have := HOk.out.2; show acc.length ≤ _; omega)
        have HTo : Hid (∀ W, RsvAt Kc w.heap.size W (.slice sa acc.length sc) acc → Calls Tryz.prog 53 #[clv ⟨i1, m1, m2, V3, V4, i5, acc⟩ (.slice sa acc.length sc)] W fun e w' => e = .returned (.tuple #[.int .i64 (Cm.totV acc), .int .i64 (Cm.totE acc)]) ∧ Below W.heap.size W w') := fun W hW => Cm.rtotal_any ⟨i1, m1, m2, V3, V4, i5, acc⟩ _ W (Cm.LnsAt.move hW.lns (moves_weak _ fun _ _ _ => trivial)) (by have := HOk.out.2; show acc.length ≤ _; omega)
        obtain ⟨CE, hCE⟩ : ∃ CE, CE = Cm.checkE ⟨i1, m1, m2, V3, V4, i5, acc⟩ := ⟨_, rfl⟩
        rw [← hCE] at HCh HE4
        generalize Cm.totV acc = TV at *
        generalize Cm.totE acc = TE at *
        clear hCE HC3 HE3 HCK hX
        obtain ⟨b0, b1⟩ := HP31.out.cells
        have bf := Lib.frozen_of_heap HP31.out 1
        obtain ⟨l0, l1, l2, l3, l4, l5, l6⟩ := claim_cells HL31.out
        obtain ⟨g0, g1, g2, g3, g4, g5, g6⟩ := claim_frozen HL31.out
        go_wp2_with fail
        go_at_call 37
        refine (HCh.out _ HR31.out).mono ?_
        rintro z w32 ⟨rfl, hb⟩
        have HP32 := Lib.hid (HP31.out.grw hb)
        have HZ32 := Lib.hid (keepB HZ31.out hb)
        have HL32 := Lib.hid (keepB HL31.out hb)
        have HG32 := Lib.hid (grown_below HG31.out hb)
        have HR32 := Lib.hid (HR31.out.grw hb)
        clear hb
        clear b0 b1 bf l0 l1 l2 l3 l4 l5 l6 g0 g1 g2 g3 g4 g5 g6
        by_cases hc0 : CE = 0
        case neg =>
          have hne : (CE != 0) = true := by simpa using hc0
          have HX : Hid (EE = CE) := by show _ = _; rw [HE4.out, if_neg hc0]
          obtain ⟨b0, b1⟩ := HP32.out.cells
          have bf := Lib.frozen_of_heap HP32.out 1
          obtain ⟨l0, l1, l2, l3, l4, l5, l6⟩ := claim_cells HL32.out
          obtain ⟨g0, g1, g2, g3, g4, g5, g6⟩ := claim_frozen HL32.out
          obtain ⟨d0, d1, d2, d3, d4, d5, d6⟩ := claim_cells HZ32.out
          obtain ⟨f0, f1, f2, f3, f4, f5, f6⟩ := claim_frozen HZ32.out
          go_wp2
          clear b0 b1 bf l0 l1 l2 l3 l4 l5 l6 g0 g1 g2 g3 g4 g5 g6 d0 d1 d2 d3 d4 d5 d6 f0 f1 f2 f3 f4 f5 f6
          have HZF : Hid ((((((((w32.setCell ⟨w.heap.size, 0, none⟩ (.string (mk i1))).setCell ⟨w.heap.size, 1, none⟩ (.string (mk m1))).setCell ⟨w.heap.size, 2, none⟩ (.string (mk m2))).setCell ⟨w.heap.size, 3, none⟩ (.int .i64 V3)).setCell ⟨w.heap.size, 4, none⟩ (.int .i64 V4)).setCell ⟨w.heap.size, 5, none⟩ (.string (mk i5))).setCell ⟨w.heap.size, 6, none⟩ (.slice sa acc.length sc)).heap[w.heap.size]? = some (.cells #[.string (mk i1), .string (mk m1), .string (mk m2), .int .i64 V3, .int .i64 V4, .string (mk i5), .slice sa acc.length sc] 43 (0, 0))) := put7_heap HZ32.out
          have HGF : Hid (w.grownBy (((((((w32.setCell ⟨w.heap.size, 0, none⟩ (.string (mk i1))).setCell ⟨w.heap.size, 1, none⟩ (.string (mk m1))).setCell ⟨w.heap.size, 2, none⟩ (.string (mk m2))).setCell ⟨w.heap.size, 3, none⟩ (.int .i64 V3)).setCell ⟨w.heap.size, 4, none⟩ (.int .i64 V4)).setCell ⟨w.heap.size, 5, none⟩ (.string (mk i5))).setCell ⟨w.heap.size, 6, none⟩ (.slice sa acc.length sc)) (some p)) := grown_put7 HG32.out (Nat.le_refl _) _ _ _ _ _ _ _
          generalize (((((((w32.setCell ⟨w.heap.size, 0, none⟩ (.string (mk i1))).setCell ⟨w.heap.size, 1, none⟩ (.string (mk m1))).setCell ⟨w.heap.size, 2, none⟩ (.string (mk m2))).setCell ⟨w.heap.size, 3, none⟩ (.int .i64 V3)).setCell ⟨w.heap.size, 4, none⟩ (.int .i64 V4)).setCell ⟨w.heap.size, 5, none⟩ (.string (mk i5))).setCell ⟨w.heap.size, 6, none⟩ (.slice sa acc.length sc)) = wz at *
          obtain ⟨e0, e1', e2, e3, e4, e5, e6⟩ := claim_cells HZF.out
          refine bodyPost_ret (v := .tuple #[.agg #[.string (mk i1), .string (mk m1), .string (mk m2), .int .i64 V3, .int .i64 V4, .string (mk i5), .slice sa acc.length sc], .int .i64 (CE)]) (by simp [results, Tryz.results35, go_sem, e0, e1', e2, e3, e4, e5, e6]) rfl ?_
          exact ⟨⟨⟨i1, m1, m2, V3, V4, i5, []⟩, sa, acc.length, sc, by rw [HX.out] <;> rfl, fun h => absurd (HX.out.symm.trans h) (hc0)⟩, HGF.out⟩
        rw [if_pos hc0] at HE4
        subst hc0
        obtain ⟨b0, b1⟩ := HP32.out.cells
        have bf := Lib.frozen_of_heap HP32.out 1
        obtain ⟨l0, l1, l2, l3, l4, l5, l6⟩ := claim_cells HL32.out
        obtain ⟨g0, g1, g2, g3, g4, g5, g6⟩ := claim_frozen HL32.out
        go_wp2_with fail
        go_at_call 53
        refine (HTo.out _ HR32.out).mono ?_
        rintro z w33 ⟨rfl, hb⟩
        have HP33 := Lib.hid (HP32.out.grw hb)
        have HZ33 := Lib.hid (keepB HZ32.out hb)
        have HL33 := Lib.hid (keepB HL32.out hb)
        have HG33 := Lib.hid (grown_below HG32.out hb)
        have HR33 := Lib.hid (HR32.out.grw hb)
        clear hb
        clear b0 b1 bf l0 l1 l2 l3 l4 l5 l6 g0 g1 g2 g3 g4 g5 g6
        by_cases hv0 : TV = V2
        case neg =>
          have hne : (TV != V2) = true := by simpa using hv0
          have HX : Hid (EE = 17) := by show _ = _; rw [HE4.out, if_neg hv0]
          obtain ⟨b0, b1⟩ := HP33.out.cells
          have bf := Lib.frozen_of_heap HP33.out 1
          obtain ⟨l0, l1, l2, l3, l4, l5, l6⟩ := claim_cells HL33.out
          obtain ⟨g0, g1, g2, g3, g4, g5, g6⟩ := claim_frozen HL33.out
          obtain ⟨d0, d1, d2, d3, d4, d5, d6⟩ := claim_cells HZ33.out
          obtain ⟨f0, f1, f2, f3, f4, f5, f6⟩ := claim_frozen HZ33.out
          go_wp2
          clear b0 b1 bf l0 l1 l2 l3 l4 l5 l6 g0 g1 g2 g3 g4 g5 g6 d0 d1 d2 d3 d4 d5 d6 f0 f1 f2 f3 f4 f5 f6
          have HZF : Hid ((((((((w33.setCell ⟨w.heap.size, 0, none⟩ (.string (mk i1))).setCell ⟨w.heap.size, 1, none⟩ (.string (mk m1))).setCell ⟨w.heap.size, 2, none⟩ (.string (mk m2))).setCell ⟨w.heap.size, 3, none⟩ (.int .i64 V3)).setCell ⟨w.heap.size, 4, none⟩ (.int .i64 V4)).setCell ⟨w.heap.size, 5, none⟩ (.string (mk i5))).setCell ⟨w.heap.size, 6, none⟩ (.slice sa acc.length sc)).heap[w.heap.size]? = some (.cells #[.string (mk i1), .string (mk m1), .string (mk m2), .int .i64 V3, .int .i64 V4, .string (mk i5), .slice sa acc.length sc] 43 (0, 0))) := put7_heap HZ33.out
          have HGF : Hid (w.grownBy (((((((w33.setCell ⟨w.heap.size, 0, none⟩ (.string (mk i1))).setCell ⟨w.heap.size, 1, none⟩ (.string (mk m1))).setCell ⟨w.heap.size, 2, none⟩ (.string (mk m2))).setCell ⟨w.heap.size, 3, none⟩ (.int .i64 V3)).setCell ⟨w.heap.size, 4, none⟩ (.int .i64 V4)).setCell ⟨w.heap.size, 5, none⟩ (.string (mk i5))).setCell ⟨w.heap.size, 6, none⟩ (.slice sa acc.length sc)) (some p)) := grown_put7 HG33.out (Nat.le_refl _) _ _ _ _ _ _ _
          generalize (((((((w33.setCell ⟨w.heap.size, 0, none⟩ (.string (mk i1))).setCell ⟨w.heap.size, 1, none⟩ (.string (mk m1))).setCell ⟨w.heap.size, 2, none⟩ (.string (mk m2))).setCell ⟨w.heap.size, 3, none⟩ (.int .i64 V3)).setCell ⟨w.heap.size, 4, none⟩ (.int .i64 V4)).setCell ⟨w.heap.size, 5, none⟩ (.string (mk i5))).setCell ⟨w.heap.size, 6, none⟩ (.slice sa acc.length sc)) = wz at *
          obtain ⟨e0, e1', e2, e3, e4, e5, e6⟩ := claim_cells HZF.out
          refine bodyPost_ret (v := .tuple #[.agg #[.string (mk i1), .string (mk m1), .string (mk m2), .int .i64 V3, .int .i64 V4, .string (mk i5), .slice sa acc.length sc], .int .i64 (17)]) (by simp [results, Tryz.results35, go_sem, e0, e1', e2, e3, e4, e5, e6]) rfl ?_
          exact ⟨⟨⟨i1, m1, m2, V3, V4, i5, []⟩, sa, acc.length, sc, by rw [HX.out] <;> rfl, fun h => absurd (HX.out.symm.trans h) (by decide)⟩, HGF.out⟩
        have hne : (TV != V2) = false := by simpa using hv0
        have HF0 : Hid (EE = 0) := by show _ = _; rw [HE4.out, if_pos hv0]
        clear hv0 HE4 HCh HTo HOk
        have HX : Hid (EE = 0) := by show _ = _; exact HF0.out
        obtain ⟨b0, b1⟩ := HP33.out.cells
        have bf := Lib.frozen_of_heap HP33.out 1
        obtain ⟨l0, l1, l2, l3, l4, l5, l6⟩ := claim_cells HL33.out
        obtain ⟨g0, g1, g2, g3, g4, g5, g6⟩ := claim_frozen HL33.out
        obtain ⟨d0, d1, d2, d3, d4, d5, d6⟩ := claim_cells HZ33.out
        obtain ⟨f0, f1, f2, f3, f4, f5, f6⟩ := claim_frozen HZ33.out
        go_wp2
        clear b0 b1 bf l0 l1 l2 l3 l4 l5 l6 g0 g1 g2 g3 g4 g5 g6 d0 d1 d2 d3 d4 d5 d6 f0 f1 f2 f3 f4 f5 f6
        have HZF : Hid ((((((((w33.setCell ⟨w.heap.size, 0, none⟩ (.string (mk i1))).setCell ⟨w.heap.size, 1, none⟩ (.string (mk m1))).setCell ⟨w.heap.size, 2, none⟩ (.string (mk m2))).setCell ⟨w.heap.size, 3, none⟩ (.int .i64 V3)).setCell ⟨w.heap.size, 4, none⟩ (.int .i64 V4)).setCell ⟨w.heap.size, 5, none⟩ (.string (mk i5))).setCell ⟨w.heap.size, 6, none⟩ (.slice sa acc.length sc)).heap[w.heap.size]? = some (.cells #[.string (mk i1), .string (mk m1), .string (mk m2), .int .i64 V3, .int .i64 V4, .string (mk i5), .slice sa acc.length sc] 43 (0, 0))) := put7_heap HZ33.out
        have HGF : Hid (w.grownBy (((((((w33.setCell ⟨w.heap.size, 0, none⟩ (.string (mk i1))).setCell ⟨w.heap.size, 1, none⟩ (.string (mk m1))).setCell ⟨w.heap.size, 2, none⟩ (.string (mk m2))).setCell ⟨w.heap.size, 3, none⟩ (.int .i64 V3)).setCell ⟨w.heap.size, 4, none⟩ (.int .i64 V4)).setCell ⟨w.heap.size, 5, none⟩ (.string (mk i5))).setCell ⟨w.heap.size, 6, none⟩ (.slice sa acc.length sc)) (some p)) := grown_put7 HG33.out (Nat.le_refl _) _ _ _ _ _ _ _
        have HPF : Hid (SgBox p (some ⟨b, o, none⟩) l.length lc a' (((((((w33.setCell ⟨w.heap.size, 0, none⟩ (.string (mk i1))).setCell ⟨w.heap.size, 1, none⟩ (.string (mk m1))).setCell ⟨w.heap.size, 2, none⟩ (.string (mk m2))).setCell ⟨w.heap.size, 3, none⟩ (.int .i64 V3)).setCell ⟨w.heap.size, 4, none⟩ (.int .i64 V4)).setCell ⟨w.heap.size, 5, none⟩ (.string (mk i5))).setCell ⟨w.heap.size, 6, none⟩ (.slice sa acc.length sc))) := heap_far (heap_far (heap_far (heap_far (heap_far (heap_far (heap_far (HP33.out) (show p ≠ w.heap.size by omega)) (show p ≠ w.heap.size by omega)) (show p ≠ w.heap.size by omega)) (show p ≠ w.heap.size by omega)) (show p ≠ w.heap.size by omega)) (show p ≠ w.heap.size by omega)) (show p ≠ w.heap.size by omega)
        have HRF : Hid (RsvAt Kc w.heap.size (((((((w33.setCell ⟨w.heap.size, 0, none⟩ (.string (mk i1))).setCell ⟨w.heap.size, 1, none⟩ (.string (mk m1))).setCell ⟨w.heap.size, 2, none⟩ (.string (mk m2))).setCell ⟨w.heap.size, 3, none⟩ (.int .i64 V3)).setCell ⟨w.heap.size, 4, none⟩ (.int .i64 V4)).setCell ⟨w.heap.size, 5, none⟩ (.string (mk i5))).setCell ⟨w.heap.size, 6, none⟩ (.slice sa acc.length sc)) (.slice sa acc.length sc) acc) := HR33.out.put7 HZ33.out (by decide) (fun b hb => by have := HKC.out.2.1 b hb; omega) _ _ _ _ _ _ _
        generalize (((((((w33.setCell ⟨w.heap.size, 0, none⟩ (.string (mk i1))).setCell ⟨w.heap.size, 1, none⟩ (.string (mk m1))).setCell ⟨w.heap.size, 2, none⟩ (.string (mk m2))).setCell ⟨w.heap.size, 3, none⟩ (.int .i64 V3)).setCell ⟨w.heap.size, 4, none⟩ (.int .i64 V4)).setCell ⟨w.heap.size, 5, none⟩ (.string (mk i5))).setCell ⟨w.heap.size, 6, none⟩ (.slice sa acc.length sc)) = wz at *
        obtain ⟨e0, e1', e2, e3, e4, e5, e6⟩ := claim_cells HZF.out
        refine bodyPost_ret (v := .tuple #[.agg #[.string (mk i1), .string (mk m1), .string (mk m2), .int .i64 V3, .int .i64 V4, .string (mk i5), .slice sa acc.length sc], .int .i64 (0)]) (by simp [results, Tryz.results35, go_sem, e0, e1', e2, e3, e4, e5, e6]) rfl ?_
        have HDZ : Hid (l.drop a' = (clP L).2.2) := by show _ = _; rw [HE0.out]
        refine ⟨⟨⟨i1, m1, m2, V3, V4, i5, acc⟩, sa, acc.length, sc, ?_, fun _ => ⟨HCl.out.symm, HRF.out, a', HPF.out, HDZ.out, la', Nat.lt_of_lt_of_le hlt3 h3a⟩⟩, HGF.out⟩
        rw [HX.out]
      obtain ⟨E1, hE1⟩ : ∃ E1, E1 = (if plB (l.drop a') tLX (acc.length + 1) = true then svE (l.drop (a' + 1)) else 11) := ⟨_, rfl⟩
      have HSv : Hid (Calls Tryz.prog 71 #[.pointer (some ⟨p, 0, none⟩), .int .i64 ((acc.length : Int) + 1)] w31 fun e w' => (∃ (x : Ln) (ma : Option Addr) (mn mc : Nat), e = .returned (.tuple #[lnv x (.slice ma mn mc), .int .i64 E1]) ∧ (E1 = 0 → x = svX (l.drop (a' + 1)) ∧ TxAt Kc w' (.slice ma mn mc) x.mods ∧ ∃ a'', SgBox p (some ⟨b, o, none⟩) l.length lc a'' w' ∧ l.drop a'' = svN (l.drop (a' + 1)) ∧ a'' ≤ l.length ∧ a' < a'')) ∧ w31.grownBy w' (some p)) := by
        have := rsv_any Kc p HKC.out.1 (some ⟨b, o, none⟩) lc a' (acc.length + 1) l w31 HP31.out (HSK.out w31 HG31.out) HNm.out HKC.out.2.2 la' hl (by omega)
        rw [← hE1] at this
        exact this
      have HTl : Hid (l.drop (a' + 1) = (l.drop a').tail) := by show _ = _; rw [List.tail_drop]
      have HE1 := Lib.hid hE1
      have HX1 := Lib.hid hX
      clear hE1 hX
      have hbal : acc.length ≤ 100000 := by omega
      obtain ⟨b0, b1⟩ := HP31.out.cells
      have bf := Lib.frozen_of_heap HP31.out 1
      obtain ⟨l0, l1, l2, l3, l4, l5, l6⟩ := claim_cells HL31.out
      obtain ⟨g0, g1, g2, g3, g4, g5, g6⟩ := claim_frozen HL31.out
      go_wp2_with fail
      go_at_call 71
      refine HSv.out.mono ?_
      rintro z w32 ⟨⟨x, ma, mn, mc, rfl, hok⟩, hG⟩
      have HOK := Lib.hid hok
      have HZ32 := Lib.hid (grown_heap HZ31.out hG (show w.heap.size ≠ p by omega))
      have HL32 := Lib.hid (grown_heap HL31.out hG (show w.heap.size + 1 ≠ p by omega))
      have HG32 := Lib.hid (grown_tr HG31.out hG)
      have HR32 := Lib.hid (HR31.out.grown hG hpw HKC.out.1)
      clear hok hG HSv HP31 HZ31 HL31 HG31 HR31
      clear b0 b1 bf l0 l1 l2 l3 l4 l5 l6 g0 g1 g2 g3 g4 g5 g6
      go_upto_region 26 with fail
      have hbx := below_alloc w32 (.cells #[.string (mk x.proc), .slice ma mn mc, .int .i64 x.date, .int .i64 x.units, .int .i64 x.billed, .int .i64 x.prior] 47)
      have HB33 := Lib.hid hbx
      have HZ33 := Lib.hid (keepB HZ32.out hbx)
      have HL33 := Lib.hid (keepB HL32.out hbx)
      have HG33 := Lib.hid (grown_below HG32.out hbx)
      have HR33 := Lib.hid (HR32.out.grw hbx)
      have HX33 := Lib.hid (heap_alloc_new w32 (.cells #[.string (mk x.proc), .slice ma mn mc, .int .i64 x.date, .int .i64 x.units, .int .i64 x.billed, .int .i64 x.prior] 47))
      generalize hw33 : w32.alloc (.cells #[.string (mk x.proc), .slice ma mn mc, .int .i64 x.date, .int .i64 x.units, .int .i64 x.billed, .int .i64 x.prior] 47) = w33 at *
      have HS33 : Hid (w32.heap.size < w33.heap.size) := by show _ < _; rw [← hw33]; simp
      clear hbx hw33 HZ32 HL32 HG32 HR32
      by_cases h10 : E1 = 0
      case neg =>
        have hne : (E1 != 0) = true := by simpa using h10
        have HBd : Hid ((clP L).1 = E1) := by
          show _ = _
          rw [← HFr.out.2]
          by_cases hpl : plB (l.drop a') tLX (acc.length + 1) = true
          · rw [if_pos hpl, HTl.out] at HE1
            rw [svs_fault HFr.out.1 HX1.out hpl (by rw [← HE1.out]; exact h10), HE1.out]
          · rw [if_neg hpl] at HE1
            rw [svs_order HFr.out.1 HX1.out (by simpa using hpl), HE1.out]
        obtain ⟨l0, l1, l2, l3, l4, l5, l6⟩ := claim_cells HL33.out
        obtain ⟨g0, g1, g2, g3, g4, g5, g6⟩ := claim_frozen HL33.out
        have HX : Hid (EE = E1) := by show _ = _; rw [HE3.out, HBd.out, if_neg h10]
        obtain ⟨d0, d1, d2, d3, d4, d5, d6⟩ := claim_cells HZ33.out
        obtain ⟨f0, f1, f2, f3, f4, f5, f6⟩ := claim_frozen HZ33.out
        go_wp2
        clear l0 l1 l2 l3 l4 l5 l6 g0 g1 g2 g3 g4 g5 g6 d0 d1 d2 d3 d4 d5 d6 f0 f1 f2 f3 f4 f5 f6
        have HZF : Hid ((((((((w33.setCell ⟨w.heap.size, 0, none⟩ (.string (mk i1))).setCell ⟨w.heap.size, 1, none⟩ (.string (mk m1))).setCell ⟨w.heap.size, 2, none⟩ (.string (mk m2))).setCell ⟨w.heap.size, 3, none⟩ (.int .i64 V3)).setCell ⟨w.heap.size, 4, none⟩ (.int .i64 V4)).setCell ⟨w.heap.size, 5, none⟩ (.string (mk i5))).setCell ⟨w.heap.size, 6, none⟩ (.slice sa acc.length sc)).heap[w.heap.size]? = some (.cells #[.string (mk i1), .string (mk m1), .string (mk m2), .int .i64 V3, .int .i64 V4, .string (mk i5), .slice sa acc.length sc] 43 (0, 0))) := put7_heap HZ33.out
        have HGF : Hid (w.grownBy (((((((w33.setCell ⟨w.heap.size, 0, none⟩ (.string (mk i1))).setCell ⟨w.heap.size, 1, none⟩ (.string (mk m1))).setCell ⟨w.heap.size, 2, none⟩ (.string (mk m2))).setCell ⟨w.heap.size, 3, none⟩ (.int .i64 V3)).setCell ⟨w.heap.size, 4, none⟩ (.int .i64 V4)).setCell ⟨w.heap.size, 5, none⟩ (.string (mk i5))).setCell ⟨w.heap.size, 6, none⟩ (.slice sa acc.length sc)) (some p)) := grown_put7 HG33.out (Nat.le_refl _) _ _ _ _ _ _ _
        generalize (((((((w33.setCell ⟨w.heap.size, 0, none⟩ (.string (mk i1))).setCell ⟨w.heap.size, 1, none⟩ (.string (mk m1))).setCell ⟨w.heap.size, 2, none⟩ (.string (mk m2))).setCell ⟨w.heap.size, 3, none⟩ (.int .i64 V3)).setCell ⟨w.heap.size, 4, none⟩ (.int .i64 V4)).setCell ⟨w.heap.size, 5, none⟩ (.string (mk i5))).setCell ⟨w.heap.size, 6, none⟩ (.slice sa acc.length sc)) = wz at *
        obtain ⟨e0, e1', e2, e3, e4, e5, e6⟩ := claim_cells HZF.out
        refine bodyPost_ret (v := .tuple #[.agg #[.string (mk i1), .string (mk m1), .string (mk m2), .int .i64 V3, .int .i64 V4, .string (mk i5), .slice sa acc.length sc], .int .i64 (E1)]) (by simp [results, Tryz.results35, go_sem, e0, e1', e2, e3, e4, e5, e6]) rfl ?_
        exact ⟨⟨⟨i1, m1, m2, V3, V4, i5, []⟩, sa, acc.length, sc, by rw [HX.out] <;> rfl, fun h => absurd (HX.out.symm.trans h) h10⟩, HGF.out⟩
      subst h10
      obtain ⟨hx, hmt, a2', hpb, hdn, la2'', hlt2⟩ := HOK.out rfl
      have hpl : plB (l.drop a') tLX (acc.length + 1) = true ∧ svE (l.drop a').tail = 0 := by
        have := HE1.out
        split at this
        · next h => rw [HTl.out] at this; exact ⟨h, this.symm⟩
        · exact absurd this (by decide)
      obtain ⟨f', ff1, ff2⟩ := svs_more HFr.out.1 HX1.out hpl.1 hpl.2
      have HF2 : Hid ((l.drop a2').length ≤ f' ∧ svsA f' (acc ++ [x]) (l.drop a2') = clP L) := ⟨by rw [hdn, HTl.out]; exact ff1, by rw [hdn, hx, HTl.out, ← ff2]; exact HFr.out.2⟩
      have HP33 := Lib.hid (hpb.grw HB33.out)
      have HT33 := Lib.hid (TxAt.move hmt (show Moves Kc Kc w32 w33 from ⟨HB33.out.size, fun b hb hk => ⟨hk, HB33.out.block b hb⟩⟩))
      obtain ⟨_, _, hsl, -, -, -⟩ := id hmt
      simp only [Value.slice.injEq] at hsl
      obtain ⟨rfl, rfl, rfl⟩ := hsl
      clear hx hmt hpb hdn hpl ff1 ff2 HOK HE1 HX1 HTl HFr HB33
      obtain ⟨ms, y1, y2, y3⟩ := HR33.out
      obtain ⟨il, j1, j2, j3, j4⟩ := infoL
      have HY := Lib.hid (And.intro y1 (And.intro y2 y3))
      clear y1 y2 y3
      obtain ⟨d0, d1, d2, d3, d4, d5⟩ := line_cells HX33.out
      obtain ⟨l0, l1, l2, l3, l4, l5, l6⟩ := claim_cells HL33.out
      obtain ⟨g0, g1, g2, g3, g4, g5, g6⟩ := claim_frozen HL33.out
      have hb5 := below_alloc w33 (.cells #[.string (mk x.proc), .slice ma x.mods.length mc, .int .i64 x.date, .int .i64 x.units, .int .i64 x.billed, .int .i64 x.prior] 47)
      have HB5 := Lib.hid hb5
      have HO5 := Lib.hid (own_grw HY.out.2.1 hb5)
      have HL5 := Lib.hid (keepB HL33.out hb5)
      have HNw := Lib.hid (World.news_of_block (heap_alloc_new w33 (.cells #[.string (mk x.proc), .slice ma x.mods.length mc, .int .i64 x.date, .int .i64 x.units, .int .i64 x.billed, .int .i64 x.prior] 47)))
      have HON : Hid (∀ z ∈ ([.string (mk x.proc), .slice ma x.mods.length mc, .int .i64 x.date, .int .i64 x.units, .int .i64 x.billed, .int .i64 x.prior] : List Value), z.oneCell' = true) := fun z hz => by simp at hz; rcases hz with rfl | rfl | rfl | rfl | rfl | rfl <;> rfl
      have HLN : Hid (acc.length + 1 ≤ maxLen) := by show _ ≤ _; simp only [maxLen]; omega
      have HLB : Hid ((acc.length + 1) * 72 ≤ 140737488355328) := by show _ ≤ _; omega
      have HBB : Hid (w.heap.size ≤ (w33.alloc (.cells #[.string (mk x.proc), .slice ma x.mods.length mc, .int .i64 x.date, .int .i64 x.units, .int .i64 x.billed, .int .i64 x.prior] 47)).heap.size) := by show _ ≤ _; have := HG33.out.size; have := hb5.size; omega
      clear hb5
      go_wp2_with (at_builtin; refine wpList_append_own_at _ (by rfl) _ _ 41 (by rfl) w.heap.size 47 il (.agg #[.string ByteArray.empty, .slice none 0 0, .int .i64 0, .int .i64 0, .int .i64 0, .int .i64 0]) 6 72 Tryz.underlying41 j1 j2 j3 j4 (by rfl) (by omega) (.slice sa acc.length sc) acc.length (lcs acc ms) (by rfl) HO5.out ⟨w33.heap.size, 0, none⟩ 1 1 [.string (mk x.proc), .slice ma x.mods.length mc, .int .i64 x.date, .int .i64 x.units, .int .i64 x.billed, .int .i64 x.prior] (by rfl) (by rfl) HNw.out HON.out HLN.out HLB.out HBB.out ?_)
      intro v6 w6 hown hgrow hnil hat
      have HS6 : Hid (RsvAt Kc w.heap.size w6 v6 (acc ++ [x])) := RsvAt.app HKC.out.2.1 HY.out.1 HO5.out (fun j x m hx hm => TxAt.move (HY.out.2.2 j x m hx hm) ⟨HB5.out.size, fun b hb hk => ⟨hk, HB5.out.block b hb⟩⟩) (TxAt.move HT33.out ⟨HB5.out.size, fun b hb hk => ⟨hk, HB5.out.block b hb⟩⟩) hown hgrow
      have hgk : ∀ q, q < w.heap.size → (Value.slice sa acc.length sc).ownBlock ≠ some q := fun q hq he => by have := (HO5.out.lt q he).1; omega
      have HG6 : Hid (w.grownBy w6 (some p)) := by
        have g5 := grown_below HG33.out HB5.out
        exact ⟨hgrow.os.trans g5.os, hgrow.tape.trans g5.tape, hgrow.output.trans g5.output, Nat.le_trans g5.size hgrow.size, fun q hq hne => (hgrow.block q (Nat.lt_of_lt_of_le hq g5.size) (fun e => hgk q hq e.symm)).trans (g5.block q hq hne)⟩
      have HZ6 := Lib.hid (kept_oth (keepB HZ33.out HB5.out) HO5.out (by decide) hgrow)
      have HL6 := Lib.hid (kept_oth HL5.out HO5.out (by decide) hgrow)
      have HP6 : Hid (SgBox p (some ⟨b, o, none⟩) l.length lc a2' w6) := kept_oth (HP33.out.grw HB5.out) HO5.out (by decide) hgrow
      obtain ⟨sa2, sc2, rfl⟩ : ∃ sa2 sc2, v6 = .slice sa2 (acc.length + 1) sc2 := own_form6 hown
      clear hown hgrow hnil hat HNw HON HLN HLB HBB HO5 HB5 hgk d0 d1 d2 d3 d4 d5 l0 l1 l2 l3 l4 l5 l6 g0 g1 g2 g3 g4 g5 g6
      obtain ⟨l0, l1, l2, l3, l4, l5, l6⟩ := claim_cells HL6.out
      obtain ⟨g0, g1, g2, g3, g4, g5, g6⟩ := claim_frozen HL6.out
      go_wp2
      go_roundg (l.length - a2')
      case rel =>
        refine ⟨a2', acc ++ [x], f', sa2, sc2, rfl, la2'', by omega, by rw [List.length_append]; simp; omega, heap_far HP6.out (show p ≠ w.heap.size + 1 by omega), heap_far HZ6.out (show w.heap.size ≠ w.heap.size + 1 by omega), ?_, ?_, grown_set HG6.out (Or.inl (show w.heap.size ≤ w.heap.size + 1 by omega)), HF2.out⟩
        · have := heap_set HL6.out 6 (.slice sa2 (acc.length + 1) sc2); rw [List.length_append]; exact this
        · have := RsvAt.set (j := 6) (u := .slice sa2 (acc.length + 1) sc2) HS6.out HL6.out (by decide) (fun q hq => by have := HKC.out.2.1 q hq; omega); rw [List.length_append]; exact this
      case measure => omega
end Go.Proofs.YtpmnepihaljamaaGreatDoor
end
