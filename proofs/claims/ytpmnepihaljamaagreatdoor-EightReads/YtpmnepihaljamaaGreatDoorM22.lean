/-
  Texts put together (merge.py): ESrv.
-/
import Derived.ScopeJumps
import Derived.WalkMore
import Derived.Test.YtpmnepihaljamaaGreatDoorM21
/-
  Services as they are read: a row that grows, in new memory.
-/
section
set_option linter.unusedSimpArgs false
set_option linter.unusedVariables false
namespace Go.Proofs.YtpmnepihaljamaaGreatDoor
open Go.RowKit
open Et
open Cm (Ln lnv ln0)

def lcs : List Ln → List Value → List Value
  | x :: r, m :: ms => .string (mk x.proc) :: m :: .int .i64 x.date :: .int .i64 x.units :: .int .i64 x.billed :: .int .i64 x.prior :: lcs r ms
  | _, _ => []
theorem lcs_len : ∀ (xs : List Ln) (ms : List Value), ms.length = xs.length → (lcs xs ms).length = xs.length * 6
  | [], [], _ => rfl
  | [], _ :: _, h => by simp at h
  | _ :: _, [], h => by simp at h
  | x :: r, m :: ms, h => by have := lcs_len r ms (by simpa using h); simp [lcs, this]; omega
theorem lcs_app : ∀ (xs : List Ln) (ms : List Value) (x : Ln) (m : Value), ms.length = xs.length → lcs (xs ++ [x]) (ms ++ [m]) = lcs xs ms ++ [.string (mk x.proc), m, .int .i64 x.date, .int .i64 x.units, .int .i64 x.billed, .int .i64 x.prior]
  | [], [], _, _, _ => rfl
  | [], _ :: _, _, _, h => by simp at h
  | _ :: _, [], _, _, h => by simp at h
  | y :: r, n :: ms, x, m, h => by have := lcs_app r ms x m (by simpa using h); simp [lcs, this]
theorem lcs_at : ∀ (xs : List Ln) (ms : List Value) (j : Nat) (x : Ln) (m : Value), xs[j]? = some x → ms[j]? = some m → (lcs xs ms)[j * 6]? = some (.string (mk x.proc)) ∧ (lcs xs ms)[j * 6 + 1]? = some m ∧ (lcs xs ms)[j * 6 + 2]? = some (.int .i64 x.date) ∧ (lcs xs ms)[j * 6 + 3]? = some (.int .i64 x.units) ∧ (lcs xs ms)[j * 6 + 4]? = some (.int .i64 x.billed) ∧ (lcs xs ms)[j * 6 + 5]? = some (.int .i64 x.prior)
  | [], _, j, x, m, h, _ => by simp at h
  | _ :: _, [], j, x, m, _, h => by simp at h
  | y :: r, n :: ms, 0, x, m, h, h' => by simp at h h'; subst h h'; simp [lcs]
  | y :: r, n :: ms, j + 1, x, m, h, h' => by
    have := lcs_at r ms j x m (by simpa using h) (by simpa using h')
    rw [show (j + 1) * 6 = j * 6 + 6 by omega, show j * 6 + 6 + 1 = j * 6 + 1 + 6 by omega, show j * 6 + 6 + 2 = j * 6 + 2 + 6 by omega, show j * 6 + 6 + 3 = j * 6 + 3 + 6 by omega, show j * 6 + 6 + 4 = j * 6 + 4 + 6 by omega, show j * 6 + 6 + 5 = j * 6 + 5 + 6 by omega]
    simpa [lcs] using this
def SrvAt (B : Nat) (w : World) (v : Value) (xs : List Ln) : Prop :=
  ∃ ms : List Value, ms.length = xs.length ∧ w.ownsRow B 47 6 v xs.length (lcs xs ms) ∧ ∀ (j : Nat) (x : Ln) (m : Value), xs[j]? = some x → ms[j]? = some m → TxAt (fun b => B ≤ b ∧ v.ownBlock ≠ some b) w m x.mods
theorem SrvAt.nil (B : Nat) (w : World) : SrvAt B w (.slice none 0 0) [] := ⟨[], rfl, World.ownsRow_nil _ _ _ _, fun j x m h _ => by simp at h⟩
theorem own_grw {B : Nat} {w w' : World} {e : TypeId} {z : Nat} {v : Value} {n : Nat} {xs : List Value} (h : w.ownsRow B e z v n xs) (hb : Below w.heap.size w w') : w'.ownsRow B e z v n xs := by
  refine ⟨h.1, h.2.imp id ?_⟩
  rintro ⟨g, c, cur, rfl, h0, hh, hr⟩
  exact ⟨g, c, cur, rfl, h0, keepB hh hb, hr⟩
theorem SrvAt.grw {B : Nat} {w w' : World} {v : Value} {xs : List Ln} (h : SrvAt B w v xs) (hb : Below w.heap.size w w') : SrvAt B w' v xs := by
  obtain ⟨ms, h1, h2, h3⟩ := h
  exact ⟨ms, h1, own_grw h2 hb, fun j x m hx hm => TxAt.move (h3 j x m hx hm) ⟨hb.size, fun b hb' hk => ⟨hk, hb.block b hb'⟩⟩⟩
theorem SrvAt.form {B : Nat} {w : World} {v : Value} {xs : List Ln} (h : SrvAt B w v xs) : ∃ a c, v = .slice a xs.length c := by
  obtain ⟨ms, -, h2, -⟩ := h
  rcases h2.2 with ⟨rfl, e⟩ | ⟨g, c, cur, rfl, _⟩
  · exact ⟨none, 0, by rw [e]⟩
  · exact ⟨_, _, rfl⟩
theorem SrvAt.lns {B : Nat} {w : World} {v : Value} {xs : List Ln} (h : SrvAt B w v xs) : Cm.LnsAt (fun b => B ≤ b) w v xs := by
  obtain ⟨ms, h1, ⟨hl, h⟩, h3⟩ := h
  rcases h with ⟨rfl, h0⟩ | ⟨g, cap, cur, rfl, hB, hg, h4, h2, hs, ht⟩
  · obtain rfl := List.length_eq_zero_iff.1 h0
    exact ⟨none, 0, rfl, by simp, by simp [maxLen], Or.inl rfl⟩
  · refine ⟨_, cap, rfl, h4, h2, Or.inr ⟨g, 0, rfl, hB, (Array.getElem?_eq_some_iff.1 hg).1, fun j x hj => ?_⟩⟩
    have hjl : j < xs.length := (List.getElem?_eq_some_iff.1 hj).1
    have hm : ms[j]? = some ms[j] := List.getElem?_eq_getElem (by omega)
    obtain ⟨e0, e1, e2, e3, e4, e5⟩ := lcs_at xs ms j x _ hj hm
    rw [← ht, List.getElem?_take, if_pos (by omega)] at e0 e1 e2 e3 e4 e5
    refine ⟨ms[j], ⟨?_, ?_, ?_, ?_, ?_, ?_⟩, TxAt.move (h3 j x _ hj hm) (moves_weak _ fun b _ hk => hk.1)⟩
    all_goals rw [Nat.zero_add, cell_of_row w g _ cur _ (0, 0) hg]
    · simpa using e0
    · simpa using e1
    · simpa using e2
    · simpa using e3
    · simpa using e4
    · simpa using e5
/-- One service more: behind an append to the row. -/
theorem SrvAt.app {B : Nat} {w w' : World} {v v' : Value} {xs : List Ln} {x : Ln} {ms : List Value} {m : Value} (h1 : ms.length = xs.length) (h2 : w.ownsRow B 47 6 v xs.length (lcs xs ms))
    (h3 : ∀ (j : Nat) (x : Ln) (m : Value), xs[j]? = some x → ms[j]? = some m → TxAt (fun b => B ≤ b ∧ v.ownBlock ≠ some b) w m x.mods) (hm : TxAt (fun b => B ≤ b ∧ v.ownBlock ≠ some b) w m x.mods)
    (hown : w'.ownsRow B 47 6 v' (xs.length + 1) (lcs xs ms ++ [.string (mk x.proc), m, .int .i64 x.date, .int .i64 x.units, .int .i64 x.billed, .int .i64 x.prior])) (hg : w.grownBy w' v.ownBlock) (hat : v'.ownBlock = v.ownBlock ∨ v'.ownBlock = some w.heap.size) : SrvAt B w' v' (xs ++ [x]) := by
  have hmv : Moves (fun b => B ≤ b ∧ v.ownBlock ≠ some b) (fun b => B ≤ b ∧ v'.ownBlock ≠ some b) w w' := moves_grown hg fun b hb hk => ⟨⟨hk.1, by
    rcases hat with e | e
    · rw [e]; exact hk.2
    · rw [e]; intro he; have := Option.some.inj he; omega⟩, fun he => hk.2 he.symm⟩
  refine ⟨ms ++ [m], by simp [h1], by rw [lcs_app xs ms x m h1, List.length_append]; exact hown, fun j y n hy hn => ?_⟩
  rcases Nat.lt_or_ge j xs.length with hj | hj
  · rw [List.getElem?_append_left hj] at hy
    rw [List.getElem?_append_left (by omega)] at hn
    exact TxAt.move (h3 j y n hy hn) hmv
  · rw [List.getElem?_append_right hj] at hy
    rw [List.getElem?_append_right (by omega)] at hn
    have hj0 : j - xs.length = 0 := by
      have := (List.getElem?_eq_some_iff.1 hy).1
      simp at this; omega
    rw [hj0] at hy
    rw [show j - ms.length = 0 by omega] at hn
    simp at hy hn
    subst hy hn
    exact TxAt.move hm hmv
theorem infoL : ∃ i, Tryz.prog.info? 47 = some i ∧ i.zero = some (.agg #[.string ByteArray.empty, .slice none 0 0, .int .i64 0, .int .i64 0, .int .i64 0, .int .i64 0]) ∧ i.size = 6 ∧ i.bytes = 72 := by
  have hi : (Tryz.prog.info? 47).map (fun i => (i.zero, i.size, i.bytes)) = some (some (.agg #[.string ByteArray.empty, .slice none 0 0, .int .i64 0, .int .i64 0, .int .i64 0, .int .i64 0]), 6, 72) := by kernel_rfl
  cases hq : Tryz.prog.info? 47 with
  | none => rw [hq] at hi; cases hi
  | some i =>
    rw [hq] at hi
    simp only [Option.map_some, Option.some.injEq, Prod.mk.injEq] at hi
    exact ⟨i, rfl, hi⟩
/-- A scope in which the run jumps back to one label, with its first pass among the others. -/
theorem scope_passes {P : Program} {a : Act} {w : World} {Q : Exit → Act → World → Prop} {c rest : Code} (l : Nat) (J : Act → World → Prop) (μ : Act → World → Nat) (hf : findLabel c l = some (Code.skip.seq rest))
    (pass : ∀ a w, J a w → rest.wp P (Exit.jump l (fun a' w' => J a' w' ∧ μ a' w' < μ a w) Q) a w)
    (first : (∀ a w, J a w → rest.wp P (Exit.jump l J Q) a w) → c.wp P (Exit.jump l J Q) a w) : (Code.scope c).wp P Q a w :=
  wp_scope_jumps l J μ hf (first fun a w h => wp_mono (pass a w h) fun e a w q => by
    cases e with
    | goto l' => exact ⟨q.1, q.2.1⟩
    | _ => exact q) fun a w h => wp_seq (wp_skip (pass a w h))

/-! ### what is left behind services -/
theorem svN_len (l : List Sg) : (svN l).length ≤ l.length := by
  unfold svN
  split <;> simp <;> omega
theorem Nm.svN {l : List Sg} (h : Nm l) : Nm (svN l) := by unfold Et.svN; split; exact h.tail.tail.tail; exact h.tail.tail
theorem Sh.svN {l : List Sg} (h : Sh l) : Sh (svN l) := by unfold Et.svN; split; exact h.tail.tail.tail; exact h.tail.tail
theorem Qs.svN {l : List Sg} (h : Qs l) : Qs (svN l) := by unfold Et.svN; split; exact h.tail.tail.tail; exact h.tail.tail
theorem svs_stop {f : Nat} {acc : List Ln} {l : List Sg} (h : isLX l = false) : svsA f acc l = (0, acc, l) := by
  cases f with
  | zero => rfl
  | succ f => rw [svsA, h]; rfl
theorem lx_cons {l : List Sg} (h : isLX l = true) : ∃ g r, l = g :: r := by
  cases l with
  | nil => simp [isLX] at h
  | cons g r => exact ⟨g, r, rfl⟩
theorem svs_order {f : Nat} {acc : List Ln} {l : List Sg} (hf : l.length ≤ f) (h : isLX l = true) (h2 : plB l tLX (acc.length + 1) = false) : svsA f acc l = (11, [], []) := by
  obtain ⟨g, r, rfl⟩ := lx_cons h
  cases f with
  | zero => simp at hf
  | succ f => rw [svsA, h, h2]; rfl
theorem svs_fault {f : Nat} {acc : List Ln} {l : List Sg} (hf : l.length ≤ f) (h : isLX l = true) (h2 : plB l tLX (acc.length + 1) = true) (h3 : svE l.tail ≠ 0) : svsA f acc l = (svE l.tail, [], []) := by
  obtain ⟨g, r, rfl⟩ := lx_cons h
  cases f with
  | zero => simp at hf
  | succ f => rw [svsA, h, h2, if_neg h3]; rfl
theorem svs_more {f : Nat} {acc : List Ln} {l : List Sg} (hf : l.length ≤ f) (h : isLX l = true) (h2 : plB l tLX (acc.length + 1) = true) (h3 : svE l.tail = 0) : ∃ f', (svN l.tail).length ≤ f' ∧ svsA f acc l = svsA f' (acc ++ [svX l.tail]) (svN l.tail) := by
  obtain ⟨g, r, rfl⟩ := lx_cons h
  cases f with
  | zero => simp at hf
  | succ f =>
    refine ⟨f, ?_, by rw [svsA, h, h2, if_pos h3]; rfl⟩
    have := svN_len r
    simp at hf ⊢
    omega
end Go.Proofs.YtpmnepihaljamaaGreatDoor
end
