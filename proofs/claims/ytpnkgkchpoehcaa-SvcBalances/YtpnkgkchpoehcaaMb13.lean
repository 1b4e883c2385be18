/-
  Texts put together (merge.py): VClone.
-/
import Derived.Test.YtpnkgkchpoehcaaMb12
/-
  slices.Clone of adjustments and of services, svc.oppositeCas, as contracts: rows of the call's own. (Written by gen_clone.py.)
-/
section
set_option linter.unusedSimpArgs false
set_option linter.unusedVariables false
set_option maxRecDepth 100000
namespace Go.Proofs.Ytpnkgkchpoehcaa.Sv
open Go.RowKit
open Bk (keepB below_alloc below_trans alloc_new add_lit)

theorem s_src {w : World} {b o : Nat} {l : List Sx} (h : ∀ (j : Nat) x, l[j]? = some x → SrCells w b (o + j * 4) x.s x.m) (j : Nat) (u : Value) (hj : (scs l)[j]? = some u) : w.cell? ⟨b, o + j, none⟩ = some u := by
  have hjl : j < l.length * 4 := by have := (List.getElem?_eq_some_iff.1 hj).1; rwa [scs_len] at this
  have hq : j / 4 < l.length := by omega
  have hx := List.getElem?_eq_getElem hq
  obtain ⟨c0, c1, c2, c3⟩ := h _ _ hx
  have e := scs_at l (j / 4) _ hx (j % 4) (Nat.mod_lt _ (by omega))
  rw [show j / 4 * 4 + j % 4 = j by omega, hj] at e
  have hr : j % 4 = 0 ∨ j % 4 = 1 ∨ j % 4 = 2 ∨ j % 4 = 3 := by omega
  rcases hr with r | r | r | r <;> rw [r] at e
  · rw [show o + j = o + j / 4 * 4 by omega, c0]; exact e.symm
  · rw [show o + j = o + j / 4 * 4 + 1 by omega, c1]; exact e.symm
  · rw [show o + j = o + j / 4 * 4 + 2 by omega, c2]; exact e.symm
  · rw [show o + j = o + j / 4 * 4 + 3 by omega, c3]; exact e.symm
/-- A row of services, with each one's adjustments' value. -/
def SxAt (w : World) (v : Value) (l : List Sx) : Prop :=
  ∃ a c, v = .slice a l.length c ∧ l.length ≤ c ∧ c ≤ maxLen ∧ (l = [] ∨ ∃ b o, a = some ⟨b, o, none⟩ ∧ ∀ (j : Nat) x, l[j]? = some x → SrCells w b (o + j * 4) x.s x.m)
set_option maxHeartbeats 4000000 in
theorem cloneK_any (l : List Ca) (v : Value) (w : World) (h : CasAt All w v l) (hl : l.length ≤ 1000000) :
    Calls Try.prog 45 #[v] w fun e w' => ∃ v', e = .returned v' ∧ OwnK w.heap.size w' v' l ∧ Below w.heap.size w w' := by
  obtain ⟨a, c, rfl, h1, h2, h3⟩ := h
  have q22 : ∀ (w : World) (a : Option Addr) (n c n' c' : Nat), (binOp .eql 45 (.slice a n c) (.slice none n' c')).run Try.prog w = .ok (.bool a.isNone) w := fun w a n c n' c' => Lib.run_eql_slice_nil w _ _ a n c n' c' Try.underlying45
  cases a with
  | none =>
    have hl0 : l = [] := by
      rcases h3 with h | ⟨b, o, e, _⟩
      · exact h
      · cases e
    subst hl0
    go_enter Try.func45, Try.ntmps45
    go_wp2
    go_ret
    exact ⟨_, rfl, ⟨rfl, Or.inl ⟨rfl, rfl⟩⟩, Below.refl _ _⟩
  | some ad =>
    obtain ⟨b, o, s⟩ := ad
    obtain ⟨i0, hi, hz0, hz1, hz2⟩ := infok
    have HS : Hid (∀ j u, (kcs l)[j]? = some u → w.cell? ((⟨b, o, s⟩ : Addr).add j) = some u) := by
      intro j u hj
      rcases h3 with h | ⟨b', o', e, _, _, hc⟩
      · subst h; simp [kcs] at hj
      · simp only [Option.some.injEq, Addr.mk.injEq] at e
        obtain ⟨rfl, rfl, rfl⟩ := e
        rw [add_lit]
        exact k_src hc j u hj
    have HON : Hid (∀ u ∈ kcs l, u.oneCell' = true) := kcs_one l
    clear h3
    go_enter Try.func45, Try.ntmps45
    go_wp2_with (at_builtin; refine wpList_append_own _ rfl _ _ 45 rfl w.heap.size Tk i0 _ 3 32 Try.underlying45 hi hz0 hz1 hz2 rfl (by decide) _ _ _ rfl (World.ownsRow_made w #[] 0 (Nat.le_refl _) (Nat.zero_le _) rfl) ⟨b, o, s⟩ l.length c (kcs l) rfl ?qc1 ?qc2 ?qc3 ?qc4 ?qc5 ?qc6 ?_)
    case qc1 => rw [kcs_len]
    case qc2 => intro j u hj; exact Lib.cell?_alloc_some _ (HS.out j u hj)
    case qc3 => exact HON.out
    case qc4 => unfold maxLen; omega
    case qc5 => omega
    case qc6 => simp
    intro v' w1 hown hgrow hnil
    go_wp2
    go_ret
    refine ⟨v', rfl, ?_, ?_⟩
    · unfold OwnK; simpa using hown
    · exact ((Below.refl _ w).alloc (Nat.le_refl _) _).grown hgrow (by simp) (by intro k hk; simp [Value.ownBlock] at hk; omega)
set_option maxHeartbeats 4000000 in
theorem cloneS_any (l : List Sx) (v : Value) (w : World) (h : SxAt w v l) (hl : l.length ≤ 1000000) (hs : ∀ x ∈ l, Sl x) :
    Calls Try.prog 34 #[v] w fun e w' => ∃ v', e = .returned v' ∧ OwnS w.heap.size w' v' l ∧ Below w.heap.size w w' := by
  obtain ⟨a, c, rfl, h1, h2, h3⟩ := h
  have q22 : ∀ (w : World) (a : Option Addr) (n c n' c' : Nat), (binOp .eql 28 (.slice a n c) (.slice none n' c')).run Try.prog w = .ok (.bool a.isNone) w := fun w a n c n' c' => Lib.run_eql_slice_nil w _ _ a n c n' c' Try.underlying28
  cases a with
  | none =>
    have hl0 : l = [] := by
      rcases h3 with h | ⟨b, o, e, _⟩
      · exact h
      · cases e
    subst hl0
    go_enter Try.func34, Try.ntmps34
    go_wp2
    go_ret
    exact ⟨_, rfl, ⟨rfl, Or.inl ⟨rfl, rfl⟩⟩, Below.refl _ _⟩
  | some ad =>
    obtain ⟨b, o, s⟩ := ad
    obtain ⟨i0, hi, hz0, hz1, hz2⟩ := infos
    have HS : Hid (∀ j u, (scs l)[j]? = some u → w.cell? ((⟨b, o, s⟩ : Addr).add j) = some u) := by
      intro j u hj
      rcases h3 with h | ⟨b', o', e, hc⟩
      · subst h; simp [scs] at hj
      · simp only [Option.some.injEq, Addr.mk.injEq] at e
        obtain ⟨rfl, rfl, rfl⟩ := e
        rw [add_lit]
        exact s_src hc j u hj
    have HON : Hid (∀ u ∈ scs l, u.oneCell' = true) := scs_one l hs
    clear h3
    go_enter Try.func34, Try.ntmps34
    go_wp2_with (at_builtin; refine wpList_append_own _ rfl _ _ 28 rfl w.heap.size Ts i0 _ 4 56 Try.underlying28 hi hz0 hz1 hz2 rfl (by decide) _ _ _ rfl (World.ownsRow_made w #[] 0 (Nat.le_refl _) (Nat.zero_le _) rfl) ⟨b, o, s⟩ l.length c (scs l) rfl ?qc1 ?qc2 ?qc3 ?qc4 ?qc5 ?qc6 ?_)
    case qc1 => rw [scs_len]
    case qc2 => intro j u hj; exact Lib.cell?_alloc_some _ (HS.out j u hj)
    case qc3 => exact HON.out
    case qc4 => unfold maxLen; omega
    case qc5 => omega
    case qc6 => simp
    intro v' w1 hown hgrow hnil
    go_wp2
    go_ret
    refine ⟨v', rfl, ?_, ?_⟩
    · unfold OwnS; simpa using hown
    · exact ((Below.refl _ w).alloc (Nat.le_refl _) _).grown hgrow (by simp) (by intro k hk; simp [Value.ownBlock] at hk; omega)

/-! ### A cell that is written in a row of the call's own -/
def casO (c : Ca) : Ca := ⟨c.grp, c.why, opp c.ct⟩
theorem kcs_set (l : List Ca) (i : Nat) (x : Ca) (h : l[i]? = some x) (y : Int) : kcs (l.set i ⟨x.grp, x.why, y⟩) = (kcs l).set (i * 3 + 2) (.int .i64 y) := by
  induction l generalizing i with
  | nil => simp at h
  | cons a r ih =>
    cases i with
    | zero => simp at h; subst h; rfl
    | succ i =>
      simp only [List.set_cons_succ, kcs]
      rw [ih i (by simpa using h), show (i + 1) * 3 = (i * 3 + 2) + 1 by omega, List.set_cons_succ]
theorem ownK_at {B : Nat} {w : World} {v : Value} {l : List Ca} (h : OwnK B w v l) (i : Nat) (x : Ca) (hx : l[i]? = some x) : ∃ g c, v = .slice (some ⟨g, 0, none⟩) l.length c ∧ B ≤ g ∧ g < w.heap.size ∧ CaCells w g (i * 3) x ∧ w.frozen? ⟨g, i * 3 + 2, none⟩ = false := by
  have hc := cas_of_own (K := fun _ => True) h fun _ _ => trivial
  obtain ⟨hl, h⟩ := h
  have hil := (List.getElem?_eq_some_iff.1 hx).1
  rcases h with ⟨rfl, h0⟩ | ⟨g, cap, cur, rfl, hbg, hg, h1, h2, hs, ht⟩
  · omega
  · refine ⟨g, cap, rfl, hbg, (Array.getElem?_eq_some_iff.1 hg).1, ?_, by simp [World.frozen?, hg]⟩
    obtain ⟨b, o, e, -, -, hx2, hcc⟩ := CasAt.get hc i hil
    simp only [Option.some.injEq, Addr.mk.injEq, and_true] at e
    obtain ⟨rfl, rfl⟩ := e
    rw [hx2] at hx
    obtain rfl := Option.some.inj hx
    rwa [Nat.zero_add] at hcc
theorem ownK_put {B : Nat} {w : World} {g c : Nat} {l : List Ca} (h : OwnK B w (.slice (some ⟨g, 0, none⟩) l.length c) l) (i : Nat) (x : Ca) (hx : l[i]? = some x) (y : Int) : OwnK B (w.setCell ⟨g, i * 3 + 2, none⟩ (.int .i64 y)) (.slice (some ⟨g, 0, none⟩) l.length c) (l.set i ⟨x.grp, x.why, y⟩) := by
  obtain ⟨hl, h⟩ := h
  have hil := (List.getElem?_eq_some_iff.1 hx).1
  rcases h with ⟨e, h0⟩ | ⟨g', cap, cur, e, hbg, hg, h1, h2, hs, ht⟩
  · cases e
  · simp only [Value.slice.injEq, Option.some.injEq, Addr.mk.injEq, and_true, true_and] at e
    obtain ⟨rfl, rfl⟩ := e
    refine ⟨by rw [kcs_len, List.length_set], Or.inr ⟨g, c, cur.setIfInBounds (i * 3 + 2) (.int .i64 y), by rw [List.length_set], hbg, ?_, by rw [List.length_set]; exact h1, h2, by simpa using hs, ?_⟩⟩
    · simp [World.setCell, Array.getElem?_modify, hg]
    · rw [kcs_set l i x hx y, List.length_set, ← ht, Array.toList_setIfInBounds, List.take_set]
theorem set_map (l : List Ca) (k : Nat) (hk : k < l.length) : ((l.take k).map casO ++ l.drop k).set k (casO l[k]) = (l.take (k + 1)).map casO ++ l.drop (k + 1) := by
  have e : ((l.take k).map casO).length = k := by simp; omega
  rw [List.set_append_right _ _ (by omega), e, Nat.sub_self, List.drop_eq_getElem_cons hk, List.set_cons_zero, List.take_add_one, List.map_append, List.getElem?_eq_getElem hk]
  simp
theorem map_at (l : List Ca) (k : Nat) (hk : k < l.length) : ((l.take k).map casO ++ l.drop k)[k]? = some l[k] := by
  have e : ((l.take k).map casO).length = k := by simp; omega
  rw [List.getElem?_append_right (by omega), e, Nat.sub_self, List.drop_eq_getElem_cons hk]; rfl
theorem map_len (l : List Ca) (k : Nat) : ((l.take k).map casO ++ l.drop k).length = l.length := by simp; omega

set_option maxHeartbeats 4000000 in
theorem oppCas_any (l : List Ca) (v : Value) (w : World) (h : CasAt All w v l) (hl : l.length ≤ 1000000) (hI : ∀ c ∈ l, I64 c.ct) :
    Calls Try.prog 35 #[v] w fun e w' => ∃ v', e = .returned v' ∧ OwnK w.heap.size w' v' (l.map casO) ∧ Below w.heap.size w w' := by
  have HC := Lib.hid (cloneK_any l v w h hl)
  have HI := Lib.hid hI
  clear h hI
  go_enter Try.func35, Try.ntmps35
  go_wp2_with (first | (go_at_call 45; refine HC.out.mono ?_; rintro e w1 ⟨v', rfl, ho, hb⟩; have HO := Lib.hid ho; have HB := Lib.hid hb; obtain ⟨ua, uc, rfl, -, -⟩ := ownK_form ho; clear ho hb))
  go_loopg [9] (l.length) (fun gg t9 wr => ∃ k : Nat, k ≤ l.length ∧ gg = l.length - k ∧ t9 = .int .i64 k ∧ Hid (OwnK w.heap.size wr (.slice ua l.length uc) ((l.take k).map casO ++ l.drop k)) ∧ Hid (Below w.heap.size w wr))
  case atStart => exact ⟨0, Nat.zero_le _, rfl, rfl, by simpa [Hid] using HO.out, HB.out⟩
  case round =>
    obtain ⟨k, hk, hg, rfl, HOk, HBn⟩ := hrel
    by_cases hlt : k < l.length
    · have hltz : (k : Int) < (l.length : Int) := by omega
      obtain ⟨g, c, e, hbg, hgl, ⟨c0, c1, c2⟩, hfz⟩ := ownK_at HOk.out k _ (map_at l k hlt)
      rw [map_len] at e
      simp only [Value.slice.injEq, true_and] at e
      obtain ⟨rfl, rfl⟩ := e
      have HP : Hid (OwnK w.heap.size (wr.setCell ⟨g, k * 3 + 2, none⟩ (.int .i64 (opp l[k].ct))) (.slice (some ⟨g, 0, none⟩) l.length uc) ((l.take (k + 1)).map casO ++ l.drop (k + 1))) := by
        have h1 := HOk.out
        have h2 := ownK_put (l := (l.take k).map casO ++ l.drop k) (by rw [map_len]; exact h1) k l[k] (map_at l k hlt) (opp l[k].ct)
        rw [map_len] at h2
        rw [← set_map l k hlt]
        exact h2
      have HBp : Hid (Below w.heap.size w (wr.setCell ⟨g, k * 3 + 2, none⟩ (.int .i64 (opp l[k].ct)))) := HBn.out.setCell (p := ⟨g, k * 3 + 2, none⟩) hbg _
      have HOP := Lib.hid fun W => opp_any l[k].ct W (HI.out _ (List.getElem_mem hlt))
      have hi1 : k < l.length := hlt
      clear hgl
      generalize l[k] = x at *
      go_wp2_with (first | (go_at_call 33; refine (HOP.out _).mono ?_; rintro e w2 ⟨rfl, hw⟩; rw [hw]; clear hw w2))
      go_roundg (l.length - (k + 1))
      case measure => omega
      case rel => exact ⟨k + 1, by omega, rfl, by go_num, HP.out, HBp.out⟩
    · have hltz : ¬ (k : Int) < (l.length : Int) := by omega
      have HF : Hid (OwnK w.heap.size wr (.slice ua l.length uc) (l.map casO)) := by
        have := HOk.out
        rw [List.take_of_length_le (by omega), List.drop_eq_nil_of_le (by omega), List.append_nil] at this
        exact this
      go_wp2
      go_ret
      exact ⟨_, rfl, HF.out, HBn.out⟩
end Go.Proofs.Ytpnkgkchpoehcaa.Sv
end
