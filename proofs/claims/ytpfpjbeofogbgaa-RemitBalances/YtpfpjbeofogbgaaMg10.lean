/-
  Texts put together (merge.py): VClone, VSvc, VRSvc, VTot.
-/
import Derived.Test.YtpfpjbeofogbgaaMg9
/-
  slices.Clone of adjustments and of services, svc.oppositeCas, as contracts: rows of the call's own. (Written by gen_clone.py.)
-/
section
set_option linter.unusedSimpArgs false
set_option linter.unusedVariables false
set_option maxRecDepth 100000
namespace Go.Proofs.Ytpfpjbeofogbgaa.Sv
open Go.RowKit
open Bk (keepB below_alloc below_trans alloc_new add_lit)

theorem s_src {w : World} {b o : Nat} {l : List Sx} (h : ∀ (j : Nat) x, l[j]? = some x → SrCells w b (o + j * 4) x.s x.m) (j : Nat) (u : Value) (hj : (scs l)[j]? = some u) : w.cell? ⟨b, o + j, none⟩ = some u := by
  have hjl : j < l.length * 4 := by have := (List.getElem?_eq_some_iff.1 hj).1; rwa [scs_len] at this
  have hq : j / 4 < l.length := by omega
  have hx := List.getElem?_eq_getElem hq
  obtain ⟨c0, c1, c2, c3⟩ := h _ _ hx
  have e := scs_at l (j / 4) _ hx (j % 4) (Nat.mod_lt _ (by omega))
  rw [show j / 4 * 4 + j % 4 = j by omega, hj] at e
  have hr : j % 4 = 0 ∨ j % 4 = 1 ∨ j % 4 = 2 ∨ j % 4 = 3 := by omega
  rcases hr with r | r | r | r <;> rw [r] at e
  · rw [show o + j = o + j / 4 * 4 by omega, c0]; exact e.symm
  · rw [show o + j = o + j / 4 * 4 + 1 by omega, c1]; exact e.symm
  · rw [show o + j = o + j / 4 * 4 + 2 by omega, c2]; exact e.symm
  · rw [show o + j = o + j / 4 * 4 + 3 by omega, c3]; exact e.symm
/-- A row of services, with each one's adjustments' value. -/
def SxAt (w : World) (v : Value) (l : List Sx) : Prop :=
  ∃ a c, v = .slice a l.length c ∧ l.length ≤ c ∧ c ≤ maxLen ∧ (l = [] ∨ ∃ b o, a = some ⟨b, o, none⟩ ∧ ∀ (j : Nat) x, l[j]? = some x → SrCells w b (o + j * 4) x.s x.m)
set_option maxHeartbeats 4000000 in
theorem cloneK_any (l : List Ca) (v : Value) (w : World) (h : CasAt All w v l) (hl : l.length ≤ 1000000) :
    Calls Try.prog 52 #[v] w fun e w' => ∃ v', e = .returned v' ∧ OwnK w.heap.size w' v' l ∧ Below w.heap.size w w' := by
  obtain ⟨a, c, rfl, h1, h2, h3⟩ := h
  have q22 : ∀ (w : World) (a : Option Addr) (n c n' c' : Nat), (binOp .eql 68 (.slice a n c) (.slice none n' c')).run Try.prog w = .ok (.bool a.isNone) w := fun w a n c n' c' => Lib.run_eql_slice_nil w _ _ a n c n' c' Try.underlying68
  cases a with
  | none =>
    have hl0 : l = [] := by
      rcases h3 with h | ⟨b, o, e, _⟩
      · exact h
      · cases e
    subst hl0
    go_enter Try.func52, Try.ntmps52
    go_wp2
    go_ret
    exact ⟨_, rfl, ⟨rfl, Or.inl ⟨rfl, rfl⟩⟩, Below.refl _ _⟩
  | some ad =>
    obtain ⟨b, o, s⟩ := ad
    obtain ⟨i0, hi, hz0, hz1, hz2⟩ := infok
    have HS : Hid (∀ j u, (kcs l)[j]? = some u → w.cell? ((⟨b, o, s⟩ : Addr).add j) = some u) := by
      intro j u hj
      rcases h3 with h | ⟨b', o', e, _, _, hc⟩
      · subst h; simp [kcs] at hj
      · simp only [Option.some.injEq, Addr.mk.injEq] at e
        obtain ⟨rfl, rfl, rfl⟩ := e
        rw [add_lit]
        exact k_src hc j u hj
    have HON : Hid (∀ u ∈ kcs l, u.oneCell' = true) := kcs_one l
    clear h3
    go_enter Try.func52, Try.ntmps52
    go_wp2_with (at_builtin; refine wpList_append_own _ rfl _ _ 68 rfl w.heap.size Tk i0 _ 3 32 Try.underlying68 hi hz0 hz1 hz2 rfl (by decide) _ _ _ rfl (World.ownsRow_made w #[] 0 (Nat.le_refl _) (Nat.zero_le _) rfl) ⟨b, o, s⟩ l.length c (kcs l) rfl ?qc1 ?qc2 ?qc3 ?qc4 ?qc5 ?qc6 ?_)
    case qc1 => rw [kcs_len]
    case qc2 => intro j u hj; exact Lib.cell?_alloc_some _ (HS.out j u hj)
    case qc3 => exact HON.out
    case qc4 => unfold maxLen; omega
    case qc5 => omega
    case qc6 => simp
    intro v' w1 hown hgrow hnil
    go_wp2
    go_ret
    refine ⟨v', rfl, ?_, ?_⟩
    · unfold OwnK; simpa using hown
    · exact ((Below.refl _ w).alloc (Nat.le_refl _) _).grown hgrow (by simp) (by intro k hk; simp [Value.ownBlock] at hk; omega)
set_option maxHeartbeats 4000000 in
theorem cloneS_any (l : List Sx) (v : Value) (w : World) (h : SxAt w v l) (hl : l.length ≤ 1000000) (hs : ∀ x ∈ l, Sl x) :
    Calls Try.prog 51 #[v] w fun e w' => ∃ v', e = .returned v' ∧ OwnS w.heap.size w' v' l ∧ Below w.heap.size w w' := by
  obtain ⟨a, c, rfl, h1, h2, h3⟩ := h
  have q22 : ∀ (w : World) (a : Option Addr) (n c n' c' : Nat), (binOp .eql 36 (.slice a n c) (.slice none n' c')).run Try.prog w = .ok (.bool a.isNone) w := fun w a n c n' c' => Lib.run_eql_slice_nil w _ _ a n c n' c' Try.underlying36
  cases a with
  | none =>
    have hl0 : l = [] := by
      rcases h3 with h | ⟨b, o, e, _⟩
      · exact h
      · cases e
    subst hl0
    go_enter Try.func51, Try.ntmps51
    go_wp2
    go_ret
    exact ⟨_, rfl, ⟨rfl, Or.inl ⟨rfl, rfl⟩⟩, Below.refl _ _⟩
  | some ad =>
    obtain ⟨b, o, s⟩ := ad
    obtain ⟨i0, hi, hz0, hz1, hz2⟩ := infos
    have HS : Hid (∀ j u, (scs l)[j]? = some u → w.cell? ((⟨b, o, s⟩ : Addr).add j) = some u) := by
      intro j u hj
      rcases h3 with h | ⟨b', o', e, hc⟩
      · subst h; simp [scs] at hj
      · simp only [Option.some.injEq, Addr.mk.injEq] at e
        obtain ⟨rfl, rfl, rfl⟩ := e
        rw [add_lit]
        exact s_src hc j u hj
    have HON : Hid (∀ u ∈ scs l, u.oneCell' = true) := scs_one l hs
    clear h3
    go_enter Try.func51, Try.ntmps51
    go_wp2_with (at_builtin; refine wpList_append_own _ rfl _ _ 36 rfl w.heap.size Ts i0 _ 4 56 Try.underlying36 hi hz0 hz1 hz2 rfl (by decide) _ _ _ rfl (World.ownsRow_made w #[] 0 (Nat.le_refl _) (Nat.zero_le _) rfl) ⟨b, o, s⟩ l.length c (scs l) rfl ?qc1 ?qc2 ?qc3 ?qc4 ?qc5 ?qc6 ?_)
    case qc1 => rw [scs_len]
    case qc2 => intro j u hj; exact Lib.cell?_alloc_some _ (HS.out j u hj)
    case qc3 => exact HON.out
    case qc4 => unfold maxLen; omega
    case qc5 => omega
    case qc6 => simp
    intro v' w1 hown hgrow hnil
    go_wp2
    go_ret
    refine ⟨v', rfl, ?_, ?_⟩
    · unfold OwnS; simpa using hown
    · exact ((Below.refl _ w).alloc (Nat.le_refl _) _).grown hgrow (by simp) (by intro k hk; simp [Value.ownBlock] at hk; omega)

/-! ### A cell that is written in a row of the call's own -/
def casO (c : Ca) : Ca := ⟨c.grp, c.why, opp c.ct⟩
theorem kcs_set (l : List Ca) (i : Nat) (x : Ca) (h : l[i]? = some x) (y : Int) : kcs (l.set i ⟨x.grp, x.why, y⟩) = (kcs l).set (i * 3 + 2) (.int .i64 y) := by
  induction l generalizing i with
  | nil => simp at h
  | cons a r ih =>
    cases i with
    | zero => simp at h; subst h; rfl
    | succ i =>
      simp only [List.set_cons_succ, kcs]
      rw [ih i (by simpa using h), show (i + 1) * 3 = (i * 3 + 2) + 1 by omega, List.set_cons_succ]
theorem ownK_at {B : Nat} {w : World} {v : Value} {l : List Ca} (h : OwnK B w v l) (i : Nat) (x : Ca) (hx : l[i]? = some x) : ∃ g c, v = .slice (some ⟨g, 0, none⟩) l.length c ∧ B ≤ g ∧ g < w.heap.size ∧ CaCells w g (i * 3) x ∧ w.frozen? ⟨g, i * 3 + 2, none⟩ = false := by
  have hc := cas_of_own (K := fun _ => True) h fun _ _ => trivial
  obtain ⟨hl, h⟩ := h
  have hil := (List.getElem?_eq_some_iff.1 hx).1
  rcases h with ⟨rfl, h0⟩ | ⟨g, cap, cur, rfl, hbg, hg, h1, h2, hs, ht⟩
  · omega
  · refine ⟨g, cap, rfl, hbg, (Array.getElem?_eq_some_iff.1 hg).1, ?_, by simp [World.frozen?, hg]⟩
    obtain ⟨b, o, e, -, -, hx2, hcc⟩ := CasAt.get hc i hil
    simp only [Option.some.injEq, Addr.mk.injEq, and_true] at e
    obtain ⟨rfl, rfl⟩ := e
    rw [hx2] at hx
    obtain rfl := Option.some.inj hx
    rwa [Nat.zero_add] at hcc
theorem ownK_put {B : Nat} {w : World} {g c : Nat} {l : List Ca} (h : OwnK B w (.slice (some ⟨g, 0, none⟩) l.length c) l) (i : Nat) (x : Ca) (hx : l[i]? = some x) (y : Int) : OwnK B (w.setCell ⟨g, i * 3 + 2, none⟩ (.int .i64 y)) (.slice (some ⟨g, 0, none⟩) l.length c) (l.set i ⟨x.grp, x.why, y⟩) := by
  obtain ⟨hl, h⟩ := h
  have hil := (List.getElem?_eq_some_iff.1 hx).1
  rcases h with ⟨e, h0⟩ | ⟨g', cap, cur, e, hbg, hg, h1, h2, hs, ht⟩
  · cases e
  · simp only [Value.slice.injEq, Option.some.injEq, Addr.mk.injEq, and_true, true_and] at e
    obtain ⟨rfl, rfl⟩ := e
    refine ⟨by rw [kcs_len, List.length_set], Or.inr ⟨g, c, cur.setIfInBounds (i * 3 + 2) (.int .i64 y), by rw [List.length_set], hbg, ?_, by rw [List.length_set]; exact h1, h2, by simpa using hs, ?_⟩⟩
    · simp [World.setCell, Array.getElem?_modify, hg]
    · rw [kcs_set l i x hx y, List.length_set, ← ht, Array.toList_setIfInBounds, List.take_set]
theorem set_map (l : List Ca) (k : Nat) (hk : k < l.length) : ((l.take k).map casO ++ l.drop k).set k (casO l[k]) = (l.take (k + 1)).map casO ++ l.drop (k + 1) := by
  have e : ((l.take k).map casO).length = k := by simp; omega
  rw [List.set_append_right _ _ (by omega), e, Nat.sub_self, List.drop_eq_getElem_cons hk, List.set_cons_zero, List.take_add_one, List.map_append, List.getElem?_eq_getElem hk]
  simp
theorem map_at (l : List Ca) (k : Nat) (hk : k < l.length) : ((l.take k).map casO ++ l.drop k)[k]? = some l[k] := by
  have e : ((l.take k).map casO).length = k := by simp; omega
  rw [List.getElem?_append_right (by omega), e, Nat.sub_self, List.drop_eq_getElem_cons hk]; rfl
theorem map_len (l : List Ca) (k : Nat) : ((l.take k).map casO ++ l.drop k).length = l.length := by simp; omega

set_option maxHeartbeats 4000000 in
theorem oppCas_any (l : List Ca) (v : Value) (w : World) (h : CasAt All w v l) (hl : l.length ≤ 1000000) (hI : ∀ c ∈ l, I64 c.ct) :
    Calls Try.prog 60 #[v] w fun e w' => ∃ v', e = .returned v' ∧ OwnK w.heap.size w' v' (l.map casO) ∧ Below w.heap.size w w' := by
  have HC := Lib.hid (cloneK_any l v w h hl)
  have HI := Lib.hid hI
  clear h hI
  go_enter Try.func60, Try.ntmps60
  go_wp2_with (first | (go_at_call 52; refine HC.out.mono ?_; rintro e w1 ⟨v', rfl, ho, hb⟩; have HO := Lib.hid ho; have HB := Lib.hid hb; obtain ⟨ua, uc, rfl, -, -⟩ := ownK_form ho; clear ho hb))
  go_loopg [9] (l.length) (fun gg t9 wr => ∃ k : Nat, k ≤ l.length ∧ gg = l.length - k ∧ t9 = .int .i64 k ∧ Hid (OwnK w.heap.size wr (.slice ua l.length uc) ((l.take k).map casO ++ l.drop k)) ∧ Hid (Below w.heap.size w wr))
  case atStart => exact ⟨0, Nat.zero_le _, rfl, rfl, by simpa [Hid] using HO.out, HB.out⟩
  case round =>
    obtain ⟨k, hk, hg, rfl, HOk, HBn⟩ := hrel
    by_cases hlt : k < l.length
    · have hltz : (k : Int) < (l.length : Int) := by omega
      obtain ⟨g, c, e, hbg, hgl, ⟨c0, c1, c2⟩, hfz⟩ := ownK_at HOk.out k _ (map_at l k hlt)
      rw [map_len] at e
      simp only [Value.slice.injEq, true_and] at e
      obtain ⟨rfl, rfl⟩ := e
      have HP : Hid (OwnK w.heap.size (wr.setCell ⟨g, k * 3 + 2, none⟩ (.int .i64 (opp l[k].ct))) (.slice (some ⟨g, 0, none⟩) l.length uc) ((l.take (k + 1)).map casO ++ l.drop (k + 1))) := by
        have h1 := HOk.out
        have h2 := ownK_put (l := (l.take k).map casO ++ l.drop k) (by rw [map_len]; exact h1) k l[k] (map_at l k hlt) (opp l[k].ct)
        rw [map_len] at h2
        rw [← set_map l k hlt]
        exact h2
      have HBp : Hid (Below w.heap.size w (wr.setCell ⟨g, k * 3 + 2, none⟩ (.int .i64 (opp l[k].ct)))) := HBn.out.setCell (p := ⟨g, k * 3 + 2, none⟩) hbg _
      have HOP := Lib.hid fun W => opp_any l[k].ct W (HI.out _ (List.getElem_mem hlt))
      have hi1 : k < l.length := hlt
      clear hgl
      generalize l[k] = x at *
      go_wp2_with (first | (go_at_call 56; refine (HOP.out _).mono ?_; rintro e w2 ⟨rfl, hw⟩; rw [hw]; clear hw w2))
      go_roundg (l.length - (k + 1))
      case measure => omega
      case rel => exact ⟨k + 1, by omega, rfl, by go_num, HP.out, HBp.out⟩
    · have hltz : ¬ (k : Int) < (l.length : Int) := by omega
      have HF : Hid (OwnK w.heap.size wr (.slice ua l.length uc) (l.map casO)) := by
        have := HOk.out
        rw [List.take_of_length_le (by omega), List.drop_eq_nil_of_le (by omega), List.append_nil] at this
        exact this
      go_wp2
      go_ret
      exact ⟨_, rfl, HF.out, HBn.out⟩
end Go.Proofs.Ytpfpjbeofogbgaa.Sv
end

/-
  What svc.checkService answers, as a contract: for all services.
-/
section
set_option linter.unusedSimpArgs false
set_option linter.unusedVariables false
set_option maxRecDepth 100000
namespace Go.Proofs.Ytpfpjbeofogbgaa.Sv
open Go.RowKit
open Bk (keepB below_alloc below_trans alloc_new)
open Cm (mk_ne codeB)

/-- Numbers that are int64, a name that memory can hold. -/
def SrOk (s : Sr) : Prop := I64 s.bi ∧ I64 s.paid ∧ (∀ c ∈ s.cas, I64 c.ct) ∧ s.proc.length ≤ 281474976710656
theorem ok_range {st n : Int} (h : okM st n = true) : -10000000000000 ≤ n ∧ n ≤ 10000000000000 := by
  unfold okM at h
  split at h
  · have := (Ce.good_iff n).1 h; omega
  · simp at h; omega
theorem cases_step {st : Int} {l : List Ca} {j : Nat} {x : Ca} (hx : l[j]? = some x) {R : Int} (h : casesE st (l.drop j) = R) (he : casE st x = 0) : casesE st (l.drop (j + 1)) = R := by
  have hj := (List.getElem?_eq_some_iff.1 hx)
  obtain ⟨hl, he'⟩ := hj
  rw [List.drop_eq_getElem_cons hl, he'] at h
  unfold casesE at h
  rw [if_pos he] at h
  exact h
theorem cases_bad {st : Int} {l : List Ca} {j : Nat} {x : Ca} (hx : l[j]? = some x) {R : Int} (h : casesE st (l.drop j) = R) (he : casE st x ≠ 0) : R = casE st x := by
  obtain ⟨hl, he'⟩ := (List.getElem?_eq_some_iff.1 hx)
  rw [List.drop_eq_getElem_cons hl, he'] at h
  unfold casesE at h
  rw [if_neg he] at h
  exact h.symm
theorem cases_end {st : Int} {l : List Ca} {j : Nat} (hj : l.length ≤ j) {R : Int} (h : casesE st (l.drop j) = R) : R = 0 := by
  rw [List.drop_eq_nil_of_le hj] at h; exact h.symm
theorem sum_step {l : List Ca} {j : Nat} {x : Ca} (hx : l[j]? = some x) {T R : Int} (h : T + sumC (l.drop j) = R) : (T + x.ct) + sumC (l.drop (j + 1)) = R := by
  obtain ⟨hl, he'⟩ := (List.getElem?_eq_some_iff.1 hx)
  rw [List.drop_eq_getElem_cons hl, he'] at h
  simp only [sumC] at h
  omega
theorem sum_end {l : List Ca} {j : Nat} (hj : l.length ≤ j) {T R : Int} (h : T + sumC (l.drop j) = R) : R = T := by
  rw [List.drop_eq_nil_of_le hj] at h; simp only [sumC] at h; omega
theorem svc_9 {st : Int} {s : Sr} (h : codeB s.proc 5 5 = false) : svcE st s = 9 := by unfold svcE; rw [h]; rfl
theorem svc_6 {st : Int} {s : Sr} (h : codeB s.proc 5 5 = true) (h2 : ¬ s.cas.length ≤ 5) : svcE st s = 6 := by unfold svcE; rw [if_pos h, if_neg h2]
theorem svc_8 {st : Int} {s : Sr} (h : codeB s.proc 5 5 = true) (h2 : s.cas.length ≤ 5) (h3 : okM st s.bi = false ∨ okM st s.paid = false) : svcE st s = 8 := by
  unfold svcE; rw [if_pos h, if_pos h2, if_neg]
  rintro ⟨a, b⟩; rcases h3 with h3 | h3 <;> simp_all
theorem svc_in {st : Int} {s : Sr} (h : codeB s.proc 5 5 = true) (h2 : s.cas.length ≤ 5) (h3 : okM st s.bi = true) (h4 : okM st s.paid = true) : svcE st s = if casesE st s.cas = 0 then (if s.paid + sumC s.cas = s.bi then 0 else 17) else casesE st s.cas := by
  unfold svcE; rw [if_pos h, if_pos h2, if_pos ⟨h3, h4⟩]

set_option maxHeartbeats 4000000 in
theorem checkService_any (s : Sr) (m : Value) (st : Int) (w : World) (hm : CasAt All w m s.cas) (hz : SrOk s) (hs : st = 1 ∨ st = 22) :
    Calls Try.prog 42 #[srv s m, .int .i64 st] w fun e w' => e = .returned (.int .i64 (svcE st s)) ∧ Below w.heap.size w w' := by
  obtain ⟨z1, z2, z3, z4⟩ := hz
  obtain ⟨a, cap, rfl, f1, f2⟩ := hm.form
  have HB := Lib.hid (below_alloc w (.cells (sre s (.slice a s.cas.length cap)) Ts))
  have HX := Lib.hid (alloc_new w (sre s (.slice a s.cas.length cap)) Ts)
  have HM : Hid (∀ w', Below w.heap.size w w' → CasAt All w' (.slice a s.cas.length cap) s.cas) := fun w' hb => hm.grw hb
  have HC := Lib.hid fun w => Cm.code_any s.proc 5 5 w (by omega)
  have HG : Hid (∀ n w, n = s.bi ∨ n = s.paid → Calls Try.prog 44 #[.int .i64 n, .int .i64 st] w fun e w' => e = .returned (.bool (okM st n)) ∧ w' = w) := fun n w h => good_any n st w (by rcases h with rfl | rfl <;> assumption) hs
  have HK : Hid (∀ c ∈ s.cas, ∀ w, Calls Try.prog 55 #[cav c, .int .i64 st] w fun e w' => e = .returned (.int .i64 (casE st c)) ∧ Below w.heap.size w w') := fun c hc w => checkCas_any c st w (z3 c hc) hs
  clear hm z1 z2 z3 z4 hs
  cases hc : codeB s.proc 5 5 with
  | false =>
    rw [svc_9 hc]
    rw [hc] at HC
    go_enter Try.func42, Try.ntmps42
    go_upto_region 1 with fail
    generalize w.alloc (.cells (sre s (.slice a s.cas.length cap)) Ts) = W at *
    generalize hp : w.heap.size = p at *
    obtain ⟨x0, x1, x2, x3⟩ := four HX.out
    go_wp2_with (first | (go_at_call 54; refine (HC.out _).mono ?_; rintro e w' ⟨rfl, hw⟩; rw [hw]; clear hw w'))
    go_ret
    exact ⟨rfl, by first | exact HB.out | (rw [hp]; exact HB.out)⟩
  | true =>
  rw [hc] at HC
  by_cases h5 : s.cas.length ≤ 5
  case neg =>
    rw [svc_6 hc h5]
    have h5' : (5 : Int) < (s.cas.length : Int) := by omega
    go_enter Try.func42, Try.ntmps42
    go_upto_region 1 with fail
    generalize w.alloc (.cells (sre s (.slice a s.cas.length cap)) Ts) = W at *
    generalize hp : w.heap.size = p at *
    obtain ⟨x0, x1, x2, x3⟩ := four HX.out
    go_wp2_with (first | (go_at_call 54; refine (HC.out _).mono ?_; rintro e w' ⟨rfl, hw⟩; rw [hw]; clear hw w'))
    go_ret
    exact ⟨rfl, by first | exact HB.out | (rw [hp]; exact HB.out)⟩
  have h5' : ¬ (5 : Int) < (s.cas.length : Int) := by omega
  cases g1 : okM st s.bi with
  | false =>
    rw [svc_8 hc h5 (Or.inl g1)]
    go_enter Try.func42, Try.ntmps42
    go_upto_region 1 with fail
    generalize w.alloc (.cells (sre s (.slice a s.cas.length cap)) Ts) = W at *
    generalize hp : w.heap.size = p at *
    obtain ⟨x0, x1, x2, x3⟩ := four HX.out
    go_wp2_with (first | (go_at_call 54; refine (HC.out _).mono ?_; rintro e w' ⟨rfl, hw⟩; rw [hw]; clear hw w') | (go_at_call 44; refine (HG.out _ _ (by first | exact Or.inl rfl | exact Or.inr rfl)).mono ?_; rintro e w' ⟨rfl, hw⟩; rw [hw]; clear hw w'))
    go_ret
    exact ⟨rfl, by first | exact HB.out | (rw [hp]; exact HB.out)⟩
  | true =>
  cases g2 : okM st s.paid with
  | false =>
    rw [svc_8 hc h5 (Or.inr g2)]
    go_enter Try.func42, Try.ntmps42
    go_upto_region 1 with fail
    generalize w.alloc (.cells (sre s (.slice a s.cas.length cap)) Ts) = W at *
    generalize hp : w.heap.size = p at *
    obtain ⟨x0, x1, x2, x3⟩ := four HX.out
    go_wp2_with (first | (go_at_call 54; refine (HC.out _).mono ?_; rintro e w' ⟨rfl, hw⟩; rw [hw]; clear hw w') | (go_at_call 44; refine (HG.out _ _ (by first | exact Or.inl rfl | exact Or.inr rfl)).mono ?_; rintro e w' ⟨rfl, hw⟩; rw [hw]; clear hw w'))
    go_ret
    exact ⟨rfl, by first | exact HB.out | (rw [hp]; exact HB.out)⟩
  | true =>
  have HR := Lib.hid (svc_in (st := st) hc h5 g1 g2)
  have hpr := ok_range g2
  generalize svcE st s = R at *
  obtain ⟨S, hS⟩ : ∃ S, s.paid + sumC s.cas = S := ⟨_, rfl⟩
  obtain ⟨E, hE⟩ : ∃ E, casesE st s.cas = E := ⟨_, rfl⟩
  rw [hS, hE] at HR
  have HS0 := Lib.hid hS
  have HE0 := Lib.hid hE
  clear hS hE hc
  go_enter Try.func42, Try.ntmps42
  go_upto_region 1 with fail
  generalize w.alloc (.cells (sre s (.slice a s.cas.length cap)) Ts) = W at *
  generalize hp : w.heap.size = p at *
  have HPW : Hid (p ≤ W.heap.size) := by have := HB.out.size; rw [hp] at this; exact this
  obtain ⟨x0, x1, x2, x3⟩ := four HX.out
  go_wp2_with (first | (go_at_call 54; refine (HC.out _).mono ?_; rintro e w' ⟨rfl, hw⟩; rw [hw]; clear hw w') | (go_at_call 44; refine (HG.out _ _ (by first | exact Or.inl rfl | exact Or.inr rfl)).mono ?_; rintro e w' ⟨rfl, hw⟩; rw [hw]; clear hw w'))
  go_loopg [5, 37] (s.cas.length) (fun gg t5 t37 wr => ∃ (j : Nat) (T : Int), j ≤ s.cas.length ∧ gg = s.cas.length - j ∧ t5 = .int .i64 T ∧ t37 = .int .i64 j ∧ (-10000000000000 * (j + 1) ≤ T ∧ T ≤ 10000000000000 * (j + 1)) ∧ Hid (casesE st (s.cas.drop j) = E) ∧ Hid (T + sumC (s.cas.drop j) = S) ∧ Hid (Below W.heap.size W wr))
  case atStart => exact ⟨0, s.paid, Nat.zero_le _, rfl, rfl, rfl, by omega, HE0.out, HS0.out, Below.refl _ _⟩
  case round =>
    obtain ⟨j, T, hj, hg, rfl, rfl, ⟨ht1, ht2⟩, HE1, HS1, HBn⟩ := hrel
    have HBw : Hid (Below p w wr) := HB.out.trans (HBn.out.mono HPW.out)
    obtain ⟨x0, x1, x2, x3⟩ := four (keepB HX.out HBn.out)
    by_cases hlt : j < s.cas.length
    · have hltz : (j : Int) < (s.cas.length : Int) := by omega
      obtain ⟨b, o, rfl, -, -, hx, hcell⟩ := CasAt.get (HM.out _ HBw.out) j hlt
      have HKj := Lib.hid (HK.out _ (List.mem_of_getElem? hx))
      have HST := Lib.hid fun h => cases_step hx HE1.out h
      have HBD := Lib.hid fun h => cases_bad hx HE1.out h
      have HSS := Lib.hid (sum_step hx HS1.out)
      generalize s.cas[j] = x at *
      obtain ⟨c0, c1, c2⟩ := hcell
      have HXn := Lib.hid (alloc_new wr (cae x) Tk)
      have HBn1 := Lib.hid (below_alloc wr (.cells (cae x) Tk))
      clear hx
      by_cases he : casE st x = 0
      · have hrg := ok_range (cas_ok he).2.2.2
        have hE2 := HST.out he
        rw [he] at HKj
        clear he HBD HST
        have HE2 := Lib.hid hE2
        clear hE2
        go_wp2_with (first | (go_at_call 55; refine (HKj.out _).mono ?_; rintro e w1 ⟨rfl, hb⟩; obtain ⟨y0, y1, y2⟩ := three (keepB HXn.out hb); have HB2 : Hid (Below W.heap.size W w1) := HBn.out.trans ((below_trans HBn1.out hb).mono HBn.out.size); clear hb))
        go_roundg (s.cas.length - (j + 1))
        case measure => omega
        case rel => exact ⟨j + 1, T + x.ct, by omega, rfl, rfl, by go_num, by omega, HE2.out, HSS.out, HB2.out⟩
      · have hE2 := HBD.out he
        have hb0 : (casE st x != 0) = true := by simpa using he
        have hR : R = casE st x := by rw [HR.out, if_neg (by omega), hE2]
        have HRR := Lib.hid hR
        clear he HBD HST hE2 hR HR
        go_wp2_with (first | (go_at_call 55; refine (HKj.out _).mono ?_; rintro e w1 ⟨rfl, hb⟩; obtain ⟨y0, y1, y2⟩ := three (keepB HXn.out hb); have HB2 : Hid (Below p w w1) := HBw.out.trans ((below_trans HBn1.out hb).mono (Nat.le_trans HPW.out HBn.out.size)); clear hb))
        go_ret
        exact ⟨by rw [HRR.out]; rfl, by first | exact HB2.out | (rw [hp]; exact HB2.out)⟩
    · have hltz : ¬ (j : Int) < (s.cas.length : Int) := by omega
      have h0 := cases_end (by omega) HE1.out
      have h1 := sum_end (by omega) HS1.out
      by_cases hT : T = s.bi
      · have hR : R = 0 := by rw [HR.out, if_pos h0, if_pos (by omega)]
        have hb0 : (s.bi != T) = false := by simp [hT]
        have HRR := Lib.hid hR
        clear h0 h1 hR HR hT
        go_wp2
        go_ret
        exact ⟨by rw [HRR.out]; rfl, by first | exact HBw.out | (rw [hp]; exact HBw.out)⟩
      · have hR : R = 17 := by rw [HR.out, if_pos h0, if_neg (by omega)]
        have hb0 : (s.bi != T) = true := by simp; omega
        have HRR := Lib.hid hR
        clear h0 h1 hR HR hT
        go_wp2
        go_ret
        exact ⟨by rw [HRR.out]; rfl, by first | exact HBw.out | (rw [hp]; exact HBw.out)⟩
end Go.Proofs.Ytpfpjbeofogbgaa.Sv
end

/-
  What the reference's svc answers, as a contract: for all services.
-/
section
set_option linter.unusedSimpArgs false
set_option linter.unusedVariables false
set_option maxRecDepth 100000
namespace Go.Proofs.Ytpfpjbeofogbgaa.Sv
open Go.RowKit
open Bk (keepB below_alloc below_trans alloc_new)
open Cm (mk_ne codeB)

def svcM (st : Int) (s : Sr) : Int := if svcE st s = 0 then sumP s.cas else 0
theorem svcM_no {st : Int} {s : Sr} (h : svcE st s ≠ 0) : svcM st s = 0 := if_neg h
theorem sumP_step {l : List Ca} {j : Nat} {x : Ca} (hx : l[j]? = some x) {T R : Int} (h : T + sumP (l.drop j) = R) : (T + (if x.grp = gPR then x.ct else 0)) + sumP (l.drop (j + 1)) = R := by
  obtain ⟨hl, he'⟩ := (List.getElem?_eq_some_iff.1 hx)
  rw [List.drop_eq_getElem_cons hl, he'] at h
  simp only [sumP] at h
  omega
theorem sumP_end {l : List Ca} {j : Nat} (hj : l.length ≤ j) {T R : Int} (h : T + sumP (l.drop j) = R) : R = T := by
  rw [List.drop_eq_nil_of_le hj] at h; simp only [sumP] at h; omega
theorem lit_PR (s : Tx) : ((mk s).toList == (ByteArray.toList { data := #[80, 82] })) = decide (s = gPR) := mk_ne s gPR
set_option maxHeartbeats 4000000 in
theorem rsvc_any (s : Sr) (m : Value) (st : Int) (w : World) (hm : CasAt All w m s.cas) (hz : SrOk s) :
    Calls Try.prog 46 #[.int .i64 st, srv s m] w fun e w' => e = .returned (.tuple #[.int .i64 (svcM st s), .int .i64 (svcE st s)]) ∧ Below w.heap.size w w' := by
  obtain ⟨z1, z2, z3, z4⟩ := hz
  obtain ⟨a, cap, rfl, f1, f2⟩ := hm.form
  have HB := Lib.hid (below_alloc w (.cells (sre s (.slice a s.cas.length cap)) Ts))
  have HX := Lib.hid (alloc_new w (sre s (.slice a s.cas.length cap)) Ts)
  have HM : Hid (∀ w', Below w.heap.size w w' → CasAt All w' (.slice a s.cas.length cap) s.cas) := fun w' hb => hm.grw hb
  have HC := Lib.hid fun w => Cm.rcode_any s.proc 5 5 w (by omega)
  have HG : Hid (∀ n w, n = s.bi ∨ n = s.paid → Calls Try.prog 47 #[.int .i64 st, .int .i64 n] w fun e w' => e = .returned (.bool (okM st n)) ∧ w' = w) := fun n w h => rgood_any n st w
  have HK : Hid (∀ c ∈ s.cas, ∀ w, Calls Try.prog 58 #[.int .i64 st, cav c] w fun e w' => e = .returned (.int .i64 (casE st c)) ∧ Below w.heap.size w w') := fun c hc w => rcas_any c st w
  clear hm z1 z2 z3 z4
  cases hc : codeB s.proc 5 5 with
  | false =>
    rw [svcM_no (by rw [svc_9 hc]; decide), svc_9 hc]
    rw [hc] at HC
    go_enter Try.func46, Try.ntmps46
    go_upto_region 1 with fail
    generalize w.alloc (.cells (sre s (.slice a s.cas.length cap)) Ts) = W at *
    generalize hp : w.heap.size = p at *
    obtain ⟨x0, x1, x2, x3⟩ := four HX.out
    go_wp2_with (first | (go_at_call 45; refine (HC.out _).mono ?_; rintro e w' ⟨rfl, hw⟩; rw [hw]; clear hw w'))
    go_ret2
    exact ⟨rfl, by first | exact HB.out | (rw [hp]; exact HB.out)⟩
  | true =>
  rw [hc] at HC
  by_cases h5 : s.cas.length ≤ 5
  case neg =>
    rw [svcM_no (by rw [svc_6 hc h5]; decide), svc_6 hc h5]
    have h5' : (5 : Int) < (s.cas.length : Int) := by omega
    go_enter Try.func46, Try.ntmps46
    go_upto_region 1 with fail
    generalize w.alloc (.cells (sre s (.slice a s.cas.length cap)) Ts) = W at *
    generalize hp : w.heap.size = p at *
    obtain ⟨x0, x1, x2, x3⟩ := four HX.out
    go_wp2_with (first | (go_at_call 45; refine (HC.out _).mono ?_; rintro e w' ⟨rfl, hw⟩; rw [hw]; clear hw w'))
    go_ret2
    exact ⟨rfl, by first | exact HB.out | (rw [hp]; exact HB.out)⟩
  have h5' : ¬ (5 : Int) < (s.cas.length : Int) := by omega
  cases g1 : okM st s.bi with
  | false =>
    rw [svcM_no (by rw [svc_8 hc h5 (Or.inl g1)]; decide), svc_8 hc h5 (Or.inl g1)]
    go_enter Try.func46, Try.ntmps46
    go_upto_region 1 with fail
    generalize w.alloc (.cells (sre s (.slice a s.cas.length cap)) Ts) = W at *
    generalize hp : w.heap.size = p at *
    obtain ⟨x0, x1, x2, x3⟩ := four HX.out
    go_wp2_with (first | (go_at_call 45; refine (HC.out _).mono ?_; rintro e w' ⟨rfl, hw⟩; rw [hw]; clear hw w') | (go_at_call 47; refine (HG.out _ _ (by first | exact Or.inl rfl | exact Or.inr rfl)).mono ?_; rintro e w' ⟨rfl, hw⟩; rw [hw]; clear hw w'))
    go_ret2
    exact ⟨rfl, by first | exact HB.out | (rw [hp]; exact HB.out)⟩
  | true =>
  cases g2 : okM st s.paid with
  | false =>
    rw [svcM_no (by rw [svc_8 hc h5 (Or.inr g2)]; decide), svc_8 hc h5 (Or.inr g2)]
    go_enter Try.func46, Try.ntmps46
    go_upto_region 1 with fail
    generalize w.alloc (.cells (sre s (.slice a s.cas.length cap)) Ts) = W at *
    generalize hp : w.heap.size = p at *
    obtain ⟨x0, x1, x2, x3⟩ := four HX.out
    go_wp2_with (first | (go_at_call 45; refine (HC.out _).mono ?_; rintro e w' ⟨rfl, hw⟩; rw [hw]; clear hw w') | (go_at_call 47; refine (HG.out _ _ (by first | exact Or.inl rfl | exact Or.inr rfl)).mono ?_; rintro e w' ⟨rfl, hw⟩; rw [hw]; clear hw w'))
    go_ret2
    exact ⟨rfl, by first | exact HB.out | (rw [hp]; exact HB.out)⟩
  | true =>
  have HR := Lib.hid (svc_in (st := st) hc h5 g1 g2)
  have hpr := ok_range g2
  have HN : Hid (svcE st s ≠ 0 → svcM st s = 0) := svcM_no
  have HY : Hid (svcE st s = 0 → svcM st s = sumP s.cas) := fun h => if_pos h
  generalize svcM st s = MM at *
  generalize svcE st s = R at *
  obtain ⟨PP, hPP⟩ : ∃ PP, sumP s.cas = PP := ⟨_, rfl⟩
  rw [hPP] at HY
  have HP0 := Lib.hid hPP
  clear hPP
  obtain ⟨S, hS⟩ : ∃ S, s.paid + sumC s.cas = S := ⟨_, rfl⟩
  obtain ⟨E, hE⟩ : ∃ E, casesE st s.cas = E := ⟨_, rfl⟩
  rw [hS, hE] at HR
  have HS0 := Lib.hid hS
  have HE0 := Lib.hid hE
  clear hS hE hc
  go_enter Try.func46, Try.ntmps46
  go_upto_region 1 with fail
  generalize w.alloc (.cells (sre s (.slice a s.cas.length cap)) Ts) = W at *
  generalize hp : w.heap.size = p at *
  have HPW : Hid (p ≤ W.heap.size) := by have := HB.out.size; rw [hp] at this; exact this
  obtain ⟨x0, x1, x2, x3⟩ := four HX.out
  go_wp2_with (first | (go_at_call 45; refine (HC.out _).mono ?_; rintro e w' ⟨rfl, hw⟩; rw [hw]; clear hw w') | (go_at_call 47; refine (HG.out _ _ (by first | exact Or.inl rfl | exact Or.inr rfl)).mono ?_; rintro e w' ⟨rfl, hw⟩; rw [hw]; clear hw w'))
  go_loopg [6, 7, 8] (s.cas.length) (fun gg t6 t7 t8 wr => ∃ (j : Nat) (T M : Int), j ≤ s.cas.length ∧ gg = s.cas.length - j ∧ t6 = .int .i64 T ∧ t7 = .int .i64 M ∧ t8 = .int .i64 j ∧ (-10000000000000 * (j + 1) ≤ M ∧ M ≤ 10000000000000 * (j + 1)) ∧ Hid (M + sumP (s.cas.drop j) = PP) ∧ (-10000000000000 * (j + 1) ≤ T ∧ T ≤ 10000000000000 * (j + 1)) ∧ Hid (casesE st (s.cas.drop j) = E) ∧ Hid (T + sumC (s.cas.drop j) = S) ∧ Hid (Below W.heap.size W wr))
  case atStart => exact ⟨0, s.paid, 0, Nat.zero_le _, rfl, rfl, rfl, rfl, by omega, (by show _ = _; rw [List.drop_zero, HP0.out, Int.zero_add]), by omega, HE0.out, HS0.out, Below.refl _ _⟩
  case round =>
    obtain ⟨j, T, M, hj, hg, rfl, rfl, rfl, ⟨hm1, hm2⟩, HP1, ⟨ht1, ht2⟩, HE1, HS1, HBn⟩ := hrel
    have HBw : Hid (Below p w wr) := HB.out.trans (HBn.out.mono HPW.out)
    obtain ⟨x0, x1, x2, x3⟩ := four (keepB HX.out HBn.out)
    by_cases hlt : j < s.cas.length
    · have hltz : (j : Int) < (s.cas.length : Int) := by omega
      obtain ⟨b, o, rfl, -, -, hx, hcell⟩ := CasAt.get (HM.out _ HBw.out) j hlt
      have HKj := Lib.hid (HK.out _ (List.mem_of_getElem? hx))
      have HST := Lib.hid fun h => cases_step hx HE1.out h
      have HBD := Lib.hid fun h => cases_bad hx HE1.out h
      have HSS := Lib.hid (sum_step hx HS1.out)
      have HPS := Lib.hid (sumP_step hx HP1.out)
      generalize s.cas[j] = x at *
      have hbl := World.block_lt_of_cell? wr _ hcell.1
      obtain ⟨c0, c1, c2⟩ := id hcell
      clear hx
      by_cases he : casE st x = 0
      · have hrg := ok_range (cas_ok he).2.2.2
        have hE2 := HST.out he
        rw [he] at HKj
        clear he HBD HST
        have HE2 := Lib.hid hE2
        clear hE2
        by_cases hq : x.grp = gPR
        · have hl2 : (mk x.grp).toList = [80, 82] := by rw [mk_tl]; exact hq
          have hl3 : ((mk x.grp).toList == [80, 82]) = true := by rw [hl2]; rfl
          rw [if_pos hq] at HPS
          clear hq
          go_wp2_with (first | (go_at_call 58; refine (HKj.out _).mono ?_; rintro e w1 ⟨rfl, hb⟩; obtain ⟨y0, y1, y2⟩ := CaCells.of hcell (hb.block _ hbl); have HB2 : Hid (Below W.heap.size W w1) := HBn.out.trans (hb.mono HBn.out.size); obtain ⟨x0, x1, x2, x3⟩ := four (keepB HX.out HB2.out); clear hb))
          go_roundg (s.cas.length - (j + 1))
          case measure => omega
          case rel => exact ⟨j + 1, T + x.ct, M + x.ct, by omega, rfl, rfl, rfl, by go_num, by omega, HPS.out, by omega, HE2.out, HSS.out, HB2.out⟩
        · have hl2 : ¬ (mk x.grp).toList = [80, 82] := by rw [mk_tl]; exact hq
          have hl3 : ((mk x.grp).toList == [80, 82]) = false := by simpa using hl2
          rw [if_neg hq, Int.add_zero] at HPS
          clear hq
          go_wp2_with (first | (go_at_call 58; refine (HKj.out _).mono ?_; rintro e w1 ⟨rfl, hb⟩; obtain ⟨y0, y1, y2⟩ := CaCells.of hcell (hb.block _ hbl); have HB2 : Hid (Below W.heap.size W w1) := HBn.out.trans (hb.mono HBn.out.size); obtain ⟨x0, x1, x2, x3⟩ := four (keepB HX.out HB2.out); clear hb))
          go_roundg (s.cas.length - (j + 1))
          case measure => omega
          case rel => exact ⟨j + 1, T + x.ct, M, by omega, rfl, rfl, rfl, by go_num, by omega, HPS.out, by omega, HE2.out, HSS.out, HB2.out⟩
      · have hE2 := HBD.out he
        have hb0 : (casE st x != 0) = true := by simpa using he
        have hR : R = casE st x := by rw [HR.out, if_neg (by omega), hE2]
        have HMM := Lib.hid (HN.out (by rw [hR]; exact he))
        have HRR := Lib.hid hR
        clear he HBD HST hE2 hR HR
        go_wp2_with (first | (go_at_call 58; refine (HKj.out _).mono ?_; rintro e w1 ⟨rfl, hb⟩; have HB2 : Hid (Below p w w1) := HBw.out.trans (hb.mono (Nat.le_trans HPW.out HBn.out.size)); clear hb))
        go_ret2
        exact ⟨by rw [HRR.out, HMM.out]; rfl, by first | exact HB2.out | (rw [hp]; exact HB2.out)⟩
    · have hltz : ¬ (j : Int) < (s.cas.length : Int) := by omega
      have h0 := cases_end (by omega) HE1.out
      have h1 := sum_end (by omega) HS1.out
      by_cases hT : T = s.bi
      · have hR : R = 0 := by rw [HR.out, if_pos h0, if_pos (by omega)]
        have hb0 : (T != s.bi) = false := by simp [hT]
        have HMM : Hid (MM = M) := by show _ = _; rw [HY.out hR, sumP_end (by omega) HP1.out]
        have HRR := Lib.hid hR
        clear h0 h1 hR HR hT
        go_wp2
        go_ret2
        exact ⟨by rw [HRR.out, HMM.out]; rfl, by first | exact HBw.out | (rw [hp]; exact HBw.out)⟩
      · have hR : R = 17 := by rw [HR.out, if_pos h0, if_neg (by omega)]
        have hb0 : (T != s.bi) = true := by simp; omega
        have HMM : Hid (MM = 0) := HN.out (by omega)
        have HRR := Lib.hid hR
        clear h0 h1 hR HR hT
        go_wp2
        go_ret2
        exact ⟨by rw [HRR.out, HMM.out]; rfl, by first | exact HBw.out | (rw [hp]; exact HBw.out)⟩
end Go.Proofs.Ytpfpjbeofogbgaa.Sv
end

/-
  What svc.together answers, as a contract: for services that do not go round.
-/
section
set_option linter.unusedSimpArgs false
set_option linter.unusedVariables false
set_option maxRecDepth 100000
namespace Go.Proofs.Ytpfpjbeofogbgaa.Sv
open Go.RowKit
open Bk (keepB below_alloc below_trans alloc_new)
open Cm (mk_ne codeB)

def Bd (n : Int) : Prop := -1125899906842624 ≤ n ∧ n ≤ 1125899906842624
def BdS (s : Sr) : Prop := Bd s.bi ∧ Bd s.paid ∧ s.cas.length ≤ 5 ∧ ∀ c ∈ s.cas, Bd c.ct
theorem tot_step {l : List Sr} {k : Nat} {s : Sr} (hx : l[k]? = some s) {B P M b p m : Int} (h1 : B + totB (l.drop k) = b) (h2 : P + totP (l.drop k) = p) (h3 : M + totM (l.drop k) = m) :
    (B + s.bi) + totB (l.drop (k + 1)) = b ∧ (P + s.paid) + totP (l.drop (k + 1)) = p ∧ (M + sumP s.cas) + totM (l.drop (k + 1)) = m := by
  obtain ⟨hl, he'⟩ := (List.getElem?_eq_some_iff.1 hx)
  rw [List.drop_eq_getElem_cons hl, he'] at h1 h2 h3
  simp only [totB, totP, totM] at h1 h2 h3
  omega
theorem tot_end {l : List Sr} {k : Nat} (hk : l.length ≤ k) {B P M b p m : Int} (h1 : B + totB (l.drop k) = b) (h2 : P + totP (l.drop k) = p) (h3 : M + totM (l.drop k) = m) : b = B ∧ p = P ∧ m = M := by
  rw [List.drop_eq_nil_of_le hk] at h1 h2 h3
  simp only [totB, totP, totM] at h1 h2 h3
  omega
theorem sumP_end' {l : List Ca} {j : Nat} (hj : l.length ≤ j) {T R : Int} (h : T + sumP (l.drop j) = R) : T = R := (sumP_end hj h).symm

set_option maxHeartbeats 4000000 in
theorem together_any (l : List Sr) (v : Value) (w : World) (h : SvsAt All w v l) (hl : l.length ≤ 999) (hz : ∀ s ∈ l, BdS s) :
    Calls Try.prog 43 #[v] w fun e w' => e = .returned (.tuple #[.int .i64 (totB l), .int .i64 (totP l), .int .i64 (totM l)]) ∧ Below w.heap.size w w' := by
  obtain ⟨a, cap, rfl, f1, f2⟩ := h.form
  have HM : Hid (∀ w', Below w.heap.size w w' → SvsAt All w' (.slice a l.length cap) l) := fun w' hb => h.grw hb
  have HZ := Lib.hid hz
  clear h hz
  obtain ⟨b0, hb0⟩ : ∃ b, totB l = b := ⟨_, rfl⟩
  obtain ⟨p0, hp0⟩ : ∃ b, totP l = b := ⟨_, rfl⟩
  obtain ⟨m0, hm0⟩ : ∃ b, totM l = b := ⟨_, rfl⟩
  rw [hb0, hp0, hm0]
  have H0 : Hid (0 + totB (l.drop 0) = b0 ∧ 0 + totP (l.drop 0) = p0 ∧ 0 + totM (l.drop 0) = m0) := by
    show _ ∧ _
    rw [List.drop_zero, hb0, hp0, hm0]; omega
  clear hb0 hp0 hm0
  go_enter Try.func43, Try.ntmps43
  go_wp2
  go_loopg [2, 3, 4, 10] (l.length) (fun gg t2 t3 t4 t10 wr => ∃ (k : Nat) (B P M : Int), k ≤ l.length ∧ gg = l.length - k ∧ t2 = .int .i64 B ∧ t3 = .int .i64 P ∧ t4 = .int .i64 M ∧ t10 = .int .i64 k ∧ (-1125899906842624 * k ≤ B ∧ B ≤ 1125899906842624 * k) ∧ (-1125899906842624 * k ≤ P ∧ P ≤ 1125899906842624 * k) ∧ (-5629499534213120 * k ≤ M ∧ M ≤ 5629499534213120 * k) ∧ Hid (B + totB (l.drop k) = b0 ∧ P + totP (l.drop k) = p0 ∧ M + totM (l.drop k) = m0) ∧ Hid (Below w.heap.size w wr))
  case atStart => exact ⟨0, 0, 0, 0, Nat.zero_le _, rfl, rfl, rfl, rfl, rfl, by omega, by omega, by omega, H0.out, Below.refl _ _⟩
  case round =>
    obtain ⟨k, B, P, M, hk, hg, rfl, rfl, rfl, rfl, ⟨hB1, hB2⟩, ⟨hP1, hP2⟩, ⟨hM1, hM2⟩, HT, HBn⟩ := hrel
    obtain ⟨wo, rfl⟩ : ∃ wo, wo = wr := ⟨wr, rfl⟩
    by_cases hlt : k < l.length
    · have hltz : (k : Int) < (l.length : Int) := by omega
      obtain ⟨b, o, m, rfl, -, -, hx, hcell, hcas⟩ := SvsAt.get (HM.out _ HBn.out) k hlt
      obtain ⟨⟨z1, z2⟩, ⟨z3, z4⟩, z5, z6⟩ := HZ.out _ (List.mem_of_getElem? hx)
      have HS := Lib.hid (tot_step hx HT.out.1 HT.out.2.1 HT.out.2.2)
      have hi1 : k < l.length := hlt
      generalize l[k] = x at *
      obtain ⟨c0, c1, c2, c3⟩ := hcell
      obtain ⟨ac, kc, rfl, g1, g2⟩ := hcas.form
      have HC : Hid (∀ w', Below wo.heap.size wo w' → CasAt All w' (.slice ac x.cas.length kc) x.cas) := fun w' hb => hcas.grw hb
      have HZ6 := Lib.hid z6
      clear hx hcas z6
      obtain ⟨sp, hsp⟩ : ∃ sp, sumP x.cas = sp := ⟨_, rfl⟩
      rw [hsp] at HS
      have HSP : Hid (M + sumP (x.cas.drop 0) = M + sp) := by show _ = _; rw [List.drop_zero, hsp]
      clear hsp
      go_wp2
      go_loopg [4, 33] (x.cas.length) (fun gg t4 t33 wr => ∃ (j : Nat) (N : Int), j ≤ x.cas.length ∧ gg = x.cas.length - j ∧ t4 = .int .i64 N ∧ t33 = .int .i64 j ∧ (-5629499534213120 * k - 1125899906842624 * j ≤ N ∧ N ≤ 5629499534213120 * k + 1125899906842624 * j) ∧ Hid (N + sumP (x.cas.drop j) = M + sp) ∧ Hid (Below wo.heap.size wo wr))
      case atStart => exact ⟨0, M, Nat.zero_le _, rfl, rfl, rfl, by omega, HSP.out, Below.refl _ _⟩
      case round =>
        obtain ⟨j, N, hj, hgj, rfl, rfl, ⟨hN1, hN2⟩, HSj, HBq⟩ := hrel
        by_cases hlj : j < x.cas.length
        · have hljz : (j : Int) < (x.cas.length : Int) := by omega
          obtain ⟨bc, oc, rfl, -, -, hy, hcc⟩ := CasAt.get (HC.out _ HBq.out) j hlj
          obtain ⟨y1, y2⟩ := HZ6.out _ (List.mem_of_getElem? hy)
          have HPS := Lib.hid (sumP_step hy HSj.out)
          generalize x.cas[j] = y at *
          obtain ⟨d0, d1, d2⟩ := hcc
          have HXn := Lib.hid (alloc_new wr (cae y) Tk)
          have HB2 : Hid (Below wo.heap.size wo (wr.alloc (.cells (cae y) Tk))) := HBq.out.trans ((below_alloc wr _).mono HBq.out.size)
          clear hy
          by_cases hq : y.grp = gPR
          · have hl2 : (mk y.grp).toList = [80, 82] := by rw [mk_tl]; exact hq
            have hl3 : ((mk y.grp).toList == [80, 82]) = true := by rw [hl2]; rfl
            rw [if_pos hq] at HPS
            clear hq
            go_wp2
            go_roundg (x.cas.length - (j + 1))
            case measure => omega
            case rel => exact ⟨j + 1, N + y.ct, by omega, rfl, rfl, by go_num, by omega, HPS.out, HB2.out⟩
          · have hl2 : ¬ (mk y.grp).toList = [80, 82] := by rw [mk_tl]; exact hq
            have hl3 : ((mk y.grp).toList == [80, 82]) = false := by simpa using hl2
            rw [if_neg hq, Int.add_zero] at HPS
            clear hq
            go_wp2
            go_roundg (x.cas.length - (j + 1))
            case measure => omega
            case rel => exact ⟨j + 1, N, by omega, rfl, rfl, by go_num, by omega, HPS.out, HB2.out⟩
        · have hljz : ¬ (j : Int) < (x.cas.length : Int) := by omega
          have hN := sumP_end' (by omega) HSj.out
          have HB3 : Hid (Below w.heap.size w wr) := HBn.out.trans (HBq.out.mono HBn.out.size)
          have HS2 : Hid (B + x.bi + totB (l.drop (k + 1)) = b0 ∧ P + x.paid + totP (l.drop (k + 1)) = p0 ∧ N + totM (l.drop (k + 1)) = m0) := by rw [hN]; exact HS.out
          clear hN
          go_wp2
          go_roundg (l.length - (k + 1))
          case measure => omega
          case rel => exact ⟨k + 1, B + x.bi, P + x.paid, N, by omega, rfl, rfl, rfl, rfl, by go_num, by omega, by omega, by omega, HS2.out, HB3.out⟩
    · have hltz : ¬ (k : Int) < (l.length : Int) := by omega
      obtain ⟨e1, e2, e3⟩ := tot_end (by omega) HT.out.1 HT.out.2.1 HT.out.2.2
      have HE : Hid (b0 = B ∧ p0 = P ∧ m0 = M) := ⟨e1, e2, e3⟩
      clear e1 e2 e3
      go_wp2
      go_ret3
      exact ⟨by rw [HE.out.1, HE.out.2.1, HE.out.2.2]; rfl, HBn.out⟩
end Go.Proofs.Ytpfpjbeofogbgaa.Sv
end
