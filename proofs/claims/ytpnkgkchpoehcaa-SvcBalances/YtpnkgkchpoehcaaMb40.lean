/-
  Texts put together (merge.py): VBal, VPart.
-/
import Derived.Test.YtpnkgkchpoehcaaMb35
import Derived.Test.YtpnkgkchpoehcaaMb29
import Derived.Test.YtpnkgkchpoehcaaMb39
/-
  What SvcBalances needs besides: services of which all goes somewhere make a claim of a remittance that balances; the reference's Balances says so only where it is so.
-/
section
set_option linter.unusedSimpArgs false
set_option linter.unusedVariables false
set_option maxRecDepth 100000
namespace Go.Proofs.Ytpnkgkchpoehcaa.Sv
open Go.RowKit
open Sh (Ot balB)
open Cm (Ln Cl LnsAt LnOk clv ClOk codeB)
open Bk (keepB below_alloc below_trans alloc_new heap_set heap_far OtsAt)

theorem firstE_all (y : Int) : ∀ (ls : List Ln), Cm.firstE y ls = 0 → ∀ x ∈ ls, Cm.lineE x = 0
  | [], _, _, h => by cases h
  | a :: r, h, x, hx => by
    unfold Cm.firstE at h
    by_cases q : Cm.lineE a = 0
    · rw [if_pos q] at h
      by_cases q2 : Da.yr a.date = y
      · rw [if_pos q2] at h
        rcases List.mem_cons.1 hx with rfl | hx
        · exact q
        · exact firstE_all y r h x hx
      · rw [if_neg q2] at h; omega
    · rw [if_neg q] at h; exact absurd h q
theorem line_of {x : Ln} (h : Cm.lineE x = 0) : codeB x.proc 5 5 = true ∧ Ce.good x.billed = true := by
  unfold Cm.lineE at h
  split at h
  · split at h
    · split at h
      · split at h
        · next a _ _ d =>
          simp only [Cm.codesB, Bool.and_eq_true] at a
          simp only [Cm.moneyB, Bool.and_eq_true] at d
          exact ⟨a.1, d.1.1⟩
        · omega
      · omega
    · omega
  · omega
theorem claim_of {c : Cl} (h : Cm.checkE c = 0) : codeB c.id 1 12 = true ∧ c.lines.length ≤ 999 ∧ (∀ x ∈ c.lines, codeB x.proc 5 5 = true ∧ Ce.good x.billed = true) ∧ Ce.tot (Cm.bil c.lines) c.lines.length ≤ 10000000000000 := by
  unfold Cm.checkE at h
  by_cases q : Cm.headE c = 0
  · rw [if_pos q] at h
    have hn : Cm.namesB c = true := by
      unfold Cm.headE at q
      by_cases q2 : Cm.namesB c = true
      · exact q2
      · rw [if_neg q2] at q; omega
    simp only [Cm.namesB, Bool.and_eq_true] at hn
    unfold Cm.restE at h
    split at h
    · next h9 =>
      split at h
      · split at h
        · next hl =>
          refine ⟨hn.1, h9, fun x hx => line_of (firstE_all _ _ hl x hx), ?_⟩
          unfold Cm.totE at h
          by_cases q3 : Ce.sumE (Cm.bil c.lines) c.lines.length = 0
          · exact ((Cm.sumE_zero _ _).1 q3).2
          · rw [if_neg q3] at h; omega
        · next hl => exact absurd h hl
      · omega
    · omega
  · rw [if_neg q] at h; exact absurd h q
theorem tot_bil (ls : List Ln) (os : List Ot) (h : os.length = ls.length) : ∀ k, k ≤ ls.length → totB ((svsV ls os).take k) = Ce.tot (Cm.bil ls) k
  | 0, _ => by simp [totB, Ce.tot]
  | k + 1, hk => by
    have h1 := svs_at ls os k _ _ (List.getElem?_eq_getElem (show k < ls.length by omega)) (List.getElem?_eq_getElem (show k < os.length by omega))
    rw [List.take_add_one, h1, (tot_app _ _).1, tot_bil ls os h k (by omega)]
    show _ + (_ + 0) = Ce.tot (Cm.bil ls) k + Cm.bil ls k
    rw [Cm.bil_at ls k _ (List.getElem?_eq_getElem (show k < ls.length by omega))]
    simp [oneV]
theorem tot_nn (f : Nat → Int) : ∀ n, (∀ i, i < n → 0 ≤ f i) → 0 ≤ Ce.tot f n
  | 0, _ => by simp [Ce.tot]
  | n + 1, h => by
    have h1 := tot_nn f n fun i hi => h i (by omega)
    have h2 := h n (by omega)
    show 0 ≤ Ce.tot f n + f n
    omega
theorem bal_of (c : Cl) (os : List Ot) (h : Cm.checkE c = 0) (hl : os.length = c.lines.length) (hp : 0 < os.length) (hb : ∀ (j : Nat) (l : Ln) (o : Ot), c.lines[j]? = some l → os[j]? = some o → balB l.billed { o with al := l.billed } = true ∧ 0 ≤ o.deny ∧ o.deny ≤ 999) : ofE c os = 0 := by
  obtain ⟨h1, h2, h3, h4⟩ := claim_of h
  have hsl := svs_len c.lines os hl
  have ht : totB (svsV c.lines os) = Ce.tot (Cm.bil c.lines) c.lines.length := by
    have := tot_bil c.lines os hl c.lines.length (Nat.le_refl _)
    rwa [List.take_of_length_le (by omega)] at this
  rw [of_in hl]
  refine (check_iff _).2 ⟨⟨h1, Or.inl rfl⟩, ⟨by show 1 ≤ (svsV c.lines os).length; omega, by show (svsV c.lines os).length ≤ 999; omega⟩, fun s hs => ?_, rfl, rfl, (mem_tot c.lines os hl).symm, ?_⟩
  · obtain ⟨j, hj⟩ := List.mem_iff_getElem?.1 hs
    have hj' : (svsV c.lines os)[j]? = some s := hj
    have hjl : j < c.lines.length := by have := (List.getElem?_eq_some_iff.1 hj').1; omega
    have e := svs_at c.lines os j _ _ (List.getElem?_eq_getElem hjl) (List.getElem?_eq_getElem (show j < os.length by omega))
    have e2 : s = oneV c.lines[j] (os[j]'(by omega)) := by
      rw [e] at hj'
      exact (Option.some.inj hj').symm
    obtain ⟨b1, b2⟩ := hb j _ _ (List.getElem?_eq_getElem hjl) (List.getElem?_eq_getElem (show j < os.length by omega))
    obtain ⟨l1, l2⟩ := h3 _ (List.getElem_mem hjl)
    rw [e2]
    exact one_ok l1 l2 b1 b2
  · show okM 1 (totB (svsV c.lines os)) = true
    rw [ht, ok_one]
    refine ⟨tot_nn _ _ fun i hi => ?_, h4⟩
    rw [Cm.bil_at c.lines i _ (List.getElem?_eq_getElem hi)]
    exact ((Ce.good_iff _).1 (h3 _ (List.getElem_mem hi)).2).1

abbrev otv (o : Ot) : Array Value := #[.int .i64 o.al, .int .i64 o.de, .int .i64 o.cp, .int .i64 o.cn, .int .i64 o.plan, .int .i64 o.wr, .int .i64 o.pr, .int .i64 o.deny]
set_option maxHeartbeats 4000000 in
theorem bal_any (bi : Int) (o : Ot) (w : World) (h : Bd o.plan ∧ Bd o.wr ∧ Bd o.pr ∧ Bd o.de ∧ Bd o.cp ∧ Bd o.cn) (hbi : bi ≤ 10000000000000) :
    Calls Try.prog 18 #[.int .i64 bi, .agg (otv o)] w fun e w' => e = .returned (.bool (balB bi o)) ∧ Below w.heap.size w w' := by
  by_cases hc : balB bi o = true
  · refine (Sh.bal_yes bi o w hc hbi).mono ?_
    rintro e w' ⟨rfl, hb⟩
    exact ⟨by rw [hc], hb⟩
  have HF := Lib.hid (Bool.eq_false_iff.2 hc)
  simp only [balB, Bool.and_eq_true, decide_eq_true_eq] at hc
  obtain ⟨⟨a0, b0⟩, ⟨a1, b1⟩, ⟨a2, b2⟩, ⟨a3, b3⟩, ⟨a4, b4⟩, a5, b5⟩ := h
  have HC := Lib.hid hc
  have HB := Lib.hid (below_alloc w (.cells (otv o) 40))
  have HX := Lib.hid (alloc_new w (otv o) 40)
  clear hc
  go_enter Try.func18, Try.ntmps18
  go_upto_region 1 with fail
  generalize w.alloc (.cells (otv o) 40) = W at *
  generalize hp : w.heap.size = p at *
  obtain ⟨c0, c1, c2, c3, c4, c5, c6, c7⟩ := Sh.eight HX.out
  go_wp2
  all_goals go_ret
  all_goals first
    | exact ⟨by rw [HF.out]; rfl, by first | exact HB.out | (rw [hp]; exact HB.out)⟩
    | (have hq : decide (o.al ≤ bi) = false := decide_eq_false fun hq => HC.out (by omega)
       refine ⟨?_, by first | exact HB.out | (rw [hp]; exact HB.out)⟩
       rw [HF.out, ← hq]
       rfl)
theorem rc_any (c : Cl) (m : Value) (w : World) (hm : LnsAt All w m c.lines) (hz : ClOk c) (hl : c.lines.length ≤ 1000000) : Calls Try.prog 17 #[clv c m] w fun e w' => e = .returned (.int .i64 (Cm.checkE c)) ∧ Below w.heap.size w w' := Cm.rcheck_any c m w hm hz hl
theorem ln_billed {w : World} {b o : Nat} {x : Ln} {m : Value} (h : Cm.LnCells w b o x m) : w.cell? ⟨b, o + 4, none⟩ = some (.int .i64 x.billed) := h.2.2.2.2.1
theorem ot_cell {w : World} {b o : Nat} {x : Ot} (h : Bk.OtCells w b o x) : w.cell? ⟨b, o + 7, none⟩ = some (.int .i64 x.deny) := h.2.2.2.2.2.2.2
end Go.Proofs.Ytpnkgkchpoehcaa.Sv
end

/-
  A claim's first services and the others, in memory; a block of so many cells that is written whole. (Written by gen_parts.py.)
-/
section
set_option linter.unusedSimpArgs false
set_option linter.unusedVariables false
set_option maxRecDepth 100000
namespace Go.Proofs.Ytpnkgkchpoehcaa.Sv
open Go.RowKit
open Sh (Ot)
open Cm (Ln Cl LnsAt LnOk clv ClOk)
open Bk (keepB below_alloc below_trans alloc_new heap_set heap_far OtsAt)

theorem lns_take {w : World} {a : Option Addr} {n c : Nat} {l : List Ln} (h : LnsAt All w (.slice a n c) l) {i : Nat} (hi : i ≤ l.length) : LnsAt All w (.slice a i c) (l.take i) := by
  obtain ⟨a', c', he, h1, h2, h3⟩ := h
  obtain ⟨rfl, -, rfl⟩ : a = a' ∧ n = l.length ∧ c = c' := by injection he with e1 e2 e3; exact ⟨e1, e2, e3⟩
  have hl : (l.take i).length = i := by rw [List.length_take]; omega
  refine ⟨a, c, by rw [hl], by omega, h2, ?_⟩
  rcases h3 with h | ⟨b, o, ha, hk, hb, hc⟩
  · subst h; exact Or.inl (by simp)
  · exact Or.inr ⟨b, o, ha, hk, hb, fun j x hj => hc j x (by rw [List.getElem?_take] at hj; split at hj; exact hj; cases hj)⟩
theorem lns_drop {w : World} {b o n c : Nat} {l : List Ln} (h : LnsAt All w (.slice (some ⟨b, o, none⟩) n c) l) {i : Nat} (hi : i ≤ l.length) : LnsAt All w (.slice (some ⟨b, o + i * 6, none⟩) (l.length - i) (c - i)) (l.drop i) := by
  obtain ⟨a', c', he, h1, h2, h3⟩ := h
  obtain ⟨rfl, -, rfl⟩ : some ⟨b, o, none⟩ = a' ∧ n = l.length ∧ c = c' := by injection he with e1 e2 e3; exact ⟨e1, e2, e3⟩
  have hl : (l.drop i).length = l.length - i := List.length_drop
  refine ⟨_, c - i, by rw [hl], by omega, by omega, ?_⟩
  rcases h3 with h | ⟨b', o', ha, hk, hb, hc⟩
  · subst h; exact Or.inl (by simp)
  · simp only [Option.some.injEq, Addr.mk.injEq, and_true] at ha
    obtain ⟨rfl, rfl⟩ := ha
    refine Or.inr ⟨b, o + i * 6, rfl, hk, hb, fun j x hj => ?_⟩
    rw [List.getElem?_drop] at hj
    have := hc (i + j) x hj
    rw [show o + i * 6 + j * 6 = o + (i + j) * 6 by omega]
    exact this
theorem ots_take {w : World} {a : Option Addr} {n c : Nat} {l : List Ot} (h : OtsAt All w (.slice a n c) l) {i : Nat} (hi : i ≤ l.length) : OtsAt All w (.slice a i c) (l.take i) := by
  obtain ⟨a', c', he, h1, h2, h3⟩ := h
  obtain ⟨rfl, -, rfl⟩ : a = a' ∧ n = l.length ∧ c = c' := by injection he with e1 e2 e3; exact ⟨e1, e2, e3⟩
  have hl : (l.take i).length = i := by rw [List.length_take]; omega
  refine ⟨a, c, by rw [hl], by omega, h2, ?_⟩
  rcases h3 with h | ⟨b, o, ha, hk, hb, hc⟩
  · subst h; exact Or.inl (by simp)
  · exact Or.inr ⟨b, o, ha, hk, hb, fun j x hj => hc j x (by rw [List.getElem?_take] at hj; split at hj; exact hj; cases hj)⟩
theorem ots_drop {w : World} {b o n c : Nat} {l : List Ot} (h : OtsAt All w (.slice (some ⟨b, o, none⟩) n c) l) {i : Nat} (hi : i ≤ l.length) : OtsAt All w (.slice (some ⟨b, o + i * 8, none⟩) (l.length - i) (c - i)) (l.drop i) := by
  obtain ⟨a', c', he, h1, h2, h3⟩ := h
  obtain ⟨rfl, -, rfl⟩ : some ⟨b, o, none⟩ = a' ∧ n = l.length ∧ c = c' := by injection he with e1 e2 e3; exact ⟨e1, e2, e3⟩
  have hl : (l.drop i).length = l.length - i := List.length_drop
  refine ⟨_, c - i, by rw [hl], by omega, by omega, ?_⟩
  rcases h3 with h | ⟨b', o', ha, hk, hb, hc⟩
  · subst h; exact Or.inl (by simp)
  · simp only [Option.some.injEq, Addr.mk.injEq, and_true] at ha
    obtain ⟨rfl, rfl⟩ := ha
    refine Or.inr ⟨b, o + i * 8, rfl, hk, hb, fun j x hj => ?_⟩
    rw [List.getElem?_drop] at hj
    have := hc (i + j) x hj
    rw [show o + i * 8 + j * 8 = o + (i + j) * 8 by omega]
    exact this
theorem lns_some {w : World} {a : Option Addr} {n c : Nat} {l : List Ln} (h : LnsAt All w (.slice a n c) l) (hl : 0 < l.length) : ∃ b o, a = some ⟨b, o, none⟩ := by
  obtain ⟨a', c', he, -, -, h3⟩ := h
  obtain ⟨rfl, -, -⟩ : a = a' ∧ n = l.length ∧ c = c' := by injection he with e1 e2 e3; exact ⟨e1, e2, e3⟩
  rcases h3 with h | ⟨b, o, ha, -⟩
  · subst h; simp at hl
  · exact ⟨b, o, ha⟩
theorem ots_some {w : World} {a : Option Addr} {n c : Nat} {l : List Ot} (h : OtsAt All w (.slice a n c) l) (hl : 0 < l.length) : ∃ b o, a = some ⟨b, o, none⟩ := by
  obtain ⟨a', c', he, -, -, h3⟩ := h
  obtain ⟨rfl, -, -⟩ : a = a' ∧ n = l.length ∧ c = c' := by injection he with e1 e2 e3; exact ⟨e1, e2, e3⟩
  rcases h3 with h | ⟨b, o, ha, -⟩
  · subst h; simp at hl
  · exact ⟨b, o, ha⟩
theorem wrap_mod (a : Int) (n : Nat) (h : 0 < n) : ∃ K : Nat, (IntKind.u64.wrap a).tmod (n : Int) = (K : Int) ∧ K < n := by
  have h0 : 0 ≤ IntKind.u64.wrap a := by
    have : IntKind.u64.wrap a = a % 18446744073709551616 := by simp [IntKind.wrap, IntKind.signed, IntKind.bits]
    rw [this]
    omega
  have h1 := Int.tmod_nonneg (n : Int) h0
  have h2 : (IntKind.u64.wrap a).tmod (n : Int) < n := Int.tmod_lt_of_pos _ (by omega)
  exact ⟨((IntKind.u64.wrap a).tmod (n : Int)).toNat, by omega, by omega⟩
/-- The first services, and the others, as claims. -/
abbrev cTk (c : Cl) (k : Nat) : Cl := { c with lines := c.lines.take k }
abbrev cDr (c : Cl) (k : Nat) : Cl := { c with lines := c.lines.drop k }
theorem cut_ok {c : Cl} {os : List Ot} (hz : ClOk c) (hs : Sm c os) (k : Nat) : (ClOk (cTk c k) ∧ Sm (cTk c k) (os.take k)) ∧ ClOk (cDr c k) ∧ Sm (cDr c k) (os.drop k) := by
  obtain ⟨a, b, c1, d, e, f, g, i⟩ := hz
  refine ⟨⟨⟨a, b, c1, d, e, f, ?_, fun x hx => i x (List.mem_of_mem_take hx)⟩, fun l hl => hs.1 l (List.mem_of_mem_take hl), fun o ho => hs.2 o (List.mem_of_mem_take ho)⟩, ⟨a, b, c1, d, e, f, ?_, fun x hx => i x (List.mem_of_mem_drop hx)⟩, fun l hl => hs.1 l (List.mem_of_mem_drop hl), fun o ho => hs.2 o (List.mem_of_mem_drop ho)⟩
  · simp only [List.length_take]; omega
  · simp only [List.length_drop]; omega
/-- Of, where it comes to something: the claim, and nothing of what lies in memory. -/
theorem of_flat (c : Cl) (m : Value) (os : List Ot) (mo : Value) (w : World) (hm : LnsAt All w m c.lines) (ho : OtsAt All w mo os) (hz : ClOk c) (hs : Sm c os) (h0 : ofE c os = 0) :
    Calls Try.prog 10 #[clv c m, mo] w fun e w' => (∃ z : Option Addr × Nat, e = .returned (.tuple #[cpv (raw c os) (.slice z.1 (raw c os).svs.length z.2), .int .i64 0])) ∧ Below w.heap.size w w' := by
  refine (of_any c m os mo w hm ho hz hs).mono ?_
  rintro e w' ⟨⟨u, rfl, hu⟩, hb⟩
  rw [of_yes h0] at hu ⊢
  obtain ⟨a, q, rfl, -, -⟩ := hu.form
  exact ⟨⟨(a, q), by rw [h0]⟩, hb⟩
theorem frz7 {w : World} {b : Nat} {cs : Array Value} {T : TypeId} (h : w.heap[b]? = some (.cells cs T (0, 0))) : w.frozen? ⟨b, 0, none⟩ = false ∧ w.frozen? ⟨b, 1, none⟩ = false ∧ w.frozen? ⟨b, 2, none⟩ = false ∧ w.frozen? ⟨b, 3, none⟩ = false ∧ w.frozen? ⟨b, 4, none⟩ = false ∧ w.frozen? ⟨b, 5, none⟩ = false ∧ w.frozen? ⟨b, 6, none⟩ = false := by
  refine ⟨?_, ?_, ?_, ?_, ?_, ?_, ?_⟩ <;> simp [World.frozen?, h]
theorem put7_heap {W : World} {b : Nat} {c0 c1 c2 c3 c4 c5 c6 : Value} {T : TypeId} (h : W.heap[b]? = some (.cells #[c0, c1, c2, c3, c4, c5, c6] T (0, 0))) (a0 a1 a2 a3 a4 a5 a6 : Value) : (((((((W.setCell ⟨b, 0, none⟩ a0).setCell ⟨b, 1, none⟩ a1).setCell ⟨b, 2, none⟩ a2).setCell ⟨b, 3, none⟩ a3).setCell ⟨b, 4, none⟩ a4).setCell ⟨b, 5, none⟩ a5).setCell ⟨b, 6, none⟩ a6).heap[b]? = some (.cells #[a0, a1, a2, a3, a4, a5, a6] T (0, 0)) := by
  have h0 := heap_set h 0 a0
  have h1 := heap_set h0 1 a1
  have h2 := heap_set h1 2 a2
  have h3 := heap_set h2 3 a3
  have h4 := heap_set h3 4 a4
  have h5 := heap_set h4 5 a5
  have h6 := heap_set h5 6 a6
  rw [h6]; rfl
theorem put7_keep {W : World} {b q : Nat} (hne : b ≠ q) (a0 a1 a2 a3 a4 a5 a6 : Value) : (((((((W.setCell ⟨q, 0, none⟩ a0).setCell ⟨q, 1, none⟩ a1).setCell ⟨q, 2, none⟩ a2).setCell ⟨q, 3, none⟩ a3).setCell ⟨q, 4, none⟩ a4).setCell ⟨q, 5, none⟩ a5).setCell ⟨q, 6, none⟩ a6).heap[b]? = W.heap[b]? := by
  repeat rw [Below.heap_setCell _ _ _ _ hne]
theorem put7_below {B : Nat} {w W : World} (h : Below B w W) (b : Nat) (hb : B ≤ b) (a0 a1 a2 a3 a4 a5 a6 : Value) : Below B w (((((((W.setCell ⟨b, 0, none⟩ a0).setCell ⟨b, 1, none⟩ a1).setCell ⟨b, 2, none⟩ a2).setCell ⟨b, 3, none⟩ a3).setCell ⟨b, 4, none⟩ a4).setCell ⟨b, 5, none⟩ a5).setCell ⟨b, 6, none⟩ a6) :=
  ((((((h.setCell (p := ⟨b, 0, none⟩) hb a0).setCell (p := ⟨b, 1, none⟩) hb a1).setCell (p := ⟨b, 2, none⟩) hb a2).setCell (p := ⟨b, 3, none⟩) hb a3).setCell (p := ⟨b, 4, none⟩) hb a4).setCell (p := ⟨b, 5, none⟩) hb a5).setCell (p := ⟨b, 6, none⟩) hb a6
theorem arr7 {cs : Array Value} (h : cs.size = 7) : ∃ c0 c1 c2 c3 c4 c5 c6, cs = #[c0, c1, c2, c3, c4, c5, c6] := by
  obtain ⟨l⟩ := cs
  match l, h with
  | [c0, c1, c2, c3, c4, c5, c6], _ => exact ⟨c0, c1, c2, c3, c4, c5, c6, rfl⟩
theorem arr6 {cs : Array Value} (h : cs.size = 6) : ∃ c0 c1 c2 c3 c4 c5, cs = #[c0, c1, c2, c3, c4, c5] := by
  obtain ⟨l⟩ := cs
  match l, h with
  | [c0, c1, c2, c3, c4, c5], _ => exact ⟨c0, c1, c2, c3, c4, c5, rfl⟩
/-- A block of seven cells is one still, whatever block is written whole. -/
theorem put7_any {W : World} {a q : Nat} {cs : Array Value} {c0 c1 c2 c3 c4 c5 c6 : Value} {T U : TypeId} (h : W.heap[a]? = some (.cells cs T (0, 0))) (hs : cs.size = 7) (hq : W.heap[q]? = some (.cells #[c0, c1, c2, c3, c4, c5, c6] U (0, 0))) (a0 a1 a2 a3 a4 a5 a6 : Value) : ∃ ds : Array Value, ds.size = 7 ∧ (((((((W.setCell ⟨q, 0, none⟩ a0).setCell ⟨q, 1, none⟩ a1).setCell ⟨q, 2, none⟩ a2).setCell ⟨q, 3, none⟩ a3).setCell ⟨q, 4, none⟩ a4).setCell ⟨q, 5, none⟩ a5).setCell ⟨q, 6, none⟩ a6).heap[a]? = some (.cells ds T (0, 0)) := by
  by_cases e : a = q
  · subst e
    rw [hq] at h
    simp only [Option.some.injEq, Obj.cells.injEq] at h
    obtain ⟨-, rfl, -⟩ := h
    exact ⟨_, rfl, put7_heap hq a0 a1 a2 a3 a4 a5 a6⟩
  · exact ⟨cs, hs, (put7_keep e a0 a1 a2 a3 a4 a5 a6).trans h⟩
end Go.Proofs.Ytpnkgkchpoehcaa.Sv
end
