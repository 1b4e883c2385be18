/-
  What SvcBalances needs besides: services of which all goes somewhere make a claim of a remittance that balances; the reference's Balances says so only where it is so.
-/
import Derived.Test.YtpnkgkchpoehcaaVSmall
import Derived.Test.YtpnkgkchpoehcaaVOf
import Derived.Test.YtpnkgkchpoehcaaLRCk
set_option linter.unusedSimpArgs false
set_option linter.unusedVariables false
set_option maxRecDepth 100000
namespace Go.Proofs.Ytpnkgkchpoehcaa.Sv
open Go.RowKit
open Sh (Ot balB)
open Cm (Ln Cl LnsAt LnOk clv ClOk codeB)
open Bk (keepB below_alloc below_trans alloc_new heap_set heap_far OtsAt)

theorem firstE_all (y : Int) : ∀ (ls : List Ln), Cm.firstE y ls = 0 → ∀ x ∈ ls, Cm.lineE x = 0
  | [], _, _, h => by cases h
  | a :: r, h, x, hx => by
    unfold Cm.firstE at h
    by_cases q : Cm.lineE a = 0
    · rw [if_pos q] at h
      by_cases q2 : Da.yr a.date = y
      · rw [if_pos q2] at h
        rcases List.mem_cons.1 hx with rfl | hx
        · exact q
        · exact firstE_all y r h x hx
      · rw [if_neg q2] at h; omega
    · rw [if_neg q] at h; exact absurd h q
theorem line_of {x : Ln} (h : Cm.lineE x = 0) : codeB x.proc 5 5 = true ∧ Ce.good x.billed = true := by
  unfold Cm.lineE at h
  split at h
  · split at h
    · split at h
      · split at h
        · next a _ _ d =>
          simp only [Cm.codesB, Bool.and_eq_true] at a
          simp only [Cm.moneyB, Bool.and_eq_true] at d
          exact ⟨a.1, d.1.1⟩
        · omega
      · omega
    · omega
  · omega
theorem claim_of {c : Cl} (h : Cm.checkE c = 0) : codeB c.id 1 12 = true ∧ c.lines.length ≤ 999 ∧ (∀ x ∈ c.lines, codeB x.proc 5 5 = true ∧ Ce.good x.billed = true) ∧ Ce.tot (Cm.bil c.lines) c.lines.length ≤ 10000000000000 := by
  unfold Cm.checkE at h
  by_cases q : Cm.headE c = 0
  · rw [if_pos q] at h
    have hn : Cm.namesB c = true := by
      unfold Cm.headE at q
      by_cases q2 : Cm.namesB c = true
      · exact q2
      · rw [if_neg q2] at q; omega
    simp only [Cm.namesB, Bool.and_eq_true] at hn
    unfold Cm.restE at h
    split at h
    · next h9 =>
      split at h
      · split at h
        · next hl =>
          refine ⟨hn.1, h9, fun x hx => line_of (firstE_all _ _ hl x hx), ?_⟩
          unfold Cm.totE at h
          by_cases q3 : Ce.sumE (Cm.bil c.lines) c.lines.length = 0
          · exact ((Cm.sumE_zero _ _).1 q3).2
          · rw [if_neg q3] at h; omega
        · next hl => exact absurd h hl
      · omega
    · omega
  · rw [if_neg q] at h; exact absurd h q
theorem tot_bil (ls : List Ln) (os : List Ot) (h : os.length = ls.length) : ∀ k, k ≤ ls.length → totB ((svsV ls os).take k) = Ce.tot (Cm.bil ls) k
  | 0, _ => by simp [totB, Ce.tot]
  | k + 1, hk => by
    have h1 := svs_at ls os k _ _ (List.getElem?_eq_getElem (show k < ls.length by omega)) (List.getElem?_eq_getElem (show k < os.length by omega))
    rw [List.take_add_one, h1, (tot_app _ _).1, tot_bil ls os h k (by omega)]
    show _ + (_ + 0) = Ce.tot (Cm.bil ls) k + Cm.bil ls k
    rw [Cm.bil_at ls k _ (List.getElem?_eq_getElem (show k < ls.length by omega))]
    simp [oneV]
theorem tot_nn (f : Nat → Int) : ∀ n, (∀ i, i < n → 0 ≤ f i) → 0 ≤ Ce.tot f n
  | 0, _ => by simp [Ce.tot]
  | n + 1, h => by
    have h1 := tot_nn f n fun i hi => h i (by omega)
    have h2 := h n (by omega)
    show 0 ≤ Ce.tot f n + f n
    omega
theorem bal_of (c : Cl) (os : List Ot) (h : Cm.checkE c = 0) (hl : os.length = c.lines.length) (hp : 0 < os.length) (hb : ∀ (j : Nat) (l : Ln) (o : Ot), c.lines[j]? = some l → os[j]? = some o → balB l.billed { o with al := l.billed } = true ∧ 0 ≤ o.deny ∧ o.deny ≤ 999) : ofE c os = 0 := by
  obtain ⟨h1, h2, h3, h4⟩ := claim_of h
  have hsl := svs_len c.lines os hl
  have ht : totB (svsV c.lines os) = Ce.tot (Cm.bil c.lines) c.lines.length := by
    have := tot_bil c.lines os hl c.lines.length (Nat.le_refl _)
    rwa [List.take_of_length_le (by omega)] at this
  rw [of_in hl]
  refine (check_iff _).2 ⟨⟨h1, Or.inl rfl⟩, ⟨by show 1 ≤ (svsV c.lines os).length; omega, by show (svsV c.lines os).length ≤ 999; omega⟩, fun s hs => ?_, rfl, rfl, (mem_tot c.lines os hl).symm, ?_⟩
  · obtain ⟨j, hj⟩ := List.mem_iff_getElem?.1 hs
    have hj' : (svsV c.lines os)[j]? = some s := hj
    have hjl : j < c.lines.length := by have := (List.getElem?_eq_some_iff.1 hj').1; omega
    have e := svs_at c.lines os j _ _ (List.getElem?_eq_getElem hjl) (List.getElem?_eq_getElem (show j < os.length by omega))
    have e2 : s = oneV c.lines[j] (os[j]'(by omega)) := by
      rw [e] at hj'
      exact (Option.some.inj hj').symm
    obtain ⟨b1, b2⟩ := hb j _ _ (List.getElem?_eq_getElem hjl) (List.getElem?_eq_getElem (show j < os.length by omega))
    obtain ⟨l1, l2⟩ := h3 _ (List.getElem_mem hjl)
    rw [e2]
    exact one_ok l1 l2 b1 b2
  · show okM 1 (totB (svsV c.lines os)) = true
    rw [ht, ok_one]
    refine ⟨tot_nn _ _ fun i hi => ?_, h4⟩
    rw [Cm.bil_at c.lines i _ (List.getElem?_eq_getElem hi)]
    exact ((Ce.good_iff _).1 (h3 _ (List.getElem_mem hi)).2).1

abbrev otv (o : Ot) : Array Value := #[.int .i64 o.al, .int .i64 o.de, .int .i64 o.cp, .int .i64 o.cn, .int .i64 o.plan, .int .i64 o.wr, .int .i64 o.pr, .int .i64 o.deny]
set_option maxHeartbeats 4000000 in
theorem bal_any (bi : Int) (o : Ot) (w : World) (h : Bd o.plan ∧ Bd o.wr ∧ Bd o.pr ∧ Bd o.de ∧ Bd o.cp ∧ Bd o.cn) (hbi : bi ≤ 10000000000000) :
    Calls Try.prog 18 #[.int .i64 bi, .agg (otv o)] w fun e w' => e = .returned (.bool (balB bi o)) ∧ Below w.heap.size w w' := by
  by_cases hc : balB bi o = true
  · refine (Sh.bal_yes bi o w hc hbi).mono ?_
    rintro e w' ⟨rfl, hb⟩
    exact ⟨by rw [hc], hb⟩
  have HF := Lib.hid (Bool.eq_false_iff.2 hc)
  simp only [balB, Bool.and_eq_true, decide_eq_true_eq] at hc
  obtain ⟨⟨a0, b0⟩, ⟨a1, b1⟩, ⟨a2, b2⟩, ⟨a3, b3⟩, ⟨a4, b4⟩, a5, b5⟩ := h
  have HC := Lib.hid hc
  have HB := Lib.hid (below_alloc w (.cells (otv o) 40))
  have HX := Lib.hid (alloc_new w (otv o) 40)
  clear hc
  go_enter Try.func18, Try.ntmps18
  go_upto_region 1 with fail
  generalize w.alloc (.cells (otv o) 40) = W at *
  generalize hp : w.heap.size = p at *
  obtain ⟨c0, c1, c2, c3, c4, c5, c6, c7⟩ := Sh.eight HX.out
  go_wp2
  all_goals go_ret
  all_goals first
    | exact ⟨by rw [HF.out]; rfl, by first | exact HB.out | (rw [hp]; exact HB.out)⟩
    | (have hq : decide (o.al ≤ bi) = false := decide_eq_false fun hq => HC.out (by omega)
       refine ⟨?_, by first | exact HB.out | (rw [hp]; exact HB.out)⟩
       rw [HF.out, ← hq]
       rfl)
theorem rc_any (c : Cl) (m : Value) (w : World) (hm : LnsAt All w m c.lines) (hz : ClOk c) (hl : c.lines.length ≤ 1000000) : Calls Try.prog 17 #[clv c m] w fun e w' => e = .returned (.int .i64 (Cm.checkE c)) ∧ Below w.heap.size w w' := Cm.rcheck_any c m w hm hz hl
theorem ln_billed {w : World} {b o : Nat} {x : Ln} {m : Value} (h : Cm.LnCells w b o x m) : w.cell? ⟨b, o + 4, none⟩ = some (.int .i64 x.billed) := h.2.2.2.2.1
theorem ot_cell {w : World} {b o : Nat} {x : Ot} (h : Bk.OtCells w b o x) : w.cell? ⟨b, o + 7, none⟩ = some (.int .i64 x.deny) := h.2.2.2.2.2.2.2
end Go.Proofs.Ytpnkgkchpoehcaa.Sv
