/-
  Texts put together (merge.py): VMath, MMath.
-/
import Derived.Test.YtpfpjbeofogbgaaMg1
import Derived.Test.YtpfpjbeofogbgaaMg2
/-
  What became of a claim, as adjustments: what layer 20's calls answer, over plain lists, and what follows.
-/
section
set_option linter.unusedSimpArgs false
namespace Go.Proofs.Ytpfpjbeofogbgaa.Sv
open Cm (Ln Cl codeB)
open Sh (Ot member balB)

structure Ca where
  grp : Tx
  why : Int
  ct : Int
structure Sr where
  proc : Tx
  bi : Int
  paid : Int
  cas : List Ca
structure Cp where
  id : Tx
  st : Int
  bi : Int
  paid : Int
  mem : Int
  svs : List Sr
def cp0 : Cp := ⟨[], 0, 0, 0, 0, []⟩
def gCO : Tx := [67, 79]
def gPR : Tx := [80, 82]
def gOA : Tx := [79, 65]

/-! ### 20.4 -/
def okM (st n : Int) : Bool := if st = 1 then Ce.good n else decide (n ≤ 0) && decide (-10000000000000 ≤ n)
def casE (st : Int) (c : Ca) : Int :=
  if c.grp = gCO ∨ c.grp = gPR ∨ c.grp = gOA then (if 1 ≤ c.why ∧ c.why ≤ 999 then (if c.ct ≠ 0 ∧ okM st c.ct = true then 0 else 8) else 9) else 9
def casesE (st : Int) : List Ca → Int
  | [] => 0
  | c :: l => if casE st c = 0 then casesE st l else casE st c
def sumC : List Ca → Int
  | [] => 0
  | c :: l => c.ct + sumC l
def sumP : List Ca → Int
  | [] => 0
  | c :: l => (if c.grp = gPR then c.ct else 0) + sumP l
def svcE (st : Int) (s : Sr) : Int :=
  if codeB s.proc 5 5 = true then (if s.cas.length ≤ 5 then (if okM st s.bi = true ∧ okM st s.paid = true then (if casesE st s.cas = 0 then (if s.paid + sumC s.cas = s.bi then 0 else 17) else casesE st s.cas) else 8) else 6) else 9
def svcsE (st : Int) : List Sr → Int
  | [] => 0
  | s :: l => if svcE st s = 0 then svcsE st l else svcE st s
def totB : List Sr → Int
  | [] => 0
  | s :: l => s.bi + totB l
def totP : List Sr → Int
  | [] => 0
  | s :: l => s.paid + totP l
def totM : List Sr → Int
  | [] => 0
  | s :: l => sumP s.cas + totM l
def totC : List Sr → Int
  | [] => 0
  | s :: l => sumC s.cas + totC l
def checkE (x : Cp) : Int :=
  if codeB x.id 1 12 = true ∧ (x.st = 1 ∨ x.st = 22) then (if 1 ≤ x.svs.length ∧ x.svs.length ≤ 999 then (if svcsE x.st x.svs = 0 then (if x.bi = totB x.svs ∧ x.paid = totP x.svs ∧ x.mem = totM x.svs ∧ okM x.st (totB x.svs) = true then 0 else 17) else svcsE x.st x.svs) else 6) else 9

theorem cas_ok {st : Int} {c : Ca} (h : casE st c = 0) : (c.grp = gCO ∨ c.grp = gPR ∨ c.grp = gOA) ∧ (1 ≤ c.why ∧ c.why ≤ 999) ∧ c.ct ≠ 0 ∧ okM st c.ct = true := by
  unfold casE at h
  split at h
  · split at h
    · split at h
      · next a b d => exact ⟨a, b, d.1, d.2⟩
      · simp at h
    · simp at h
  · simp at h
theorem cas_of {st : Int} {c : Ca} (a : c.grp = gCO ∨ c.grp = gPR ∨ c.grp = gOA) (b : 1 ≤ c.why ∧ c.why ≤ 999) (d : c.ct ≠ 0) (e : okM st c.ct = true) : casE st c = 0 := by
  unfold casE; rw [if_pos a, if_pos b, if_pos ⟨d, e⟩]
theorem cases_iff (st : Int) : ∀ (l : List Ca), casesE st l = 0 ↔ ∀ c ∈ l, casE st c = 0
  | [] => by simp [casesE]
  | c :: l => by
    unfold casesE
    by_cases h : casE st c = 0
    · rw [if_pos h, cases_iff st l]; simp [h]
    · rw [if_neg h]; simp [h]
theorem svc_iff (st : Int) (s : Sr) : svcE st s = 0 ↔ codeB s.proc 5 5 = true ∧ s.cas.length ≤ 5 ∧ (okM st s.bi = true ∧ okM st s.paid = true) ∧ (∀ c ∈ s.cas, casE st c = 0) ∧ s.paid + sumC s.cas = s.bi := by
  rw [← cases_iff]
  unfold svcE
  constructor
  · intro h
    split at h
    · split at h
      · split at h
        · split at h
          · split at h
            · next a b c d e => exact ⟨a, b, c, d, e⟩
            · simp at h
          · next k => exact absurd h k
        · simp at h
      · simp at h
    · simp at h
  · rintro ⟨a, b, c, d, e⟩
    rw [if_pos a, if_pos b, if_pos c, if_pos d, if_pos e]
theorem svcs_iff (st : Int) : ∀ (l : List Sr), svcsE st l = 0 ↔ ∀ s ∈ l, svcE st s = 0
  | [] => by simp [svcsE]
  | s :: l => by
    unfold svcsE
    by_cases h : svcE st s = 0
    · rw [if_pos h, svcs_iff st l]; simp [h]
    · rw [if_neg h]; simp [h]
theorem check_iff (x : Cp) : checkE x = 0 ↔ (codeB x.id 1 12 = true ∧ (x.st = 1 ∨ x.st = 22)) ∧ (1 ≤ x.svs.length ∧ x.svs.length ≤ 999) ∧ (∀ s ∈ x.svs, svcE x.st s = 0) ∧ (x.bi = totB x.svs ∧ x.paid = totP x.svs ∧ x.mem = totM x.svs ∧ okM x.st (totB x.svs) = true) := by
  rw [← svcs_iff]
  unfold checkE
  constructor
  · intro h
    split at h
    · split at h
      · split at h
        · split at h
          · next a b c d => exact ⟨a, b, c, d⟩
          · simp at h
        · next k => exact absurd h k
      · simp at h
    · simp at h
  · rintro ⟨a, b, c, d⟩
    rw [if_pos a, if_pos b, if_pos c, if_pos d]

/-! ### What was billed is what is paid, and all adjustments, together -/
theorem tot_bal (st : Int) : ∀ (l : List Sr), (∀ s ∈ l, svcE st s = 0) → totB l = totP l + totC l
  | [], _ => rfl
  | s :: l, h => by
    have a := ((svc_iff st s).1 (h s (List.mem_cons_self ..))).2.2.2.2
    have b := tot_bal st l (fun x hx => h x (List.mem_cons_of_mem _ hx))
    simp only [totB, totP, totC]; omega
theorem check_sums {x : Cp} (h : checkE x = 0) : x.bi = x.paid + totC x.svs := by
  obtain ⟨_, _, c, d1, d2, _⟩ := (check_iff x).1 h
  rw [d1, d2, tot_bal x.st x.svs c]
theorem ok_one (n : Int) : okM 1 n = true ↔ 0 ≤ n ∧ n ≤ 10000000000000 := by simp [okM, Ce.good_iff]
theorem ok_back (n : Int) : okM 22 n = true ↔ n ≤ 0 ∧ -10000000000000 ≤ n := by simp [okM]
def sgn (st : Int) : Int := if st = 1 then 1 else -1
theorem ok_sgn {st n : Int} (h : okM st n = true) : 0 ≤ sgn st * n := by
  unfold okM at h; unfold sgn
  split at h
  · next e => rw [if_pos e]; have := (Ce.good_iff n).1 h; omega
  · next e => rw [if_neg e]; simp at h; omega
theorem sumP_sgn (st : Int) : ∀ (l : List Ca), (∀ c ∈ l, casE st c = 0) → 0 ≤ sgn st * sumP l ∧ sgn st * sumP l ≤ sgn st * sumC l
  | [], _ => by simp [sumP, sumC]
  | c :: l, h => by
    have a := ok_sgn (cas_ok (h c (List.mem_cons_self ..))).2.2.2
    have b := sumP_sgn st l (fun x hx => h x (List.mem_cons_of_mem _ hx))
    simp only [sumP, sumC, Int.mul_add]
    split <;> omega
theorem tot_sgn (st : Int) : ∀ (l : List Sr), (∀ s ∈ l, svcE st s = 0) → 0 ≤ sgn st * totP l ∧ 0 ≤ sgn st * totM l ∧ 0 ≤ sgn st * totB l
  | [], _ => by simp [totP, totM, totB]
  | s :: l, h => by
    have a := (svc_iff st s).1 (h s (List.mem_cons_self ..))
    have b := tot_sgn st l (fun x hx => h x (List.mem_cons_of_mem _ hx))
    have p := ok_sgn a.2.2.1.1
    have q := ok_sgn a.2.2.1.2
    have m := sumP_sgn st s.cas a.2.2.2.1
    simp only [totP, totM, totB, Int.mul_add]
    omega
theorem check_sign {x : Cp} (h : checkE x = 0) : (x.st = 1 → 0 ≤ x.paid ∧ 0 ≤ x.mem) ∧ (x.st = 22 → x.paid ≤ 0 ∧ x.mem ≤ 0) := by
  obtain ⟨_, _, c, d1, d2, d3, _⟩ := (check_iff x).1 h
  have t := tot_sgn x.st x.svs c
  rw [← d2, ← d3] at t
  constructor <;> (intro e; rw [e] at t; simp [sgn] at t; omega)

/-! ### 20.3 -/
def casN (c : Ca) : Ca := ⟨c.grp, c.why, -c.ct⟩
def svcN (s : Sr) : Sr := ⟨s.proc, -s.bi, -s.paid, s.cas.map casN⟩
def back (x : Cp) : Cp := ⟨x.id, 22, -x.bi, -x.paid, -x.mem, x.svs.map svcN⟩
theorem casN_two (c : Ca) : casN (casN c) = c := by simp [casN]
theorem svcN_two (s : Sr) : svcN (svcN s) = s := by
  have : casN ∘ casN = id := by funext c; exact casN_two c
  simp [svcN, this]
theorem back_two (x : Cp) : (back (back x)) = { x with st := 22 } := by
  have : svcN ∘ svcN = id := by funext s; exact svcN_two s
  simp [back, this]
theorem ok_neg {n : Int} (h : okM 1 n = true) : okM 22 (-n) = true := by rw [ok_one] at h; rw [ok_back]; omega
theorem sumC_neg : ∀ (l : List Ca), sumC (l.map casN) = -sumC l
  | [] => rfl
  | c :: l => by simp only [List.map_cons, sumC, sumC_neg l, casN]; omega
theorem sumP_neg : ∀ (l : List Ca), sumP (l.map casN) = -sumP l
  | [] => rfl
  | c :: l => by
    simp only [List.map_cons, sumP, sumP_neg l, casN]
    split <;> omega
theorem tot_neg : ∀ (l : List Sr), totB (l.map svcN) = -totB l ∧ totP (l.map svcN) = -totP l ∧ totM (l.map svcN) = -totM l
  | [] => ⟨rfl, rfl, rfl⟩
  | s :: l => by
    have t := tot_neg l
    have p := sumP_neg s.cas
    simp only [List.map_cons, totB, totP, totM, t.1, t.2.1, t.2.2, svcN, p]
    omega
theorem svc_back {s : Sr} (h : svcE 1 s = 0) : svcE 22 (svcN s) = 0 := by
  obtain ⟨a, b, c, d, e⟩ := (svc_iff 1 s).1 h
  refine (svc_iff 22 _).2 ⟨a, by simpa [svcN] using b, ⟨ok_neg c.1, ok_neg c.2⟩, ?_, ?_⟩
  · intro k hk
    obtain ⟨k', k1, rfl⟩ := List.mem_map.1 hk
    obtain ⟨p, q, r, t⟩ := cas_ok (d k' k1)
    exact cas_of p q (by simp only [casN]; omega) (ok_neg t)
  · simp only [svcN, sumC_neg]; omega
/-- A claim taken back balances, if the claim does. -/
theorem back_ok {x : Cp} (h : checkE x = 0) (hs : x.st = 1) : checkE (back x) = 0 := by
  obtain ⟨a, b, c, d1, d2, d3, d4⟩ := (check_iff x).1 h
  rw [hs] at c d4
  have t := tot_neg x.svs
  refine (check_iff _).2 ⟨⟨a.1, Or.inr rfl⟩, by simpa [back] using b, ?_, ?_⟩
  · intro s h2
    obtain ⟨s', k1, rfl⟩ := List.mem_map.1 h2
    exact svc_back (c s' k1)
  · simp only [back, t.1, t.2.1, t.2.2]
    exact ⟨by rw [d1], by rw [d2], by rw [d3], ok_neg d4⟩

/-! ### 20.1, 20.2 -/
def five (o : Ot) : List Ca := [⟨gCO, if o.deny = 0 then 45 else o.deny, o.wr⟩, ⟨gPR, 1, o.de⟩, ⟨gPR, 2, o.cn⟩, ⟨gPR, 3, o.cp⟩, ⟨gOA, 23, o.pr⟩]
def casV (o : Ot) : List Ca := (five o).filter fun c => decide (c.ct ≠ 0)
def oneV (l : Ln) (o : Ot) : Sr := ⟨l.proc, l.billed, o.plan, casV o⟩
def svsV : List Ln → List Ot → List Sr
  | l :: ls, o :: os => oneV l o :: svsV ls os
  | _, _ => []
def memV : List Ot → Int
  | [] => 0
  | o :: l => member o + memV l
def raw (c : Cl) (os : List Ot) : Cp := ⟨c.id, 1, totB (svsV c.lines os), totP (svsV c.lines os), memV os, svsV c.lines os⟩
def ofE (c : Cl) (os : List Ot) : Int := if os.length = c.lines.length then checkE (raw c os) else 1
def ofV (c : Cl) (os : List Ot) : Cp := if ofE c os = 0 then raw c os else cp0

theorem sumC_filter : ∀ (l : List Ca), sumC (l.filter fun c => decide (c.ct ≠ 0)) = sumC l
  | [] => rfl
  | c :: l => by
    by_cases h : c.ct = 0
    · rw [List.filter_cons_of_neg (by simp [h]), sumC_filter l]; simp only [sumC]; omega
    · rw [List.filter_cons_of_pos (by simp [h])]; simp only [sumC, sumC_filter l]
theorem sumP_filter : ∀ (l : List Ca), sumP (l.filter fun c => decide (c.ct ≠ 0)) = sumP l
  | [] => rfl
  | c :: l => by
    by_cases h : c.ct = 0
    · rw [List.filter_cons_of_neg (by simp [h]), sumP_filter l]; simp only [sumP]; split <;> omega
    · rw [List.filter_cons_of_pos (by simp [h])]; simp only [sumP, sumP_filter l]
theorem cas_sum (o : Ot) : sumC (casV o) = o.wr + o.de + o.cn + o.cp + o.pr := by
  unfold casV; rw [sumC_filter]; simp only [five, sumC]; omega
theorem cas_mem (o : Ot) : sumP (casV o) = member o := by
  unfold casV; rw [sumP_filter]
  have e1 : gCO ≠ gPR := by decide
  have e2 : gOA ≠ gPR := by decide
  simp only [five, sumP, member, if_neg e1, if_neg e2, if_true]; omega
theorem svs_len : ∀ (ls : List Ln) (os : List Ot), os.length = ls.length → (svsV ls os).length = ls.length
  | [], [], _ => rfl
  | [], o :: os, h => by simp at h
  | l :: ls, [], h => by simp at h
  | l :: ls, o :: os, h => by simp only [svsV, List.length_cons]; rw [svs_len ls os (by simpa using h)]
theorem mem_tot : ∀ (ls : List Ln) (os : List Ot), os.length = ls.length → totM (svsV ls os) = memV os
  | [], [], _ => rfl
  | [], o :: os, h => by simp at h
  | l :: ls, [], h => by simp at h
  | l :: ls, o :: os, h => by
    simp only [svsV, totM, memV, oneV, cas_mem]; rw [mem_tot ls os (by simpa using h)]
/-- A service of which all goes somewhere is a line that balances. -/
theorem one_ok {l : Ln} {o : Ot} (hp : codeB l.proc 5 5 = true) (hb : Ce.good l.billed = true) (h : balB l.billed { o with al := l.billed } = true) (hd : 0 ≤ o.deny ∧ o.deny ≤ 999) : svcE 1 (oneV l o) = 0 := by
  simp only [balB, Bool.and_eq_true, decide_eq_true_eq] at h
  obtain ⟨⟨h1, h2, h3, h4, h5, h6⟩, h7, h8, _⟩ := h
  have g := (Ce.good_iff _).1 hb
  refine (svc_iff 1 _).2 ⟨hp, ?_, ⟨(ok_one _).2 g, (ok_one _).2 (by simp only [oneV]; omega)⟩, ?_, ?_⟩
  · exact Nat.le_trans (List.length_filter_le ..) (by simp [five])
  · intro c hc
    obtain ⟨c1, c2⟩ := List.mem_filter.1 hc
    have c3 : c.ct ≠ 0 := by simpa using c2
    simp only [five, List.mem_cons, List.not_mem_nil, or_false] at c1
    rcases c1 with rfl | rfl | rfl | rfl | rfl
    · refine cas_of (Or.inl rfl) ?_ c3 ((ok_one _).2 (by simp only; omega))
      simp only; split <;> omega
    · exact cas_of (Or.inr (Or.inl rfl)) (by simp) c3 ((ok_one _).2 (by simp only; omega))
    · exact cas_of (Or.inr (Or.inl rfl)) (by simp) c3 ((ok_one _).2 (by simp only; omega))
    · exact cas_of (Or.inr (Or.inl rfl)) (by simp) c3 ((ok_one _).2 (by simp only; omega))
    · exact cas_of (Or.inr (Or.inr rfl)) (by simp) c3 ((ok_one _).2 (by simp only; omega))
  · simp only [oneV, cas_sum]; omega

/-! ### Parts -/
theorem svs_take : ∀ (k : Nat) (ls : List Ln) (os : List Ot), svsV (ls.take k) (os.take k) = (svsV ls os).take k
  | 0, ls, os => by simp [svsV]
  | k + 1, [], os => by simp [svsV]
  | k + 1, l :: ls, [] => by simp [svsV]
  | k + 1, l :: ls, o :: os => by simp only [List.take_succ_cons, svsV, svs_take k ls os]
theorem svs_drop : ∀ (k : Nat) (ls : List Ln) (os : List Ot), svsV (ls.drop k) (os.drop k) = (svsV ls os).drop k
  | 0, ls, os => by simp
  | k + 1, [], os => by simp [svsV]
  | k + 1, l :: ls, [] => by
    simp only [List.drop_succ_cons, List.drop_nil]
    cases ls.drop k <;> simp [svsV]
  | k + 1, l :: ls, o :: os => by simp only [List.drop_succ_cons, svsV, svs_drop k ls os]
theorem tot_app : ∀ (a b : List Sr), totB (a ++ b) = totB a + totB b ∧ totP (a ++ b) = totP a + totP b ∧ totM (a ++ b) = totM a + totM b
  | [], b => by simp [totB, totP, totM]
  | s :: a, b => by
    have t := tot_app a b
    simp only [List.cons_append, totB, totP, totM, t.1, t.2.1, t.2.2]
    omega
/-- A claim's first services, and the others, come together to what the claim comes to. -/
theorem of_parts (c : Cl) (os : List Ot) (k : Nat) (h : ofE c os = 0) (h1 : 1 ≤ k) (h2 : k < os.length) :
    ofE { c with lines := c.lines.take k } (os.take k) = 0 ∧ ofE { c with lines := c.lines.drop k } (os.drop k) = 0 ∧
    (raw { c with lines := c.lines.take k } (os.take k)).bi + (raw { c with lines := c.lines.drop k } (os.drop k)).bi = (raw c os).bi ∧
    (raw { c with lines := c.lines.take k } (os.take k)).paid + (raw { c with lines := c.lines.drop k } (os.drop k)).paid = (raw c os).paid ∧
    (raw { c with lines := c.lines.take k } (os.take k)).mem + (raw { c with lines := c.lines.drop k } (os.drop k)).mem = (raw c os).mem ∧
    (raw { c with lines := c.lines.take k } (os.take k)).svs.length + (raw { c with lines := c.lines.drop k } (os.drop k)).svs.length = (raw c os).svs.length := by
  have hl : os.length = c.lines.length := by
    unfold ofE at h
    split at h
    · assumption
    · simp at h
  have hc : checkE (raw c os) = 0 := by unfold ofE at h; rw [if_pos hl] at h; exact h
  obtain ⟨a, b, d, e1, e2, e3, e4⟩ := (check_iff _).1 hc
  have L := svs_len c.lines os hl
  have A := svs_take k c.lines os
  have B := svs_drop k c.lines os
  have T := tot_app ((svsV c.lines os).take k) ((svsV c.lines os).drop k)
  rw [List.take_append_drop] at T
  have d' : ∀ s ∈ svsV c.lines os, svcE 1 s = 0 := d
  have dA : ∀ s ∈ (svsV c.lines os).take k, svcE 1 s = 0 := fun s hs => d' s (List.mem_of_mem_take hs)
  have dB : ∀ s ∈ (svsV c.lines os).drop k, svcE 1 s = 0 := fun s hs => d' s (List.mem_of_mem_drop hs)
  have sA := (tot_sgn 1 _ dA).2.2
  have sB := (tot_sgn 1 _ dB).2.2
  simp only [sgn, if_true, Int.one_mul] at sA sB
  have b1 : 1 ≤ (svsV c.lines os).length := b.1
  have b2 : (svsV c.lines os).length ≤ 999 := b.2
  have e4' := (ok_one (totB (svsV c.lines os))).1 e4
  have lA : (os.take k).length = (c.lines.take k).length := by simp [hl]
  have lB : (os.drop k).length = (c.lines.drop k).length := by simp [hl]
  have mA := mem_tot _ _ lA
  have mB := mem_tot _ _ lB
  have mC := mem_tot _ _ hl
  rw [A] at mA
  rw [B] at mB
  refine ⟨?_, ?_, ?_, ?_, ?_, ?_⟩
  · unfold ofE
    rw [if_pos lA]
    refine (check_iff _).2 ⟨a, ?_, ?_, rfl, rfl, ?_, ?_⟩
    · simp only [raw, A, List.length_take]; omega
    · simp only [raw, A]; exact dA
    · simp only [raw, A]; exact mA.symm
    · simp only [raw, A]; exact (ok_one _).2 (by omega)
  · unfold ofE
    rw [if_pos lB]
    refine (check_iff _).2 ⟨a, ?_, ?_, rfl, rfl, ?_, ?_⟩
    · simp only [raw, B, List.length_drop]; omega
    · simp only [raw, B]; exact dB
    · simp only [raw, B]; exact mB.symm
    · simp only [raw, B]; exact (ok_one _).2 (by omega)
  · simp only [raw, A, B]; omega
  · simp only [raw, A, B]; omega
  · simp only [raw]; omega
  · simp only [raw, A, B, List.length_take, List.length_drop]; omega

end Go.Proofs.Ytpfpjbeofogbgaa.Sv
end

/-
  What is paid now, and what is taken back: what layer 21's calls answer, over plain lists, and what follows.
-/
section
set_option linter.unusedSimpArgs false
namespace Go.Proofs.Ytpfpjbeofogbgaa.Re
open Sv (Ca Sr Cp ofE ofV back)
open Bk (En)
open Sh (Ot)

/-! ### The same -/
def sameA : List Ca → List Ca → Bool
  | [], [] => true
  | a :: l, b :: m => (decide (a.grp = b.grp) && (decide (a.why = b.why) && decide (a.ct = b.ct))) && sameA l m
  | _, _ => false
def sameS : List Sr → List Sr → Bool
  | [], [] => true
  | a :: l, b :: m => (decide (a.proc = b.proc) && (decide (a.bi = b.bi) && (decide (a.paid = b.paid) && sameA a.cas b.cas))) && sameS l m
  | _, _ => false
def sameB (a b : Cp) : Bool := decide (a.id = b.id) && (decide (a.st = b.st) && (decide (a.bi = b.bi) && (decide (a.paid = b.paid) && (decide (a.mem = b.mem) && sameS a.svs b.svs))))
theorem sameA_iff : ∀ (a b : List Ca), sameA a b = true ↔ a = b
  | [], [] => by simp [sameA]
  | [], _ :: _ => by simp [sameA]
  | _ :: _, [] => by simp [sameA]
  | ⟨g, w, c⟩ :: l, ⟨g', w', c'⟩ :: m => by simp [sameA, sameA_iff l m, and_assoc]
theorem sameS_iff : ∀ (a b : List Sr), sameS a b = true ↔ a = b
  | [], [] => by simp [sameS]
  | [], _ :: _ => by simp [sameS]
  | _ :: _, [] => by simp [sameS]
  | ⟨p, b, d, c⟩ :: l, ⟨p', b', d', c'⟩ :: m => by simp [sameS, sameS_iff l m, sameA_iff, and_assoc]
theorem same_iff (a b : Cp) : sameB a b = true ↔ a = b := by
  obtain ⟨a1, a2, a3, a4, a5, a6⟩ := a
  obtain ⟨b1, b2, b3, b4, b5, b6⟩ := b
  simp [sameB, sameS_iff]

/-! ### 21.1, 21.2 -/
def findC : List Cp → Tx → Option Cp
  | [], _ => none
  | x :: l, id => if x.id = id then some x else findC l id
def without (l : List Cp) (id : Tx) : List Cp := l.filter fun x => decide (x.id ≠ id)
def hasB (l : List Cp) (id : Tx) : Bool := l.any fun x => decide (x.id = id)
def toldE : List Cp → List Cp → Int
  | _, [] => 0
  | seen, x :: l => if hasB seen x.id = true then 12 else (if x.st = 1 ∧ Sv.checkE x = 0 then toldE (seen ++ [x]) l else 1)
def nowV (y : En) : Cp := ofV y.cl y.outs
def entE (y : En) : Int := if y.st = 0 then ofE y.cl y.outs else 0
def backO : Option Cp → List Cp
  | none => []
  | some k => [back k]
def isB (k : Option Cp) (now : Cp) : Bool := match k with
  | none => false
  | some k => sameB k now
def entO (was : List Cp) (y : En) : List Cp :=
  if y.st = 0 then (if isB (findC was y.cl.id) (nowV y) = true then [] else backO (findC was y.cl.id) ++ [nowV y]) else backO (findC was y.cl.id)
def entN (y : En) : List Cp := if y.st = 0 then [nowV y] else []
def mkE : List Cp → List En → Int
  | was, [] => if was.length = 0 then 0 else 13
  | was, y :: l => if entE y = 0 then mkE (without was y.cl.id) l else entE y
def mkO : List Cp → List En → List Cp
  | _, [] => []
  | was, y :: l => entO was y ++ mkO (without was y.cl.id) l
def mkN : List En → List Cp
  | [] => []
  | y :: l => entN y ++ mkN l
def sum : List Cp → Int
  | [] => 0
  | x :: l => x.paid + sum l
def makeE (n : Int) (last : List Cp) (l : List En) (held : Int) : Int :=
  if (0 ≤ n ∧ n ≤ 999999999) ∧ 0 ≤ held ∧ held ≤ 1152921504606846976 then (if toldE [] last = 0 then mkE last l else toldE [] last) else 1
def heldV (s held : Int) : Int := if s < held then s else held
def paidV (s held : Int) : Int := s - heldV s held
def restV (s held : Int) : Int := held - heldV s held

theorem make_ok {n : Int} {last : List Cp} {l : List En} {held : Int} (h : makeE n last l held = 0) : (0 ≤ n ∧ n ≤ 999999999) ∧ (0 ≤ held ∧ held ≤ 1152921504606846976) ∧ toldE [] last = 0 ∧ mkE last l = 0 := by
  unfold makeE at h
  split at h
  · next a =>
    split at h
    · next b => exact ⟨a.1, a.2, b, h⟩
    · next b => exact absurd h b
  · simp at h
theorem paid_rest (s held : Int) : 0 ≤ paidV s held ∧ 0 ≤ restV s held ∧ paidV s held - restV s held = s - held ∧ (paidV s held = 0 ∨ restV s held = 0) := by
  unfold paidV restV heldV
  split <;> omega

def ids (l : List Cp) : List Tx := l.map fun x => x.id
theorem has_iff (l : List Cp) (id : Tx) : hasB l id = true ↔ id ∈ ids l := by simp [hasB, ids]
theorem told_iff : ∀ (l seen : List Cp), (ids seen).Nodup → (toldE seen l = 0 ↔ (ids (seen ++ l)).Nodup ∧ ∀ x ∈ l, x.st = 1 ∧ Sv.checkE x = 0)
  | [], seen, h => by simp [toldE, h]
  | x :: l, seen, h => by
    unfold toldE
    by_cases h1 : hasB seen x.id = true
    · rw [if_pos h1]
      have h2 := (has_iff seen x.id).1 h1
      refine ⟨fun e => by simp at e, fun e => ?_⟩
      have e1 := e.1
      simp only [ids, List.map_append, List.map_cons, List.nodup_append] at e1
      exact absurd rfl (e1.2.2 x.id h2 x.id (List.mem_cons_self ..))
    · rw [if_neg h1]
      have h2 : x.id ∉ ids seen := fun e => h1 ((has_iff seen x.id).2 e)
      have h3 : (ids (seen ++ [x])).Nodup := by
        simp only [ids, List.map_append, List.map_cons, List.map_nil, List.nodup_append]
        refine ⟨h, by simp, ?_⟩
        intro a ha b hb
        simp at hb; subst hb
        intro e; subst e; exact h2 ha
      by_cases h4 : x.st = 1 ∧ Sv.checkE x = 0
      · rw [if_pos h4, told_iff l (seen ++ [x]) h3]
        simp only [List.append_assoc, List.cons_append, List.nil_append, List.mem_cons, forall_eq_or_imp]
        exact ⟨fun e => ⟨e.1, h4, e.2⟩, fun e => ⟨e.1, e.2.2⟩⟩
      · rw [if_neg h4]
        refine ⟨fun e => by simp at e, fun e => absurd (e.2 x (List.mem_cons_self ..)) h4⟩
theorem told_ok {l : List Cp} : toldE [] l = 0 ↔ (ids l).Nodup ∧ ∀ x ∈ l, x.st = 1 ∧ Sv.checkE x = 0 := told_iff l [] (by simp [ids])
theorem mk_cons {was : List Cp} {y : En} {l : List En} (h : mkE was (y :: l) = 0) : entE y = 0 ∧ mkE (without was y.cl.id) l = 0 := by
  unfold mkE at h
  by_cases h1 : entE y = 0
  · rw [if_pos h1] at h; exact ⟨h1, h⟩
  · rw [if_neg h1] at h; exact absurd h h1

/-! ### Finding and leaving out -/
theorem find_in : ∀ (l : List Cp) (id : Tx) (k : Cp), findC l id = some k → k ∈ l ∧ k.id = id
  | [], id, k, h => by simp [findC] at h
  | x :: l, id, k, h => by
    unfold findC at h
    by_cases h1 : x.id = id
    · rw [if_pos h1] at h; simp at h; subst h; exact ⟨List.mem_cons_self .., h1⟩
    · rw [if_neg h1] at h
      have := find_in l id k h
      exact ⟨List.mem_cons_of_mem _ this.1, this.2⟩
theorem find_none : ∀ (l : List Cp) (id : Tx), id ∉ ids l → findC l id = none
  | [], _, _ => rfl
  | x :: l, id, h => by
    unfold findC
    simp only [ids, List.map_cons, List.mem_cons, not_or] at h
    rw [if_neg (Ne.symm h.1), find_none l id h.2]
theorem without_none : ∀ (l : List Cp) (id : Tx), id ∉ ids l → without l id = l := by
  intro l id h
  unfold without
  rw [List.filter_eq_self]
  intro x hx
  have : x.id ≠ id := fun e => h (List.mem_map.2 ⟨x, hx, e⟩)
  simp [this]
theorem without_ids (l : List Cp) (id : Tx) (h : (ids l).Nodup) : (ids (without l id)).Nodup := by
  unfold ids without at *
  exact h.sublist (List.filter_sublist.map _)
theorem without_mem {l : List Cp} {id : Tx} {x : Cp} (h : x ∈ without l id) : x ∈ l := (List.mem_filter.1 h).1
def paidO : Option Cp → Int
  | none => 0
  | some k => k.paid
theorem sum_without : ∀ (l : List Cp) (id : Tx), (ids l).Nodup → sum l = sum (without l id) + paidO (findC l id)
  | [], id, _ => by simp [sum, without, findC, paidO]
  | x :: l, id, h => by
    have h2 := List.nodup_cons.1 (by simpa [ids] using h : (x.id :: ids l).Nodup)
    by_cases h1 : x.id = id
    · have e1 : without (x :: l) id = without l id := by simp [without, h1]
      have e2 : without l id = l := without_none l id (h1 ▸ h2.1)
      have e3 : findC (x :: l) id = some x := by unfold findC; rw [if_pos h1]
      rw [e1, e2, e3]; simp only [sum, paidO]; omega
    · have e1 : without (x :: l) id = x :: without l id := by simp [without, h1]
      have e3 : findC (x :: l) id = findC l id := by rw [findC]; rw [if_neg h1]
      rw [e1, e3]; simp only [sum]; rw [sum_without l id h2.2]; omega
theorem sum_app : ∀ (a b : List Cp), sum (a ++ b) = sum a + sum b
  | [], b => by simp [sum]
  | x :: a, b => by simp only [List.cons_append, sum, sum_app a b]; omega

/-! ### What is told comes to what is owed -/
theorem ent_sum (was : List Cp) (y : En) : paidO (findC was y.cl.id) + sum (entO was y) = sum (entN y) := by
  unfold entO entN
  cases hf : findC was y.cl.id with
  | none =>
    by_cases hs : y.st = 0
    · simp [hs, isB, backO, sum, paidO]
    · simp [hs, backO, sum, paidO]
  | some k =>
    by_cases hs : y.st = 0
    · by_cases hk : sameB k (nowV y) = true
      · have e := (same_iff _ _).1 hk
        simp only [hs, if_true, isB, hk, sum, paidO]; rw [e]
      · have e : isB (some k) (nowV y) ≠ true := hk
        rw [if_pos hs, if_pos hs, if_neg e]
        simp only [backO, sum_app, sum, paidO, back]; omega
    · simp only [if_neg hs, backO, sum, paidO, back]; omega
theorem mk_sum : ∀ (l : List En) (was : List Cp), (ids was).Nodup → mkE was l = 0 → sum was + sum (mkO was l) = sum (mkN l)
  | [], was, _, h => by
    have : was = [] := by
      unfold mkE at h
      split at h
      · next e => exact List.eq_nil_of_length_eq_zero e
      · simp at h
    subst this
    simp [sum, mkO, mkN]
  | y :: l, was, hn, h => by
    have k := mk_cons h
    have t := mk_sum l _ (without_ids was y.cl.id hn) k.2
    have a := sum_without was y.cl.id hn
    have e := ent_sum was y
    simp only [mkO, mkN, sum_app]
    omega

def sumI (id : Tx) : List Cp → Int
  | [] => 0
  | x :: l => (if x.id = id then x.paid else 0) + sumI id l
theorem sumI_app (id : Tx) : ∀ (a b : List Cp), sumI id (a ++ b) = sumI id a + sumI id b
  | [], b => by simp [sumI]
  | x :: a, b => by simp only [List.cons_append, sumI, sumI_app id a b]; omega
theorem sumI_own (id : Tx) : ∀ (l : List Cp), (∀ x ∈ l, x.id = id) → sumI id l = sum l
  | [], _ => rfl
  | x :: l, h => by simp only [sumI, sum]; rw [if_pos (h x (List.mem_cons_self ..)), sumI_own id l (fun y hy => h y (List.mem_cons_of_mem _ hy))]
theorem sumI_other (id : Tx) : ∀ (l : List Cp), (∀ x ∈ l, x.id ≠ id) → sumI id l = 0
  | [], _ => rfl
  | x :: l, h => by simp only [sumI]; rw [if_neg (h x (List.mem_cons_self ..)), sumI_other id l (fun y hy => h y (List.mem_cons_of_mem _ hy))]; rfl
theorem sumI_find : ∀ (l : List Cp) (id : Tx), (ids l).Nodup → sumI id l = paidO (findC l id)
  | [], _, _ => rfl
  | x :: l, id, h => by
    have h2 := List.nodup_cons.1 (by simpa [ids] using h : (x.id :: ids l).Nodup)
    unfold sumI findC
    by_cases h1 : x.id = id
    · rw [if_pos h1, if_pos h1, sumI_other id l ?_]
      · simp [paidO]
      · intro y hy e
        exact h2.1 (List.mem_map.2 ⟨y, hy, e.trans h1.symm⟩)
    · rw [if_neg h1, if_neg h1, sumI_find l id h2.2]; omega
theorem now_id {y : En} (h : ofE y.cl y.outs = 0) : (nowV y).id = y.cl.id := by unfold nowV ofV; rw [if_pos h]; rfl
theorem entO_ids {was : List Cp} {y : En} (h : entE y = 0) : ∀ x ∈ entO was y, x.id = y.cl.id := by
  have hb : ∀ x ∈ backO (findC was y.cl.id), x.id = y.cl.id := by
    intro x hx
    cases hf : findC was y.cl.id with
    | none => rw [hf] at hx; simp [backO] at hx
    | some k =>
      rw [hf] at hx; simp [backO] at hx; subst hx
      exact (find_in was _ k hf).2
  intro x hx
  unfold entO at hx
  by_cases hs : y.st = 0
  · have ho : ofE y.cl y.outs = 0 := by unfold entE at h; rw [if_pos hs] at h; exact h
    rw [if_pos hs] at hx
    split at hx
    · simp at hx
    · rcases List.mem_append.1 hx with hx | hx
      · exact hb x hx
      · simp at hx; subst hx; exact now_id ho
  · rw [if_neg hs] at hx; exact hb x hx
theorem entN_ids {y : En} (h : entE y = 0) : ∀ x ∈ entN y, x.id = y.cl.id := by
  intro x hx
  unfold entN at hx
  by_cases hs : y.st = 0
  · have ho : ofE y.cl y.outs = 0 := by unfold entE at h; rw [if_pos hs] at h; exact h
    rw [if_pos hs] at hx; simp at hx; subst hx; exact now_id ho
  · rw [if_neg hs] at hx; simp at hx
theorem sumI_without (l : List Cp) (id k : Tx) (h : k ≠ id) : sumI id (without l k) = sumI id l := by
  induction l with
  | nil => rfl
  | cons x l ih =>
    by_cases h1 : x.id = k
    · have e : without (x :: l) k = without l k := by simp [without, h1]
      rw [e, ih]; simp only [sumI]; rw [if_neg (fun e => h (h1.symm.trans e))]; omega
    · have e : without (x :: l) k = x :: without l k := by simp [without, h1]
      rw [e]; simp only [sumI, ih]
/-- What was told of a number, and is told now, together, is what it is paid by the entries. -/
theorem mk_runs (id : Tx) : ∀ (l : List En) (was : List Cp), (ids was).Nodup → mkE was l = 0 → sumI id was + sumI id (mkO was l) = sumI id (mkN l)
  | [], was, _, h => by
    have : was = [] := by
      unfold mkE at h
      split at h
      · next e => exact List.eq_nil_of_length_eq_zero e
      · simp at h
    subst this
    simp [sumI, mkO, mkN]
  | y :: l, was, hn, h => by
    have k := mk_cons h
    have t := mk_runs id l _ (without_ids was y.cl.id hn) k.2
    simp only [mkO, mkN, sumI_app]
    by_cases hy : y.cl.id = id
    · have a1 := sumI_own id (entO was y) (fun x hx => (entO_ids k.1 x hx).trans hy)
      have a2 := sumI_own id (entN y) (fun x hx => (entN_ids k.1 x hx).trans hy)
      have e := ent_sum was y
      have f := sumI_find was id hn
      have g : sumI id (without was y.cl.id) = 0 := sumI_other id _ (fun x hx => by
        have := (List.mem_filter.1 hx).2
        simp at this
        rw [hy] at this; exact this)
      rw [hy] at e
      omega
    · have a1 := sumI_other id (entO was y) (fun x hx e => hy ((entO_ids k.1 x hx).symm.trans e))
      have a2 := sumI_other id (entN y) (fun x hx e => hy ((entN_ids k.1 x hx).symm.trans e))
      have g := sumI_without was id y.cl.id hy
      omega

/-! ### Where nothing changed nothing is told -/
def eids (l : List En) : List Tx := l.map fun y => y.cl.id
theorem mkN_ids : ∀ (l : List En), (∀ y ∈ l, entE y = 0) → ∀ x ∈ mkN l, x.id ∈ eids l
  | [], _, x, hx => by simp [mkN] at hx
  | y :: l, h, x, hx => by
    simp only [mkN] at hx
    rcases List.mem_append.1 hx with hx | hx
    · rw [entN_ids (h y (List.mem_cons_self ..)) x hx]; simp [eids]
    · have := mkN_ids l (fun z hz => h z (List.mem_cons_of_mem _ hz)) x hx
      simp only [eids, List.map_cons, List.mem_cons]; exact Or.inr this
theorem mk_all : ∀ (l : List En) (was : List Cp), mkE was l = 0 → ∀ y ∈ l, entE y = 0
  | [], _, _, y, hy => by simp at hy
  | z :: l, was, h, y, hy => by
    have k := mk_cons h
    rcases List.mem_cons.1 hy with rfl | hy
    · exact k.1
    · exact mk_all l _ k.2 y hy
theorem mk_quiet : ∀ (l : List En), (∀ y ∈ l, entE y = 0) → (eids l).Nodup → mkE (mkN l) l = 0 ∧ mkO (mkN l) l = []
  | [], _, _ => by simp [mkE, mkN, mkO]
  | y :: l, h, hn => by
    have hn2 := List.nodup_cons.1 (by simpa [eids] using hn : (y.cl.id :: eids l).Nodup)
    have hl := fun z hz => h z (List.mem_cons_of_mem _ hz)
    have hy := h y (List.mem_cons_self ..)
    have t := mk_quiet l hl hn2.2
    have free : y.cl.id ∉ ids (mkN l) := by
      intro e
      obtain ⟨x, x1, x2⟩ := List.mem_map.1 e
      exact hn2.1 (x2 ▸ mkN_ids l hl x x1)
    have w : without (mkN (y :: l)) y.cl.id = mkN l := by
      simp only [mkN, without, List.filter_append]
      have e1 : (entN y).filter (fun x => decide (x.id ≠ y.cl.id)) = [] := by
        rw [List.filter_eq_nil_iff]; intro x hx; simp [entN_ids hy x hx]
      have e2 := without_none (mkN l) y.cl.id free
      unfold without at e2
      rw [e1, e2]; rfl
    have o : entO (mkN (y :: l)) y = [] := by
      unfold entO
      by_cases hs : y.st = 0
      · have ho : ofE y.cl y.outs = 0 := by unfold entE at hy; rw [if_pos hs] at hy; exact hy
        have f : findC (mkN (y :: l)) y.cl.id = some (nowV y) := by
          simp only [mkN, entN, if_pos hs, List.cons_append, List.nil_append, findC, if_pos (now_id ho)]
        rw [if_pos hs, f, if_pos (show isB (some (nowV y)) (nowV y) = true from (same_iff _ _).2 rfl)]
      · have f : findC (mkN (y :: l)) y.cl.id = none := by
          have : mkN (y :: l) = mkN l := by simp [mkN, entN, hs]
          rw [this]; exact find_none _ _ free
        rw [if_neg hs, f]; rfl
    constructor
    · unfold mkE; rw [if_pos hy, w]; exact t.1
    · simp only [mkO]; rw [o, w, t.2]; rfl
theorem now_ok {y : En} (h : ofE y.cl y.outs = 0) : (nowV y).st = 1 ∧ Sv.checkE (nowV y) = 0 := by
  unfold nowV ofV; rw [if_pos h]
  unfold ofE at h
  split at h
  · exact ⟨rfl, h⟩
  · simp at h
theorem mkN_told : ∀ (l : List En), (∀ y ∈ l, entE y = 0) → (eids l).Nodup → (ids (mkN l)).Nodup ∧ ∀ x ∈ mkN l, x.st = 1 ∧ Sv.checkE x = 0
  | [], _, _ => by simp [mkN, ids]
  | y :: l, h, hn => by
    have hn2 := List.nodup_cons.1 (by simpa [eids] using hn : (y.cl.id :: eids l).Nodup)
    have hl := fun z hz => h z (List.mem_cons_of_mem _ hz)
    have hy := h y (List.mem_cons_self ..)
    have t := mkN_told l hl hn2.2
    by_cases hs : y.st = 0
    · have ho : ofE y.cl y.outs = 0 := by unfold entE at hy; rw [if_pos hs] at hy; exact hy
      have e : mkN (y :: l) = nowV y :: mkN l := by simp [mkN, entN, hs]
      rw [e]
      refine ⟨?_, fun x hx => ?_⟩
      · simp only [ids, List.map_cons, List.nodup_cons]
        refine ⟨?_, t.1⟩
        rw [now_id ho]
        intro g
        obtain ⟨x, x1, x2⟩ := List.mem_map.1 g
        exact hn2.1 (x2 ▸ mkN_ids l hl x x1)
      · rcases List.mem_cons.1 hx with rfl | hx
        · exact now_ok ho
        · exact t.2 x hx
    · have e : mkN (y :: l) = mkN l := by simp [mkN, entN, hs]
      rw [e]; exact t
/-- Each claim of a remittance may be. -/
theorem mk_checks : ∀ (l : List En) (was : List Cp), (∀ x ∈ was, x.st = 1 ∧ Sv.checkE x = 0) → mkE was l = 0 → ∀ x ∈ mkO was l, Sv.checkE x = 0
  | [], _, _, _, x, hx => by simp [mkO] at hx
  | y :: l, was, hw, h, x, hx => by
    have k := mk_cons h
    simp only [mkO] at hx
    rcases List.mem_append.1 hx with hx | hx
    · have hb : ∀ x ∈ backO (findC was y.cl.id), Sv.checkE x = 0 := by
        intro x hx
        cases hf : findC was y.cl.id with
        | none => rw [hf] at hx; simp [backO] at hx
        | some c =>
          rw [hf] at hx; simp [backO] at hx; subst hx
          have := hw c (find_in was _ c hf).1
          exact Sv.back_ok this.2 this.1
      unfold entO at hx
      by_cases hs : y.st = 0
      · have ho : ofE y.cl y.outs = 0 := by have := k.1; unfold entE at this; rw [if_pos hs] at this; exact this
        rw [if_pos hs] at hx
        split at hx
        · simp at hx
        · rcases List.mem_append.1 hx with hx | hx
          · exact hb x hx
          · simp at hx; subst hx; exact (now_ok ho).2
      · rw [if_neg hs] at hx; exact hb x hx
    · exact mk_checks l _ (fun z hz => hw z (without_mem hz)) k.2 x hx

/-- Told in two steps it comes to the same. -/
theorem mk_once {told : List Cp} {a b : List En} (ht : (ids told).Nodup) (hn : (eids a).Nodup) (h1 : mkE told a = 0) (h2 : mkE (mkN a) b = 0) (h3 : mkE told b = 0) :
    sum (mkO told a) + sum (mkO (mkN a) b) = sum (mkO told b) := by
  have x1 := mk_sum a told ht h1
  have x2 := mk_sum b (mkN a) (mkN_told a (mk_all a told h1) hn).1 h2
  have x3 := mk_sum b told ht h3
  omega

end Go.Proofs.Ytpfpjbeofogbgaa.Re
end
