/-
  Texts put together (merge.py): VMath.
-/
import Derived.Test.YtpnkgkchpoehcaaMb3
import Derived.Test.YtpnkgkchpoehcaaMb4
/-
  What became of a claim, as adjustments: what layer 20's calls answer, over plain lists, and what follows.
-/
section
set_option linter.unusedSimpArgs false
namespace Go.Proofs.Ytpnkgkchpoehcaa.Sv
open Cm (Ln Cl codeB)
open Sh (Ot member balB)

structure Ca where
  grp : Tx
  why : Int
  ct : Int
structure Sr where
  proc : Tx
  bi : Int
  paid : Int
  cas : List Ca
structure Cp where
  id : Tx
  st : Int
  bi : Int
  paid : Int
  mem : Int
  svs : List Sr
def cp0 : Cp := ⟨[], 0, 0, 0, 0, []⟩
def gCO : Tx := [67, 79]
def gPR : Tx := [80, 82]
def gOA : Tx := [79, 65]

/-! ### 20.4 -/
def okM (st n : Int) : Bool := if st = 1 then Ce.good n else decide (n ≤ 0) && decide (-10000000000000 ≤ n)
def casE (st : Int) (c : Ca) : Int :=
  if c.grp = gCO ∨ c.grp = gPR ∨ c.grp = gOA then (if 1 ≤ c.why ∧ c.why ≤ 999 then (if c.ct ≠ 0 ∧ okM st c.ct = true then 0 else 8) else 9) else 9
def casesE (st : Int) : List Ca → Int
  | [] => 0
  | c :: l => if casE st c = 0 then casesE st l else casE st c
def sumC : List Ca → Int
  | [] => 0
  | c :: l => c.ct + sumC l
def sumP : List Ca → Int
  | [] => 0
  | c :: l => (if c.grp = gPR then c.ct else 0) + sumP l
def svcE (st : Int) (s : Sr) : Int :=
  if codeB s.proc 5 5 = true then (if s.cas.length ≤ 5 then (if okM st s.bi = true ∧ okM st s.paid = true then (if casesE st s.cas = 0 then (if s.paid + sumC s.cas = s.bi then 0 else 17) else casesE st s.cas) else 8) else 6) else 9
def svcsE (st : Int) : List Sr → Int
  | [] => 0
  | s :: l => if svcE st s = 0 then svcsE st l else svcE st s
def totB : List Sr → Int
  | [] => 0
  | s :: l => s.bi + totB l
def totP : List Sr → Int
  | [] => 0
  | s :: l => s.paid + totP l
def totM : List Sr → Int
  | [] => 0
  | s :: l => sumP s.cas + totM l
def totC : List Sr → Int
  | [] => 0
  | s :: l => sumC s.cas + totC l
def checkE (x : Cp) : Int :=
  if codeB x.id 1 12 = true ∧ (x.st = 1 ∨ x.st = 22) then (if 1 ≤ x.svs.length ∧ x.svs.length ≤ 999 then (if svcsE x.st x.svs = 0 then (if x.bi = totB x.svs ∧ x.paid = totP x.svs ∧ x.mem = totM x.svs ∧ okM x.st (totB x.svs) = true then 0 else 17) else svcsE x.st x.svs) else 6) else 9

theorem cas_ok {st : Int} {c : Ca} (h : casE st c = 0) : (c.grp = gCO ∨ c.grp = gPR ∨ c.grp = gOA) ∧ (1 ≤ c.why ∧ c.why ≤ 999) ∧ c.ct ≠ 0 ∧ okM st c.ct = true := by
  unfold casE at h
  split at h
  · split at h
    · split at h
      · next a b d => exact ⟨a, b, d.1, d.2⟩
      · simp at h
    · simp at h
  · simp at h
theorem cas_of {st : Int} {c : Ca} (a : c.grp = gCO ∨ c.grp = gPR ∨ c.grp = gOA) (b : 1 ≤ c.why ∧ c.why ≤ 999) (d : c.ct ≠ 0) (e : okM st c.ct = true) : casE st c = 0 := by
  unfold casE; rw [if_pos a, if_pos b, if_pos ⟨d, e⟩]
theorem cases_iff (st : Int) : ∀ (l : List Ca), casesE st l = 0 ↔ ∀ c ∈ l, casE st c = 0
  | [] => by simp [casesE]
  | c :: l => by
    unfold casesE
    by_cases h : casE st c = 0
    · rw [if_pos h, cases_iff st l]; simp [h]
    · rw [if_neg h]; simp [h]
theorem svc_iff (st : Int) (s : Sr) : svcE st s = 0 ↔ codeB s.proc 5 5 = true ∧ s.cas.length ≤ 5 ∧ (okM st s.bi = true ∧ okM st s.paid = true) ∧ (∀ c ∈ s.cas, casE st c = 0) ∧ s.paid + sumC s.cas = s.bi := by
  rw [← cases_iff]
  unfold svcE
  constructor
  · intro h
    split at h
    · split at h
      · split at h
        · split at h
          · split at h
            · next a b c d e => exact ⟨a, b, c, d, e⟩
            · simp at h
          · next k => exact absurd h k
        · simp at h
      · simp at h
    · simp at h
  · rintro ⟨a, b, c, d, e⟩
    rw [if_pos a, if_pos b, if_pos c, if_pos d, if_pos e]
theorem svcs_iff (st : Int) : ∀ (l : List Sr), svcsE st l = 0 ↔ ∀ s ∈ l, svcE st s = 0
  | [] => by simp [svcsE]
  | s :: l => by
    unfold svcsE
    by_cases h : svcE st s = 0
    · rw [if_pos h, svcs_iff st l]; simp [h]
    · rw [if_neg h]; simp [h]
theorem check_iff (x : Cp) : checkE x = 0 ↔ (codeB x.id 1 12 = true ∧ (x.st = 1 ∨ x.st = 22)) ∧ (1 ≤ x.svs.length ∧ x.svs.length ≤ 999) ∧ (∀ s ∈ x.svs, svcE x.st s = 0) ∧ (x.bi = totB x.svs ∧ x.paid = totP x.svs ∧ x.mem = totM x.svs ∧ okM x.st (totB x.svs) = true) := by
  rw [← svcs_iff]
  unfold checkE
  constructor
  · intro h
    split at h
    · split at h
      · split at h
        · split at h
          · next a b c d => exact ⟨a, b, c, d⟩
          · simp at h
        · next k => exact absurd h k
      · simp at h
    · simp at h
  · rintro ⟨a, b, c, d⟩
    rw [if_pos a, if_pos b, if_pos c, if_pos d]

/-! ### What was billed is what is paid, and all adjustments, together -/
theorem tot_bal (st : Int) : ∀ (l : List Sr), (∀ s ∈ l, svcE st s = 0) → totB l = totP l + totC l
  | [], _ => rfl
  | s :: l, h => by
    have a := ((svc_iff st s).1 (h s (List.mem_cons_self ..))).2.2.2.2
    have b := tot_bal st l (fun x hx => h x (List.mem_cons_of_mem _ hx))
    simp only [totB, totP, totC]; omega
theorem check_sums {x : Cp} (h : checkE x = 0) : x.bi = x.paid + totC x.svs := by
  obtain ⟨_, _, c, d1, d2, _⟩ := (check_iff x).1 h
  rw [d1, d2, tot_bal x.st x.svs c]
theorem ok_one (n : Int) : okM 1 n = true ↔ 0 ≤ n ∧ n ≤ 10000000000000 := by simp [okM, Ce.good_iff]
theorem ok_back (n : Int) : okM 22 n = true ↔ n ≤ 0 ∧ -10000000000000 ≤ n := by simp [okM]
def sgn (st : Int) : Int := if st = 1 then 1 else -1
theorem ok_sgn {st n : Int} (h : okM st n = true) : 0 ≤ sgn st * n := by
  unfold okM at h; unfold sgn
  split at h
  · next e => rw [if_pos e]; have := (Ce.good_iff n).1 h; omega
  · next e => rw [if_neg e]; simp at h; omega
theorem sumP_sgn (st : Int) : ∀ (l : List Ca), (∀ c ∈ l, casE st c = 0) → 0 ≤ sgn st * sumP l ∧ sgn st * sumP l ≤ sgn st * sumC l
  | [], _ => by simp [sumP, sumC]
  | c :: l, h => by
    have a := ok_sgn (cas_ok (h c (List.mem_cons_self ..))).2.2.2
    have b := sumP_sgn st l (fun x hx => h x (List.mem_cons_of_mem _ hx))
    simp only [sumP, sumC, Int.mul_add]
    split <;> omega
theorem tot_sgn (st : Int) : ∀ (l : List Sr), (∀ s ∈ l, svcE st s = 0) → 0 ≤ sgn st * totP l ∧ 0 ≤ sgn st * totM l ∧ 0 ≤ sgn st * totB l
  | [], _ => by simp [totP, totM, totB]
  | s :: l, h => by
    have a := (svc_iff st s).1 (h s (List.mem_cons_self ..))
    have b := tot_sgn st l (fun x hx => h x (List.mem_cons_of_mem _ hx))
    have p := ok_sgn a.2.2.1.1
    have q := ok_sgn a.2.2.1.2
    have m := sumP_sgn st s.cas a.2.2.2.1
    simp only [totP, totM, totB, Int.mul_add]
    omega
theorem check_sign {x : Cp} (h : checkE x = 0) : (x.st = 1 → 0 ≤ x.paid ∧ 0 ≤ x.mem) ∧ (x.st = 22 → x.paid ≤ 0 ∧ x.mem ≤ 0) := by
  obtain ⟨_, _, c, d1, d2, d3, _⟩ := (check_iff x).1 h
  have t := tot_sgn x.st x.svs c
  rw [← d2, ← d3] at t
  constructor <;> (intro e; rw [e] at t; simp [sgn] at t; omega)

/-! ### 20.3 -/
def casN (c : Ca) : Ca := ⟨c.grp, c.why, -c.ct⟩
def svcN (s : Sr) : Sr := ⟨s.proc, -s.bi, -s.paid, s.cas.map casN⟩
def back (x : Cp) : Cp := ⟨x.id, 22, -x.bi, -x.paid, -x.mem, x.svs.map svcN⟩
theorem casN_two (c : Ca) : casN (casN c) = c := by simp [casN]
theorem svcN_two (s : Sr) : svcN (svcN s) = s := by
  have : casN ∘ casN = id := by funext c; exact casN_two c
  simp [svcN, this]
theorem back_two (x : Cp) : (back (back x)) = { x with st := 22 } := by
  have : svcN ∘ svcN = id := by funext s; exact svcN_two s
  simp [back, this]
theorem ok_neg {n : Int} (h : okM 1 n = true) : okM 22 (-n) = true := by rw [ok_one] at h; rw [ok_back]; omega
theorem sumC_neg : ∀ (l : List Ca), sumC (l.map casN) = -sumC l
  | [] => rfl
  | c :: l => by simp only [List.map_cons, sumC, sumC_neg l, casN]; omega
theorem sumP_neg : ∀ (l : List Ca), sumP (l.map casN) = -sumP l
  | [] => rfl
  | c :: l => by
    simp only [List.map_cons, sumP, sumP_neg l, casN]
    split <;> omega
theorem tot_neg : ∀ (l : List Sr), totB (l.map svcN) = -totB l ∧ totP (l.map svcN) = -totP l ∧ totM (l.map svcN) = -totM l
  | [] => ⟨rfl, rfl, rfl⟩
  | s :: l => by
    have t := tot_neg l
    have p := sumP_neg s.cas
    simp only [List.map_cons, totB, totP, totM, t.1, t.2.1, t.2.2, svcN, p]
    omega
theorem svc_back {s : Sr} (h : svcE 1 s = 0) : svcE 22 (svcN s) = 0 := by
  obtain ⟨a, b, c, d, e⟩ := (svc_iff 1 s).1 h
  refine (svc_iff 22 _).2 ⟨a, by simpa [svcN] using b, ⟨ok_neg c.1, ok_neg c.2⟩, ?_, ?_⟩
  · intro k hk
    obtain ⟨k', k1, rfl⟩ := List.mem_map.1 hk
    obtain ⟨p, q, r, t⟩ := cas_ok (d k' k1)
    exact cas_of p q (by simp only [casN]; omega) (ok_neg t)
  · simp only [svcN, sumC_neg]; omega
/-- A claim taken back balances, if the claim does. -/
theorem back_ok {x : Cp} (h : checkE x = 0) (hs : x.st = 1) : checkE (back x) = 0 := by
  obtain ⟨a, b, c, d1, d2, d3, d4⟩ := (check_iff x).1 h
  rw [hs] at c d4
  have t := tot_neg x.svs
  refine (check_iff _).2 ⟨⟨a.1, Or.inr rfl⟩, by simpa [back] using b, ?_, ?_⟩
  · intro s h2
    obtain ⟨s', k1, rfl⟩ := List.mem_map.1 h2
    exact svc_back (c s' k1)
  · simp only [back, t.1, t.2.1, t.2.2]
    exact ⟨by rw [d1], by rw [d2], by rw [d3], ok_neg d4⟩

/-! ### 20.1, 20.2 -/
def five (o : Ot) : List Ca := [⟨gCO, if o.deny = 0 then 45 else o.deny, o.wr⟩, ⟨gPR, 1, o.de⟩, ⟨gPR, 2, o.cn⟩, ⟨gPR, 3, o.cp⟩, ⟨gOA, 23, o.pr⟩]
def casV (o : Ot) : List Ca := (five o).filter fun c => decide (c.ct ≠ 0)
def oneV (l : Ln) (o : Ot) : Sr := ⟨l.proc, l.billed, o.plan, casV o⟩
def svsV : List Ln → List Ot → List Sr
  | l :: ls, o :: os => oneV l o :: svsV ls os
  | _, _ => []
def memV : List Ot → Int
  | [] => 0
  | o :: l => member o + memV l
def raw (c : Cl) (os : List Ot) : Cp := ⟨c.id, 1, totB (svsV c.lines os), totP (svsV c.lines os), memV os, svsV c.lines os⟩
def ofE (c : Cl) (os : List Ot) : Int := if os.length = c.lines.length then checkE (raw c os) else 1
def ofV (c : Cl) (os : List Ot) : Cp := if ofE c os = 0 then raw c os else cp0

theorem sumC_filter : ∀ (l : List Ca), sumC (l.filter fun c => decide (c.ct ≠ 0)) = sumC l
  | [] => rfl
  | c :: l => by
    by_cases h : c.ct = 0
    · rw [List.filter_cons_of_neg (by simp [h]), sumC_filter l]; simp only [sumC]; omega
    · rw [List.filter_cons_of_pos (by simp [h])]; simp only [sumC, sumC_filter l]
theorem sumP_filter : ∀ (l : List Ca), sumP (l.filter fun c => decide (c.ct ≠ 0)) = sumP l
  | [] => rfl
  | c :: l => by
    by_cases h : c.ct = 0
    · rw [List.filter_cons_of_neg (by simp [h]), sumP_filter l]; simp only [sumP]; split <;> omega
    · rw [List.filter_cons_of_pos (by simp [h])]; simp only [sumP, sumP_filter l]
theorem cas_sum (o : Ot) : sumC (casV o) = o.wr + o.de + o.cn + o.cp + o.pr := by
  unfold casV; rw [sumC_filter]; simp only [five, sumC]; omega
theorem cas_mem (o : Ot) : sumP (casV o) = member o := by
  unfold casV; rw [sumP_filter]
  have e1 : gCO ≠ gPR := by decide
  have e2 : gOA ≠ gPR := by decide
  simp only [five, sumP, member, if_neg e1, if_neg e2, if_true]; omega
theorem svs_len : ∀ (ls : List Ln) (os : List Ot), os.length = ls.length → (svsV ls os).length = ls.length
  | [], [], _ => rfl
  | [], o :: os, h => by simp at h
  | l :: ls, [], h => by simp at h
  | l :: ls, o :: os, h => by simp only [svsV, List.length_cons]; rw [svs_len ls os (by simpa using h)]
theorem mem_tot : ∀ (ls : List Ln) (os : List Ot), os.length = ls.length → totM (svsV ls os) = memV os
  | [], [], _ => rfl
  | [], o :: os, h => by simp at h
  | l :: ls, [], h => by simp at h
  | l :: ls, o :: os, h => by
    simp only [svsV, totM, memV, oneV, cas_mem]; rw [mem_tot ls os (by simpa using h)]
/-- A service of which all goes somewhere is a line that balances. -/
theorem one_ok {l : Ln} {o : Ot} (hp : codeB l.proc 5 5 = true) (hb : Ce.good l.billed = true) (h : balB l.billed { o with al := l.billed } = true) (hd : 0 ≤ o.deny ∧ o.deny ≤ 999) : svcE 1 (oneV l o) = 0 := by
  simp only [balB, Bool.and_eq_true, decide_eq_true_eq] at h
  obtain ⟨⟨h1, h2, h3, h4, h5, h6⟩, h7, h8, _⟩ := h
  have g := (Ce.good_iff _).1 hb
  refine (svc_iff 1 _).2 ⟨hp, ?_, ⟨(ok_one _).2 g, (ok_one _).2 (by simp only [oneV]; omega)⟩, ?_, ?_⟩
  · exact Nat.le_trans (List.length_filter_le ..) (by simp [five])
  · intro c hc
    obtain ⟨c1, c2⟩ := List.mem_filter.1 hc
    have c3 : c.ct ≠ 0 := by simpa using c2
    simp only [five, List.mem_cons, List.not_mem_nil, or_false] at c1
    rcases c1 with rfl | rfl | rfl | rfl | rfl
    · refine cas_of (Or.inl rfl) ?_ c3 ((ok_one _).2 (by simp only; omega))
      simp only; split <;> omega
    · exact cas_of (Or.inr (Or.inl rfl)) (by simp) c3 ((ok_one _).2 (by simp only; omega))
    · exact cas_of (Or.inr (Or.inl rfl)) (by simp) c3 ((ok_one _).2 (by simp only; omega))
    · exact cas_of (Or.inr (Or.inl rfl)) (by simp) c3 ((ok_one _).2 (by simp only; omega))
    · exact cas_of (Or.inr (Or.inr rfl)) (by simp) c3 ((ok_one _).2 (by simp only; omega))
  · simp only [oneV, cas_sum]; omega

/-! ### Parts -/
theorem svs_take : ∀ (k : Nat) (ls : List Ln) (os : List Ot), svsV (ls.take k) (os.take k) = (svsV ls os).take k
  | 0, ls, os => by simp [svsV]
  | k + 1, [], os => by simp [svsV]
  | k + 1, l :: ls, [] => by simp [svsV]
  | k + 1, l :: ls, o :: os => by simp only [List.take_succ_cons, svsV, svs_take k ls os]
theorem svs_drop : ∀ (k : Nat) (ls : List Ln) (os : List Ot), svsV (ls.drop k) (os.drop k) = (svsV ls os).drop k
  | 0, ls, os => by simp
  | k + 1, [], os => by simp [svsV]
  | k + 1, l :: ls, [] => by
    simp only [List.drop_succ_cons, List.drop_nil]
    cases ls.drop k <;> simp [svsV]
  | k + 1, l :: ls, o :: os => by simp only [List.drop_succ_cons, svsV, svs_drop k ls os]
theorem tot_app : ∀ (a b : List Sr), totB (a ++ b) = totB a + totB b ∧ totP (a ++ b) = totP a + totP b ∧ totM (a ++ b) = totM a + totM b
  | [], b => by simp [totB, totP, totM]
  | s :: a, b => by
    have t := tot_app a b
    simp only [List.cons_append, totB, totP, totM, t.1, t.2.1, t.2.2]
    omega
/-- A claim's first services, and the others, come together to what the claim comes to. -/
theorem of_parts (c : Cl) (os : List Ot) (k : Nat) (h : ofE c os = 0) (h1 : 1 ≤ k) (h2 : k < os.length) :
    ofE { c with lines := c.lines.take k } (os.take k) = 0 ∧ ofE { c with lines := c.lines.drop k } (os.drop k) = 0 ∧
    (raw { c with lines := c.lines.take k } (os.take k)).bi + (raw { c with lines := c.lines.drop k } (os.drop k)).bi = (raw c os).bi ∧
    (raw { c with lines := c.lines.take k } (os.take k)).paid + (raw { c with lines := c.lines.drop k } (os.drop k)).paid = (raw c os).paid ∧
    (raw { c with lines := c.lines.take k } (os.take k)).mem + (raw { c with lines := c.lines.drop k } (os.drop k)).mem = (raw c os).mem ∧
    (raw { c with lines := c.lines.take k } (os.take k)).svs.length + (raw { c with lines := c.lines.drop k } (os.drop k)).svs.length = (raw c os).svs.length := by
  have hl : os.length = c.lines.length := by
    unfold ofE at h
    split at h
    · assumption
    · simp at h
  have hc : checkE (raw c os) = 0 := by unfold ofE at h; rw [if_pos hl] at h; exact h
  obtain ⟨a, b, d, e1, e2, e3, e4⟩ := (check_iff _).1 hc
  have L := svs_len c.lines os hl
  have A := svs_take k c.lines os
  have B := svs_drop k c.lines os
  have T := tot_app ((svsV c.lines os).take k) ((svsV c.lines os).drop k)
  rw [List.take_append_drop] at T
  have d' : ∀ s ∈ svsV c.lines os, svcE 1 s = 0 := d
  have dA : ∀ s ∈ (svsV c.lines os).take k, svcE 1 s = 0 := fun s hs => d' s (List.mem_of_mem_take hs)
  have dB : ∀ s ∈ (svsV c.lines os).drop k, svcE 1 s = 0 := fun s hs => d' s (List.mem_of_mem_drop hs)
  have sA := (tot_sgn 1 _ dA).2.2
  have sB := (tot_sgn 1 _ dB).2.2
  simp only [sgn, if_true, Int.one_mul] at sA sB
  have b1 : 1 ≤ (svsV c.lines os).length := b.1
  have b2 : (svsV c.lines os).length ≤ 999 := b.2
  have e4' := (ok_one (totB (svsV c.lines os))).1 e4
  have lA : (os.take k).length = (c.lines.take k).length := by simp [hl]
  have lB : (os.drop k).length = (c.lines.drop k).length := by simp [hl]
  have mA := mem_tot _ _ lA
  have mB := mem_tot _ _ lB
  have mC := mem_tot _ _ hl
  rw [A] at mA
  rw [B] at mB
  refine ⟨?_, ?_, ?_, ?_, ?_, ?_⟩
  · unfold ofE
    rw [if_pos lA]
    refine (check_iff _).2 ⟨a, ?_, ?_, rfl, rfl, ?_, ?_⟩
    · simp only [raw, A, List.length_take]; omega
    · simp only [raw, A]; exact dA
    · simp only [raw, A]; exact mA.symm
    · simp only [raw, A]; exact (ok_one _).2 (by omega)
  · unfold ofE
    rw [if_pos lB]
    refine (check_iff _).2 ⟨a, ?_, ?_, rfl, rfl, ?_, ?_⟩
    · simp only [raw, B, List.length_drop]; omega
    · simp only [raw, B]; exact dB
    · simp only [raw, B]; exact mB.symm
    · simp only [raw, B]; exact (ok_one _).2 (by omega)
  · simp only [raw, A, B]; omega
  · simp only [raw, A, B]; omega
  · simp only [raw]; omega
  · simp only [raw, A, B, List.length_take, List.length_drop]; omega

end Go.Proofs.Ytpnkgkchpoehcaa.Sv
end
