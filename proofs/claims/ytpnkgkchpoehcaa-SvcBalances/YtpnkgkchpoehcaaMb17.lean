/-
  Texts put together (merge.py): RInvB.
-/
import Derived.Test.YtpnkgkchpoehcaaMb16
/-
  The law of regions by facts, where an operation may name a later one by an edge that does not bind (stores that may come late).
-/
section
namespace Go.Proofs.Ytpnkgkchpoehcaa.Ri
open Go
def backB : Nat → List Oper → Bool
  | _, [] => true
  | k, o :: l => (o.after.all fun e => !Region.binds .any e || decide (e.on < k)) && backB (k + 1) l
theorem backB_spec : ∀ (l : List Oper) (k i : Nat) (o : Oper), backB k l = true → l[i]? = some o → ∀ e ∈ o.after, Region.binds .any e = true → e.on < k + i
  | [], _, _, _, _, h => by simp at h
  | x :: l, k, 0, o, hb, h => by
    simp at h; subst h
    simp only [backB, Bool.and_eq_true, Array.all_eq_true_iff_forall_mem, Bool.or_eq_true, decide_eq_true_eq] at hb
    intro e he hbe
    rcases hb.1 e he with h1 | h1
    · rw [hbe] at h1; cases h1
    · exact h1
  | x :: l, k, i + 1, o, hb, h => by
    simp at h
    simp only [backB, Bool.and_eq_true] at hb
    intro e he hbe
    have := backB_spec l (k + 1) i o hb.2 h e he hbe
    omega
theorem wp_region_factsB {P : Program} {id : Nat} {l : List Oper} {Q : Exit → Act → World → Prop} {a0 : Act} {w0 : World} (hm : P.follows .mixedOrders = true) (hap : apartD l = true) (hbk : backB 0 l = true)
    (B : World → Prop) (F : Nat → (Nat → Value) → World → Prop) (deps : Nat → List Nat) (hdp : depsOk deps 0 l = true)
    (hloc : ∀ j vs i v w, i ∉ deps j → F j vs w → F j (upd vs i v) w) (h0 : B w0.drew) (hop : Each P l Q a0 B F 0 l)
    (hd : ∀ vs w, B w → (∀ j, j < l.length → F j vs w) → Q .normal (puts l 0 vs a0) w) : (Code.region id l.toArray true).wp P Q a0 w0 := by
  refine wp_region_any hm (wpAny_inv (fun listed a w => listed.size = l.length ∧ (∀ j, listed.getD j false = true → ∀ d ∈ deps j, listed.getD d false = true) ∧ ∃ vs, a = puts l 0 vs a0 ∧ B w ∧ ∀ j, listed.getD j false = true → F j vs w) ?_ ?_ _ _ _ _ (by rw [opn_new]; exact Nat.le_refl _) ?_)
  · rintro listed a w ⟨hsz, hcl, vs, rfl, hB, hF⟩ i hi
    obtain ⟨hni, o, ho, hpre⟩ := mem_ready.1 hi
    have ho' : l[i]? = some o := by simpa using ho
    have hil : i < l.length := (List.getElem?_eq_some_iff.1 ho').1
    have hnf : listed.getD i false = false := by
      have : i < listed.size := by omega
      simpa [this] using hni
    have hst := Each.get l 0 i o hop ho'
    rw [Nat.zero_add] at hst
    refine wpOp_step ho fun K hK => ?_
    refine hst vs w hB (fun e he hb => hF _ (hpre e he hb)) K fun v w' hB' hFi hFj => hK _ _ ?_
    have hset : ∀ j, (listed.setIfInBounds i true).getD j false = true → j = i ∨ listed.getD j false = true := fun j hj => by
      by_cases hji : i = j
      · exact Or.inl hji.symm
      · rw [getD_set_ne false hji] at hj; exact Or.inr hj
    refine ⟨by simp [hsz], fun j hj d hdd => ?_, upd vs i v, by have := puts_put l 0 i o vs a0 v hap ho'; rwa [Nat.zero_add] at this, hB', fun j hj => ?_⟩
    · rcases hset j hj with rfl | hj'
      · have := depsOk_spec deps l 0 j o hdp ho'
        rw [Nat.zero_add] at this
        rcases this d hdd with rfl | ⟨e, he, hb, hde⟩
        · have : d < listed.size := by omega
          simp [this]
        · exact getD_set_true (hcl _ (hpre e he hb) d hde)
      · exact getD_set_true (hcl j hj' d hdd)
    · by_cases hji : j = i
      · subst hji; exact hFi
      · rcases hset j hj with h | hj'
        · exact absurd h hji
        · refine hloc j vs i v w' (fun hin => ?_) (hFj j hji (hF j hj'))
          rw [hcl j hj' i hin] at hnf
          cases hnf
  · rintro listed a w ⟨hsz, hcl, vs, rfl, hB, hF⟩ hr
    refine hd vs w hB fun j hj => hF j ?_
    have all : ∀ n, ∀ j, j < n → j < l.length → listed.getD j false = true := by
      intro n
      induction n with
      | zero => intro j h; omega
      | succ n ih =>
        intro j hjn hjl
        rcases Nat.lt_or_ge j n with h | h
        · exact ih j h hjl
        obtain rfl : j = n := by omega
        have hoj : l[j]? = some l[j] := List.getElem?_eq_getElem hjl
        by_cases hc : listed.getD j false = true
        · exact hc
        · exfalso
          have hjs : j < listed.size := by omega
          have hmem : j ∈ Region.ready .any l.toArray listed := mem_ready.2 ⟨by simpa [hjs] using hc, l[j], by simp, fun e he hbe => by
            have := backB_spec l 0 j _ hbk hoj e he hbe
            exact ih e.on (by omega) (by omega)⟩
          rw [hr] at hmem
          cases hmem
    exact all (j + 1) j (by omega) hj
  · obtain ⟨vs, hvs⟩ := puts_self l 0 a0
    refine ⟨by simp, fun j hj => ?_, vs, hvs.symm, h0, fun j hj => ?_⟩
    all_goals
      exfalso
      rw [Array.getD_eq_getD_getElem?, Array.getElem?_replicate] at hj
      split at hj <;> simp at hj
theorem wp_region_lastingB {P : Program} {id : Nat} {l : List Oper} {Q : Exit → Act → World → Prop} {a0 : Act} {w0 : World} (hm : P.follows .mixedOrders = true) (hap : apartD l = true) (hbk : backB 0 l = true)
    (B : World → Prop) (F : Nat → (Nat → Value) → World → Prop) (deps : Nat → List Nat) (hdp : depsOk deps 0 l = true)
    (hloc : ∀ j vs i v w, i ∉ deps j → F j vs w → F j (upd vs i v) w) (h0 : B w0.drew) (hop : EachA P l Q a0 B F 0 l)
    (hd : ∀ vs w, B w → (∀ j, j < l.length → F j vs w) → Q .normal (puts l 0 vs a0) w) : (Code.region id l.toArray true).wp P Q a0 w0 :=
  wp_region_factsB hm hap hbk B F deps hdp hloc h0 (EachA.each l 0 hop) hd
theorem wp_region_lastingB_g {P : Program} {id : Nat} {l : List Oper} {Q : Exit → Act → World → Prop} {a0 : Act} {w0 : World} (hm : P.follows .mixedOrders = true) (hap : apartD l = true) (hbk : backB 0 l = true)
    (B : World → Prop) (F : Nat → (Nat → Value) → World → Prop) (deps : Nat → List Nat) (hdp : depsOk deps 0 l = true)
    (hloc : ∀ j vs i v w, i ∉ deps j → F j vs w → F j (upd vs i v) w) (h0 : B w0.drew) (hop : EachG P l Q a0 B F 0 l)
    (hd : ∀ vs w, B w → (∀ j, j < l.length → F j vs w) → Q .normal (puts l 0 vs a0) w) : (Code.region id l.toArray true).wp P Q a0 w0 :=
  wp_region_factsB hm hap hbk B F deps hdp hloc h0 (EachG.each l 0 hop) hd
end Go.Proofs.Ytpnkgkchpoehcaa.Ri
end
