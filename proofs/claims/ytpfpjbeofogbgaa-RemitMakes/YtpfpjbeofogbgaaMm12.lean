/-
  Texts put together (merge.py): RTailW.
-/
import Derived.Test.YtpfpjbeofogbgaaMm3
set_option linter.unusedSimpArgs false
set_option linter.unusedVariables false
section
namespace Go.Proofs.Ytpfpjbeofogbgaa.Ri
open Go
def StepW (P : Program) (l : List Oper) (Q : Exit → Act → World → Prop) (a0 : Act) (B : World → Prop) (F : Nat → (Nat → Value) → World → Prop) (X : (Nat → Bool) → (Nat → Value) → World → Prop) (s : Nat) (k : Nat) (o : Oper) : Prop :=
 ∀ (vs : Nat → Value) (w : World) (A : Act) (lst : Nat → Bool), (∀ t : Nat, A.tmps[t]?.getD undef = (puts l 0 vs a0).tmps[t]?.getD undef) → B w → (∀ j, lst j = true → F j vs w) → X lst vs w → (∀ j, (j = k ∨ reach l l.length k j = true) → lst j = false) → Pre F vs w o.after.toList → ∀ K : Act → World → Prop, (∀ v w', B w' → F k (upd vs k v) w' → (∀ j, j ≠ k → F j vs w → F j vs w') → X (fun j => if j = k then true else lst j) (upd vs k v) w' → K (A.put o.dst v) w') → o.wp P A w K Q
def EachW (P : Program) (l : List Oper) (Q : Exit → Act → World → Prop) (a0 : Act) (B : World → Prop) (F : Nat → (Nat → Value) → World → Prop) (X : (Nat → Bool) → (Nat → Value) → World → Prop) (s : Nat) : Nat → List Oper → Prop
 | _, [] => True
 | k, o :: r => (o.guard = none ∧ StepW P l Q a0 B F X s k o) ∧ EachW P l Q a0 B F X s (k + 1) r
theorem EachW.get {P : Program} {l : List Oper} {Q : Exit → Act → World → Prop} {a0 : Act} {B : World → Prop} {F : Nat → (Nat → Value) → World → Prop} {X : (Nat → Bool) → (Nat → Value) → World → Prop} {s : Nat} : ∀ (r : List Oper) (k i : Nat) (o : Oper), EachW P l Q a0 B F X s k r → r[i]? = some o → o.guard = none ∧ StepW P l Q a0 B F X s (k + i) o
 | [], _, _, _, _, h => by simp at h
 | x :: r, k, 0, o, hh, h => by simp at h; subst h; exact hh.1
 | x :: r, k, i + 1, o, hh, h => by
  simp at h
  have := EachW.get r (k + 1) i o hh.2 h
  rwa [show k + 1 + i = k + (i + 1) by omega] at this
theorem wp_region_tailW {P : Program} {id : Nat} {l : List Oper} {Q : Exit → Act → World → Prop} {a0 : Act} {w0 : World} (s : Nat) (hm : P.follows .mixedOrders = true) (hap : apartD l = true) (hbk : backB 0 l = true)
  (hsl : s < l.length) (htl : tailOk l s = true)
  (B : World → Prop) (F : Nat → (Nat → Value) → World → Prop) (X : (Nat → Bool) → (Nat → Value) → World → Prop) (deps : Nat → List Nat) (hdp : depsOk deps 0 l = true)
  (hloc : ∀ j vs i v w, i ∉ deps j → F j vs w → F j (upd vs i v) w) (h0 : B w0.drew) (hX0 : ∀ vs, puts l 0 vs a0 = a0 → X (fun _ => false) vs w0.drew) (hop : EachW P l Q a0 B F X s 0 (l.take s))
  (hlast : ∀ (vs : Nat → Value) (w : World) (lst : Nat → Bool), (∀ j, j < s → lst j = true) → X lst vs w → B w → (∀ j, j < s → F j vs w) → Tail P l Q a0 s (l.drop s) vs w) :
  (Code.region id l.toArray true).wp P Q a0 w0 := by
 refine wp_region_any hm (wpAny_inv (fun listed a w => listed.size = l.length ∧ ((∀ j, listed.getD j false = true → ∀ d ∈ deps j, listed.getD d false = true) ∧ ∀ j o, listed.getD j false = true → l[j]? = some o → ∀ e ∈ o.after, Region.binds .any e = true → listed.getD e.on false = true) ∧ ∃ vs, a = puts l 0 vs a0 ∧ (((∀ j, s ≤ j → listed.getD j false = false) ∧ X (fun j => listed.getD j false) vs w ∧ B w ∧ ∀ j, listed.getD j false = true → F j vs w) ∨ ∃ t, s ≤ t ∧ t ≤ l.length ∧ (∀ j, j < t → listed.getD j false = true) ∧ (∀ j, t ≤ j → listed.getD j false = false) ∧ Tail P l Q a0 t (l.drop t) vs w)) ?_ ?_ _ _ _ _ (by rw [opn_new]; exact Nat.le_refl _) ?_)
 ·rintro listed a w ⟨hsz, ⟨hcl, hcd⟩, vs, rfl, hcase⟩ i hi
  obtain ⟨hni, oi, hoi, hpre⟩ := mem_ready.1 hi
  have ho' : l[i]? = some oi := by simpa using hoi
  have hil : i < l.length := (List.getElem?_eq_some_iff.1 ho').1
  have hnf : listed.getD i false = false := by
   have : i < listed.size := by omega
   simpa [this] using hni
  have hset : ∀ j, (listed.setIfInBounds i true).getD j false = true → j = i ∨ listed.getD j false = true := fun j hj => by
   by_cases hji : i = j
   ·exact Or.inl hji.symm
   ·rw [getD_set_ne false hji] at hj; exact Or.inr hj
  have hself : (listed.setIfInBounds i true).getD i false = true := by
   have : i < listed.size := by omega
   simp [this]
  have hdeps : ∀ j, (listed.setIfInBounds i true).getD j false = true → ∀ d ∈ deps j, (listed.setIfInBounds i true).getD d false = true := fun j hj d hdd => by
   rcases hset j hj with rfl | hj'
   ·have := depsOk_spec deps l 0 j oi hdp ho'
    rw [Nat.zero_add] at this
    rcases this d hdd with rfl | ⟨e, he, hb, hde⟩
    ·exact hself
    ·exact getD_set_true (hcl _ (hpre e he hb) d hde)
   ·exact getD_set_true (hcl j hj' d hdd)
  have hcd2 : ∀ j o, (listed.setIfInBounds i true).getD j false = true → l[j]? = some o → ∀ e ∈ o.after, Region.binds .any e = true → (listed.setIfInBounds i true).getD e.on false = true := fun j o hj hoj e he hb => by
   rcases hset j hj with rfl | hj'
   ·obtain rfl : o = oi := Option.some.inj (hoj.symm.trans ho')
    exact getD_set_true (hpre e he hb)
   ·exact getD_set_true (hcd j o hj' hoj e he hb)
  have hputs : ∀ v, (puts l 0 vs a0).put oi.dst v = puts l 0 (upd vs i v) a0 := fun v => by have := puts_put l 0 i oi vs a0 v hap ho'; rwa [Nat.zero_add] at this
  have later : s ≤ i → (∀ j, j < i → listed.getD j false = true) := fun hsi j hj => by
   exact reach_spec (listed := fun j => listed.getD j false = true) hcd j l.length i (fun o ho e he hb => by
    obtain rfl : o = oi := Option.some.inj (ho.symm.trans ho')
    exact hpre e he hb) ((tailOk_spec htl i oi hsi ho').1 j hj)
  have hdrop : l.drop i = oi :: l.drop (i + 1) := by
   rw [List.drop_eq_getElem_cons hil]
   have : l[i] = oi := by rw [List.getElem?_eq_getElem hil] at ho'; exact Option.some.inj ho'
   rw [this]
  have hd2 : (i < s ∧ (∀ j, s ≤ j → listed.getD j false = false) ∧ X (fun j => listed.getD j false) vs w ∧ B w ∧ ∀ j, listed.getD j false = true → F j vs w) ∨ (s ≤ i ∧ (∀ j, i ≤ j → listed.getD j false = false) ∧ Tail P l Q a0 i (l.drop i) vs w) := by
   rcases hcase with ⟨hns, hX, hB, hF⟩ | ⟨t, hst, htl', hlow, hhigh, hT⟩
   ·by_cases his : i < s
    ·exact Or.inl ⟨his, hns, hX, hB, hF⟩
    ·have hsi : s ≤ i := by omega
     have hl := later hsi
     have : i = s := by
      rcases Nat.lt_or_ge s i with h | h
      ·have h1 := hl s h; rw [hns s (Nat.le_refl _)] at h1; cases h1
      ·omega
     subst this
     exact Or.inr ⟨Nat.le_refl _, hns, hlast vs w (fun j => listed.getD j false) (fun j hj => hl j hj) hX hB fun j hj => hF j (hl j hj)⟩
   ·have hti : t ≤ i := by
     rcases Nat.lt_or_ge i t with h | h
     ·rw [hlow i h] at hnf; cases hnf
     ·exact h
    have hl := later (by omega)
    have : i = t := by
     rcases Nat.lt_or_ge t i with h | h
     ·have h1 := hl t h; rw [hhigh t (Nat.le_refl _)] at h1; cases h1
     ·omega
    subst this
    exact Or.inr ⟨hst, hhigh, hT⟩
  rcases hd2 with ⟨his, hns, hX, hB, hF⟩ | ⟨hsi, hhigh, hT⟩
  ·have hot : (l.take s)[i]? = some oi := by rw [List.getElem?_take, if_pos his]; exact ho'
   obtain ⟨hgd, hst⟩ := EachW.get (l.take s) 0 i oi hop hot
   rw [Nat.zero_add] at hst
   refine wpOp_step hoi fun K hK => ?_
   rw [if_pos (by simp [Region.wanted, hgd])]
   refine hst vs w _ (fun j => listed.getD j false) (fun _ => rfl) hB hF hX (fun j hj => ?_) (Pre.of _ fun e he hb => hF _ (hpre e (by simpa using he) hb)) K fun v w' hB' hFi hFj hX' => hK _ _ ?_
   ·cases hlj : listed.getD j false with
    | false => rfl
    | true =>
     rcases hj with rfl | hj
     ·rw [hlj] at hnf; cases hnf
     have := reach_spec (listed := fun j => listed.getD j false = true) (l := l) (fun j o h1 h2 e he hb => hcd j o h1 h2 e he hb) i l.length j (fun o h2 e he hb => hcd j o hlj h2 e he hb) hj
     rw [this] at hnf
     cases hnf
   have hfun : (fun j => (listed.setIfInBounds i true).getD j false) = fun j => if j = i then true else listed.getD j false := by
    funext j
    by_cases hji : j = i
    ·subst hji; rw [if_pos rfl]; exact hself
    ·rw [if_neg hji, getD_set_ne false (fun e => hji e.symm)]
   refine ⟨by simp [hsz], ⟨hdeps, hcd2⟩, upd vs i v, hputs v, Or.inl ⟨fun j hj => ?_, by rw [hfun]; exact hX', hB', fun j hj => ?_⟩⟩
   ·rw [getD_set_ne false (by omega)]; exact hns j hj
   ·by_cases hji : j = i
    ·subst hji; exact hFi
    ·rcases hset j hj with h | hj'
     ·exact absurd h hji
     ·refine hloc j vs i v w' (fun hin => ?_) (hFj j hji (hF j hj'))
      rw [hcl j hj' i hin] at hnf
      cases hnf
  ·rw [hdrop] at hT
   refine wpOp_step hoi fun K hK => ?_
   rw [if_pos (by simp [Region.wanted, (tailOk_spec htl i oi hsi ho').2])]
   refine hT _ (fun _ => rfl) K fun v w' hT' => hK _ _ ?_
   refine ⟨by simp [hsz], ⟨hdeps, hcd2⟩, upd vs i v, hputs v, Or.inr ⟨i + 1, by omega, hil, fun j hj => ?_, fun j hj => ?_, hT'⟩⟩
   ·rcases Nat.lt_or_ge j i with h | h
    ·exact getD_set_true (later hsi j h)
    ·obtain rfl : j = i := by omega
     exact hself
   ·rw [getD_set_ne false (by omega)]; exact hhigh j (by omega)
 ·rintro listed a w ⟨hsz, ⟨hcl, hcd⟩, vs, rfl, hcase⟩ hr
  have all : ∀ n, ∀ j, j < n → j < l.length → listed.getD j false = true := by
   intro n
   induction n with
   | zero => intro j h; omega
   | succ n ih =>
    intro j hjn hjl
    rcases Nat.lt_or_ge j n with h | h
    ·exact ih j h hjl
    obtain rfl : j = n := by omega
    have hoj : l[j]? = some l[j] := List.getElem?_eq_getElem hjl
    by_cases hc : listed.getD j false = true
    ·exact hc
    ·exfalso
     have hjs : j < listed.size := by omega
     have hmem : j ∈ Region.ready .any l.toArray listed := mem_ready.2 ⟨by simpa [hjs] using hc, l[j], by simp, fun e he hbe => by
      have := backB_spec l 0 j _ hbk hoj e he hbe
      exact ih e.on (by omega) (by omega)⟩
     rw [hr] at hmem
     cases hmem
  rcases hcase with ⟨hns, hX, hB, hF⟩ | ⟨t, hst, htl', hlow, hhigh, hT⟩
  ·exfalso
   have h1 := all (s + 1) s (by omega) hsl
   rw [hns s (Nat.le_refl _)] at h1
   cases h1
  ·have : t = l.length := by
    rcases Nat.lt_or_ge t l.length with h | h
    ·have h1 := all (t + 1) t (by omega) h
     rw [hhigh t (Nat.le_refl _)] at h1
     cases h1
    ·omega
   subst this
   rw [List.drop_length] at hT
   exact hT
 ·obtain ⟨vs, hvs⟩ := puts_self l 0 a0
  have hno : ∀ j, (Array.replicate l.toArray.size false).getD j false = false := fun j => by
   rw [Array.getD_eq_getD_getElem?, Array.getElem?_replicate]
   split <;> rfl
  refine ⟨by simp, ⟨fun j hj => ?_, fun j o hj => ?_⟩, vs, hvs.symm, Or.inl ⟨fun j _ => hno j, by rw [show (fun j => (Array.replicate l.toArray.size false).getD j false) = fun _ => false from funext hno]; exact hX0 vs hvs, h0, fun j hj => ?_⟩⟩
  all_goals
   rw [hno] at hj
   cases hj
end Go.Proofs.Ytpfpjbeofogbgaa.Ri
end
