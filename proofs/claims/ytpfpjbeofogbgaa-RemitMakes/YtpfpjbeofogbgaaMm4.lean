/-
  Texts put together (merge.py): RTailX, BWeight, MPaid.
-/
import Derived.Deep.Cut
import Derived.Test.YtpfpjbeofogbgaaMm3
import Derived.Test.YtpfpjbeofogbgaaMm2
set_option linter.unusedSimpArgs false
set_option linter.unusedVariables false
section
namespace Go.Proofs.Ytpfpjbeofogbgaa.Ri
open Go
def StepX (P : Program) (l : List Oper) (Q : Exit → Act → World → Prop) (a0 : Act) (B : World → Prop) (F : Nat → (Nat → Value) → World → Prop) (X : (Nat → Bool) → (Nat → Value) → Prop) (s : Nat) (k : Nat) (o : Oper) : Prop :=
 ∀ (vs : Nat → Value) (w : World) (A : Act) (lst : Nat → Bool), (∀ t : Nat, A.tmps[t]?.getD undef = (puts l 0 vs a0).tmps[t]?.getD undef) → B w → (∀ j, lst j = true → F j vs w) → X lst vs → (∀ j, s ≤ j → lst j = false) → Pre F vs w o.after.toList → ∀ K : Act → World → Prop, (∀ v w', B w' → F k (upd vs k v) w' → (∀ j, j ≠ k → F j vs w → F j vs w') → X (fun j => if j = k then true else lst j) (upd vs k v) → K (A.put o.dst v) w') → o.wp P A w K Q
def EachX (P : Program) (l : List Oper) (Q : Exit → Act → World → Prop) (a0 : Act) (B : World → Prop) (F : Nat → (Nat → Value) → World → Prop) (X : (Nat → Bool) → (Nat → Value) → Prop) (s : Nat) : Nat → List Oper → Prop
 | _, [] => True
 | k, o :: r => (o.guard = none ∧ StepX P l Q a0 B F X s k o) ∧ EachX P l Q a0 B F X s (k + 1) r
theorem EachX.get {P : Program} {l : List Oper} {Q : Exit → Act → World → Prop} {a0 : Act} {B : World → Prop} {F : Nat → (Nat → Value) → World → Prop} {X : (Nat → Bool) → (Nat → Value) → Prop} {s : Nat} : ∀ (r : List Oper) (k i : Nat) (o : Oper), EachX P l Q a0 B F X s k r → r[i]? = some o → o.guard = none ∧ StepX P l Q a0 B F X s (k + i) o
 | [], _, _, _, _, h => by simp at h
 | x :: r, k, 0, o, hh, h => by simp at h; subst h; exact hh.1
 | x :: r, k, i + 1, o, hh, h => by
  simp at h
  have := EachX.get r (k + 1) i o hh.2 h
  rwa [show k + 1 + i = k + (i + 1) by omega] at this
theorem wp_region_tailX {P : Program} {id : Nat} {l : List Oper} {Q : Exit → Act → World → Prop} {a0 : Act} {w0 : World} (s : Nat) (hm : P.follows .mixedOrders = true) (hap : apartD l = true) (hbk : backB 0 l = true)
  (hsl : s < l.length) (htl : tailOk l s = true)
  (B : World → Prop) (F : Nat → (Nat → Value) → World → Prop) (X : (Nat → Bool) → (Nat → Value) → Prop) (deps : Nat → List Nat) (hdp : depsOk deps 0 l = true)
  (hloc : ∀ j vs i v w, i ∉ deps j → F j vs w → F j (upd vs i v) w) (h0 : B w0.drew) (hX0 : ∀ vs, puts l 0 vs a0 = a0 → X (fun _ => false) vs) (hop : EachX P l Q a0 B F X s 0 (l.take s))
  (hlast : ∀ (vs : Nat → Value) (w : World) (lst : Nat → Bool), (∀ j, j < s → lst j = true) → X lst vs → B w → (∀ j, j < s → F j vs w) → Tail P l Q a0 s (l.drop s) vs w) :
  (Code.region id l.toArray true).wp P Q a0 w0 := by
 refine wp_region_any hm (wpAny_inv (fun listed a w => listed.size = l.length ∧ ((∀ j, listed.getD j false = true → ∀ d ∈ deps j, listed.getD d false = true) ∧ ∀ j o, listed.getD j false = true → l[j]? = some o → ∀ e ∈ o.after, Region.binds .any e = true → listed.getD e.on false = true) ∧ ∃ vs, a = puts l 0 vs a0 ∧ (((∀ j, s ≤ j → listed.getD j false = false) ∧ X (fun j => listed.getD j false) vs ∧ B w ∧ ∀ j, listed.getD j false = true → F j vs w) ∨ ∃ t, s ≤ t ∧ t ≤ l.length ∧ (∀ j, j < t → listed.getD j false = true) ∧ (∀ j, t ≤ j → listed.getD j false = false) ∧ Tail P l Q a0 t (l.drop t) vs w)) ?_ ?_ _ _ _ _ (by rw [opn_new]; exact Nat.le_refl _) ?_)
 ·rintro listed a w ⟨hsz, ⟨hcl, hcd⟩, vs, rfl, hcase⟩ i hi
  obtain ⟨hni, oi, hoi, hpre⟩ := mem_ready.1 hi
  have ho' : l[i]? = some oi := by simpa using hoi
  have hil : i < l.length := (List.getElem?_eq_some_iff.1 ho').1
  have hnf : listed.getD i false = false := by
   have : i < listed.size := by omega
   simpa [this] using hni
  have hset : ∀ j, (listed.setIfInBounds i true).getD j false = true → j = i ∨ listed.getD j false = true := fun j hj => by
   by_cases hji : i = j
   ·exact Or.inl hji.symm
   ·rw [getD_set_ne false hji] at hj; exact Or.inr hj
  have hself : (listed.setIfInBounds i true).getD i false = true := by
   have : i < listed.size := by omega
   simp [this]
  have hdeps : ∀ j, (listed.setIfInBounds i true).getD j false = true → ∀ d ∈ deps j, (listed.setIfInBounds i true).getD d false = true := fun j hj d hdd => by
   rcases hset j hj with rfl | hj'
   ·have := depsOk_spec deps l 0 j oi hdp ho'
    rw [Nat.zero_add] at this
    rcases this d hdd with rfl | ⟨e, he, hb, hde⟩
    ·exact hself
    ·exact getD_set_true (hcl _ (hpre e he hb) d hde)
   ·exact getD_set_true (hcl j hj' d hdd)
  have hcd2 : ∀ j o, (listed.setIfInBounds i true).getD j false = true → l[j]? = some o → ∀ e ∈ o.after, Region.binds .any e = true → (listed.setIfInBounds i true).getD e.on false = true := fun j o hj hoj e he hb => by
   rcases hset j hj with rfl | hj'
   ·obtain rfl : o = oi := Option.some.inj (hoj.symm.trans ho')
    exact getD_set_true (hpre e he hb)
   ·exact getD_set_true (hcd j o hj' hoj e he hb)
  have hputs : ∀ v, (puts l 0 vs a0).put oi.dst v = puts l 0 (upd vs i v) a0 := fun v => by have := puts_put l 0 i oi vs a0 v hap ho'; rwa [Nat.zero_add] at this
  have later : s ≤ i → (∀ j, j < i → listed.getD j false = true) := fun hsi j hj => by
   exact reach_spec (listed := fun j => listed.getD j false = true) hcd j l.length i (fun o ho e he hb => by
    obtain rfl : o = oi := Option.some.inj (ho.symm.trans ho')
    exact hpre e he hb) ((tailOk_spec htl i oi hsi ho').1 j hj)
  have hdrop : l.drop i = oi :: l.drop (i + 1) := by
   rw [List.drop_eq_getElem_cons hil]
   have : l[i] = oi := by rw [List.getElem?_eq_getElem hil] at ho'; exact Option.some.inj ho'
   rw [this]
  have hd2 : (i < s ∧ (∀ j, s ≤ j → listed.getD j false = false) ∧ X (fun j => listed.getD j false) vs ∧ B w ∧ ∀ j, listed.getD j false = true → F j vs w) ∨ (s ≤ i ∧ (∀ j, i ≤ j → listed.getD j false = false) ∧ Tail P l Q a0 i (l.drop i) vs w) := by
   rcases hcase with ⟨hns, hX, hB, hF⟩ | ⟨t, hst, htl', hlow, hhigh, hT⟩
   ·by_cases his : i < s
    ·exact Or.inl ⟨his, hns, hX, hB, hF⟩
    ·have hsi : s ≤ i := by omega
     have hl := later hsi
     have : i = s := by
      rcases Nat.lt_or_ge s i with h | h
      ·have h1 := hl s h; rw [hns s (Nat.le_refl _)] at h1; cases h1
      ·omega
     subst this
     exact Or.inr ⟨Nat.le_refl _, hns, hlast vs w (fun j => listed.getD j false) (fun j hj => hl j hj) hX hB fun j hj => hF j (hl j hj)⟩
   ·have hti : t ≤ i := by
     rcases Nat.lt_or_ge i t with h | h
     ·rw [hlow i h] at hnf; cases hnf
     ·exact h
    have hl := later (by omega)
    have : i = t := by
     rcases Nat.lt_or_ge t i with h | h
     ·have h1 := hl t h; rw [hhigh t (Nat.le_refl _)] at h1; cases h1
     ·omega
    subst this
    exact Or.inr ⟨hst, hhigh, hT⟩
  rcases hd2 with ⟨his, hns, hX, hB, hF⟩ | ⟨hsi, hhigh, hT⟩
  ·have hot : (l.take s)[i]? = some oi := by rw [List.getElem?_take, if_pos his]; exact ho'
   obtain ⟨hgd, hst⟩ := EachX.get (l.take s) 0 i oi hop hot
   rw [Nat.zero_add] at hst
   refine wpOp_step hoi fun K hK => ?_
   rw [if_pos (by simp [Region.wanted, hgd])]
   refine hst vs w _ (fun j => listed.getD j false) (fun _ => rfl) hB hF hX hns (Pre.of _ fun e he hb => hF _ (hpre e (by simpa using he) hb)) K fun v w' hB' hFi hFj hX' => hK _ _ ?_
   have hfun : (fun j => (listed.setIfInBounds i true).getD j false) = fun j => if j = i then true else listed.getD j false := by
    funext j
    by_cases hji : j = i
    ·subst hji; rw [if_pos rfl]; exact hself
    ·rw [if_neg hji, getD_set_ne false (fun e => hji e.symm)]
   refine ⟨by simp [hsz], ⟨hdeps, hcd2⟩, upd vs i v, hputs v, Or.inl ⟨fun j hj => ?_, by rw [hfun]; exact hX', hB', fun j hj => ?_⟩⟩
   ·rw [getD_set_ne false (by omega)]; exact hns j hj
   ·by_cases hji : j = i
    ·subst hji; exact hFi
    ·rcases hset j hj with h | hj'
     ·exact absurd h hji
     ·refine hloc j vs i v w' (fun hin => ?_) (hFj j hji (hF j hj'))
      rw [hcl j hj' i hin] at hnf
      cases hnf
  ·rw [hdrop] at hT
   refine wpOp_step hoi fun K hK => ?_
   rw [if_pos (by simp [Region.wanted, (tailOk_spec htl i oi hsi ho').2])]
   refine hT _ (fun _ => rfl) K fun v w' hT' => hK _ _ ?_
   refine ⟨by simp [hsz], ⟨hdeps, hcd2⟩, upd vs i v, hputs v, Or.inr ⟨i + 1, by omega, hil, fun j hj => ?_, fun j hj => ?_, hT'⟩⟩
   ·rcases Nat.lt_or_ge j i with h | h
    ·exact getD_set_true (later hsi j h)
    ·obtain rfl : j = i := by omega
     exact hself
   ·rw [getD_set_ne false (by omega)]; exact hhigh j (by omega)
 ·rintro listed a w ⟨hsz, ⟨hcl, hcd⟩, vs, rfl, hcase⟩ hr
  have all : ∀ n, ∀ j, j < n → j < l.length → listed.getD j false = true := by
   intro n
   induction n with
   | zero => intro j h; omega
   | succ n ih =>
    intro j hjn hjl
    rcases Nat.lt_or_ge j n with h | h
    ·exact ih j h hjl
    obtain rfl : j = n := by omega
    have hoj : l[j]? = some l[j] := List.getElem?_eq_getElem hjl
    by_cases hc : listed.getD j false = true
    ·exact hc
    ·exfalso
     have hjs : j < listed.size := by omega
     have hmem : j ∈ Region.ready .any l.toArray listed := mem_ready.2 ⟨by simpa [hjs] using hc, l[j], by simp, fun e he hbe => by
      have := backB_spec l 0 j _ hbk hoj e he hbe
      exact ih e.on (by omega) (by omega)⟩
     rw [hr] at hmem
     cases hmem
  rcases hcase with ⟨hns, hX, hB, hF⟩ | ⟨t, hst, htl', hlow, hhigh, hT⟩
  ·exfalso
   have h1 := all (s + 1) s (by omega) hsl
   rw [hns s (Nat.le_refl _)] at h1
   cases h1
  ·have : t = l.length := by
    rcases Nat.lt_or_ge t l.length with h | h
    ·have h1 := all (t + 1) t (by omega) h
     rw [hhigh t (Nat.le_refl _)] at h1
     cases h1
    ·omega
   subst this
   rw [List.drop_length] at hT
   exact hT
 ·obtain ⟨vs, hvs⟩ := puts_self l 0 a0
  have hno : ∀ j, (Array.replicate l.toArray.size false).getD j false = false := fun j => by
   rw [Array.getD_eq_getD_getElem?, Array.getElem?_replicate]
   split <;> rfl
  refine ⟨by simp, ⟨fun j hj => ?_, fun j o hj => ?_⟩, vs, hvs.symm, Or.inl ⟨fun j _ => hno j, by rw [show (fun j => (Array.replicate l.toArray.size false).getD j false) = fun _ => false from funext hno]; exact hX0 vs hvs, h0, fun j hj => ?_⟩⟩
  all_goals
   rw [hno] at hj
   cases hj
end Go.Proofs.Ytpfpjbeofogbgaa.Ri
end
section
set_option maxRecDepth 100000
namespace Go.Proofs.Ytpfpjbeofogbgaa.Bk
open Go.RowKit
open Cm (Ln Cl cl0 LnsAt ClsAt ClCells lnv clv LnOk ClOk ClLight)
open Sh (Ot)
def EnOk (x : En) : Prop := ClOk x.cl ∧ x.outs.length ≤ 281474976710656
def EnLight (M : Int) (x : En) : Prop := ClLight x.cl ∧ (x.outs.length : Int) ≤ M
theorem cls_one {w : World} {g : Nat} {c : Cl} {m : Value} (h : w.heap[g]? = some (.cells #[.string (mk c.id), .string (mk c.mem), .string (mk c.fam), .int .i64 c.net, .int .i64 c.does, .string (mk c.ref), m] 45 (0, 0))) (hl : LnsAt All w m c.lines) : ClsAt All w (.slice (some ⟨g, 0, none⟩) 1 1) [c] := by
 refine ⟨some ⟨g, 0, none⟩, 1, rfl, by simp, by simp [maxLen], Or.inr ⟨g, 0, rfl, trivial, (Array.getElem?_eq_some_iff.1 h).1, fun j x hj => ?_⟩⟩
 cases j with
 | succ j => simp at hj
 | zero =>
  simp at hj; subst hj
  refine ⟨m, ?_, hl⟩
  refine ⟨?_, ?_, ?_, ?_, ?_, ?_, ?_⟩ <;> rw [cell_of_row w g _ _ _ (0, 0) h] <;> rfl
theorem light_snoc {M : Int} (l : List En) (k : Nat) (t : En) (hx : l[k]? = some t) (h : ∀ t ∈ l.take k, EnLight M t) (ht : EnLight M t) : ∀ t ∈ l.take (k + 1), EnLight M t := by
 intro s hs
 rw [List.take_add_one, hx] at hs
 rcases List.mem_append.1 hs with h1 | h1
 ·exact h s h1
 ·simp at h1; rw [h1]; exact ht
set_option maxHeartbeats 8000000 in
theorem bweight_any (M : Int) (hM0 : 1 ≤ M) (hM : M ≤ 3000) (l : List En) (v : Value) (w : World) (h : EnsAt All w v l) (hz : ∀ x ∈ l, EnOk x) :
  Calls Try.prog 22 #[v, .int .i64 M] w fun e w' => (∃ n : Int, e = .returned (.int .i64 n) ∧ (n ≤ M → (l.length : Int) ≤ M ∧ ∀ x ∈ l, EnLight M x)) ∧ Below w.heap.size w w' := by
 obtain ⟨fa, fk, rfl, hm1, hm2⟩ := h.form
 have HF := Lib.hid h
 have HZ := Lib.hid hz
 clear h hz
 go_enter Try.func22, Try.ntmps22
 go_wp2
 go_loopg [5, 6] (l.length) (fun gg s5 s6 wr => ∃ (k : Nat) (m : Int), s6 = .int .i64 k ∧ s5 = .int .i64 m ∧ k ≤ l.length ∧ l.length - k ≤ gg ∧ (k : Int) ≤ m ∧ m ≤ 5000000000000000000 ∧ Hid (m ≤ M → ∀ x ∈ l.take k, EnLight M x) ∧ Hid (Below w.heap.size w wr))
 case atStart => exact ⟨0, 0, rfl, rfl, Nat.zero_le _, by omega, by omega, by omega, (fun _ x hx => by simp at hx), Below.refl _ _⟩
 case round =>
  obtain ⟨k, m, rfl, rfl, hk, hgk, hm0, hm5, HA, HBn⟩ := hrel
  by_cases hmM : m ≤ M
  case neg =>
   have d1 : decide (m ≤ M) = false := decide_eq_false hmM
   clear HA
   by_cases hlt : k < l.length
   ·go_wp2
    go_ret
    exact ⟨⟨m, rfl, fun q => absurd q (by omega)⟩, HBn.out⟩
   ·have hltz : ¬ (k : Int) < (l.length : Int) := by omega
    go_wp2
    go_ret
    exact ⟨⟨m, rfl, fun q => absurd q (by omega)⟩, HBn.out⟩
  by_cases hlt : k < l.length
  case neg =>
   have hltz : ¬ (k : Int) < (l.length : Int) := by omega
   have HL : Hid ((l.length : Int) ≤ M ∧ ∀ x ∈ l, EnLight M x) := Lib.hid ⟨by omega, by have := HA.out hmM; rwa [List.take_of_length_le (by omega)] at this⟩
   have d1 : decide (m ≤ M) = true := decide_eq_true hmM
   clear HA
   go_wp2
   go_ret
   exact ⟨⟨m, rfl, fun _ => HL.out⟩, HBn.out⟩
  have d1 : decide (m ≤ M) = true := decide_eq_true hmM
  have hltz : (k : Int) < (l.length : Int) := by omega
  obtain ⟨b, oo, mm, mo, rfl, hb1, hx, hc, hco⟩ := EnsAt.get (HF.out.grw HBn.out) k hlt
  have hok := HZ.out _ (List.mem_of_getElem? hx)
  have HSN := Lib.hid (light_snoc (M := M) l k _ hx (HA.out hmM))
  generalize l[k] = x at *
  have HOK := Lib.hid hok.1
  have hol := hok.2
  have HXK : Hid (∀ W', Below wr.heap.size wr W' → EnCells W' b (oo + k * 10) x mm mo) := fun W' hW => hc.of (hW.block b hb1)
  have HCA : Hid (∀ w1, Below wr.heap.size wr w1 → LnsAt All w1 mm x.cl.lines) := fun w1 hb => (hco.grw hb).1
  obtain ⟨am, km, e1, -, -⟩ := Cm.LnsAt.form hco.1
  obtain ⟨ao, ko, e2, -, -⟩ := hco.2.form
  dsimp only at e1 e2
  subst e1 e2
  have hi1 : k < l.length := hlt
  have HW : Hid (∀ W g, Below wr.heap.size wr W → W.heap[g]? = some (.cells #[.string (mk x.cl.id), .string (mk x.cl.mem), .string (mk x.cl.fam), .int .i64 x.cl.net, .int .i64 x.cl.does, .string (mk x.cl.ref), .slice am x.cl.lines.length km] 45 (0, 0)) → Calls Try.prog 33 #[.slice (some ⟨g, 0, none⟩) 1 1, .int .i64 M] W fun e w' => (∃ n : Int, e = .returned (.int .i64 n) ∧ (0 ≤ n ∧ n ≤ 4611686018427387904 ∧ 1 ≤ n ∧ (n ≤ M → Cm.ClLight x.cl))) ∧ Below W.heap.size W w') := fun W g hb hg => by
   refine (Cm.weight2_any M (by omega) hM _ [x.cl] W (cls_one hg (HCA.out W hb)) (by intro c hc; simp at hc; rw [hc]; exact HOK.out)).mono ?_
   rintro e w' ⟨⟨n, e1, e2, e3, e4, e5⟩, hbb⟩
   refine ⟨⟨n, e1, e3, e4, ?_, fun q => e2 q _ (List.mem_singleton.2 rfl)⟩, hbb⟩
   by_cases q : n ≤ M
   ·have := e5 q; simp at this; omega
   ·omega
  clear hco hx hc hb1 hok HA HOK HCA
  have HD := Lib.hid (Below.drew (Below.refl wr.heap.size wr))
  obtain ⟨wo, hwo⟩ : ∃ z, z = wr := ⟨_, rfl⟩
  subst hwo
  go_upto_region 5 with fail
  refine Ri.wp_region_tailX 17 (by kernel_rfl) (by kernel_rfl) (by kernel_rfl) (by decide) (by kernel_rfl) (fun Wx => Below wo.heap.size wo Wx) (fun kz vs wz => (fun kx vx wx => match kx with | 0 => vx = .int .i64 m | 1 => vx = .slice (some ⟨b, oo, none⟩) l.length fk | 2 => vx = .int .i64 (k : Nat) | 3 => vx = .pointer (some ⟨b, oo + k * 10, none⟩) | 4 => vx = .pointer (some ⟨b, oo + k * 10, none⟩) | 5 => vx = clv x.cl (.slice am x.cl.lines.length km) | 6 => ∃ g, vx = .slice (some ⟨g, 0, none⟩) 1 1 ∧ wx.heap[g]? = some (.cells #[.string (mk x.cl.id), .string (mk x.cl.mem), .string (mk x.cl.fam), .int .i64 x.cl.net, .int .i64 x.cl.does, .string (mk x.cl.ref), .slice am x.cl.lines.length km] 45 (0, 0)) | 7 => vx = .int .i64 M | 8 => ∃ g : Int, vx = .int .i64 g ∧ (0 ≤ g ∧ g ≤ 4611686018427387904 ∧ 1 ≤ g ∧ (g ≤ M → Cm.ClLight x.cl)) | 9 => ∃ g : Int, vx = .int .i64 (m + g) ∧ (0 ≤ g ∧ g ≤ 4611686018427387904 ∧ 1 ≤ g ∧ (g ≤ M → Cm.ClLight x.cl)) | 10 => vx = .slice (some ⟨b, oo, none⟩) l.length fk | 11 => vx = .int .i64 (k : Nat) | 12 => vx = .pointer (some ⟨b, oo + k * 10, none⟩) | 13 => vx = .pointer (some ⟨b, oo + k * 10 + 9, none⟩) | 14 => vx = .slice ao x.outs.length ko | 15 => vx = .int .i64 (x.outs.length : Nat) | 16 => ∃ g : Int, vx = .int .i64 (m + g + (x.outs.length : Nat)) ∧ (0 ≤ g ∧ g ≤ 4611686018427387904 ∧ 1 ≤ g ∧ (g ≤ M → Cm.ClLight x.cl)) | _ => True : Nat → Value → World → Prop) kz (vs kz) wz) (fun lst vs => lst 17 = false → vs 17 = .int .i64 m) (fun kz => [kz]) (by kernel_rfl) (fun jz vs iz vz wz hiz hz => Ri.loc_own (F := (fun kx vx wx => match kx with | 0 => vx = .int .i64 m | 1 => vx = .slice (some ⟨b, oo, none⟩) l.length fk | 2 => vx = .int .i64 (k : Nat) | 3 => vx = .pointer (some ⟨b, oo + k * 10, none⟩) | 4 => vx = .pointer (some ⟨b, oo + k * 10, none⟩) | 5 => vx = clv x.cl (.slice am x.cl.lines.length km) | 6 => ∃ g, vx = .slice (some ⟨g, 0, none⟩) 1 1 ∧ wx.heap[g]? = some (.cells #[.string (mk x.cl.id), .string (mk x.cl.mem), .string (mk x.cl.fam), .int .i64 x.cl.net, .int .i64 x.cl.does, .string (mk x.cl.ref), .slice am x.cl.lines.length km] 45 (0, 0)) | 7 => vx = .int .i64 M | 8 => ∃ g : Int, vx = .int .i64 g ∧ (0 ≤ g ∧ g ≤ 4611686018427387904 ∧ 1 ≤ g ∧ (g ≤ M → Cm.ClLight x.cl)) | 9 => ∃ g : Int, vx = .int .i64 (m + g) ∧ (0 ≤ g ∧ g ≤ 4611686018427387904 ∧ 1 ≤ g ∧ (g ≤ M → Cm.ClLight x.cl)) | 10 => vx = .slice (some ⟨b, oo, none⟩) l.length fk | 11 => vx = .int .i64 (k : Nat) | 12 => vx = .pointer (some ⟨b, oo + k * 10, none⟩) | 13 => vx = .pointer (some ⟨b, oo + k * 10 + 9, none⟩) | 14 => vx = .slice ao x.outs.length ko | 15 => vx = .int .i64 (x.outs.length : Nat) | 16 => ∃ g : Int, vx = .int .i64 (m + g + (x.outs.length : Nat)) ∧ (0 ≤ g ∧ g ≤ 4611686018427387904 ∧ 1 ≤ g ∧ (g ≤ M → Cm.ClLight x.cl)) | _ => True : Nat → Value → World → Prop)) jz vs iz vz wz hiz hz) HD.out ?_ ⟨⟨rfl, ?_⟩, ⟨rfl, ?_⟩, ⟨rfl, ?_⟩, ⟨rfl, ?_⟩, ⟨rfl, ?_⟩, ⟨rfl, ?_⟩, ⟨rfl, ?_⟩, ⟨rfl, ?_⟩, ⟨rfl, ?_⟩, ⟨rfl, ?_⟩, ⟨rfl, ?_⟩, ⟨rfl, ?_⟩, ⟨rfl, ?_⟩, ⟨rfl, ?_⟩, ⟨rfl, ?_⟩, ⟨rfl, ?_⟩, ⟨rfl, ?_⟩, trivial⟩ ?_
  ·intro vs hvs
   intro _
   have h1 := congrArg (fun a => a.tmps[5]?.getD undef) hvs
   exact (show vs 17 = _ by kernel_rfl).trans (h1.trans (show _ = Value.int .i64 m by kernel_rfl))
  ·intro vs Wx A lst hA hB hls hX hno hpre K hK
   have e5 := ((hA 5).trans (show _ = vs 17 by kernel_rfl)).trans (hX (hno 17 (by decide)))
   clear hA hpre
   go_simp
   first | exact hK _ _ hB (by trivial) (fun _ _ h => h) hX | (rw [if_neg (by omega)]; go_simp; exact hK _ _ hB rfl (fun _ _ h => h) hX)
  ·intro vs Wx A lst hA hB hls hX hno hpre K hK
   have e0 := (hA 0).trans (show _ = Value.slice (some ⟨b, oo, none⟩) l.length fk by kernel_rfl)
   clear hA hpre
   go_simp
   first | exact hK _ _ hB (by trivial) (fun _ _ h => h) hX | (rw [if_neg (by omega)]; go_simp; exact hK _ _ hB rfl (fun _ _ h => h) hX)
  ·intro vs Wx A lst hA hB hls hX hno hpre K hK
   have e6 := (hA 6).trans (show _ = Value.int .i64 (k : Nat) by kernel_rfl)
   clear hA hpre
   go_simp
   first | exact hK _ _ hB (by trivial) (fun _ _ h => h) hX | (rw [if_neg (by omega)]; go_simp; exact hK _ _ hB rfl (fun _ _ h => h) hX)
  ·intro vs Wx A lst hA hB hls hX hno hpre K hK
   have e19 := ((hA 19).trans (show _ = vs 1 by kernel_rfl)).trans (by repeat first | exact hpre.1 rfl | replace hpre := hpre.2)
   have e20 := ((hA 20).trans (show _ = vs 2 by kernel_rfl)).trans (by repeat first | exact hpre.1 rfl | replace hpre := hpre.2)
   clear hA hpre
   go_simp
   first | exact hK _ _ hB (by trivial) (fun _ _ h => h) hX | (rw [if_neg (by omega)]; go_simp; exact hK _ _ hB rfl (fun _ _ h => h) hX)
  ·intro vs Wx A lst hA hB hls hX hno hpre K hK
   have e21 := ((hA 21).trans (show _ = vs 3 by kernel_rfl)).trans (by repeat first | exact hpre.1 rfl | replace hpre := hpre.2)
   clear hA hpre
   go_simp
   first | exact hK _ _ hB (by trivial) (fun _ _ h => h) hX | (rw [if_neg (by omega)]; go_simp; exact hK _ _ hB rfl (fun _ _ h => h) hX)
  ·intro vs Wx A lst hA hB hls hX hno hpre K hK
   have e22 := ((hA 22).trans (show _ = vs 4 by kernel_rfl)).trans (by repeat first | exact hpre.1 rfl | replace hpre := hpre.2)
   obtain ⟨x0, x1, x2, x3, x4, x5, x6, x7, x8, x9⟩ := HXK.out Wx hB
   clear hA hpre
   go_simp
   first | exact hK _ _ hB (by trivial) (fun _ _ h => h) hX | (rw [if_neg (by omega)]; go_simp; exact hK _ _ hB rfl (fun _ _ h => h) hX)
  ·intro vs Wx A lst hA hB hls hX hno hpre K hK
   have e23 := ((hA 23).trans (show _ = vs 5 by kernel_rfl)).trans (by repeat first | exact hpre.1 rfl | replace hpre := hpre.2)
   clear hA hpre
   go_simp
   refine hK _ _ (below_trans hB (below_alloc Wx _)) ⟨_, rfl, heap_alloc_new Wx _⟩ (fun jz hj hz => ?_) hX
   match jz, hj, hz with
   | 0, _, hz => exact hz
   | 1, _, hz => exact hz
   | 2, _, hz => exact hz
   | 3, _, hz => exact hz
   | 4, _, hz => exact hz
   | 5, _, hz => exact hz
   | 6, hj, _ => exact absurd rfl hj
   | 7, _, hz => exact hz
   | 8, _, hz => exact hz
   | 9, _, hz => exact hz
   | 10, _, hz => exact hz
   | 11, _, hz => exact hz
   | 12, _, hz => exact hz
   | 13, _, hz => exact hz
   | 14, _, hz => exact hz
   | 15, _, hz => exact hz
   | 16, _, hz => exact hz
   | n + 17, _, hz => exact hz
  ·intro vs Wx A lst hA hB hls hX hno hpre K hK
   have e1 := (hA 1).trans (show _ = Value.int .i64 M by kernel_rfl)
   clear hA hpre
   go_simp
   first | exact hK _ _ hB (by trivial) (fun _ _ h => h) hX | (rw [if_neg (by omega)]; go_simp; exact hK _ _ hB rfl (fun _ _ h => h) hX)
  ·intro vs Wx A lst hA hB hls hX hno hpre K hK
   have hx6 : ∃ g, vs 6 = .slice (some ⟨g, 0, none⟩) 1 1 ∧ Wx.heap[g]? = some (.cells #[.string (mk x.cl.id), .string (mk x.cl.mem), .string (mk x.cl.fam), .int .i64 x.cl.net, .int .i64 x.cl.does, .string (mk x.cl.ref), .slice am x.cl.lines.length km] 45 (0, 0)) := by repeat first | exact hpre.1 rfl | replace hpre := hpre.2
   obtain ⟨gx6, hv6, hh6⟩ := hx6
   have e24 := ((hA 24).trans (show _ = vs 6 by kernel_rfl)).trans hv6
   have e25 := ((hA 25).trans (show _ = vs 7 by kernel_rfl)).trans (by repeat first | exact hpre.1 rfl | replace hpre := hpre.2)
   clear hA hpre
   go_simp
   go_at_call 33
   refine (HW.out Wx _ hB hh6).mono ?_
   rintro e w4 ⟨⟨n1, rfl, hn1⟩, hg⟩
   refine hK _ _ (below_trans hB hg) ⟨n1, rfl, hn1⟩ (fun jz hj hz => ?_) hX
   match jz, hj, hz with
   | 0, _, hz => exact hz
   | 1, _, hz => exact hz
   | 2, _, hz => exact hz
   | 3, _, hz => exact hz
   | 4, _, hz => exact hz
   | 5, _, hz => exact hz
   | 6, _, hz => exact (hz.elim fun g h => ⟨g, h.1, keepB h.2 hg⟩)
   | 7, _, hz => exact hz
   | 8, _, hz => exact hz
   | 9, _, hz => exact hz
   | 10, _, hz => exact hz
   | 11, _, hz => exact hz
   | 12, _, hz => exact hz
   | 13, _, hz => exact hz
   | 14, _, hz => exact hz
   | 15, _, hz => exact hz
   | 16, _, hz => exact hz
   | n + 17, _, hz => exact hz
  ·intro vs Wx A lst hA hB hls hX hno hpre K hK
   have e18 := ((hA 18).trans (show _ = vs 0 by kernel_rfl)).trans (by repeat first | exact hpre.1 rfl | replace hpre := hpre.2)
   have hx8 : ∃ g : Int, vs 8 = .int .i64 g ∧ (0 ≤ g ∧ g ≤ 4611686018427387904 ∧ 1 ≤ g ∧ (g ≤ M → Cm.ClLight x.cl)) := by repeat first | exact hpre.1 rfl | replace hpre := hpre.2
   obtain ⟨gx8, hv8, hh8⟩ := hx8
   have e26 := ((hA 26).trans (show _ = vs 8 by kernel_rfl)).trans hv8
   obtain ⟨j1, j2, j3, j4⟩ := hh8
   have hh8 := And.intro j1 (And.intro j2 (And.intro j3 j4))
   have hw9 : IntKind.i64.wrap (m + gx8) = m + gx8 := by rw [IntKind.wrap_i64]; omega
   clear hA hpre
   go_simp
   first | exact hK _ _ hB ⟨gx8, rfl, hh8⟩ (fun _ _ h => h) hX | (rw [hw9]; exact hK _ _ hB ⟨gx8, rfl, hh8⟩ (fun _ _ h => h) hX) | (refine hK _ _ hB ⟨gx8, ?_, hh8⟩ (fun _ _ h => h) hX; first | rfl | (simp only [hw9]) | go_num)
  ·intro vs Wx A lst hA hB hls hX hno hpre K hK
   have e0 := (hA 0).trans (show _ = Value.slice (some ⟨b, oo, none⟩) l.length fk by kernel_rfl)
   clear hA hpre
   go_simp
   first | exact hK _ _ hB (by trivial) (fun _ _ h => h) hX | (rw [if_neg (by omega)]; go_simp; exact hK _ _ hB rfl (fun _ _ h => h) hX)
  ·intro vs Wx A lst hA hB hls hX hno hpre K hK
   have e6 := (hA 6).trans (show _ = Value.int .i64 (k : Nat) by kernel_rfl)
   clear hA hpre
   go_simp
   first | exact hK _ _ hB (by trivial) (fun _ _ h => h) hX | (rw [if_neg (by omega)]; go_simp; exact hK _ _ hB rfl (fun _ _ h => h) hX)
  ·intro vs Wx A lst hA hB hls hX hno hpre K hK
   have e28 := ((hA 28).trans (show _ = vs 10 by kernel_rfl)).trans (by repeat first | exact hpre.1 rfl | replace hpre := hpre.2)
   have e29 := ((hA 29).trans (show _ = vs 11 by kernel_rfl)).trans (by repeat first | exact hpre.1 rfl | replace hpre := hpre.2)
   clear hA hpre
   go_simp
   first | exact hK _ _ hB (by trivial) (fun _ _ h => h) hX | (rw [if_neg (by omega)]; go_simp; exact hK _ _ hB rfl (fun _ _ h => h) hX)
  ·intro vs Wx A lst hA hB hls hX hno hpre K hK
   have e30 := ((hA 30).trans (show _ = vs 12 by kernel_rfl)).trans (by repeat first | exact hpre.1 rfl | replace hpre := hpre.2)
   clear hA hpre
   go_simp
   first | exact hK _ _ hB (by trivial) (fun _ _ h => h) hX | (rw [if_neg (by omega)]; go_simp; exact hK _ _ hB rfl (fun _ _ h => h) hX)
  ·intro vs Wx A lst hA hB hls hX hno hpre K hK
   have e31 := ((hA 31).trans (show _ = vs 13 by kernel_rfl)).trans (by repeat first | exact hpre.1 rfl | replace hpre := hpre.2)
   obtain ⟨x0, x1, x2, x3, x4, x5, x6, x7, x8, x9⟩ := HXK.out Wx hB
   clear hA hpre
   go_simp
   first | exact hK _ _ hB (by trivial) (fun _ _ h => h) hX | (rw [if_neg (by omega)]; go_simp; exact hK _ _ hB rfl (fun _ _ h => h) hX)
  ·intro vs Wx A lst hA hB hls hX hno hpre K hK
   have e32 := ((hA 32).trans (show _ = vs 14 by kernel_rfl)).trans (by repeat first | exact hpre.1 rfl | replace hpre := hpre.2)
   clear hA hpre
   go_simp
   first | exact hK _ _ hB (by trivial) (fun _ _ h => h) hX | (rw [if_neg (by omega)]; go_simp; exact hK _ _ hB rfl (fun _ _ h => h) hX)
  ·intro vs Wx A lst hA hB hls hX hno hpre K hK
   have hx9 : ∃ g : Int, vs 9 = .int .i64 (m + g) ∧ (0 ≤ g ∧ g ≤ 4611686018427387904 ∧ 1 ≤ g ∧ (g ≤ M → Cm.ClLight x.cl)) := by repeat first | exact hpre.1 rfl | replace hpre := hpre.2
   obtain ⟨gx9, hv9, hh9⟩ := hx9
   have e27 := ((hA 27).trans (show _ = vs 9 by kernel_rfl)).trans hv9
   have e33 := ((hA 33).trans (show _ = vs 15 by kernel_rfl)).trans (by repeat first | exact hpre.1 rfl | replace hpre := hpre.2)
   obtain ⟨j1, j2, j3, j4⟩ := hh9
   have hh9 := And.intro j1 (And.intro j2 (And.intro j3 j4))
   have hw9 : IntKind.i64.wrap (m + gx9 + (x.outs.length : Nat)) = m + gx9 + (x.outs.length : Nat) := by rw [IntKind.wrap_i64]; omega
   clear hA hpre
   go_simp
   first | exact hK _ _ hB ⟨gx9, rfl, hh9⟩ (fun _ _ h => h) hX | (rw [hw9]; exact hK _ _ hB ⟨gx9, rfl, hh9⟩ (fun _ _ h => h) hX) | (refine hK _ _ hB ⟨gx9, ?_, hh9⟩ (fun _ _ h => h) hX; first | rfl | (simp only [hw9]) | go_num)
  ·intro vs Wx lst hall hX hB hF
   refine fun A17 hA K17 hK17 => ?_
   have e34 := (hA 34).trans (show _ = vs 16 by kernel_rfl)
   clear hA
   obtain ⟨g, hL, j1, j2, j3, j4⟩ := hF 16 (by decide)
   rw [hL] at e34
   clear hF
   go_simp
   refine hK17 _ _ ?_
   have HB3 := Lib.hid (below_trans HBn.out hB)
   have HS2 : Hid (m + g + (x.outs.length : Nat) ≤ M → ∀ t ∈ l.take (k + 1), EnLight M t) := fun q => HSN.out ⟨j4 (by omega), by omega⟩
   clear hB hX hall HXK HW HD HSN j4 hL
   simp only [Ri.Tail, Ri.puts]
   go_simp
   go_wp2
   go_roundg (l.length - (k + 1))
   case measure => omega
   case rel => exact ⟨k + 1, _, by first | rfl | go_num | (congr 1; omega), rfl, by omega, by omega, by omega, by omega, HS2.out, HB3.out⟩
end Go.Proofs.Ytpfpjbeofogbgaa.Bk
end
section
set_option maxRecDepth 100000
namespace Go.Proofs.Ytpfpjbeofogbgaa.Re
open Go.RowKit
open Sv (Ca Sr Cp SvsAt CasAt CpsAt CpCells cpv cpe six)
open Bk (En Ev EnsAt EnCells Cont EnOk OtsAt OtCells keepB heap_far below_alloc below_trans alloc_new heap_set add_lit ten ecs ecs_at ec)
open Cm (Ln Cl LnsAt LnCells)
open Sh (Ot)
theorem chain10 {w w' : World} {b : Nat} {c0 c1 c2 c3 c4 c5 c6 c7 c8 c9 : Value} {T : TypeId} (a0 a1 a2 a3 a4 a5 a6 a7 a8 a9 : Value) (h : w.heap[b]? = some (.cells #[c0, c1, c2, c3, c4, c5, c6, c7, c8, c9] T (0, 0))) (hw : w' = ((((((((((w.setCell ⟨b, 0, none⟩ a0).setCell ⟨b, 1, none⟩ a1).setCell ⟨b, 2, none⟩ a2).setCell ⟨b, 3, none⟩ a3).setCell ⟨b, 4, none⟩ a4).setCell ⟨b, 5, none⟩ a5).setCell ⟨b, 6, none⟩ a6).setCell ⟨b, 7, none⟩ a7).setCell ⟨b, 8, none⟩ a8).setCell ⟨b, 9, none⟩ a9)) : w'.heap[b]? = some (.cells #[a0, a1, a2, a3, a4, a5, a6, a7, a8, a9] T (0, 0)) := by
 subst hw
 have h0 := heap_set h 0 a0
 have h1 := heap_set h0 1 a1
 have h2 := heap_set h1 2 a2
 have h3 := heap_set h2 3 a3
 have h4 := heap_set h3 4 a4
 have h5 := heap_set h4 5 a5
 have h6 := heap_set h5 6 a6
 have h7 := heap_set h6 7 a7
 have h8 := heap_set h7 8 a8
 have h9 := heap_set h8 9 a9
 exact h9.trans (by kernel_rfl)
theorem grown_refl (w : World) (r : Option Nat) : w.grownBy w r := ⟨rfl, rfl, rfl, Nat.le_refl _, fun _ _ _ => rfl⟩
theorem grown_set {W W' : World} {b : Nat} (h : W.grownBy W' (some b)) (j : Nat) (u : Value) : W.grownBy (W'.setCell ⟨b, j, none⟩ u) (some b) :=
 ⟨h.os, h.tape, h.output, by simpa using h.size, fun k hk hne => (Below.heap_setCell _ _ _ _ (fun e => hne (by rw [e]))).trans (h.block k hk hne)⟩
theorem frz10 {w : World} {b : Nat} {cs : Array Value} {T : TypeId} (h : w.heap[b]? = some (.cells cs T (0, 0))) : w.frozen? ⟨b, 0, none⟩ = false ∧ w.frozen? ⟨b, 1, none⟩ = false ∧ w.frozen? ⟨b, 2, none⟩ = false ∧ w.frozen? ⟨b, 3, none⟩ = false ∧ w.frozen? ⟨b, 4, none⟩ = false ∧ w.frozen? ⟨b, 5, none⟩ = false ∧ w.frozen? ⟨b, 6, none⟩ = false ∧ w.frozen? ⟨b, 7, none⟩ = false ∧ w.frozen? ⟨b, 8, none⟩ = false ∧ w.frozen? ⟨b, 9, none⟩ = false := by
 refine ⟨?_, ?_, ?_, ?_, ?_, ?_, ?_, ?_, ?_, ?_⟩ <;> simp [World.frozen?, h]
theorem lns_one {K : Nat → Prop} {w : World} {q : Nat} {l : Ln} {T : TypeId} (hm : l.mods = []) (hK : K q) (h : w.heap[q]? = some (.cells #[.string (mk l.proc), .slice none 0 0, .int .i64 l.date, .int .i64 l.units, .int .i64 l.billed, .int .i64 l.prior] T (0, 0))) : LnsAt K w (.slice (some ⟨q, 0, none⟩) 1 1) [l] := by
 refine ⟨_, _, rfl, Nat.le_refl _, by unfold maxLen; omega, Or.inr ⟨q, 0, rfl, hK, (Array.getElem?_eq_some_iff.1 h).1, fun j x hj => ?_⟩⟩
 have hj0 : j = 0 := by have := (List.getElem?_eq_some_iff.1 hj).1; simpa using this
 subst hj0
 obtain rfl : l = x := by simpa using hj
 refine ⟨.slice none 0 0, ?_, by rw [hm]; exact TxAt.nil _ _⟩
 obtain ⟨h0, h1, h2, h3, h4, h5⟩ := six h
 exact ⟨h0, h1, h2, h3, h4, h5⟩
theorem ots_one {K : Nat → Prop} {w : World} {q : Nat} {o : Ot} {T : TypeId} (hK : K q) (h : w.heap[q]? = some (.cells #[.int .i64 o.al, .int .i64 o.de, .int .i64 o.cp, .int .i64 o.cn, .int .i64 o.plan, .int .i64 o.wr, .int .i64 o.pr, .int .i64 o.deny] T (0, 0))) : OtsAt K w (.slice (some ⟨q, 0, none⟩) 1 1) [o] := by
 refine ⟨_, _, rfl, Nat.le_refl _, by unfold maxLen; omega, Or.inr ⟨q, 0, rfl, hK, (Array.getElem?_eq_some_iff.1 h).1, fun j x hj => ?_⟩⟩
 have hj0 : j = 0 := by have := (List.getElem?_eq_some_iff.1 hj).1; simpa using this
 subst hj0
 obtain rfl : o = x := by simpa using hj
 refine ⟨?_, ?_, ?_, ?_, ?_, ?_, ?_, ?_⟩ <;> (rw [cell_of_row w q _ _ T (0, 0) h]; rfl)
theorem ens_of {w : World} {g : Nat} {cs : Array Value} {L : List Ev} (h : w.heap[g]? = some (.cells cs Bk.TE (0, 0))) (hc : cs.toList = ecs L) (hk : ∀ x ∈ L, Cont All w x) (hl : L.length ≤ 1000000) : EnsAt All w (.slice (some ⟨g, 0, none⟩) L.length L.length) (L.map (·.e)) := by
 refine ⟨_, _, by rw [List.length_map], by rw [List.length_map]; exact Nat.le_refl _, by unfold maxLen; omega, Or.inr ⟨g, 0, rfl, trivial, (Array.getElem?_eq_some_iff.1 h).1, fun j x hj => ?_⟩⟩
 rw [List.getElem?_map] at hj
 obtain ⟨y, hy, rfl⟩ := Option.map_eq_some_iff.1 hj
 have e : ∀ i, i < 10 → w.cell? ⟨g, 0 + j * 10 + i, none⟩ = (ec y)[i]? := fun i hi => by
  have q := ecs_at L j y hy i hi
  rw [← hc] at q
  rw [cell_of_row w g _ cs _ (0, 0) h, Nat.zero_add]
  simpa using q
 refine ⟨y.m, y.o, ⟨e 0 (by omega), e 1 (by omega), e 2 (by omega), e 3 (by omega), e 4 (by omega), e 5 (by omega), e 6 (by omega), e 7 (by omega), e 8 (by omega), e 9 (by omega)⟩, ?_⟩
 exact hk y (List.mem_of_getElem? hy)
set_option maxHeartbeats 2000000 in
theorem store10_op {ops : Array Oper} {rest : List Oper} {o : Oper} {a : Act} {w : World} {Q : Exit → Act → World → Prop} (hgd : o.guard = none) (m x : Nat) (ho : o.op = Op.store Bk.TE (.tmp m) (.tmp x)) (b : Nat) (s0 s1 s2 s5 : ByteArray) (i3 i4 i7 i8 : Int) (p6 p9 : Option Addr) (n6 k6 n9 k9 : Nat) (hm : a.tmps[m]?.getD undef = .pointer (some ⟨b, 0, none⟩)) (hx : a.tmps[x]?.getD undef = .agg #[(.string s0), (.string s1), (.string s2), (.int .i64 i3), (.int .i64 i4), (.string s5), (.slice p6 n6 k6), (.int .i64 i7), (.int .i64 i8), (.slice p9 n9 k9)]) {c0 c1 c2 c3 c4 c5 c6 c7 c8 c9 : Value} (h : w.heap[b]? = some (.cells #[c0, c1, c2, c3, c4, c5, c6, c7, c8, c9] Bk.TE (0, 0)))
  (hK : ∀ w', w'.heap[b]? = some (.cells #[(.string s0), (.string s1), (.string s2), (.int .i64 i3), (.int .i64 i4), (.string s5), (.slice p6 n6 k6), (.int .i64 i7), (.int .i64 i8), (.slice p9 n9 k9)] Bk.TE (0, 0)) → w.grownBy w' (some b) → wpList Try.prog ops Q rest (a.put o.dst undef) w') : wpList Try.prog ops Q (o :: rest) a w := by
 refine wpList_plain hgd fun K' hK' => ?_
 obtain ⟨x0, x1, x2, x3, x4, x5, x6, x7, x8, x9⟩ := ten h
 obtain ⟨z0, z1, z2, z3, z4, z5, z6, z7, z8, z9⟩ := frz10 h
 have hfin := hK ((((((((((w.setCell ⟨b, 0, none⟩ (.string s0)).setCell ⟨b, 1, none⟩ (.string s1)).setCell ⟨b, 2, none⟩ (.string s2)).setCell ⟨b, 3, none⟩ (.int .i64 i3)).setCell ⟨b, 4, none⟩ (.int .i64 i4)).setCell ⟨b, 5, none⟩ (.string s5)).setCell ⟨b, 6, none⟩ (.slice p6 n6 k6)).setCell ⟨b, 7, none⟩ (.int .i64 i7)).setCell ⟨b, 8, none⟩ (.int .i64 i8)).setCell ⟨b, 9, none⟩ (.slice p9 n9 k9)) (chain10 (.string s0) (.string s1) (.string s2) (.int .i64 i3) (.int .i64 i4) (.string s5) (.slice p6 n6 k6) (.int .i64 i7) (.int .i64 i8) (.slice p9 n9 k9) h rfl) (grown_set (grown_set (grown_set (grown_set (grown_set (grown_set (grown_set (grown_set (grown_set (grown_set (grown_refl w (some b)) 0 (.string s0)) 1 (.string s1)) 2 (.string s2)) 3 (.int .i64 i3)) 4 (.int .i64 i4)) 5 (.string s5)) 6 (.slice p6 n6 k6)) 7 (.int .i64 i7)) 8 (.int .i64 i8)) 9 (.slice p9 n9 k9))
 clear h hK
 unfold Oper.wp
 simp [execOp, ho, hm, hx, Instr.storeAt, go_sem, x0, x1, x2, x3, x4, x5, x6, x7, x8, x9, z0, z1, z2, z3, z4, z5, z6, z7, z8, z9]
 go_simp
 exact hK' _ _ hfin
def pLn (n : Int) : Ln := ⟨[57, 57, 50, 49, 51], [], 0, 0, n, 0⟩
def pOt (n : Int) : Ot := ⟨0, 0, 0, 0, n, 0, 0, 0⟩
def pE (id : Tx) (st n : Int) : En := ⟨⟨id, [], [], 0, 0, [], [pLn n]⟩, 0, st, [pOt n]⟩
set_option maxHeartbeats 2000000 in
theorem paid_any (id : Tx) (st n : Int) (w : World) : Calls Try.prog 23 #[.string (mk id), .int .i64 st, .int .i64 n] w fun e w' => (∃ a b, e = .returned (Bk.env (pE id st n) (.slice (some a) 1 1) (.slice (some b) 1 1)) ∧ Cont All w' ⟨pE id st n, .slice (some a) 1 1, .slice (some b) 1 1⟩) ∧ Below w.heap.size w w' := by
 have HB := Lib.hid (below_alloc w (.cells (#[.string ⟨#[]⟩, .string ⟨#[]⟩, .string ⟨#[]⟩, .int .i64 0, .int .i64 0, .string ⟨#[]⟩, .slice none 0 0, .int .i64 0, .int .i64 0, .slice none 0 0] : Array Value) 48))
 have HX := Lib.hid (alloc_new w (#[.string ⟨#[]⟩, .string ⟨#[]⟩, .string ⟨#[]⟩, .int .i64 0, .int .i64 0, .string ⟨#[]⟩, .slice none 0 0, .int .i64 0, .int .i64 0, .slice none 0 0] : Array Value) 48)
 have HS : Hid ((w.alloc (.cells (#[.string ⟨#[]⟩, .string ⟨#[]⟩, .string ⟨#[]⟩, .int .i64 0, .int .i64 0, .string ⟨#[]⟩, .slice none 0 0, .int .i64 0, .int .i64 0, .slice none 0 0] : Array Value) 48)).heap.size = w.heap.size + 1) := by show _ = _; simp
 go_enter Try.func23, Try.ntmps23
 go_upto_region 1 with fail
 generalize (w.alloc (.cells (#[.string ⟨#[]⟩, .string ⟨#[]⟩, .string ⟨#[]⟩, .int .i64 0, .int .i64 0, .string ⟨#[]⟩, .slice none 0 0, .int .i64 0, .int .i64 0, .slice none 0 0] : Array Value) 48)) = W at *
 generalize hp : w.heap.size = p at *
 have HS1 : Hid ((W.alloc (.cells (#[.string { data := #[57, 57, 50, 49, 51] }, .slice none 0 0, .int .i64 0, .int .i64 0, .int .i64 n, .int .i64 0] : Array Value) 56)).heap.size = p + 2) := by have := HS.out; show _ = _; simp; omega
 have HX2 : Hid (((W.alloc (.cells (#[.string { data := #[57, 57, 50, 49, 51] }, .slice none 0 0, .int .i64 0, .int .i64 0, .int .i64 n, .int .i64 0] : Array Value) 56)).alloc (.cells (#[.int .i64 0, .int .i64 0, .int .i64 0, .int .i64 0, .int .i64 n, .int .i64 0, .int .i64 0, .int .i64 0] : Array Value) 50)).heap[p]? = some (.cells (#[.string ⟨#[]⟩, .string ⟨#[]⟩, .string ⟨#[]⟩, .int .i64 0, .int .i64 0, .string ⟨#[]⟩, .slice none 0 0, .int .i64 0, .int .i64 0, .slice none 0 0] : Array Value) 48 (0, 0))) := keepB (keepB HX.out (below_alloc _ _)) (below_alloc _ _)
 have HL2 : Hid (((W.alloc (.cells (#[.string { data := #[57, 57, 50, 49, 51] }, .slice none 0 0, .int .i64 0, .int .i64 0, .int .i64 n, .int .i64 0] : Array Value) 56)).alloc (.cells (#[.int .i64 0, .int .i64 0, .int .i64 0, .int .i64 0, .int .i64 n, .int .i64 0, .int .i64 0, .int .i64 0] : Array Value) 50)).heap[p + 1]? = some (.cells (#[.string { data := #[57, 57, 50, 49, 51] }, .slice none 0 0, .int .i64 0, .int .i64 0, .int .i64 n, .int .i64 0] : Array Value) 56 (0, 0))) := by
  have h := keepB (alloc_new W (#[.string { data := #[57, 57, 50, 49, 51] }, .slice none 0 0, .int .i64 0, .int .i64 0, .int .i64 n, .int .i64 0] : Array Value) 56) (below_alloc _ (.cells (#[.int .i64 0, .int .i64 0, .int .i64 0, .int .i64 0, .int .i64 n, .int .i64 0, .int .i64 0, .int .i64 0] : Array Value) 50))
  rwa [HS.out] at h
 have HO2 : Hid (((W.alloc (.cells (#[.string { data := #[57, 57, 50, 49, 51] }, .slice none 0 0, .int .i64 0, .int .i64 0, .int .i64 n, .int .i64 0] : Array Value) 56)).alloc (.cells (#[.int .i64 0, .int .i64 0, .int .i64 0, .int .i64 0, .int .i64 n, .int .i64 0, .int .i64 0, .int .i64 0] : Array Value) 50)).heap[p + 2]? = some (.cells (#[.int .i64 0, .int .i64 0, .int .i64 0, .int .i64 0, .int .i64 n, .int .i64 0, .int .i64 0, .int .i64 0] : Array Value) 50 (0, 0))) := by
  have h := alloc_new (W.alloc (.cells (#[.string { data := #[57, 57, 50, 49, 51] }, .slice none 0 0, .int .i64 0, .int .i64 0, .int .i64 n, .int .i64 0] : Array Value) 56)) (#[.int .i64 0, .int .i64 0, .int .i64 0, .int .i64 0, .int .i64 n, .int .i64 0, .int .i64 0, .int .i64 0] : Array Value) 50
  rwa [HS1.out] at h
 have HB2 : Hid (Below p w ((W.alloc (.cells (#[.string { data := #[57, 57, 50, 49, 51] }, .slice none 0 0, .int .i64 0, .int .i64 0, .int .i64 n, .int .i64 0] : Array Value) 56)).alloc (.cells (#[.int .i64 0, .int .i64 0, .int .i64 0, .int .i64 0, .int .i64 n, .int .i64 0, .int .i64 0, .int .i64 0] : Array Value) 50))) := HB.out.trans ((below_trans (below_alloc W _) (below_alloc _ _)).mono (by have := HS.out; omega))
 have hs0 := HS.out
 have hs1 := HS1.out
 obtain ⟨x0, x1, x2, x3, x4, x5, x6, x7, x8, x9⟩ := ten HX.out
 obtain ⟨z0, z1, z2, z3, z4, z5, z6, z7, z8, z9⟩ := frz10 HX.out
 have hpw : p < W.heap.size := by omega
 go_wp2_with (first | (refine store10_op rfl _ _ rfl p _ _ _ _ _ _ _ _ _ _ _ _ _ _ rfl rfl HX2.out ?_; intro w9 hw9 hg9) | (rw [hs0]) | (rw [hs1]))
 obtain ⟨n0, n1, n2, n3, n4, n5, n6, n7, n8, n9⟩ := ten hw9
 have HBF : Hid (Below p w w9) := HB2.out.grown hg9 (by have := HB2.out.size; omega) (fun j hj => by injection hj with hj; omega)
 have HLF : Hid (w9.heap[p + 1]? = some (.cells (#[.string { data := #[57, 57, 50, 49, 51] }, .slice none 0 0, .int .i64 0, .int .i64 0, .int .i64 n, .int .i64 0] : Array Value) 56 (0, 0))) := (hg9.block _ (by have := (Array.getElem?_eq_some_iff.1 HL2.out).1; exact this) (fun e => by injection e with e; omega)).trans HL2.out
 have HOF : Hid (w9.heap[p + 2]? = some (.cells (#[.int .i64 0, .int .i64 0, .int .i64 0, .int .i64 0, .int .i64 n, .int .i64 0, .int .i64 0, .int .i64 0] : Array Value) 50 (0, 0))) := (hg9.block _ (by have := (Array.getElem?_eq_some_iff.1 HO2.out).1; exact this) (fun e => by injection e with e; omega)).trans HO2.out
 clear hw9 hg9
 refine bodyPost_ret (v := .agg #[(.string (mk id)), (.string ⟨#[]⟩), (.string ⟨#[]⟩), (.int .i64 0), (.int .i64 0), (.string ⟨#[]⟩), (.slice (some ⟨p + 1, 0, none⟩) 1 1), (.int .i64 0), (.int .i64 st), (.slice (some ⟨p + 2, 0, none⟩) 1 1)]) (by simp [results, Try.results23, go_sem, n0, n1, n2, n3, n4, n5, n6, n7, n8, n9]) rfl ?_
 exact ⟨⟨_, _, rfl, lns_one (l := pLn n) rfl trivial HLF.out, ots_one (o := pOt n) trivial HOF.out⟩, by first | exact HBF.out | (rw [hp]; exact HBF.out)⟩
end Go.Proofs.Ytpfpjbeofogbgaa.Re
end
