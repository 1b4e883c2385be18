/-
  Texts put together (merge.py): RTailX, BWeight.
-/
import Derived.Deep.Cut
import Derived.Test.YtpfpjbeofogbgaaMg7
import Derived.Test.YtpfpjbeofogbgaaMg6
/-
  The law of regions whose last operations wait, with what is known of the values that have come up (two new boxes are two).
-/
section
namespace Go.Proofs.Ytpfpjbeofogbgaa.Ri
open Go

def StepX (P : Program) (l : List Oper) (Q : Exit → Act → World → Prop) (a0 : Act) (B : World → Prop) (F : Nat → (Nat → Value) → World → Prop) (X : (Nat → Bool) → (Nat → Value) → Prop) (s : Nat) (k : Nat) (o : Oper) : Prop :=
  ∀ (vs : Nat → Value) (w : World) (A : Act) (lst : Nat → Bool), (∀ t : Nat, A.tmps[t]?.getD undef = (puts l 0 vs a0).tmps[t]?.getD undef) → B w → (∀ j, lst j = true → F j vs w) → X lst vs → (∀ j, s ≤ j → lst j = false) → Pre F vs w o.after.toList → ∀ K : Act → World → Prop, (∀ v w', B w' → F k (upd vs k v) w' → (∀ j, j ≠ k → F j vs w → F j vs w') → X (fun j => if j = k then true else lst j) (upd vs k v) → K (A.put o.dst v) w') → o.wp P A w K Q
def EachX (P : Program) (l : List Oper) (Q : Exit → Act → World → Prop) (a0 : Act) (B : World → Prop) (F : Nat → (Nat → Value) → World → Prop) (X : (Nat → Bool) → (Nat → Value) → Prop) (s : Nat) : Nat → List Oper → Prop
  | _, [] => True
  | k, o :: r => (o.guard = none ∧ StepX P l Q a0 B F X s k o) ∧ EachX P l Q a0 B F X s (k + 1) r
theorem EachX.get {P : Program} {l : List Oper} {Q : Exit → Act → World → Prop} {a0 : Act} {B : World → Prop} {F : Nat → (Nat → Value) → World → Prop} {X : (Nat → Bool) → (Nat → Value) → Prop} {s : Nat} : ∀ (r : List Oper) (k i : Nat) (o : Oper), EachX P l Q a0 B F X s k r → r[i]? = some o → o.guard = none ∧ StepX P l Q a0 B F X s (k + i) o
  | [], _, _, _, _, h => by simp at h
  | x :: r, k, 0, o, hh, h => by simp at h; subst h; exact hh.1
  | x :: r, k, i + 1, o, hh, h => by
    simp at h
    have := EachX.get r (k + 1) i o hh.2 h
    rwa [show k + 1 + i = k + (i + 1) by omega] at this
theorem wp_region_tailX {P : Program} {id : Nat} {l : List Oper} {Q : Exit → Act → World → Prop} {a0 : Act} {w0 : World} (s : Nat) (hm : P.follows .mixedOrders = true) (hap : apartD l = true) (hbk : backB 0 l = true)
    (hsl : s < l.length) (htl : tailOk l s = true)
    (B : World → Prop) (F : Nat → (Nat → Value) → World → Prop) (X : (Nat → Bool) → (Nat → Value) → Prop) (deps : Nat → List Nat) (hdp : depsOk deps 0 l = true)
    (hloc : ∀ j vs i v w, i ∉ deps j → F j vs w → F j (upd vs i v) w) (h0 : B w0.drew) (hX0 : ∀ vs, puts l 0 vs a0 = a0 → X (fun _ => false) vs) (hop : EachX P l Q a0 B F X s 0 (l.take s))
    (hlast : ∀ (vs : Nat → Value) (w : World) (lst : Nat → Bool), (∀ j, j < s → lst j = true) → X lst vs → B w → (∀ j, j < s → F j vs w) → Tail P l Q a0 s (l.drop s) vs w) :
    (Code.region id l.toArray true).wp P Q a0 w0 := by
  refine wp_region_any hm (wpAny_inv (fun listed a w => listed.size = l.length ∧ ((∀ j, listed.getD j false = true → ∀ d ∈ deps j, listed.getD d false = true) ∧ ∀ j o, listed.getD j false = true → l[j]? = some o → ∀ e ∈ o.after, Region.binds .any e = true → listed.getD e.on false = true) ∧ ∃ vs, a = puts l 0 vs a0 ∧ (((∀ j, s ≤ j → listed.getD j false = false) ∧ X (fun j => listed.getD j false) vs ∧ B w ∧ ∀ j, listed.getD j false = true → F j vs w) ∨ ∃ t, s ≤ t ∧ t ≤ l.length ∧ (∀ j, j < t → listed.getD j false = true) ∧ (∀ j, t ≤ j → listed.getD j false = false) ∧ Tail P l Q a0 t (l.drop t) vs w)) ?_ ?_ _ _ _ _ (by rw [opn_new]; exact Nat.le_refl _) ?_)
  · rintro listed a w ⟨hsz, ⟨hcl, hcd⟩, vs, rfl, hcase⟩ i hi
    obtain ⟨hni, oi, hoi, hpre⟩ := mem_ready.1 hi
    have ho' : l[i]? = some oi := by simpa using hoi
    have hil : i < l.length := (List.getElem?_eq_some_iff.1 ho').1
    have hnf : listed.getD i false = false := by
      have : i < listed.size := by omega
      simpa [this] using hni
    have hset : ∀ j, (listed.setIfInBounds i true).getD j false = true → j = i ∨ listed.getD j false = true := fun j hj => by
      by_cases hji : i = j
      · exact Or.inl hji.symm
      · rw [getD_set_ne false hji] at hj; exact Or.inr hj
    have hself : (listed.setIfInBounds i true).getD i false = true := by
      have : i < listed.size := by omega
      simp [this]
    have hdeps : ∀ j, (listed.setIfInBounds i true).getD j false = true → ∀ d ∈ deps j, (listed.setIfInBounds i true).getD d false = true := fun j hj d hdd => by
      rcases hset j hj with rfl | hj'
      · have := depsOk_spec deps l 0 j oi hdp ho'
        rw [Nat.zero_add] at this
        rcases this d hdd with rfl | ⟨e, he, hb, hde⟩
        · exact hself
        · exact getD_set_true (hcl _ (hpre e he hb) d hde)
      · exact getD_set_true (hcl j hj' d hdd)
    have hcd2 : ∀ j o, (listed.setIfInBounds i true).getD j false = true → l[j]? = some o → ∀ e ∈ o.after, Region.binds .any e = true → (listed.setIfInBounds i true).getD e.on false = true := fun j o hj hoj e he hb => by
      rcases hset j hj with rfl | hj'
      · obtain rfl : o = oi := Option.some.inj (hoj.symm.trans ho')
        exact getD_set_true (hpre e he hb)
      · exact getD_set_true (hcd j o hj' hoj e he hb)
    have hputs : ∀ v, (puts l 0 vs a0).put oi.dst v = puts l 0 (upd vs i v) a0 := fun v => by have := puts_put l 0 i oi vs a0 v hap ho'; rwa [Nat.zero_add] at this
    have later : s ≤ i → (∀ j, j < i → listed.getD j false = true) := fun hsi j hj => by
      exact reach_spec (listed := fun j => listed.getD j false = true) hcd j l.length i (fun o ho e he hb => by
        obtain rfl : o = oi := Option.some.inj (ho.symm.trans ho')
        exact hpre e he hb) ((tailOk_spec htl i oi hsi ho').1 j hj)
    have hdrop : l.drop i = oi :: l.drop (i + 1) := by
      rw [List.drop_eq_getElem_cons hil]
      have : l[i] = oi := by rw [List.getElem?_eq_getElem hil] at ho'; exact Option.some.inj ho'
      rw [this]
    have hd2 : (i < s ∧ (∀ j, s ≤ j → listed.getD j false = false) ∧ X (fun j => listed.getD j false) vs ∧ B w ∧ ∀ j, listed.getD j false = true → F j vs w) ∨ (s ≤ i ∧ (∀ j, i ≤ j → listed.getD j false = false) ∧ Tail P l Q a0 i (l.drop i) vs w) := by
      rcases hcase with ⟨hns, hX, hB, hF⟩ | ⟨t, hst, htl', hlow, hhigh, hT⟩
      · by_cases his : i < s
        · exact Or.inl ⟨his, hns, hX, hB, hF⟩
        · have hsi : s ≤ i := by omega
          have hl := later hsi
          have : i = s := by
            rcases Nat.lt_or_ge s i with h | h
            · have h1 := hl s h; rw [hns s (Nat.le_refl _)] at h1; cases h1
            · omega
          subst this
          exact Or.inr ⟨Nat.le_refl _, hns, hlast vs w (fun j => listed.getD j false) (fun j hj => hl j hj) hX hB fun j hj => hF j (hl j hj)⟩
      · have hti : t ≤ i := by
          rcases Nat.lt_or_ge i t with h | h
          · rw [hlow i h] at hnf; cases hnf
          · exact h
        have hl := later (by omega)
        have : i = t := by
          rcases Nat.lt_or_ge t i with h | h
          · have h1 := hl t h; rw [hhigh t (Nat.le_refl _)] at h1; cases h1
          · omega
        subst this
        exact Or.inr ⟨hst, hhigh, hT⟩
    rcases hd2 with ⟨his, hns, hX, hB, hF⟩ | ⟨hsi, hhigh, hT⟩
    · have hot : (l.take s)[i]? = some oi := by rw [List.getElem?_take, if_pos his]; exact ho'
      obtain ⟨hgd, hst⟩ := EachX.get (l.take s) 0 i oi hop hot
      rw [Nat.zero_add] at hst
      refine wpOp_step hoi fun K hK => ?_
      rw [if_pos (by simp [Region.wanted, hgd])]
      refine hst vs w _ (fun j => listed.getD j false) (fun _ => rfl) hB hF hX hns (Pre.of _ fun e he hb => hF _ (hpre e (by simpa using he) hb)) K fun v w' hB' hFi hFj hX' => hK _ _ ?_
      have hfun : (fun j => (listed.setIfInBounds i true).getD j false) = fun j => if j = i then true else listed.getD j false := by
        funext j
        by_cases hji : j = i
        · subst hji; rw [if_pos rfl]; exact hself
        · rw [if_neg hji, getD_set_ne false (fun e => hji e.symm)]
      refine ⟨by simp [hsz], ⟨hdeps, hcd2⟩, upd vs i v, hputs v, Or.inl ⟨fun j hj => ?_, by rw [hfun]; exact hX', hB', fun j hj => ?_⟩⟩
      · rw [getD_set_ne false (by omega)]; exact hns j hj
      · by_cases hji : j = i
        · subst hji; exact hFi
        · rcases hset j hj with h | hj'
          · exact absurd h hji
          · refine hloc j vs i v w' (fun hin => ?_) (hFj j hji (hF j hj'))
            rw [hcl j hj' i hin] at hnf
            cases hnf
    · rw [hdrop] at hT
      refine wpOp_step hoi fun K hK => ?_
      rw [if_pos (by simp [Region.wanted, (tailOk_spec htl i oi hsi ho').2])]
      refine hT _ (fun _ => rfl) K fun v w' hT' => hK _ _ ?_
      refine ⟨by simp [hsz], ⟨hdeps, hcd2⟩, upd vs i v, hputs v, Or.inr ⟨i + 1, by omega, hil, fun j hj => ?_, fun j hj => ?_, hT'⟩⟩
      · rcases Nat.lt_or_ge j i with h | h
        · exact getD_set_true (later hsi j h)
        · obtain rfl : j = i := by omega
          exact hself
      · rw [getD_set_ne false (by omega)]; exact hhigh j (by omega)
  · rintro listed a w ⟨hsz, ⟨hcl, hcd⟩, vs, rfl, hcase⟩ hr
    have all : ∀ n, ∀ j, j < n → j < l.length → listed.getD j false = true := by
      intro n
      induction n with
      | zero => intro j h; omega
      | succ n ih =>
        intro j hjn hjl
        rcases Nat.lt_or_ge j n with h | h
        · exact ih j h hjl
        obtain rfl : j = n := by omega
        have hoj : l[j]? = some l[j] := List.getElem?_eq_getElem hjl
        by_cases hc : listed.getD j false = true
        · exact hc
        · exfalso
          have hjs : j < listed.size := by omega
          have hmem : j ∈ Region.ready .any l.toArray listed := mem_ready.2 ⟨by simpa [hjs] using hc, l[j], by simp, fun e he hbe => by
            have := backB_spec l 0 j _ hbk hoj e he hbe
            exact ih e.on (by omega) (by omega)⟩
          rw [hr] at hmem
          cases hmem
    rcases hcase with ⟨hns, hX, hB, hF⟩ | ⟨t, hst, htl', hlow, hhigh, hT⟩
    · exfalso
      have h1 := all (s + 1) s (by omega) hsl
      rw [hns s (Nat.le_refl _)] at h1
      cases h1
    · have : t = l.length := by
        rcases Nat.lt_or_ge t l.length with h | h
        · have h1 := all (t + 1) t (by omega) h
          rw [hhigh t (Nat.le_refl _)] at h1
          cases h1
        · omega
      subst this
      rw [List.drop_length] at hT
      exact hT
  · obtain ⟨vs, hvs⟩ := puts_self l 0 a0
    have hno : ∀ j, (Array.replicate l.toArray.size false).getD j false = false := fun j => by
      rw [Array.getD_eq_getD_getElem?, Array.getElem?_replicate]
      split <;> rfl
    refine ⟨by simp, ⟨fun j hj => ?_, fun j o hj => ?_⟩, vs, hvs.symm, Or.inl ⟨fun j _ => hno j, by rw [show (fun j => (Array.replicate l.toArray.size false).getD j false) = fun _ => false from funext hno]; exact hX0 vs hvs, h0, fun j hj => ?_⟩⟩
    all_goals
      rw [hno] at hj
      cases hj
end Go.Proofs.Ytpfpjbeofogbgaa.Ri
end

/-
  What the reference's Weight of entries answers, as a contract: where it is not above the limit, there is not too much of anything.
-/
section
set_option linter.unusedSimpArgs false
set_option linter.unusedVariables false
set_option maxRecDepth 100000
namespace Go.Proofs.Ytpfpjbeofogbgaa.Bk
open Go.RowKit
open Cm (Ln Cl cl0 LnsAt ClsAt ClCells lnv clv LnOk ClOk ClLight)
open Sh (Ot)

def EnOk (x : En) : Prop := ClOk x.cl ∧ x.outs.length ≤ 281474976710656
def EnLight (M : Int) (x : En) : Prop := ClLight x.cl ∧ (x.outs.length : Int) ≤ M
theorem cls_one {w : World} {g : Nat} {c : Cl} {m : Value} (h : w.heap[g]? = some (.cells #[.string (mk c.id), .string (mk c.mem), .string (mk c.fam), .int .i64 c.net, .int .i64 c.does, .string (mk c.ref), m] 45 (0, 0))) (hl : LnsAt All w m c.lines) : ClsAt All w (.slice (some ⟨g, 0, none⟩) 1 1) [c] := by
  refine ⟨some ⟨g, 0, none⟩, 1, rfl, by simp, by simp [maxLen], Or.inr ⟨g, 0, rfl, trivial, (Array.getElem?_eq_some_iff.1 h).1, fun j x hj => ?_⟩⟩
  cases j with
  | succ j => simp at hj
  | zero =>
    simp at hj; subst hj
    refine ⟨m, ?_, hl⟩
    refine ⟨?_, ?_, ?_, ?_, ?_, ?_, ?_⟩ <;> rw [cell_of_row w g _ _ _ (0, 0) h] <;> rfl
theorem light_snoc {M : Int} (l : List En) (k : Nat) (t : En) (hx : l[k]? = some t) (h : ∀ t ∈ l.take k, EnLight M t) (ht : EnLight M t) : ∀ t ∈ l.take (k + 1), EnLight M t := by
  intro s hs
  rw [List.take_add_one, hx] at hs
  rcases List.mem_append.1 hs with h1 | h1
  · exact h s h1
  · simp at h1; rw [h1]; exact ht
set_option maxHeartbeats 8000000 in
theorem bweight_any (M : Int) (hM0 : 1 ≤ M) (hM : M ≤ 3000) (l : List En) (v : Value) (w : World) (h : EnsAt All w v l) (hz : ∀ x ∈ l, EnOk x) :
    Calls Try.prog 22 #[v, .int .i64 M] w fun e w' => (∃ n : Int, e = .returned (.int .i64 n) ∧ (n ≤ M → (l.length : Int) ≤ M ∧ ∀ x ∈ l, EnLight M x)) ∧ Below w.heap.size w w' := by
  obtain ⟨fa, fk, rfl, hm1, hm2⟩ := h.form
  have HF := Lib.hid h
  have HZ := Lib.hid hz
  clear h hz
  go_enter Try.func22, Try.ntmps22
  go_wp2
  go_loopg [5, 6] (l.length) (fun gg s5 s6 wr => ∃ (k : Nat) (m : Int), s6 = .int .i64 k ∧ s5 = .int .i64 m ∧ k ≤ l.length ∧ l.length - k ≤ gg ∧ (k : Int) ≤ m ∧ m ≤ 5000000000000000000 ∧ Hid (m ≤ M → ∀ x ∈ l.take k, EnLight M x) ∧ Hid (Below w.heap.size w wr))
  case atStart => exact ⟨0, 0, rfl, rfl, Nat.zero_le _, by omega, by omega, by omega, (fun _ x hx => by simp at hx), Below.refl _ _⟩
  case round =>
    obtain ⟨k, m, rfl, rfl, hk, hgk, hm0, hm5, HA, HBn⟩ := hrel
    by_cases hmM : m ≤ M
    case neg =>
      have d1 : decide (m ≤ M) = false := decide_eq_false hmM
      clear HA
      by_cases hlt : k < l.length
      · go_wp2
        go_ret
        exact ⟨⟨m, rfl, fun q => absurd q (by omega)⟩, HBn.out⟩
      · have hltz : ¬ (k : Int) < (l.length : Int) := by omega
        go_wp2
        go_ret
        exact ⟨⟨m, rfl, fun q => absurd q (by omega)⟩, HBn.out⟩
    by_cases hlt : k < l.length
    case neg =>
      have hltz : ¬ (k : Int) < (l.length : Int) := by omega
      have HL : Hid ((l.length : Int) ≤ M ∧ ∀ x ∈ l, EnLight M x) := Lib.hid ⟨by omega, by have := HA.out hmM; rwa [List.take_of_length_le (by omega)] at this⟩
      have d1 : decide (m ≤ M) = true := decide_eq_true hmM
      clear HA
      go_wp2
      go_ret
      exact ⟨⟨m, rfl, fun _ => HL.out⟩, HBn.out⟩
    have d1 : decide (m ≤ M) = true := decide_eq_true hmM
    have hltz : (k : Int) < (l.length : Int) := by omega
    obtain ⟨b, oo, mm, mo, rfl, hb1, hx, hc, hco⟩ := EnsAt.get (HF.out.grw HBn.out) k hlt
    have hok := HZ.out _ (List.mem_of_getElem? hx)
    have HSN := Lib.hid (light_snoc (M := M) l k _ hx (HA.out hmM))
    generalize l[k] = x at *
    have HOK := Lib.hid hok.1
    have hol := hok.2
    have HXK : Hid (∀ W', Below wr.heap.size wr W' → EnCells W' b (oo + k * 10) x mm mo) := fun W' hW => hc.of (hW.block b hb1)
    have HCA : Hid (∀ w1, Below wr.heap.size wr w1 → LnsAt All w1 mm x.cl.lines) := fun w1 hb => (hco.grw hb).1
    obtain ⟨am, km, e1, -, -⟩ := Cm.LnsAt.form hco.1
    obtain ⟨ao, ko, e2, -, -⟩ := hco.2.form
    dsimp only at e1 e2
    subst e1 e2
    have hi1 : k < l.length := hlt
    have HW : Hid (∀ W g, Below wr.heap.size wr W → W.heap[g]? = some (.cells #[.string (mk x.cl.id), .string (mk x.cl.mem), .string (mk x.cl.fam), .int .i64 x.cl.net, .int .i64 x.cl.does, .string (mk x.cl.ref), .slice am x.cl.lines.length km] 45 (0, 0)) → Calls Try.prog 33 #[.slice (some ⟨g, 0, none⟩) 1 1, .int .i64 M] W fun e w' => (∃ n : Int, e = .returned (.int .i64 n) ∧ (0 ≤ n ∧ n ≤ 4611686018427387904 ∧ 1 ≤ n ∧ (n ≤ M → Cm.ClLight x.cl))) ∧ Below W.heap.size W w') := fun W g hb hg => by
      refine (Cm.weight2_any M (by omega) hM _ [x.cl] W (cls_one hg (HCA.out W hb)) (by intro c hc; simp at hc; rw [hc]; exact HOK.out)).mono ?_
      rintro e w' ⟨⟨n, e1, e2, e3, e4, e5⟩, hbb⟩
      refine ⟨⟨n, e1, e3, e4, ?_, fun q => e2 q _ (List.mem_singleton.2 rfl)⟩, hbb⟩
      by_cases q : n ≤ M
      · have := e5 q; simp at this; omega
      · omega
    clear hco hx hc hb1 hok HA HOK HCA
    have HD := Lib.hid (Below.drew (Below.refl wr.heap.size wr))
    obtain ⟨wo, hwo⟩ : ∃ z, z = wr := ⟨_, rfl⟩
    subst hwo
    go_upto_region 5 with fail
    refine Ri.wp_region_tailX 17 (by kernel_rfl) (by kernel_rfl) (by kernel_rfl) (by decide) (by kernel_rfl) (fun Wx => Below wo.heap.size wo Wx) (fun kz vs wz => (fun kx vx wx => match kx with | 0 => vx = .int .i64 m | 1 => vx = .slice (some ⟨b, oo, none⟩) l.length fk | 2 => vx = .int .i64 (k : Nat) | 3 => vx = .pointer (some ⟨b, oo + k * 10, none⟩) | 4 => vx = .pointer (some ⟨b, oo + k * 10, none⟩) | 5 => vx = clv x.cl (.slice am x.cl.lines.length km) | 6 => ∃ g, vx = .slice (some ⟨g, 0, none⟩) 1 1 ∧ wx.heap[g]? = some (.cells #[.string (mk x.cl.id), .string (mk x.cl.mem), .string (mk x.cl.fam), .int .i64 x.cl.net, .int .i64 x.cl.does, .string (mk x.cl.ref), .slice am x.cl.lines.length km] 45 (0, 0)) | 7 => vx = .int .i64 M | 8 => ∃ g : Int, vx = .int .i64 g ∧ (0 ≤ g ∧ g ≤ 4611686018427387904 ∧ 1 ≤ g ∧ (g ≤ M → Cm.ClLight x.cl)) | 9 => ∃ g : Int, vx = .int .i64 (m + g) ∧ (0 ≤ g ∧ g ≤ 4611686018427387904 ∧ 1 ≤ g ∧ (g ≤ M → Cm.ClLight x.cl)) | 10 => vx = .slice (some ⟨b, oo, none⟩) l.length fk | 11 => vx = .int .i64 (k : Nat) | 12 => vx = .pointer (some ⟨b, oo + k * 10, none⟩) | 13 => vx = .pointer (some ⟨b, oo + k * 10 + 9, none⟩) | 14 => vx = .slice ao x.outs.length ko | 15 => vx = .int .i64 (x.outs.length : Nat) | 16 => ∃ g : Int, vx = .int .i64 (m + g + (x.outs.length : Nat)) ∧ (0 ≤ g ∧ g ≤ 4611686018427387904 ∧ 1 ≤ g ∧ (g ≤ M → Cm.ClLight x.cl)) | _ => True : Nat → Value → World → Prop) kz (vs kz) wz) (fun lst vs => lst 17 = false → vs 17 = .int .i64 m) (fun kz => [kz]) (by kernel_rfl) (fun jz vs iz vz wz hiz hz => Ri.loc_own (F := (fun kx vx wx => match kx with | 0 => vx = .int .i64 m | 1 => vx = .slice (some ⟨b, oo, none⟩) l.length fk | 2 => vx = .int .i64 (k : Nat) | 3 => vx = .pointer (some ⟨b, oo + k * 10, none⟩) | 4 => vx = .pointer (some ⟨b, oo + k * 10, none⟩) | 5 => vx = clv x.cl (.slice am x.cl.lines.length km) | 6 => ∃ g, vx = .slice (some ⟨g, 0, none⟩) 1 1 ∧ wx.heap[g]? = some (.cells #[.string (mk x.cl.id), .string (mk x.cl.mem), .string (mk x.cl.fam), .int .i64 x.cl.net, .int .i64 x.cl.does, .string (mk x.cl.ref), .slice am x.cl.lines.length km] 45 (0, 0)) | 7 => vx = .int .i64 M | 8 => ∃ g : Int, vx = .int .i64 g ∧ (0 ≤ g ∧ g ≤ 4611686018427387904 ∧ 1 ≤ g ∧ (g ≤ M → Cm.ClLight x.cl)) | 9 => ∃ g : Int, vx = .int .i64 (m + g) ∧ (0 ≤ g ∧ g ≤ 4611686018427387904 ∧ 1 ≤ g ∧ (g ≤ M → Cm.ClLight x.cl)) | 10 => vx = .slice (some ⟨b, oo, none⟩) l.length fk | 11 => vx = .int .i64 (k : Nat) | 12 => vx = .pointer (some ⟨b, oo + k * 10, none⟩) | 13 => vx = .pointer (some ⟨b, oo + k * 10 + 9, none⟩) | 14 => vx = .slice ao x.outs.length ko | 15 => vx = .int .i64 (x.outs.length : Nat) | 16 => ∃ g : Int, vx = .int .i64 (m + g + (x.outs.length : Nat)) ∧ (0 ≤ g ∧ g ≤ 4611686018427387904 ∧ 1 ≤ g ∧ (g ≤ M → Cm.ClLight x.cl)) | _ => True : Nat → Value → World → Prop)) jz vs iz vz wz hiz hz) HD.out ?_ ⟨⟨rfl, ?_⟩, ⟨rfl, ?_⟩, ⟨rfl, ?_⟩, ⟨rfl, ?_⟩, ⟨rfl, ?_⟩, ⟨rfl, ?_⟩, ⟨rfl, ?_⟩, ⟨rfl, ?_⟩, ⟨rfl, ?_⟩, ⟨rfl, ?_⟩, ⟨rfl, ?_⟩, ⟨rfl, ?_⟩, ⟨rfl, ?_⟩, ⟨rfl, ?_⟩, ⟨rfl, ?_⟩, ⟨rfl, ?_⟩, ⟨rfl, ?_⟩, trivial⟩ ?_
    · intro vs hvs
      intro _
      have h1 := congrArg (fun a => a.tmps[5]?.getD undef) hvs
      exact (show vs 17 = _ by kernel_rfl).trans (h1.trans (show _ = Value.int .i64 m by kernel_rfl))
    · intro vs Wx A lst hA hB hls hX hno hpre K hK
      have e5 := ((hA 5).trans (show _ = vs 17 by kernel_rfl)).trans (hX (hno 17 (by decide)))
      clear hA hpre
      go_simp
      first | exact hK _ _ hB rfl (fun _ _ h => h) hX | exact hK _ _ hB trivial (fun _ _ h => h) hX | (rw [if_neg (by omega)]; go_simp; exact hK _ _ hB rfl (fun _ _ h => h) hX)
    · intro vs Wx A lst hA hB hls hX hno hpre K hK
      have e0 := (hA 0).trans (show _ = Value.slice (some ⟨b, oo, none⟩) l.length fk by kernel_rfl)
      clear hA hpre
      go_simp
      first | exact hK _ _ hB rfl (fun _ _ h => h) hX | exact hK _ _ hB trivial (fun _ _ h => h) hX | (rw [if_neg (by omega)]; go_simp; exact hK _ _ hB rfl (fun _ _ h => h) hX)
    · intro vs Wx A lst hA hB hls hX hno hpre K hK
      have e6 := (hA 6).trans (show _ = Value.int .i64 (k : Nat) by kernel_rfl)
      clear hA hpre
      go_simp
      first | exact hK _ _ hB rfl (fun _ _ h => h) hX | exact hK _ _ hB trivial (fun _ _ h => h) hX | (rw [if_neg (by omega)]; go_simp; exact hK _ _ hB rfl (fun _ _ h => h) hX)
    · intro vs Wx A lst hA hB hls hX hno hpre K hK
      have e19 := ((hA 19).trans (show _ = vs 1 by kernel_rfl)).trans (by first | exact hpre.1 rfl | exact hpre.2.1 rfl | exact hpre.2.2.1 rfl | exact hpre.2.2.2.1 rfl | exact hpre.2.2.2.2.1 rfl | exact hpre.2.2.2.2.2.1 rfl | exact hpre.2.2.2.2.2.2.1 rfl | exact hpre.2.2.2.2.2.2.2.1 rfl | exact hpre.2.2.2.2.2.2.2.2.1 rfl | exact hpre.2.2.2.2.2.2.2.2.2.1 rfl)
      have e20 := ((hA 20).trans (show _ = vs 2 by kernel_rfl)).trans (by first | exact hpre.1 rfl | exact hpre.2.1 rfl | exact hpre.2.2.1 rfl | exact hpre.2.2.2.1 rfl | exact hpre.2.2.2.2.1 rfl | exact hpre.2.2.2.2.2.1 rfl | exact hpre.2.2.2.2.2.2.1 rfl | exact hpre.2.2.2.2.2.2.2.1 rfl | exact hpre.2.2.2.2.2.2.2.2.1 rfl | exact hpre.2.2.2.2.2.2.2.2.2.1 rfl)
      clear hA hpre
      go_simp
      first | exact hK _ _ hB rfl (fun _ _ h => h) hX | exact hK _ _ hB trivial (fun _ _ h => h) hX | (rw [if_neg (by omega)]; go_simp; exact hK _ _ hB rfl (fun _ _ h => h) hX)
    · intro vs Wx A lst hA hB hls hX hno hpre K hK
      have e21 := ((hA 21).trans (show _ = vs 3 by kernel_rfl)).trans (by first | exact hpre.1 rfl | exact hpre.2.1 rfl | exact hpre.2.2.1 rfl | exact hpre.2.2.2.1 rfl | exact hpre.2.2.2.2.1 rfl | exact hpre.2.2.2.2.2.1 rfl | exact hpre.2.2.2.2.2.2.1 rfl | exact hpre.2.2.2.2.2.2.2.1 rfl | exact hpre.2.2.2.2.2.2.2.2.1 rfl | exact hpre.2.2.2.2.2.2.2.2.2.1 rfl)
      clear hA hpre
      go_simp
      first | exact hK _ _ hB rfl (fun _ _ h => h) hX | exact hK _ _ hB trivial (fun _ _ h => h) hX | (rw [if_neg (by omega)]; go_simp; exact hK _ _ hB rfl (fun _ _ h => h) hX)
    · intro vs Wx A lst hA hB hls hX hno hpre K hK
      have e22 := ((hA 22).trans (show _ = vs 4 by kernel_rfl)).trans (by first | exact hpre.1 rfl | exact hpre.2.1 rfl | exact hpre.2.2.1 rfl | exact hpre.2.2.2.1 rfl | exact hpre.2.2.2.2.1 rfl | exact hpre.2.2.2.2.2.1 rfl | exact hpre.2.2.2.2.2.2.1 rfl | exact hpre.2.2.2.2.2.2.2.1 rfl | exact hpre.2.2.2.2.2.2.2.2.1 rfl | exact hpre.2.2.2.2.2.2.2.2.2.1 rfl)
      obtain ⟨x0, x1, x2, x3, x4, x5, x6, x7, x8, x9⟩ := HXK.out Wx hB
      clear hA hpre
      go_simp
      first | exact hK _ _ hB rfl (fun _ _ h => h) hX | exact hK _ _ hB trivial (fun _ _ h => h) hX | (rw [if_neg (by omega)]; go_simp; exact hK _ _ hB rfl (fun _ _ h => h) hX)
    · intro vs Wx A lst hA hB hls hX hno hpre K hK
      have e23 := ((hA 23).trans (show _ = vs 5 by kernel_rfl)).trans (by first | exact hpre.1 rfl | exact hpre.2.1 rfl | exact hpre.2.2.1 rfl | exact hpre.2.2.2.1 rfl | exact hpre.2.2.2.2.1 rfl | exact hpre.2.2.2.2.2.1 rfl | exact hpre.2.2.2.2.2.2.1 rfl | exact hpre.2.2.2.2.2.2.2.1 rfl | exact hpre.2.2.2.2.2.2.2.2.1 rfl | exact hpre.2.2.2.2.2.2.2.2.2.1 rfl)
      clear hA hpre
      go_simp
      refine hK _ _ (below_trans hB (below_alloc Wx _)) ⟨_, rfl, heap_alloc_new Wx _⟩ (fun jz hj hz => ?_) hX
      match jz, hj, hz with
      | 0, _, hz => exact hz
      | 1, _, hz => exact hz
      | 2, _, hz => exact hz
      | 3, _, hz => exact hz
      | 4, _, hz => exact hz
      | 5, _, hz => exact hz
      | 6, hj, _ => exact absurd rfl hj
      | 7, _, hz => exact hz
      | 8, _, hz => exact hz
      | 9, _, hz => exact hz
      | 10, _, hz => exact hz
      | 11, _, hz => exact hz
      | 12, _, hz => exact hz
      | 13, _, hz => exact hz
      | 14, _, hz => exact hz
      | 15, _, hz => exact hz
      | 16, _, hz => exact hz
      | n + 17, _, hz => exact hz
    · intro vs Wx A lst hA hB hls hX hno hpre K hK
      have e1 := (hA 1).trans (show _ = Value.int .i64 M by kernel_rfl)
      clear hA hpre
      go_simp
      first | exact hK _ _ hB rfl (fun _ _ h => h) hX | exact hK _ _ hB trivial (fun _ _ h => h) hX | (rw [if_neg (by omega)]; go_simp; exact hK _ _ hB rfl (fun _ _ h => h) hX)
    · intro vs Wx A lst hA hB hls hX hno hpre K hK
      have hx6 : ∃ g, vs 6 = .slice (some ⟨g, 0, none⟩) 1 1 ∧ Wx.heap[g]? = some (.cells #[.string (mk x.cl.id), .string (mk x.cl.mem), .string (mk x.cl.fam), .int .i64 x.cl.net, .int .i64 x.cl.does, .string (mk x.cl.ref), .slice am x.cl.lines.length km] 45 (0, 0)) := by first | exact hpre.1 rfl | exact hpre.2.1 rfl | exact hpre.2.2.1 rfl | exact hpre.2.2.2.1 rfl | exact hpre.2.2.2.2.1 rfl | exact hpre.2.2.2.2.2.1 rfl | exact hpre.2.2.2.2.2.2.1 rfl | exact hpre.2.2.2.2.2.2.2.1 rfl | exact hpre.2.2.2.2.2.2.2.2.1 rfl | exact hpre.2.2.2.2.2.2.2.2.2.1 rfl
      obtain ⟨gx6, hv6, hh6⟩ := hx6
      have e24 := ((hA 24).trans (show _ = vs 6 by kernel_rfl)).trans hv6
      have e25 := ((hA 25).trans (show _ = vs 7 by kernel_rfl)).trans (by first | exact hpre.1 rfl | exact hpre.2.1 rfl | exact hpre.2.2.1 rfl | exact hpre.2.2.2.1 rfl | exact hpre.2.2.2.2.1 rfl | exact hpre.2.2.2.2.2.1 rfl | exact hpre.2.2.2.2.2.2.1 rfl | exact hpre.2.2.2.2.2.2.2.1 rfl | exact hpre.2.2.2.2.2.2.2.2.1 rfl | exact hpre.2.2.2.2.2.2.2.2.2.1 rfl)
      clear hA hpre
      go_simp
      go_at_call 33
      refine (HW.out Wx _ hB hh6).mono ?_
      rintro e w4 ⟨⟨n1, rfl, hn1⟩, hg⟩
      refine hK _ _ (below_trans hB hg) ⟨n1, rfl, hn1⟩ (fun jz hj hz => ?_) hX
      match jz, hj, hz with
      | 0, _, hz => exact hz
      | 1, _, hz => exact hz
      | 2, _, hz => exact hz
      | 3, _, hz => exact hz
      | 4, _, hz => exact hz
      | 5, _, hz => exact hz
      | 6, _, hz => exact (hz.elim fun g h => ⟨g, h.1, keepB h.2 hg⟩)
      | 7, _, hz => exact hz
      | 8, _, hz => exact hz
      | 9, _, hz => exact hz
      | 10, _, hz => exact hz
      | 11, _, hz => exact hz
      | 12, _, hz => exact hz
      | 13, _, hz => exact hz
      | 14, _, hz => exact hz
      | 15, _, hz => exact hz
      | 16, _, hz => exact hz
      | n + 17, _, hz => exact hz
    · intro vs Wx A lst hA hB hls hX hno hpre K hK
      have e18 := ((hA 18).trans (show _ = vs 0 by kernel_rfl)).trans (by first | exact hpre.1 rfl | exact hpre.2.1 rfl | exact hpre.2.2.1 rfl | exact hpre.2.2.2.1 rfl | exact hpre.2.2.2.2.1 rfl | exact hpre.2.2.2.2.2.1 rfl | exact hpre.2.2.2.2.2.2.1 rfl | exact hpre.2.2.2.2.2.2.2.1 rfl | exact hpre.2.2.2.2.2.2.2.2.1 rfl | exact hpre.2.2.2.2.2.2.2.2.2.1 rfl)
      have hx8 : ∃ g : Int, vs 8 = .int .i64 g ∧ (0 ≤ g ∧ g ≤ 4611686018427387904 ∧ 1 ≤ g ∧ (g ≤ M → Cm.ClLight x.cl)) := by first | exact hpre.1 rfl | exact hpre.2.1 rfl | exact hpre.2.2.1 rfl | exact hpre.2.2.2.1 rfl | exact hpre.2.2.2.2.1 rfl | exact hpre.2.2.2.2.2.1 rfl | exact hpre.2.2.2.2.2.2.1 rfl | exact hpre.2.2.2.2.2.2.2.1 rfl | exact hpre.2.2.2.2.2.2.2.2.1 rfl | exact hpre.2.2.2.2.2.2.2.2.2.1 rfl
      obtain ⟨gx8, hv8, hh8⟩ := hx8
      have e26 := ((hA 26).trans (show _ = vs 8 by kernel_rfl)).trans hv8
      obtain ⟨j1, j2, j3, j4⟩ := hh8
      have hh8 := And.intro j1 (And.intro j2 (And.intro j3 j4))
      have hw9 : IntKind.i64.wrap (m + gx8) = m + gx8 := by rw [IntKind.wrap_i64]; omega
      clear hA hpre
      go_simp
      first | exact hK _ _ hB ⟨gx8, rfl, hh8⟩ (fun _ _ h => h) hX | (rw [hw9]; exact hK _ _ hB ⟨gx8, rfl, hh8⟩ (fun _ _ h => h) hX) | (refine hK _ _ hB ⟨gx8, ?_, hh8⟩ (fun _ _ h => h) hX; first | rfl | (simp only [hw9]) | go_num)
    · intro vs Wx A lst hA hB hls hX hno hpre K hK
      have e0 := (hA 0).trans (show _ = Value.slice (some ⟨b, oo, none⟩) l.length fk by kernel_rfl)
      clear hA hpre
      go_simp
      first | exact hK _ _ hB rfl (fun _ _ h => h) hX | exact hK _ _ hB trivial (fun _ _ h => h) hX | (rw [if_neg (by omega)]; go_simp; exact hK _ _ hB rfl (fun _ _ h => h) hX)
    · intro vs Wx A lst hA hB hls hX hno hpre K hK
      have e6 := (hA 6).trans (show _ = Value.int .i64 (k : Nat) by kernel_rfl)
      clear hA hpre
      go_simp
      first | exact hK _ _ hB rfl (fun _ _ h => h) hX | exact hK _ _ hB trivial (fun _ _ h => h) hX | (rw [if_neg (by omega)]; go_simp; exact hK _ _ hB rfl (fun _ _ h => h) hX)
    · intro vs Wx A lst hA hB hls hX hno hpre K hK
      have e28 := ((hA 28).trans (show _ = vs 10 by kernel_rfl)).trans (by first | exact hpre.1 rfl | exact hpre.2.1 rfl | exact hpre.2.2.1 rfl | exact hpre.2.2.2.1 rfl | exact hpre.2.2.2.2.1 rfl | exact hpre.2.2.2.2.2.1 rfl | exact hpre.2.2.2.2.2.2.1 rfl | exact hpre.2.2.2.2.2.2.2.1 rfl | exact hpre.2.2.2.2.2.2.2.2.1 rfl | exact hpre.2.2.2.2.2.2.2.2.2.1 rfl)
      have e29 := ((hA 29).trans (show _ = vs 11 by kernel_rfl)).trans (by first | exact hpre.1 rfl | exact hpre.2.1 rfl | exact hpre.2.2.1 rfl | exact hpre.2.2.2.1 rfl | exact hpre.2.2.2.2.1 rfl | exact hpre.2.2.2.2.2.1 rfl | exact hpre.2.2.2.2.2.2.1 rfl | exact hpre.2.2.2.2.2.2.2.1 rfl | exact hpre.2.2.2.2.2.2.2.2.1 rfl | exact hpre.2.2.2.2.2.2.2.2.2.1 rfl)
      clear hA hpre
      go_simp
      first | exact hK _ _ hB rfl (fun _ _ h => h) hX | exact hK _ _ hB trivial (fun _ _ h => h) hX | (rw [if_neg (by omega)]; go_simp; exact hK _ _ hB rfl (fun _ _ h => h) hX)
    · intro vs Wx A lst hA hB hls hX hno hpre K hK
      have e30 := ((hA 30).trans (show _ = vs 12 by kernel_rfl)).trans (by first | exact hpre.1 rfl | exact hpre.2.1 rfl | exact hpre.2.2.1 rfl | exact hpre.2.2.2.1 rfl | exact hpre.2.2.2.2.1 rfl | exact hpre.2.2.2.2.2.1 rfl | exact hpre.2.2.2.2.2.2.1 rfl | exact hpre.2.2.2.2.2.2.2.1 rfl | exact hpre.2.2.2.2.2.2.2.2.1 rfl | exact hpre.2.2.2.2.2.2.2.2.2.1 rfl)
      clear hA hpre
      go_simp
      first | exact hK _ _ hB rfl (fun _ _ h => h) hX | exact hK _ _ hB trivial (fun _ _ h => h) hX | (rw [if_neg (by omega)]; go_simp; exact hK _ _ hB rfl (fun _ _ h => h) hX)
    · intro vs Wx A lst hA hB hls hX hno hpre K hK
      have e31 := ((hA 31).trans (show _ = vs 13 by kernel_rfl)).trans (by first | exact hpre.1 rfl | exact hpre.2.1 rfl | exact hpre.2.2.1 rfl | exact hpre.2.2.2.1 rfl | exact hpre.2.2.2.2.1 rfl | exact hpre.2.2.2.2.2.1 rfl | exact hpre.2.2.2.2.2.2.1 rfl | exact hpre.2.2.2.2.2.2.2.1 rfl | exact hpre.2.2.2.2.2.2.2.2.1 rfl | exact hpre.2.2.2.2.2.2.2.2.2.1 rfl)
      obtain ⟨x0, x1, x2, x3, x4, x5, x6, x7, x8, x9⟩ := HXK.out Wx hB
      clear hA hpre
      go_simp
      first | exact hK _ _ hB rfl (fun _ _ h => h) hX | exact hK _ _ hB trivial (fun _ _ h => h) hX | (rw [if_neg (by omega)]; go_simp; exact hK _ _ hB rfl (fun _ _ h => h) hX)
    · intro vs Wx A lst hA hB hls hX hno hpre K hK
      have e32 := ((hA 32).trans (show _ = vs 14 by kernel_rfl)).trans (by first | exact hpre.1 rfl | exact hpre.2.1 rfl | exact hpre.2.2.1 rfl | exact hpre.2.2.2.1 rfl | exact hpre.2.2.2.2.1 rfl | exact hpre.2.2.2.2.2.1 rfl | exact hpre.2.2.2.2.2.2.1 rfl | exact hpre.2.2.2.2.2.2.2.1 rfl | exact hpre.2.2.2.2.2.2.2.2.1 rfl | exact hpre.2.2.2.2.2.2.2.2.2.1 rfl)
      clear hA hpre
      go_simp
      first | exact hK _ _ hB rfl (fun _ _ h => h) hX | exact hK _ _ hB trivial (fun _ _ h => h) hX | (rw [if_neg (by omega)]; go_simp; exact hK _ _ hB rfl (fun _ _ h => h) hX)
    · intro vs Wx A lst hA hB hls hX hno hpre K hK
      have hx9 : ∃ g : Int, vs 9 = .int .i64 (m + g) ∧ (0 ≤ g ∧ g ≤ 4611686018427387904 ∧ 1 ≤ g ∧ (g ≤ M → Cm.ClLight x.cl)) := by first | exact hpre.1 rfl | exact hpre.2.1 rfl | exact hpre.2.2.1 rfl | exact hpre.2.2.2.1 rfl | exact hpre.2.2.2.2.1 rfl | exact hpre.2.2.2.2.2.1 rfl | exact hpre.2.2.2.2.2.2.1 rfl | exact hpre.2.2.2.2.2.2.2.1 rfl | exact hpre.2.2.2.2.2.2.2.2.1 rfl | exact hpre.2.2.2.2.2.2.2.2.2.1 rfl
      obtain ⟨gx9, hv9, hh9⟩ := hx9
      have e27 := ((hA 27).trans (show _ = vs 9 by kernel_rfl)).trans hv9
      have e33 := ((hA 33).trans (show _ = vs 15 by kernel_rfl)).trans (by first | exact hpre.1 rfl | exact hpre.2.1 rfl | exact hpre.2.2.1 rfl | exact hpre.2.2.2.1 rfl | exact hpre.2.2.2.2.1 rfl | exact hpre.2.2.2.2.2.1 rfl | exact hpre.2.2.2.2.2.2.1 rfl | exact hpre.2.2.2.2.2.2.2.1 rfl | exact hpre.2.2.2.2.2.2.2.2.1 rfl | exact hpre.2.2.2.2.2.2.2.2.2.1 rfl)
      obtain ⟨j1, j2, j3, j4⟩ := hh9
      have hh9 := And.intro j1 (And.intro j2 (And.intro j3 j4))
      have hw9 : IntKind.i64.wrap (m + gx9 + (x.outs.length : Nat)) = m + gx9 + (x.outs.length : Nat) := by rw [IntKind.wrap_i64]; omega
      clear hA hpre
      go_simp
      first | exact hK _ _ hB ⟨gx9, rfl, hh9⟩ (fun _ _ h => h) hX | (rw [hw9]; exact hK _ _ hB ⟨gx9, rfl, hh9⟩ (fun _ _ h => h) hX) | (refine hK _ _ hB ⟨gx9, ?_, hh9⟩ (fun _ _ h => h) hX; first | rfl | (simp only [hw9]) | go_num)
    · intro vs Wx lst hall hX hB hF
      refine fun A17 hA K17 hK17 => ?_
      have e34 := (hA 34).trans (show _ = vs 16 by kernel_rfl)
      clear hA
      obtain ⟨g, hL, j1, j2, j3, j4⟩ := hF 16 (by decide)
      rw [hL] at e34
      clear hF
      go_simp
      refine hK17 _ _ ?_
      have HB3 := Lib.hid (below_trans HBn.out hB)
      have HS2 : Hid (m + g + (x.outs.length : Nat) ≤ M → ∀ t ∈ l.take (k + 1), EnLight M t) := fun q => HSN.out ⟨j4 (by omega), by omega⟩
      clear hB hX hall HXK HW HD HSN j4 hL
      simp only [Ri.Tail, Ri.puts]
      go_simp
      go_wp2
      go_roundg (l.length - (k + 1))
      case measure => omega
      case rel => exact ⟨k + 1, _, by first | rfl | go_num | (congr 1; omega), rfl, by omega, by omega, by omega, by omega, HS2.out, HB3.out⟩
end Go.Proofs.Ytpfpjbeofogbgaa.Bk
end
