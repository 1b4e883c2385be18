/-
  Texts put together (merge.py): PRCh, RInvB, RTail.
-/
import Derived.Test.YtoibhgoaibjopaaGreatDoorMp33
import Derived.Test.YtoibhgoaibjopaaGreatDoorMp14
import Derived.Test.YtoibhgoaibjopaaGreatDoorMp30
/-
  Whether a plan may be, as the reference says: Check, as a contract.
-/
section
set_option linter.unusedSimpArgs false
set_option linter.unusedVariables false
set_option maxRecDepth 100000
namespace Go.Proofs.YtoibhgoaibjopaaGreatDoor.Pl
open Go.RowKit
open Wo (Wd WdsAt box_cell box_two keepB heap_far)

theorem all_take_eq {p : Ru → Bool} (l : List Ru) (k : Nat) (c : Ru) (h : l[k]? = some c) (hk : (l.take k).all p = true) : (l.take (k + 1)).all p = p c := by
  rw [List.take_add_one, h]; simp_all
theorem all_take_no {p : Ru → Bool} (l : List Ru) (k : Nat) (h : (l.take k).all p = false) : l.all p = false := by
  rw [List.all_eq_false] at h ⊢
  obtain ⟨x, hx, hp⟩ := h
  exact ⟨x, List.mem_of_mem_take hx, hp⟩
set_option maxHeartbeats 16000000 in
theorem rcheck_any (p : Pn) (m : Value) (w : World) (h : RusAt All w m p.rules) :
    Calls Tryz.prog 9 #[pnv p m] w fun e w' => e = .returned (.int .i64 (checkE p)) ∧ Below w.heap.size w w' := by
  have hb := below_alloc w (.cells #[.int .i64 p.mode, .int .i64 p.indDed, .int .i64 p.famDed, .int .i64 p.indOop, .int .i64 p.famOop, m] 24)
  have HB := Lib.hid hb
  have HX := Lib.hid (heap_alloc_new w (.cells #[.int .i64 p.mode, .int .i64 p.indDed, .int .i64 p.famDed, .int .i64 p.indOop, .int .i64 p.famOop, m] 24))
  have HRu := Lib.hid (h.grw hb)
  have HG1 := Lib.hid fun W => rgood_eq p.indDed W
  have HG4 := Lib.hid fun W => rgood_eq p.famOop W
  obtain ⟨ma, mc, rfl, hm1, hm2, hm3⟩ := h.form
  have hm3 : p.rules.length ≤ 281474976710656 := hm3
  obtain ⟨x0, x1, x2, x3, x4, x5⟩ := bsix HX.out
  obtain ⟨Q1, hQ1⟩ : ∃ Q1, Q1 = (((p.mode == 0) || (p.mode == 1)) && decide (p.rules.length ≤ 64)) := ⟨_, rfl⟩
  obtain ⟨Q2, hQ2⟩ : ∃ Q2, Q2 = ((Q1 && goodB p.indDed) && goodB p.famOop) := ⟨_, rfl⟩
  obtain ⟨Q3, hQ3⟩ : ∃ Q3, Q3 = ((((Q2 && decide (p.indDed ≤ p.famDed)) && decide (p.famDed ≤ p.famOop)) && decide (p.indDed ≤ p.indOop)) && decide (p.indOop ≤ p.famOop)) := ⟨_, rfl⟩
  have HP : Hid (planB p = (Q3 && p.rules.all ruleB)) := by
    show _ = _
    rw [hQ3, hQ2, hQ1, show (p.mode == 0) = decide (p.mode = 0) from rfl, show (p.mode == 1) = decide (p.mode = 1) from rfl]
    unfold planB limB
    simp only [Bool.and_assoc]
  have HE : Hid (checkE p = if planB p = true then 0 else 15) := rfl
  have HQ1 := Lib.hid hQ1
  have HQ2 := Lib.hid hQ2
  have HQ3 := Lib.hid hQ3
  have hl6 : decide ((p.rules.length : Int) ≤ 64) = decide (p.rules.length ≤ 64) := decide_eq_decide.2 (by omega)
  clear hb h hQ1 hQ2 hQ3
  generalize checkE p = R at *
  generalize planB p = PB at *
  go_enter Tryz.func9, Tryz.ntmps9
  go_upto_region 1 with fail
  generalize w.alloc (.cells #[.int .i64 p.mode, .int .i64 p.indDed, .int .i64 p.famDed, .int .i64 p.indOop, .int .i64 p.famOop, .slice ma p.rules.length mc] 24) = W0 at *
  generalize hp : w.heap.size = a0 at *
  go_cut [3] (fun s3 wx => s3 = .bool Q1 ∧ wx = W0)
  case first =>
    clear HQ2 HQ3 HP HE HRu HG1 HG4
    have HL := Lib.hid hl6
    clear hl6
    generalize hg6 : decide (p.rules.length ≤ 64) = G6 at *
    generalize hg0 : (p.mode == 0) = M0 at *
    generalize hg1 : (p.mode == 1) = M1 at *
    clear hg6
    have hl6 := HL.out
    clear HL
    cases M0 <;> cases M1 <;> cases G6
    all_goals
      go_wp2
      go_meet
      exact ⟨by rw [HQ1.out] <;> rfl, rfl⟩
  case rest =>
    obtain ⟨rfl, rfl⟩ := hcut
    clear hl6 HQ1
    go_upto_region 2 with fail
    go_cut [3] (fun s3 wx => s3 = .bool Q2 ∧ wx = wc)
    case first =>
      clear HQ3 HP HE HRu
      generalize goodB p.indDed = GA at *
      generalize goodB p.famOop = GB at *
      cases Q1 <;> cases GA <;> cases GB
      all_goals
        go_wp2_with (first | (go_at_call_of 20 (Value.int IntKind.i64 p.indDed); refine (HG1.out _).mono ?_; rintro e w1 ⟨rfl, rfl⟩) | (go_at_call_of 20 (Value.int IntKind.i64 p.famOop); refine (HG4.out _).mono ?_; rintro e w1 ⟨rfl, rfl⟩))
        go_meet
        exact ⟨by rw [HQ2.out] <;> rfl, rfl⟩
    case rest =>
      obtain ⟨rfl, rfl⟩ := hcut
      clear HQ2 HG1 HG4
      go_upto_region 3 with fail
      go_cut [3] (fun s3 wx => s3 = .bool Q3 ∧ wx = wc)
      case first =>
        clear HP HE HRu
        generalize hg1 : decide (p.indDed ≤ p.famDed) = D1 at *
        generalize hg2 : decide (p.famDed ≤ p.famOop) = D2 at *
        generalize hg3 : decide (p.indDed ≤ p.indOop) = D3 at *
        generalize hg4 : decide (p.indOop ≤ p.famOop) = D4 at *
        cases Q2
        · go_wp2
          go_meet
          exact ⟨by rw [HQ3.out] <;> rfl, rfl⟩
        cases D1
        · go_wp2
          go_meet
          exact ⟨by rw [HQ3.out] <;> rfl, rfl⟩
        cases D2
        · go_wp2
          go_meet
          exact ⟨by rw [HQ3.out] <;> rfl, rfl⟩
        cases D3
        · go_wp2
          go_meet
          exact ⟨by rw [HQ3.out] <;> rfl, rfl⟩
        cases D4
        all_goals
          go_wp2
          go_meet
          exact ⟨by rw [HQ3.out] <;> rfl, rfl⟩
      case rest =>
        obtain ⟨rfl, rfl⟩ := hcut
        clear HQ3
        have HW0 := Lib.hid (Below.refl wc.heap.size wc)
        have HQ0 : Hid (Q3 = (Q3 && (p.rules.take 0).all ruleB)) := by show _ = _; simp
        go_wp2
        go_loopg [3, 4] (p.rules.length) (fun g q i wr => ∃ (n : Nat) (Q : Bool), n ≤ p.rules.length ∧ g = p.rules.length - n ∧ q = .bool Q ∧ i = .int .i64 n ∧ Hid (Below wc.heap.size wc wr) ∧ Hid (Q = (Q3 && (p.rules.take n).all ruleB)))
        case atStart => exact ⟨0, Q3, Nat.zero_le _, rfl, rfl, rfl, HW0.out, HQ0.out⟩
        case round =>
          clear HW0 HQ0 x0 x1 x2 x3 x4 x5
          obtain ⟨n, Q, hn, hgk, rfl, rfl, HBr, HA⟩ := hrel
          obtain ⟨x0, x1, x2, x3, x4, x5⟩ := bsix (keepB HX.out HBr.out)
          have HBF : Hid (Below a0 w wr) := below_tr hp HB.out HBr.out
          cases Q with
          | false =>
            have hPB : PB = false := by
              rw [HP.out]
              have h := HA.out
              cases Q3
              · rfl
              · rw [all_take_no p.rules n (by simpa using h.symm)]; rfl
            have HRES : Hid (R = 15) := by show _ = _; rw [HE.out, hPB]; rfl
            clear hPB HA
            by_cases hlt : n < p.rules.length
            · go_wp2
              go_ret
              exact ⟨by rw [HRES.out] <;> rfl, by first | exact HBF.out | (rw [hp]; exact HBF.out)⟩
            · go_wp2
              go_ret
              exact ⟨by rw [HRES.out] <;> rfl, by first | exact HBF.out | (rw [hp]; exact HBF.out)⟩
          | true =>
            have hQ : Q3 = true ∧ (p.rules.take n).all ruleB = true := by
              have h := HA.out.symm
              rwa [Bool.and_eq_true] at h
            obtain ⟨rfl, hta⟩ := hQ
            by_cases hlt : n < p.rules.length
            · obtain ⟨b, o, kv, uv, sv, rfl, hbs, hx, hcc, hin⟩ := RusAt.get (HRu.out.grw HBr.out) n hlt
              obtain ⟨y0, y1, y2, y3, y4, y5, y6, y7⟩ := hcc
              obtain ⟨-, -, -, hk1, hk2, hk3⟩ := id hin
              obtain ⟨ka, kc, rfl, -, -⟩ := hk1.form
              obtain ⟨ua, uc, rfl, -, -⟩ := hk2.form
              obtain ⟨sa, sc, rfl, -, -, -⟩ := hk3.form
              have HC := Lib.hid (rck_rule p.rules[n] _ _ _ _ hin)
              have HT : Hid (ruleB p.rules[n] = (true && (p.rules.take (n + 1)).all ruleB)) := by show _ = _; rw [all_take_eq p.rules n _ hx hta, Bool.true_and]
              clear hx hin hk1 hk2 hk3 hta HA
              generalize p.rules[n] = ru at *
              generalize ruleB ru = RB at *
              go_wp2_with (go_at_call 21; refine HC.out.mono ?_; rintro e w3 ⟨rfl, hb3⟩; have HB3 := Lib.hid hb3; clear hb3)
              go_roundg (p.rules.length - (n + 1))
              case rel => exact ⟨n + 1, RB, by omega, rfl, rfl, by go_num, below_trans HBr.out HB3.out, HT.out⟩
              case measure => omega
            · have hall : p.rules.take n = p.rules := List.take_of_length_le (by omega)
              rw [hall] at hta
              have hPB : PB = true := by rw [HP.out, hta]; rfl
              have HRES : Hid (R = 0) := by show _ = _; rw [HE.out, hPB]; rfl
              clear hPB HA hta hall
              go_wp2
              go_ret
              exact ⟨by rw [HRES.out] <;> rfl, by first | exact HBF.out | (rw [hp]; exact HBF.out)⟩
end Go.Proofs.YtoibhgoaibjopaaGreatDoor.Pl
end

/-
  The law of regions by facts, where an operation may name a later one by an edge that does not bind (stores that may come late).
-/
section
namespace Go.Proofs.YtoibhgoaibjopaaGreatDoor.Ri
open Go
def backB : Nat → List Oper → Bool
  | _, [] => true
  | k, o :: l => (o.after.all fun e => !Region.binds .any e || decide (e.on < k)) && backB (k + 1) l
theorem backB_spec : ∀ (l : List Oper) (k i : Nat) (o : Oper), backB k l = true → l[i]? = some o → ∀ e ∈ o.after, Region.binds .any e = true → e.on < k + i
  | [], _, _, _, _, h => by simp at h
  | x :: l, k, 0, o, hb, h => by
    simp at h; subst h
    simp only [backB, Bool.and_eq_true, Array.all_eq_true_iff_forall_mem, Bool.or_eq_true, decide_eq_true_eq] at hb
    intro e he hbe
    rcases hb.1 e he with h1 | h1
    · rw [hbe] at h1; cases h1
    · exact h1
  | x :: l, k, i + 1, o, hb, h => by
    simp at h
    simp only [backB, Bool.and_eq_true] at hb
    intro e he hbe
    have := backB_spec l (k + 1) i o hb.2 h e he hbe
    omega
theorem wp_region_factsB {P : Program} {id : Nat} {l : List Oper} {Q : Exit → Act → World → Prop} {a0 : Act} {w0 : World} (hm : P.follows .mixedOrders = true) (hap : apartD l = true) (hbk : backB 0 l = true)
    (B : World → Prop) (F : Nat → (Nat → Value) → World → Prop) (deps : Nat → List Nat) (hdp : depsOk deps 0 l = true)
    (hloc : ∀ j vs i v w, i ∉ deps j → F j vs w → F j (upd vs i v) w) (h0 : B w0.drew) (hop : Each P l Q a0 B F 0 l)
    (hd : ∀ vs w, B w → (∀ j, j < l.length → F j vs w) → Q .normal (puts l 0 vs a0) w) : (Code.region id l.toArray true).wp P Q a0 w0 := by
  refine wp_region_any hm (wpAny_inv (fun listed a w => listed.size = l.length ∧ (∀ j, listed.getD j false = true → ∀ d ∈ deps j, listed.getD d false = true) ∧ ∃ vs, a = puts l 0 vs a0 ∧ B w ∧ ∀ j, listed.getD j false = true → F j vs w) ?_ ?_ _ _ _ _ (by rw [opn_new]; exact Nat.le_refl _) ?_)
  · rintro listed a w ⟨hsz, hcl, vs, rfl, hB, hF⟩ i hi
    obtain ⟨hni, o, ho, hpre⟩ := mem_ready.1 hi
    have ho' : l[i]? = some o := by simpa using ho
    have hil : i < l.length := (List.getElem?_eq_some_iff.1 ho').1
    have hnf : listed.getD i false = false := by
      have : i < listed.size := by omega
      simpa [this] using hni
    have hst := Each.get l 0 i o hop ho'
    rw [Nat.zero_add] at hst
    refine wpOp_step ho fun K hK => ?_
    refine hst vs w hB (fun e he hb => hF _ (hpre e he hb)) K fun v w' hB' hFi hFj => hK _ _ ?_
    have hset : ∀ j, (listed.setIfInBounds i true).getD j false = true → j = i ∨ listed.getD j false = true := fun j hj => by
      by_cases hji : i = j
      · exact Or.inl hji.symm
      · rw [getD_set_ne false hji] at hj; exact Or.inr hj
    refine ⟨by simp [hsz], fun j hj d hdd => ?_, upd vs i v, by have := puts_put l 0 i o vs a0 v hap ho'; rwa [Nat.zero_add] at this, hB', fun j hj => ?_⟩
    · rcases hset j hj with rfl | hj'
      · have := depsOk_spec deps l 0 j o hdp ho'
        rw [Nat.zero_add] at this
        rcases this d hdd with rfl | ⟨e, he, hb, hde⟩
        · have : d < listed.size := by omega
          simp [this]
        · exact getD_set_true (hcl _ (hpre e he hb) d hde)
      · exact getD_set_true (hcl j hj' d hdd)
    · by_cases hji : j = i
      · subst hji; exact hFi
      · rcases hset j hj with h | hj'
        · exact absurd h hji
        · refine hloc j vs i v w' (fun hin => ?_) (hFj j hji (hF j hj'))
          rw [hcl j hj' i hin] at hnf
          cases hnf
  · rintro listed a w ⟨hsz, hcl, vs, rfl, hB, hF⟩ hr
    refine hd vs w hB fun j hj => hF j ?_
    have all : ∀ n, ∀ j, j < n → j < l.length → listed.getD j false = true := by
      intro n
      induction n with
      | zero => intro j h; omega
      | succ n ih =>
        intro j hjn hjl
        rcases Nat.lt_or_ge j n with h | h
        · exact ih j h hjl
        obtain rfl : j = n := by omega
        have hoj : l[j]? = some l[j] := List.getElem?_eq_getElem hjl
        by_cases hc : listed.getD j false = true
        · exact hc
        · exfalso
          have hjs : j < listed.size := by omega
          have hmem : j ∈ Region.ready .any l.toArray listed := mem_ready.2 ⟨by simpa [hjs] using hc, l[j], by simp, fun e he hbe => by
            have := backB_spec l 0 j _ hbk hoj e he hbe
            exact ih e.on (by omega) (by omega)⟩
          rw [hr] at hmem
          cases hmem
    exact all (j + 1) j (by omega) hj
  · obtain ⟨vs, hvs⟩ := puts_self l 0 a0
    refine ⟨by simp, fun j hj => ?_, vs, hvs.symm, h0, fun j hj => ?_⟩
    all_goals
      exfalso
      rw [Array.getD_eq_getD_getElem?, Array.getElem?_replicate] at hj
      split at hj <;> simp at hj
theorem wp_region_lastingB {P : Program} {id : Nat} {l : List Oper} {Q : Exit → Act → World → Prop} {a0 : Act} {w0 : World} (hm : P.follows .mixedOrders = true) (hap : apartD l = true) (hbk : backB 0 l = true)
    (B : World → Prop) (F : Nat → (Nat → Value) → World → Prop) (deps : Nat → List Nat) (hdp : depsOk deps 0 l = true)
    (hloc : ∀ j vs i v w, i ∉ deps j → F j vs w → F j (upd vs i v) w) (h0 : B w0.drew) (hop : EachA P l Q a0 B F 0 l)
    (hd : ∀ vs w, B w → (∀ j, j < l.length → F j vs w) → Q .normal (puts l 0 vs a0) w) : (Code.region id l.toArray true).wp P Q a0 w0 :=
  wp_region_factsB hm hap hbk B F deps hdp hloc h0 (EachA.each l 0 hop) hd
theorem wp_region_lastingB_g {P : Program} {id : Nat} {l : List Oper} {Q : Exit → Act → World → Prop} {a0 : Act} {w0 : World} (hm : P.follows .mixedOrders = true) (hap : apartD l = true) (hbk : backB 0 l = true)
    (B : World → Prop) (F : Nat → (Nat → Value) → World → Prop) (deps : Nat → List Nat) (hdp : depsOk deps 0 l = true)
    (hloc : ∀ j vs i v w, i ∉ deps j → F j vs w → F j (upd vs i v) w) (h0 : B w0.drew) (hop : EachG P l Q a0 B F 0 l)
    (hd : ∀ vs w, B w → (∀ j, j < l.length → F j vs w) → Q .normal (puts l 0 vs a0) w) : (Code.region id l.toArray true).wp P Q a0 w0 :=
  wp_region_factsB hm hap hbk B F deps hdp hloc h0 (EachG.each l 0 hop) hd
end Go.Proofs.YtoibhgoaibjopaaGreatDoor.Ri
end

/-
  A region whose last operations wait, each, for all ahead of them (what is appended, and stored where it was read): the others come first, in whatever order, by facts; then these, one behind the other.
-/
section
namespace Go.Proofs.YtoibhgoaibjopaaGreatDoor.Ri
open Go

/-- Operation t waits for k: by itself, or by those that it waits for. -/
def reach (l : List Oper) : Nat → Nat → Nat → Bool
  | 0, _, _ => false
  | f + 1, k, t => match l[t]? with
    | none => false
    | some o => (o.after.any fun e => Region.binds .any e && e.on == k) || (o.after.any fun e => Region.binds .any e && reach l f k e.on)
theorem reach_spec {l : List Oper} {listed : Nat → Prop} (hcl : ∀ j o, listed j → l[j]? = some o → ∀ e ∈ o.after, Region.binds .any e = true → listed e.on) (k : Nat) :
    ∀ (f t : Nat), (∀ o, l[t]? = some o → ∀ e ∈ o.after, Region.binds .any e = true → listed e.on) → reach l f k t = true → listed k := by
  intro f
  induction f with
  | zero => intro t _ h; cases h
  | succ f ih =>
    intro t hp h
    unfold reach at h
    split at h
    · cases h
    · next o ho =>
      simp only [Bool.or_eq_true, Array.any_eq_true', Bool.and_eq_true, beq_iff_eq] at h
      rcases h with ⟨e, he, hb, rfl⟩ | ⟨e, he, hb, hr⟩
      · exact hp o ho e he hb
      · exact ih e.on (fun o' ho' e' he' hb' => hcl e.on o' (hp o ho e he hb) ho' e' he' hb') hr
def tailOk (l : List Oper) (s : Nat) : Bool := (List.range l.length).all fun t => decide (t < s) || (((List.range t).all fun k => reach l l.length k t) && ((l[t]?).bind (·.guard)).isNone)
theorem tailOk_spec {l : List Oper} {s : Nat} (h : tailOk l s = true) (t : Nat) (o : Oper) (hst : s ≤ t) (ho : l[t]? = some o) : (∀ k, k < t → reach l l.length k t = true) ∧ o.guard = none := by
  unfold tailOk at h
  have := List.all_eq_true.1 h t (List.mem_range.2 (List.getElem?_eq_some_iff.1 ho).1)
  rw [decide_eq_false (by omega), Bool.false_or, Bool.and_eq_true, ho] at this
  exact ⟨fun k hk => List.all_eq_true.1 this.1 k (List.mem_range.2 hk), Option.isNone_iff_eq_none.1 this.2⟩
def Tail (P : Program) (l : List Oper) (Q : Exit → Act → World → Prop) (a0 : Act) : Nat → List Oper → (Nat → Value) → World → Prop
  | _, [], vs, w => Q .normal (puts l 0 vs a0) w
  | t, o :: r, vs, w => ∀ (A : Act), (∀ t : Nat, A.tmps[t]?.getD undef = (puts l 0 vs a0).tmps[t]?.getD undef) → ∀ K : Act → World → Prop, (∀ v w', Tail P l Q a0 (t + 1) r (upd vs t v) w' → K (A.put o.dst v) w') → o.wp P A w K Q
theorem wp_region_tail {P : Program} {id : Nat} {l : List Oper} {Q : Exit → Act → World → Prop} {a0 : Act} {w0 : World} (s : Nat) (hm : P.follows .mixedOrders = true) (hap : apartD l = true) (hbk : backB 0 l = true)
    (hsl : s < l.length) (htl : tailOk l s = true)
    (B : World → Prop) (F : Nat → (Nat → Value) → World → Prop) (deps : Nat → List Nat) (hdp : depsOk deps 0 l = true)
    (hloc : ∀ j vs i v w, i ∉ deps j → F j vs w → F j (upd vs i v) w) (h0 : B w0.drew) (hop : EachA P l Q a0 B F 0 (l.take s))
    (hlast : ∀ (vs : Nat → Value) (w : World), B w → (∀ j, j < s → F j vs w) → Tail P l Q a0 s (l.drop s) vs w) :
    (Code.region id l.toArray true).wp P Q a0 w0 := by
  refine wp_region_any hm (wpAny_inv (fun listed a w => listed.size = l.length ∧ ((∀ j, listed.getD j false = true → ∀ d ∈ deps j, listed.getD d false = true) ∧ ∀ j o, listed.getD j false = true → l[j]? = some o → ∀ e ∈ o.after, Region.binds .any e = true → listed.getD e.on false = true) ∧ ∃ vs, a = puts l 0 vs a0 ∧ (((∀ j, s ≤ j → listed.getD j false = false) ∧ B w ∧ ∀ j, listed.getD j false = true → F j vs w) ∨ ∃ t, s ≤ t ∧ t ≤ l.length ∧ (∀ j, j < t → listed.getD j false = true) ∧ (∀ j, t ≤ j → listed.getD j false = false) ∧ Tail P l Q a0 t (l.drop t) vs w)) ?_ ?_ _ _ _ _ (by rw [opn_new]; exact Nat.le_refl _) ?_)
  · rintro listed a w ⟨hsz, ⟨hcl, hcd⟩, vs, rfl, hcase⟩ i hi
    obtain ⟨hni, oi, hoi, hpre⟩ := mem_ready.1 hi
    have ho' : l[i]? = some oi := by simpa using hoi
    have hil : i < l.length := (List.getElem?_eq_some_iff.1 ho').1
    have hnf : listed.getD i false = false := by
      have : i < listed.size := by omega
      simpa [this] using hni
    have hset : ∀ j, (listed.setIfInBounds i true).getD j false = true → j = i ∨ listed.getD j false = true := fun j hj => by
      by_cases hji : i = j
      · exact Or.inl hji.symm
      · rw [getD_set_ne false hji] at hj; exact Or.inr hj
    have hself : (listed.setIfInBounds i true).getD i false = true := by
      have : i < listed.size := by omega
      simp [this]
    have hdeps : ∀ j, (listed.setIfInBounds i true).getD j false = true → ∀ d ∈ deps j, (listed.setIfInBounds i true).getD d false = true := fun j hj d hdd => by
      rcases hset j hj with rfl | hj'
      · have := depsOk_spec deps l 0 j oi hdp ho'
        rw [Nat.zero_add] at this
        rcases this d hdd with rfl | ⟨e, he, hb, hde⟩
        · exact hself
        · exact getD_set_true (hcl _ (hpre e he hb) d hde)
      · exact getD_set_true (hcl j hj' d hdd)
    have hcd2 : ∀ j o, (listed.setIfInBounds i true).getD j false = true → l[j]? = some o → ∀ e ∈ o.after, Region.binds .any e = true → (listed.setIfInBounds i true).getD e.on false = true := fun j o hj hoj e he hb => by
      rcases hset j hj with rfl | hj'
      · obtain rfl : o = oi := Option.some.inj (hoj.symm.trans ho')
        exact getD_set_true (hpre e he hb)
      · exact getD_set_true (hcd j o hj' hoj e he hb)
    have hputs : ∀ v, (puts l 0 vs a0).put oi.dst v = puts l 0 (upd vs i v) a0 := fun v => by have := puts_put l 0 i oi vs a0 v hap ho'; rwa [Nat.zero_add] at this
    have later : s ≤ i → (∀ j, j < i → listed.getD j false = true) := fun hsi j hj => by
      exact reach_spec (listed := fun j => listed.getD j false = true) hcd j l.length i (fun o ho e he hb => by
        obtain rfl : o = oi := Option.some.inj (ho.symm.trans ho')
        exact hpre e he hb) ((tailOk_spec htl i oi hsi ho').1 j hj)
    have hdrop : l.drop i = oi :: l.drop (i + 1) := by
      rw [List.drop_eq_getElem_cons hil]
      have : l[i] = oi := by rw [List.getElem?_eq_getElem hil] at ho'; exact Option.some.inj ho'
      rw [this]
    have hd2 : (i < s ∧ (∀ j, s ≤ j → listed.getD j false = false) ∧ B w ∧ ∀ j, listed.getD j false = true → F j vs w) ∨ (s ≤ i ∧ (∀ j, i ≤ j → listed.getD j false = false) ∧ Tail P l Q a0 i (l.drop i) vs w) := by
      rcases hcase with ⟨hns, hB, hF⟩ | ⟨t, hst, htl', hlow, hhigh, hT⟩
      · by_cases his : i < s
        · exact Or.inl ⟨his, hns, hB, hF⟩
        · have hsi : s ≤ i := by omega
          have hl := later hsi
          have : i = s := by
            rcases Nat.lt_or_ge s i with h | h
            · have h1 := hl s h; rw [hns s (Nat.le_refl _)] at h1; cases h1
            · omega
          subst this
          exact Or.inr ⟨Nat.le_refl _, hns, hlast vs w hB fun j hj => hF j (hl j hj)⟩
      · have hti : t ≤ i := by
          rcases Nat.lt_or_ge i t with h | h
          · rw [hlow i h] at hnf; cases hnf
          · exact h
        have hl := later (by omega)
        have : i = t := by
          rcases Nat.lt_or_ge t i with h | h
          · have h1 := hl t h; rw [hhigh t (Nat.le_refl _)] at h1; cases h1
          · omega
        subst this
        exact Or.inr ⟨hst, hhigh, hT⟩
    rcases hd2 with ⟨his, hns, hB, hF⟩ | ⟨hsi, hhigh, hT⟩
    · have hot : (l.take s)[i]? = some oi := by rw [List.getElem?_take, if_pos his]; exact ho'
      have hst := Each.get (l.take s) 0 i oi (EachA.each _ 0 hop) hot
      rw [Nat.zero_add] at hst
      refine wpOp_step hoi fun K hK => ?_
      refine hst vs w hB (fun e he hb => hF _ (hpre e he hb)) K fun v w' hB' hFi hFj => hK _ _ ?_
      refine ⟨by simp [hsz], ⟨hdeps, hcd2⟩, upd vs i v, hputs v, Or.inl ⟨fun j hj => ?_, hB', fun j hj => ?_⟩⟩
      · rw [getD_set_ne false (by omega)]; exact hns j hj
      · by_cases hji : j = i
        · subst hji; exact hFi
        · rcases hset j hj with h | hj'
          · exact absurd h hji
          · refine hloc j vs i v w' (fun hin => ?_) (hFj j hji (hF j hj'))
            rw [hcl j hj' i hin] at hnf
            cases hnf
    · rw [hdrop] at hT
      refine wpOp_step hoi fun K hK => ?_
      rw [if_pos (by simp [Region.wanted, (tailOk_spec htl i oi hsi ho').2])]
      refine hT _ (fun _ => rfl) K fun v w' hT' => hK _ _ ?_
      refine ⟨by simp [hsz], ⟨hdeps, hcd2⟩, upd vs i v, hputs v, Or.inr ⟨i + 1, by omega, hil, fun j hj => ?_, fun j hj => ?_, hT'⟩⟩
      · rcases Nat.lt_or_ge j i with h | h
        · exact getD_set_true (later hsi j h)
        · obtain rfl : j = i := by omega
          exact hself
      · rw [getD_set_ne false (by omega)]; exact hhigh j (by omega)
  · rintro listed a w ⟨hsz, ⟨hcl, hcd⟩, vs, rfl, hcase⟩ hr
    have all : ∀ n, ∀ j, j < n → j < l.length → listed.getD j false = true := by
      intro n
      induction n with
      | zero => intro j h; omega
      | succ n ih =>
        intro j hjn hjl
        rcases Nat.lt_or_ge j n with h | h
        · exact ih j h hjl
        obtain rfl : j = n := by omega
        have hoj : l[j]? = some l[j] := List.getElem?_eq_getElem hjl
        by_cases hc : listed.getD j false = true
        · exact hc
        · exfalso
          have hjs : j < listed.size := by omega
          have hmem : j ∈ Region.ready .any l.toArray listed := mem_ready.2 ⟨by simpa [hjs] using hc, l[j], by simp, fun e he hbe => by
            have := backB_spec l 0 j _ hbk hoj e he hbe
            exact ih e.on (by omega) (by omega)⟩
          rw [hr] at hmem
          cases hmem
    rcases hcase with ⟨hns, hB, hF⟩ | ⟨t, hst, htl', hlow, hhigh, hT⟩
    · exfalso
      have h1 := all (s + 1) s (by omega) hsl
      rw [hns s (Nat.le_refl _)] at h1
      cases h1
    · have : t = l.length := by
        rcases Nat.lt_or_ge t l.length with h | h
        · have h1 := all (t + 1) t (by omega) h
          rw [hhigh t (Nat.le_refl _)] at h1
          cases h1
        · omega
      subst this
      rw [List.drop_length] at hT
      exact hT
  · obtain ⟨vs, hvs⟩ := puts_self l 0 a0
    have hno : ∀ j, (Array.replicate l.toArray.size false).getD j false = false := fun j => by
      rw [Array.getD_eq_getD_getElem?, Array.getElem?_replicate]
      split <;> rfl
    refine ⟨by simp, ⟨fun j hj => ?_, fun j o hj => ?_⟩, vs, hvs.symm, Or.inl ⟨fun j _ => hno j, h0, fun j hj => ?_⟩⟩
    all_goals
      rw [hno] at hj
      cases hj
end Go.Proofs.YtoibhgoaibjopaaGreatDoor.Ri
end
