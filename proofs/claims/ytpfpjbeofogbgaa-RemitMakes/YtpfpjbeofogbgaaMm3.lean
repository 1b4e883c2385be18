/-
  Texts put together (merge.py): BWgt, RInv, RInvB, RTail.
-/
import Derived.RegionTactic
import Derived.Test.YtpfpjbeofogbgaaMm2
set_option linter.unusedSimpArgs false
set_option linter.unusedVariables false
section
set_option maxRecDepth 100000
namespace Go.Proofs.Ytpfpjbeofogbgaa.Cm
open Go.RowKit
set_option maxHeartbeats 4000000 in
theorem weight2_any (M : Int) (hM0 : 0 ≤ M) (hM : M ≤ 3000) (v : Value) (l : List Cl) (w : World) (h : ClsAt All w v l) (hz : ∀ c ∈ l, ClOk c) :
  Calls Try.prog 33 #[v, .int .i64 M] w fun e w' => (∃ n : Int, e = .returned (.int .i64 n) ∧ (n ≤ M → ∀ c ∈ l, ClLight c) ∧ 0 ≤ n ∧ n ≤ 4611686018427387904 ∧ (n ≤ M → (l.length : Int) ≤ n)) ∧ Below w.heap.size w w' := by
 have HV := Lib.hid h
 have HZ := Lib.hid hz
 obtain ⟨a, cap, rfl, h1, h2⟩ := ClsAt.form h
 clear h hz
 go_enter Try.func33, Try.ntmps33
 go_wp2
 go_loopg [5, 6] (l.length) (fun gg n i wr => ∃ (k : Nat) (m : Int) (q : Nat), k ≤ l.length ∧ gg = l.length - k ∧ i = .int .i64 k ∧ n = .int .i64 m ∧ (k : Int) ≤ m ∧ m ≤ 4611686018427387904 ∧ wr = w.drewN q ∧ Hid (m ≤ M → ∀ c ∈ l.take k, ClLight c))
 case atStart => exact ⟨0, 0, 0, Nat.zero_le _, rfl, rfl, rfl, by omega, by omega, rfl, fun _ c hc => by simp at hc⟩
 case round =>
  obtain ⟨k, m, q, hk, hg, rfl, rfl, hm0, hm1, rfl, HA⟩ := hrel
  by_cases hm3 : m ≤ M
  case neg =>
   clear HA
   by_cases hlt : k < l.length
   ·have d1 : decide (m ≤ M) = false := decide_eq_false hm3
    go_wp2
    go_ret
    exact ⟨⟨m, rfl, fun h => absurd h (by omega), by omega, by omega, fun h => by omega⟩, below_drewq ⟨_, rfl⟩⟩
   ·have hlt' : ¬ (k : Int) < (l.length : Int) := by omega
    go_wp2
    go_ret
    exact ⟨⟨m, rfl, fun h => absurd h (by omega), by omega, by omega, fun h => by omega⟩, below_drewq ⟨_, rfl⟩⟩
  by_cases hlt : k < l.length
  case neg =>
   have hall : l.take k = l := List.take_of_length_le (by omega)
   rw [hall] at HA
   clear hall
   have hlt' : ¬ (k : Int) < (l.length : Int) := by omega
   go_wp2
   go_ret
   exact ⟨⟨m, rfl, HA.out, by omega, by omega, fun h => by omega⟩, below_drewq ⟨_, rfl⟩⟩
  obtain ⟨b, o, mv, rfl, hx, hc, hr⟩ := ClsAt.get HV.out k hlt
  obtain ⟨z1, z2, z3, z4, z5, z6, z7, z8⟩ := HZ.out _ (List.mem_of_getElem? hx)
  have HZL := Lib.hid z8
  have HRL := Lib.hid hr
  obtain ⟨ar, cr, rfl, g1, g2⟩ := LnsAt.form hr
  have HS := Lib.hid (cl_snoc l k _ hx (HA.out hm3))
  have HCL : Hid (ClLight l[k] = (l[k].lines.length ≤ 3000 ∧ ∀ x ∈ l[k].lines, LnLight x)) := rfl
  obtain ⟨c0, c1, c2, c3, c4, c5, c6⟩ := hc
  have s0 := mk_size l[k].id
  have s1 := mk_size l[k].mem
  have s2 := mk_size l[k].fam
  have s5 := mk_size l[k].ref
  rw [← s0] at z3
  rw [← s1] at z4
  rw [← s2] at z5
  rw [← s5] at z6
  clear hx hr z1 z2 z8 s0 s1 s2 s5 HA
  have d1 : decide (m ≤ M) = true := decide_eq_true hm3
  go_wp2_with fail
  go_quiet (fail)
  go_wp2
  go_loopg [5, 7] (l[k].lines.length) (fun gg n i wr => ∃ (j : Nat) (m2 : Int) (q2 : Nat), j ≤ l[k].lines.length ∧ gg = l[k].lines.length - j ∧ i = .int .i64 j ∧ n = .int .i64 m2 ∧ ((k + 1 : Nat) : Int) ≤ m2 ∧ m2 ≤ 4611686018427387904 ∧ wr = w.drewN q2 ∧ Hid (m2 ≤ M → l[k].lines.length ≤ 3000 ∧ ∀ x ∈ l[k].lines.take j, LnLight x))
  case atStart => exact ⟨0, _, q + nq, Nat.zero_le _, rfl, rfl, rfl, by omega, by omega, by first | rfl | rw [World.drewN_drewN], fun _ => ⟨by omega, fun c hc => by simp at hc⟩⟩
  case round =>
   obtain ⟨j, m2, q2, hj, hgj, rfl, rfl, hm20, hm21, rfl, HA2⟩ := hrel
   by_cases hm23 : m2 ≤ M
   case neg =>
    clear HA2
    by_cases hltj : j < l[k].lines.length
    ·have d2 : decide (m2 ≤ M) = false := decide_eq_false hm23
     go_wp2
     go_roundg (l.length - (k + 1))
     case rel => exact ⟨k + 1, m2, q2, by omega, rfl, by go_num, rfl, hm20, hm21, rfl, fun h => absurd h (by omega)⟩
     case measure => omega
    ·have hltj' : ¬ (j : Int) < (l[k].lines.length : Int) := by omega
     go_wp2
     go_roundg (l.length - (k + 1))
     case rel => exact ⟨k + 1, m2, q2, by omega, rfl, by go_num, rfl, hm20, hm21, rfl, fun h => absurd h (by omega)⟩
     case measure => omega
   by_cases hltj : j < l[k].lines.length
   case neg =>
    have hall : l[k].lines.take j = l[k].lines := List.take_of_length_le (by omega)
    have HF : Hid (∀ c ∈ l.take (k + 1), ClLight c) := HS.out (by rw [HCL.out]; rw [hall] at HA2; exact HA2.out hm23)
    clear hall
    have hltj' : ¬ (j : Int) < (l[k].lines.length : Int) := by omega
    go_wp2
    go_roundg (l.length - (k + 1))
    case rel => exact ⟨k + 1, m2, q2, by omega, rfl, by go_num, rfl, hm20, hm21, rfl, fun _ => HF.out⟩
    case measure => omega
   obtain ⟨br, or, mm, rfl, hxj, hcj, hrj⟩ := LnsAt.get HRL.out j hltj
   obtain ⟨y1, y2, y3, y4, y5, y6, y7⟩ := HZL.out _ (List.mem_of_getElem? hxj)
   have HZT := Lib.hid y7
   have HTX := Lib.hid hrj
   obtain ⟨at_, ct, rfl, p1, p2⟩ := TxAt.form hrj
   obtain ⟨hll, hlq⟩ := HA2.out hm23
   have HS2 := Lib.hid (ln_snoc l[k].lines j _ hxj hlq)
   have HLL : Hid (LnLight l[k].lines[j] = (l[k].lines[j].mods.length ≤ 20000 ∧ ∀ t ∈ l[k].lines[j].mods, t.length ≤ 20000)) := rfl
   obtain ⟨e0, e1, e2, e3, e4, e5⟩ := hcj
   have t0 := mk_size l[k].lines[j].proc
   rw [← t0] at y5
   clear hxj hrj y1 y2 y3 y4 y7 t0 HA2 hlq
   have d2 : decide (m2 ≤ M) = true := decide_eq_true hm23
   go_wp2_with fail
   go_quiet (fail)
   go_wp2
   go_loopg [5, 8] (l[k].lines[j].mods.length) (fun gg n i wr => ∃ (i3 : Nat) (m3 : Int) (q3 : Nat), i3 ≤ l[k].lines[j].mods.length ∧ gg = l[k].lines[j].mods.length - i3 ∧ i = .int .i64 i3 ∧ n = .int .i64 m3 ∧ ((k + 1 : Nat) : Int) ≤ m3 ∧ m3 ≤ 4611686018427387904 ∧ wr = w.drewN q3 ∧ Hid (m3 ≤ M → l[k].lines[j].mods.length ≤ 20000 ∧ ∀ t ∈ l[k].lines[j].mods.take i3, t.length ≤ 20000))
   case atStart => exact ⟨0, _, q2 + nq, Nat.zero_le _, rfl, rfl, rfl, by omega, by omega, by first | rfl | rw [World.drewN_drewN], fun _ => ⟨by omega, fun c hc => by simp at hc⟩⟩
   case round =>
    obtain ⟨i3, m3, q3, hi, hgi, rfl, rfl, hm30, hm31, rfl, HA3⟩ := hrel
    by_cases hm33 : m3 ≤ M
    case neg =>
     clear HA3
     by_cases hlti : i3 < l[k].lines[j].mods.length
     ·have d3 : decide (m3 ≤ M) = false := decide_eq_false hm33
      go_wp2
      go_roundg (l[k].lines.length - (j + 1))
      case rel => exact ⟨j + 1, m3, q3, by omega, rfl, by go_num, rfl, hm30, hm31, rfl, fun h => absurd h (by omega)⟩
      case measure => omega
     ·have hlti' : ¬ (i3 : Int) < (l[k].lines[j].mods.length : Int) := by omega
      go_wp2
      go_roundg (l[k].lines.length - (j + 1))
      case rel => exact ⟨j + 1, m3, q3, by omega, rfl, by go_num, rfl, hm30, hm31, rfl, fun h => absurd h (by omega)⟩
      case measure => omega
    by_cases hlti : i3 < l[k].lines[j].mods.length
    case neg =>
     have hall : l[k].lines[j].mods.take i3 = l[k].lines[j].mods := List.take_of_length_le (by omega)
     have HF : Hid (∀ x ∈ l[k].lines.take (j + 1), LnLight x) := HS2.out (by rw [HLL.out]; rw [hall] at HA3; exact HA3.out hm33)
     clear hall
     have hlti' : ¬ (i3 : Int) < (l[k].lines[j].mods.length : Int) := by omega
     go_wp2
     go_roundg (l[k].lines.length - (j + 1))
     case rel => exact ⟨j + 1, m3, q3, by omega, rfl, by go_num, rfl, hm30, hm31, rfl, fun _ => ⟨hll, HF.out⟩⟩
     case measure => omega
    obtain ⟨bt, ot, rfl, hxt, hct⟩ := tx_get HTX.out i3 hlti
    have ht := HZT.out _ (List.mem_of_getElem? hxt)
    have t1 := mk_size l[k].lines[j].mods[i3]
    rw [← t1] at ht
    obtain ⟨u1, u2⟩ := HA3.out hm33
    have HS3 := Lib.hid (tx_snoc l[k].lines[j].mods i3 _ hxt u2)
    have HT1 := Lib.hid t1
    clear hxt t1 HA3 u2
    have d3 : decide (m3 ≤ M) = true := decide_eq_true hm33
    go_wp2
    go_roundg (l[k].lines[j].mods.length - (i3 + 1))
    case rel => exact ⟨i3 + 1, _, q3, by omega, rfl, by go_num, rfl, by omega, by omega, rfl, fun _ => ⟨u1, HS3.out (by have := HT1.out; omega)⟩⟩
    case measure => omega
end Go.Proofs.Ytpfpjbeofogbgaa.Cm
end
section
namespace Go.Proofs.Ytpfpjbeofogbgaa.Ri
open Go
def opn (l : Array Bool) : Nat := l.toList.countP (fun b => !b)
theorem opn_set {l : Array Bool} {i : Nat} (h : l.getD i true = false) : opn (l.setIfInBounds i true) + 1 = opn l := by
 have hi : i < l.size := by
  rcases Nat.lt_or_ge i l.size with h' | h'
  ·exact h'
  ·simp [Array.getElem?_eq_none h'] at h
 have hb : l[i] = false := by simpa [hi] using h
 unfold opn
 rw [Array.toList_setIfInBounds]
 have e : l.toList = l.toList.take i ++ false :: l.toList.drop (i + 1) := by
  have := List.take_append_drop i l.toList
  rw [List.drop_eq_getElem_cons (by simpa using hi)] at this
  rw [← hb]; simpa using this.symm
 have e2 : l.toList.set i true = l.toList.take i ++ true :: l.toList.drop (i + 1) := by
  rw [List.set_eq_take_append_cons_drop, if_pos (by simpa using hi)]
 rw [e2]
 conv => rhs; rw [e]
 simp only [List.countP_append, List.countP_cons]
 simp
 omega
theorem wpAny_inv {P : Program} {ops : Array Oper} {Q : Exit → Act → World → Prop} (I : Array Bool → Act → World → Prop)
  (hs : ∀ listed a w, I listed a w → ∀ i ∈ Region.ready .any ops listed, wpOp P ops Q i (I (listed.setIfInBounds i true)) a w)
  (hd : ∀ listed a w, I listed a w → Region.ready .any ops listed = [] → Q .normal a w) :
  ∀ (fuel : Nat) (listed : Array Bool) (a : Act) (w : World), opn listed ≤ fuel → I listed a w → wpAny P .any ops Q fuel listed a w
 | 0, listed, a, w, hf, h => by
  have hr : Region.ready .any ops listed = [] := by
   cases hr : Region.ready .any ops listed with
   | nil => rfl
   | cons i r =>
    have hi : i ∈ Region.ready .any ops listed := by rw [hr]; exact List.mem_cons_self
    have := opn_set (mem_ready.1 hi).1
    omega
  exact ⟨hr, hd _ _ _ h hr⟩
 | fuel + 1, listed, a, w, hf, h => ⟨fun hr => hd _ _ _ h hr, fun i hi => wpOp_mono (fun a' w' h' => wpAny_inv I hs hd fuel _ a' w' (by have := opn_set (mem_ready.1 hi).1; omega) h') (hs _ _ _ h i hi)⟩
theorem opn_new (n : Nat) : opn (Array.replicate n false) = n := by simp [opn, List.countP_replicate]
def upd (vs : Nat → Value) (i : Nat) (v : Value) : Nat → Value := fun k => if k = i then v else vs k
theorem upd_same (vs : Nat → Value) (i : Nat) (v : Value) : upd vs i v i = v := if_pos rfl
theorem upd_ne (vs : Nat → Value) {i k : Nat} (v : Value) (h : k ≠ i) : upd vs i v k = vs k := if_neg h
def puts : List Oper → Nat → (Nat → Value) → Act → Act
 | [], _, _, a => a
 | o :: l, k, vs, a => puts l (k + 1) vs (a.put o.dst (vs k))
def apartD : List Oper → Bool
 | [] => true
 | o :: l => (o.dst.isNone || l.all fun x => x.dst != o.dst) && apartD l
theorem puts_congr : ∀ (l : List Oper) (k : Nat) (vs us : Nat → Value) (a : Act), (∀ j, k ≤ j → vs j = us j) → puts l k vs a = puts l k us a
 | [], _, _, _, _, _ => rfl
 | o :: l, k, vs, us, a, h => by
  show puts l (k + 1) vs (a.put o.dst (vs k)) = puts l (k + 1) us (a.put o.dst (us k))
  rw [h k (Nat.le_refl _)]
  exact puts_congr l (k + 1) vs us _ fun j hj => h j (by omega)
theorem put_put (a : Act) (d : Option Tmp) (u v : Value) : (a.put d u).put d v = a.put d v := by
 cases d with
 | none => rfl
 | some d => simp [Act.put]
theorem puts_late : ∀ (l : List Oper) (k : Nat) (vs : Nat → Value) (a : Act) (d : Option Tmp) (v : Value), (∀ x ∈ l, ∀ t, x.dst = some t → d ≠ some t) → (puts l k vs a).put d v = puts l k vs (a.put d v)
 | [], _, _, _, _, _, _ => rfl
 | o :: l, k, vs, a, d, v, h => by
  show (puts l (k + 1) vs (a.put o.dst (vs k))).put d v = puts l (k + 1) vs ((a.put d v).put o.dst (vs k))
  rw [puts_late l (k + 1) vs _ d v fun x hx => h x (List.mem_cons_of_mem _ hx), Act.put_comm a (vs k) v fun t ht => h o List.mem_cons_self t ht]
theorem puts_put : ∀ (l : List Oper) (k i : Nat) (o : Oper) (vs : Nat → Value) (a : Act) (v : Value), apartD l = true → l[i]? = some o → (puts l k vs a).put o.dst v = puts l k (upd vs (k + i) v) a
 | [], _, _, _, _, _, _, _, h => by simp at h
 | x :: l, k, 0, o, vs, a, v, hap, h => by
  simp at h
  subst h
  show (puts l (k + 1) vs (a.put x.dst (vs k))).put x.dst v = puts l (k + 1) (upd vs k v) (a.put x.dst (upd vs k v k))
  rw [upd_same]
  simp only [apartD, Bool.and_eq_true, Bool.or_eq_true, List.all_eq_true] at hap
  rw [puts_late l (k + 1) vs _ x.dst v ?_, put_put]
  ·exact puts_congr l (k + 1) _ _ _ fun j hj => (upd_ne vs v (by omega)).symm
  ·intro y hy t ht e
   rcases hap.1 with h1 | h1
   ·rw [e] at h1; cases h1
   ·have := h1 y hy
    rw [ht, e] at this
    simp at this
 | x :: l, k, i + 1, o, vs, a, v, hap, h => by
  simp at h
  show (puts l (k + 1) vs (a.put x.dst (vs k))).put o.dst v = puts l (k + 1) (upd vs (k + (i + 1)) v) (a.put x.dst (upd vs (k + (i + 1)) v k))
  simp only [apartD, Bool.and_eq_true] at hap
  rw [puts_put l (k + 1) i o vs _ v hap.2 h, upd_ne vs v (show k ≠ k + (i + 1) by omega), show k + 1 + i = k + (i + 1) by omega]
theorem put_self (a : Act) (d : Option Tmp) : ∃ v, a.put d v = a := by
  cases d with
  | none => exact ⟨undef, rfl⟩
  | some d =>
    refine ⟨a.tmps.getD d undef, ?_⟩
    show ({ a with tmps := a.tmps.setIfInBounds d (a.tmps.getD d undef) } : Act) = a
    have : a.tmps.setIfInBounds d (a.tmps.getD d undef) = a.tmps := by
      apply Array.ext_getElem?
      intro i
      rw [Array.getElem?_setIfInBounds]
      split
      · next h => subst h; split
                  · next h' => simp [h']
                  · next h' => rw [Array.getElem?_eq_none (by omega)]
      · rfl
    rw [this]
theorem puts_self : ∀ (l : List Oper) (k : Nat) (a : Act), ∃ vs, puts l k vs a = a
 | [], _, a => ⟨fun _ => undef, rfl⟩
 | o :: l, k, a => by
  obtain ⟨v, hv⟩ := put_self a o.dst
  obtain ⟨vs, hvs⟩ := puts_self l (k + 1) a
  refine ⟨upd vs k v, ?_⟩
  show puts l (k + 1) (upd vs k v) (a.put o.dst (upd vs k v k)) = a
  rw [upd_same, hv, puts_congr l (k + 1) _ vs a fun j hj => upd_ne vs v (by omega)]
  exact hvs
def back : Nat → List Oper → Bool
 | _, [] => true
 | k, o :: l => (o.after.all fun e => decide (e.on < k)) && back (k + 1) l
theorem back_spec : ∀ (l : List Oper) (k i : Nat) (o : Oper), back k l = true → l[i]? = some o → ∀ e ∈ o.after, e.on < k + i
 | [], _, _, _, _, h => by simp at h
 | x :: l, k, 0, o, hb, h => by
  simp at h; subst h
  simp only [back, Bool.and_eq_true, Array.all_eq_true_iff_forall_mem, decide_eq_true_eq] at hb
  exact fun e he => hb.1 e he
 | x :: l, k, i + 1, o, hb, h => by
  simp at h
  simp only [back, Bool.and_eq_true] at hb
  intro e he
  have := back_spec l (k + 1) i o hb.2 h e he
  omega
def depsOk (deps : Nat → List Nat) : Nat → List Oper → Bool
 | _, [] => true
 | k, o :: l => ((deps k).all fun d => d == k || o.after.any fun e => Region.binds .any e && (deps e.on).contains d) && depsOk deps (k + 1) l
theorem depsOk_spec (deps : Nat → List Nat) : ∀ (l : List Oper) (k i : Nat) (o : Oper), depsOk deps k l = true → l[i]? = some o → ∀ d ∈ deps (k + i), d = k + i ∨ ∃ e ∈ o.after, Region.binds .any e = true ∧ d ∈ deps e.on
 | [], _, _, _, _, h => by simp at h
 | x :: l, k, 0, o, hb, h => by
  simp at h; subst h
  simp only [depsOk, Bool.and_eq_true, List.all_eq_true, Bool.or_eq_true, beq_iff_eq, Array.any_eq_true', List.contains_eq_mem, decide_eq_true_eq] at hb
  intro d hd
  rcases hb.1 d hd with h1 | ⟨e, he, h2, h3⟩
  ·exact Or.inl h1
  ·exact Or.inr ⟨e, he, h2, h3⟩
 | x :: l, k, i + 1, o, hb, h => by
  simp at h
  simp only [depsOk, Bool.and_eq_true] at hb
  intro d hd
  have := depsOk_spec deps l (k + 1) i o hb.2 h d (by rw [show k + 1 + i = k + (i + 1) by omega]; exact hd)
  rwa [show k + 1 + i = k + (i + 1) by omega] at this
def Step (P : Program) (l : List Oper) (Q : Exit → Act → World → Prop) (a0 : Act) (B : World → Prop) (F : Nat → (Nat → Value) → World → Prop) (k : Nat) (o : Oper) : Prop :=
 ∀ (vs : Nat → Value) (w : World), B w → (∀ e ∈ o.after, Region.binds .any e = true → F e.on vs w) → ∀ K : Act → World → Prop, (∀ v w', B w' → F k (upd vs k v) w' → (∀ j, j ≠ k → F j vs w → F j vs w') → K ((puts l 0 vs a0).put o.dst v) w') → if Region.wanted o (yielded l.toArray (puts l 0 vs a0).tmps) = true then Oper.wp P o (puts l 0 vs a0) w K Q else K ((puts l 0 vs a0).put o.dst undef) w
def Each (P : Program) (l : List Oper) (Q : Exit → Act → World → Prop) (a0 : Act) (B : World → Prop) (F : Nat → (Nat → Value) → World → Prop) : Nat → List Oper → Prop
 | _, [] => True
 | k, o :: r => Step P l Q a0 B F k o ∧ Each P l Q a0 B F (k + 1) r
theorem Each.get {P : Program} {l : List Oper} {Q : Exit → Act → World → Prop} {a0 : Act} {B : World → Prop} {F : Nat → (Nat → Value) → World → Prop} : ∀ (r : List Oper) (k i : Nat) (o : Oper), Each P l Q a0 B F k r → r[i]? = some o → Step P l Q a0 B F (k + i) o
 | [], _, _, _, _, h => by simp at h
 | x :: r, k, 0, o, hh, h => by simp at h; subst h; exact hh.1
 | x :: r, k, i + 1, o, hh, h => by
  simp at h
  have := Each.get r (k + 1) i o hh.2 h
  rwa [show k + 1 + i = k + (i + 1) by omega] at this
theorem wp_region_facts {P : Program} {id : Nat} {l : List Oper} {Q : Exit → Act → World → Prop} {a0 : Act} {w0 : World} (hm : P.follows .mixedOrders = true) (hap : apartD l = true) (hbk : back 0 l = true)
  (B : World → Prop) (F : Nat → (Nat → Value) → World → Prop) (deps : Nat → List Nat) (hdp : depsOk deps 0 l = true)
  (hloc : ∀ j vs i v w, i ∉ deps j → F j vs w → F j (upd vs i v) w) (h0 : B w0.drew) (hop : Each P l Q a0 B F 0 l)
  (hd : ∀ vs w, B w → (∀ j, j < l.length → F j vs w) → Q .normal (puts l 0 vs a0) w) : (Code.region id l.toArray true).wp P Q a0 w0 := by
 refine wp_region_any hm (wpAny_inv (fun listed a w => listed.size = l.length ∧ (∀ j, listed.getD j false = true → ∀ d ∈ deps j, listed.getD d false = true) ∧ ∃ vs, a = puts l 0 vs a0 ∧ B w ∧ ∀ j, listed.getD j false = true → F j vs w) ?_ ?_ _ _ _ _ (by rw [opn_new]; exact Nat.le_refl _) ?_)
 ·rintro listed a w ⟨hsz, hcl, vs, rfl, hB, hF⟩ i hi
  obtain ⟨hni, o, ho, hpre⟩ := mem_ready.1 hi
  have ho' : l[i]? = some o := by simpa using ho
  have hil : i < l.length := (List.getElem?_eq_some_iff.1 ho').1
  have hnf : listed.getD i false = false := by
   have : i < listed.size := by omega
   simpa [this] using hni
  have hst := Each.get l 0 i o hop ho'
  rw [Nat.zero_add] at hst
  refine wpOp_step ho fun K hK => ?_
  refine hst vs w hB (fun e he hb => hF _ (hpre e he hb)) K fun v w' hB' hFi hFj => hK _ _ ?_
  have hset : ∀ j, (listed.setIfInBounds i true).getD j false = true → j = i ∨ listed.getD j false = true := fun j hj => by
   by_cases hji : i = j
   ·exact Or.inl hji.symm
   ·rw [getD_set_ne false hji] at hj; exact Or.inr hj
  refine ⟨by simp [hsz], fun j hj d hdd => ?_, upd vs i v, by have := puts_put l 0 i o vs a0 v hap ho'; rwa [Nat.zero_add] at this, hB', fun j hj => ?_⟩
  ·rcases hset j hj with rfl | hj'
   ·have := depsOk_spec deps l 0 j o hdp ho'
    rw [Nat.zero_add] at this
    rcases this d hdd with rfl | ⟨e, he, hb, hde⟩
    ·have : d < listed.size := by omega
     simp [this]
    ·exact getD_set_true (hcl _ (hpre e he hb) d hde)
   ·exact getD_set_true (hcl j hj' d hdd)
  ·by_cases hji : j = i
   ·subst hji; exact hFi
   ·rcases hset j hj with h | hj'
    ·exact absurd h hji
    ·refine hloc j vs i v w' (fun hin => ?_) (hFj j hji (hF j hj'))
     rw [hcl j hj' i hin] at hnf
     cases hnf
 ·rintro listed a w ⟨hsz, hcl, vs, rfl, hB, hF⟩ hr
  refine hd vs w hB fun j hj => hF j ?_
  have all : ∀ n, ∀ j, j < n → j < l.length → listed.getD j false = true := by
   intro n
   induction n with
   | zero => intro j h; omega
   | succ n ih =>
    intro j hjn hjl
    rcases Nat.lt_or_ge j n with h | h
    ·exact ih j h hjl
    obtain rfl : j = n := by omega
    have hoj : l[j]? = some l[j] := List.getElem?_eq_getElem hjl
    by_cases hc : listed.getD j false = true
    ·exact hc
    ·exfalso
     have hjs : j < listed.size := by omega
     have hmem : j ∈ Region.ready .any l.toArray listed := mem_ready.2 ⟨by simpa [hjs] using hc, l[j], by simp, fun e he _ => by
      have := back_spec l 0 j _ hbk hoj e he
      exact ih e.on (by omega) (by omega)⟩
     rw [hr] at hmem
     cases hmem
  exact all (j + 1) j (by omega) hj
 ·obtain ⟨vs, hvs⟩ := puts_self l 0 a0
  refine ⟨by simp, fun j hj => ?_, vs, hvs.symm, h0, fun j hj => ?_⟩
  all_goals
   exfalso
   rw [Array.getD_eq_getD_getElem?, Array.getElem?_replicate] at hj
   split at hj <;> simp at hj
def Pre (F : Nat → (Nat → Value) → World → Prop) (vs : Nat → Value) (w : World) : List Edge → Prop
 | [] => True
 | e :: r => (Region.binds .any e = true → F e.on vs w) ∧ Pre F vs w r
theorem Pre.of {F : Nat → (Nat → Value) → World → Prop} {vs : Nat → Value} {w : World} : ∀ (r : List Edge), (∀ e ∈ r, Region.binds .any e = true → F e.on vs w) → Pre F vs w r
 | [], _ => trivial
 | e :: r, h => ⟨h e List.mem_cons_self, Pre.of r fun e he => h e (List.mem_cons_of_mem _ he)⟩
def StepA (P : Program) (l : List Oper) (Q : Exit → Act → World → Prop) (a0 : Act) (B : World → Prop) (F : Nat → (Nat → Value) → World → Prop) (k : Nat) (o : Oper) : Prop :=
 ∀ (vs : Nat → Value) (w : World) (A : Act), (∀ t : Nat, A.tmps[t]?.getD undef = (puts l 0 vs a0).tmps[t]?.getD undef) → B w → Pre F vs w o.after.toList → ∀ K : Act → World → Prop, (∀ v w', B w' → F k (upd vs k v) w' → (∀ j, j ≠ k → F j vs w → F j vs w') → K (A.put o.dst v) w') → o.wp P A w K Q
def EachA (P : Program) (l : List Oper) (Q : Exit → Act → World → Prop) (a0 : Act) (B : World → Prop) (F : Nat → (Nat → Value) → World → Prop) : Nat → List Oper → Prop
 | _, [] => True
 | k, o :: r => (o.guard = none ∧ StepA P l Q a0 B F k o) ∧ EachA P l Q a0 B F (k + 1) r
theorem EachA.each {P : Program} {l : List Oper} {Q : Exit → Act → World → Prop} {a0 : Act} {B : World → Prop} {F : Nat → (Nat → Value) → World → Prop} : ∀ (r : List Oper) (k : Nat), EachA P l Q a0 B F k r → Each P l Q a0 B F k r
 | [], _, _ => trivial
 | o :: r, k, h => ⟨fun vs w hB hpre K hK => by
   rw [if_pos (by simp [Region.wanted, h.1.1])]
   exact h.1.2 vs w _ (fun _ => rfl) hB (Pre.of _ fun e he => hpre e (by simpa using he)) K hK, EachA.each r (k + 1) h.2⟩
theorem wp_region_lasting {P : Program} {id : Nat} {l : List Oper} {Q : Exit → Act → World → Prop} {a0 : Act} {w0 : World} (hm : P.follows .mixedOrders = true) (hap : apartD l = true) (hbk : back 0 l = true)
  (B : World → Prop) (F : Nat → (Nat → Value) → World → Prop) (deps : Nat → List Nat) (hdp : depsOk deps 0 l = true)
  (hloc : ∀ j vs i v w, i ∉ deps j → F j vs w → F j (upd vs i v) w) (h0 : B w0.drew) (hop : EachA P l Q a0 B F 0 l)
  (hd : ∀ vs w, B w → (∀ j, j < l.length → F j vs w) → Q .normal (puts l 0 vs a0) w) : (Code.region id l.toArray true).wp P Q a0 w0 :=
 wp_region_facts hm hap hbk B F deps hdp hloc h0 (EachA.each l 0 hop) hd
def StepG (P : Program) (l : List Oper) (Q : Exit → Act → World → Prop) (a0 : Act) (B : World → Prop) (F : Nat → (Nat → Value) → World → Prop) (k : Nat) (o : Oper) (want : Bool) (d : Nat) : Prop :=
 ∀ (vs : Nat → Value) (w : World) (A : Act), (∀ t : Nat, A.tmps[t]?.getD undef = (puts l 0 vs a0).tmps[t]?.getD undef) → B w → Pre F vs w o.after.toList → ∃ b : Bool, A.tmps[d]?.getD undef = .bool b ∧ (b = want → ∀ K : Act → World → Prop, (∀ v w', B w' → F k (upd vs k v) w' → (∀ j, j ≠ k → F j vs w → F j vs w') → K (A.put o.dst v) w') → o.wp P A w K Q) ∧ (b ≠ want → F k (upd vs k undef) w)
def EachG (P : Program) (l : List Oper) (Q : Exit → Act → World → Prop) (a0 : Act) (B : World → Prop) (F : Nat → (Nat → Value) → World → Prop) : Nat → List Oper → Prop
 | _, [] => True
 | k, o :: r => ((o.guard = none ∧ StepA P l Q a0 B F k o) ∨ ∃ (j : Nat) (want : Bool) (d : Nat), o.guard = some (j, want) ∧ (l[j]?).bind (·.dst) = some d ∧ StepG P l Q a0 B F k o want d) ∧ EachG P l Q a0 B F (k + 1) r
theorem yielded_of {l : List Oper} {A : Act} {j d : Nat} {b : Bool} (hd : (l[j]?).bind (·.dst) = some d) (hb : A.tmps[d]?.getD undef = .bool b) : yielded l.toArray A.tmps j = some b := by
 have h : A.tmps[d]? = some (.bool b) := by
  cases hx : A.tmps[d]? with
  | none => rw [hx] at hb; cases hb
  | some v => rw [hx] at hb; exact congrArg some hb
 unfold yielded
 rw [List.getElem?_toArray, hd]
 show (match A.tmps[d]? with | some (.bool b) => some b | _ => none) = some b
 rw [h]
theorem EachG.each {P : Program} {l : List Oper} {Q : Exit → Act → World → Prop} {a0 : Act} {B : World → Prop} {F : Nat → (Nat → Value) → World → Prop} : ∀ (r : List Oper) (k : Nat), EachG P l Q a0 B F k r → Each P l Q a0 B F k r
 | [], _, _ => trivial
 | o :: r, k, h => ⟨fun vs w hB hpre K hK => by
   rcases h.1 with h1 | ⟨j, want, d, hg, hd, hs⟩
   ·rw [if_pos (by simp [Region.wanted, h1.1])]
    exact h1.2 vs w _ (fun _ => rfl) hB (Pre.of _ fun e he => hpre e (by simpa using he)) K hK
   ·obtain ⟨b, hb, hy, hn⟩ := hs vs w (puts l 0 vs a0) (fun _ => rfl) hB (Pre.of _ fun e he => hpre e (by simpa using he))
    have hw : Region.wanted o (yielded l.toArray (puts l 0 vs a0).tmps) = (b == want) := by
     unfold Region.wanted
     rw [hg]
     show (yielded l.toArray (puts l 0 vs a0).tmps j == some want) = _
     rw [yielded_of hd hb]
     cases b <;> cases want <;> rfl
    rw [hw]
    by_cases e : b = want
    ·rw [if_pos (by simp [e])]; exact hy e K hK
    ·rw [if_neg (by simp [e])]; exact hK undef w hB (hn e) (fun _ _ h => h), EachG.each r (k + 1) h.2⟩
theorem wp_region_lasting_g {P : Program} {id : Nat} {l : List Oper} {Q : Exit → Act → World → Prop} {a0 : Act} {w0 : World} (hm : P.follows .mixedOrders = true) (hap : apartD l = true) (hbk : back 0 l = true)
  (B : World → Prop) (F : Nat → (Nat → Value) → World → Prop) (deps : Nat → List Nat) (hdp : depsOk deps 0 l = true)
  (hloc : ∀ j vs i v w, i ∉ deps j → F j vs w → F j (upd vs i v) w) (h0 : B w0.drew) (hop : EachG P l Q a0 B F 0 l)
  (hd : ∀ vs w, B w → (∀ j, j < l.length → F j vs w) → Q .normal (puts l 0 vs a0) w) : (Code.region id l.toArray true).wp P Q a0 w0 :=
 wp_region_facts hm hap hbk B F deps hdp hloc h0 (EachG.each l 0 hop) hd
theorem loc_own {F : Nat → Value → World → Prop} (j : Nat) (vs : Nat → Value) (i : Nat) (v : Value) (w : World) (hi : i ∉ [j]) (h : F j (vs j) w) : F j (upd vs i v j) w := by
 rw [upd_ne vs v (fun e => hi (by rw [e]; exact List.mem_singleton.2 rfl))]; exact h
end Go.Proofs.Ytpfpjbeofogbgaa.Ri
end
section
namespace Go.Proofs.Ytpfpjbeofogbgaa.Ri
open Go
def backB : Nat → List Oper → Bool
 | _, [] => true
 | k, o :: l => (o.after.all fun e => !Region.binds .any e || decide (e.on < k)) && backB (k + 1) l
theorem backB_spec : ∀ (l : List Oper) (k i : Nat) (o : Oper), backB k l = true → l[i]? = some o → ∀ e ∈ o.after, Region.binds .any e = true → e.on < k + i
 | [], _, _, _, _, h => by simp at h
 | x :: l, k, 0, o, hb, h => by
  simp at h; subst h
  simp only [backB, Bool.and_eq_true, Array.all_eq_true_iff_forall_mem, Bool.or_eq_true, decide_eq_true_eq] at hb
  intro e he hbe
  rcases hb.1 e he with h1 | h1
  ·rw [hbe] at h1; cases h1
  ·exact h1
 | x :: l, k, i + 1, o, hb, h => by
  simp at h
  simp only [backB, Bool.and_eq_true] at hb
  intro e he hbe
  have := backB_spec l (k + 1) i o hb.2 h e he hbe
  omega
theorem wp_region_factsB {P : Program} {id : Nat} {l : List Oper} {Q : Exit → Act → World → Prop} {a0 : Act} {w0 : World} (hm : P.follows .mixedOrders = true) (hap : apartD l = true) (hbk : backB 0 l = true)
  (B : World → Prop) (F : Nat → (Nat → Value) → World → Prop) (deps : Nat → List Nat) (hdp : depsOk deps 0 l = true)
  (hloc : ∀ j vs i v w, i ∉ deps j → F j vs w → F j (upd vs i v) w) (h0 : B w0.drew) (hop : Each P l Q a0 B F 0 l)
  (hd : ∀ vs w, B w → (∀ j, j < l.length → F j vs w) → Q .normal (puts l 0 vs a0) w) : (Code.region id l.toArray true).wp P Q a0 w0 := by
 refine wp_region_any hm (wpAny_inv (fun listed a w => listed.size = l.length ∧ (∀ j, listed.getD j false = true → ∀ d ∈ deps j, listed.getD d false = true) ∧ ∃ vs, a = puts l 0 vs a0 ∧ B w ∧ ∀ j, listed.getD j false = true → F j vs w) ?_ ?_ _ _ _ _ (by rw [opn_new]; exact Nat.le_refl _) ?_)
 ·rintro listed a w ⟨hsz, hcl, vs, rfl, hB, hF⟩ i hi
  obtain ⟨hni, o, ho, hpre⟩ := mem_ready.1 hi
  have ho' : l[i]? = some o := by simpa using ho
  have hil : i < l.length := (List.getElem?_eq_some_iff.1 ho').1
  have hnf : listed.getD i false = false := by
   have : i < listed.size := by omega
   simpa [this] using hni
  have hst := Each.get l 0 i o hop ho'
  rw [Nat.zero_add] at hst
  refine wpOp_step ho fun K hK => ?_
  refine hst vs w hB (fun e he hb => hF _ (hpre e he hb)) K fun v w' hB' hFi hFj => hK _ _ ?_
  have hset : ∀ j, (listed.setIfInBounds i true).getD j false = true → j = i ∨ listed.getD j false = true := fun j hj => by
   by_cases hji : i = j
   ·exact Or.inl hji.symm
   ·rw [getD_set_ne false hji] at hj; exact Or.inr hj
  refine ⟨by simp [hsz], fun j hj d hdd => ?_, upd vs i v, by have := puts_put l 0 i o vs a0 v hap ho'; rwa [Nat.zero_add] at this, hB', fun j hj => ?_⟩
  ·rcases hset j hj with rfl | hj'
   ·have := depsOk_spec deps l 0 j o hdp ho'
    rw [Nat.zero_add] at this
    rcases this d hdd with rfl | ⟨e, he, hb, hde⟩
    ·have : d < listed.size := by omega
     simp [this]
    ·exact getD_set_true (hcl _ (hpre e he hb) d hde)
   ·exact getD_set_true (hcl j hj' d hdd)
  ·by_cases hji : j = i
   ·subst hji; exact hFi
   ·rcases hset j hj with h | hj'
    ·exact absurd h hji
    ·refine hloc j vs i v w' (fun hin => ?_) (hFj j hji (hF j hj'))
     rw [hcl j hj' i hin] at hnf
     cases hnf
 ·rintro listed a w ⟨hsz, hcl, vs, rfl, hB, hF⟩ hr
  refine hd vs w hB fun j hj => hF j ?_
  have all : ∀ n, ∀ j, j < n → j < l.length → listed.getD j false = true := by
   intro n
   induction n with
   | zero => intro j h; omega
   | succ n ih =>
    intro j hjn hjl
    rcases Nat.lt_or_ge j n with h | h
    ·exact ih j h hjl
    obtain rfl : j = n := by omega
    have hoj : l[j]? = some l[j] := List.getElem?_eq_getElem hjl
    by_cases hc : listed.getD j false = true
    ·exact hc
    ·exfalso
     have hjs : j < listed.size := by omega
     have hmem : j ∈ Region.ready .any l.toArray listed := mem_ready.2 ⟨by simpa [hjs] using hc, l[j], by simp, fun e he hbe => by
      have := backB_spec l 0 j _ hbk hoj e he hbe
      exact ih e.on (by omega) (by omega)⟩
     rw [hr] at hmem
     cases hmem
  exact all (j + 1) j (by omega) hj
 ·obtain ⟨vs, hvs⟩ := puts_self l 0 a0
  refine ⟨by simp, fun j hj => ?_, vs, hvs.symm, h0, fun j hj => ?_⟩
  all_goals
   exfalso
   rw [Array.getD_eq_getD_getElem?, Array.getElem?_replicate] at hj
   split at hj <;> simp at hj
theorem wp_region_lastingB {P : Program} {id : Nat} {l : List Oper} {Q : Exit → Act → World → Prop} {a0 : Act} {w0 : World} (hm : P.follows .mixedOrders = true) (hap : apartD l = true) (hbk : backB 0 l = true)
  (B : World → Prop) (F : Nat → (Nat → Value) → World → Prop) (deps : Nat → List Nat) (hdp : depsOk deps 0 l = true)
  (hloc : ∀ j vs i v w, i ∉ deps j → F j vs w → F j (upd vs i v) w) (h0 : B w0.drew) (hop : EachA P l Q a0 B F 0 l)
  (hd : ∀ vs w, B w → (∀ j, j < l.length → F j vs w) → Q .normal (puts l 0 vs a0) w) : (Code.region id l.toArray true).wp P Q a0 w0 :=
 wp_region_factsB hm hap hbk B F deps hdp hloc h0 (EachA.each l 0 hop) hd
end Go.Proofs.Ytpfpjbeofogbgaa.Ri
end
section
namespace Go.Proofs.Ytpfpjbeofogbgaa.Ri
open Go
def reach (l : List Oper) : Nat → Nat → Nat → Bool
 | 0, _, _ => false
 | f + 1, k, t => match l[t]? with
  | none => false
  | some o => (o.after.any fun e => Region.binds .any e && e.on == k) || (o.after.any fun e => Region.binds .any e && reach l f k e.on)
theorem reach_spec {l : List Oper} {listed : Nat → Prop} (hcl : ∀ j o, listed j → l[j]? = some o → ∀ e ∈ o.after, Region.binds .any e = true → listed e.on) (k : Nat) :
  ∀ (f t : Nat), (∀ o, l[t]? = some o → ∀ e ∈ o.after, Region.binds .any e = true → listed e.on) → reach l f k t = true → listed k := by
 intro f
 induction f with
 | zero => intro t _ h; cases h
 | succ f ih =>
  intro t hp h
  unfold reach at h
  split at h
  ·cases h
  ·next o ho =>
   simp only [Bool.or_eq_true, Array.any_eq_true', Bool.and_eq_true, beq_iff_eq] at h
   rcases h with ⟨e, he, hb, rfl⟩ | ⟨e, he, hb, hr⟩
   ·exact hp o ho e he hb
   ·exact ih e.on (fun o' ho' e' he' hb' => hcl e.on o' (hp o ho e he hb) ho' e' he' hb') hr
def tailOk (l : List Oper) (s : Nat) : Bool := (List.range l.length).all fun t => decide (t < s) || (((List.range t).all fun k => reach l l.length k t) && ((l[t]?).bind (·.guard)).isNone)
theorem tailOk_spec {l : List Oper} {s : Nat} (h : tailOk l s = true) (t : Nat) (o : Oper) (hst : s ≤ t) (ho : l[t]? = some o) : (∀ k, k < t → reach l l.length k t = true) ∧ o.guard = none := by
 unfold tailOk at h
 have := List.all_eq_true.1 h t (List.mem_range.2 (List.getElem?_eq_some_iff.1 ho).1)
 rw [decide_eq_false (by omega), Bool.false_or, Bool.and_eq_true, ho] at this
 exact ⟨fun k hk => List.all_eq_true.1 this.1 k (List.mem_range.2 hk), Option.isNone_iff_eq_none.1 this.2⟩
def Tail (P : Program) (l : List Oper) (Q : Exit → Act → World → Prop) (a0 : Act) : Nat → List Oper → (Nat → Value) → World → Prop
 | _, [], vs, w => Q .normal (puts l 0 vs a0) w
 | t, o :: r, vs, w => ∀ (A : Act), (∀ t : Nat, A.tmps[t]?.getD undef = (puts l 0 vs a0).tmps[t]?.getD undef) → ∀ K : Act → World → Prop, (∀ v w', Tail P l Q a0 (t + 1) r (upd vs t v) w' → K (A.put o.dst v) w') → o.wp P A w K Q
theorem wp_region_tail {P : Program} {id : Nat} {l : List Oper} {Q : Exit → Act → World → Prop} {a0 : Act} {w0 : World} (s : Nat) (hm : P.follows .mixedOrders = true) (hap : apartD l = true) (hbk : backB 0 l = true)
  (hsl : s < l.length) (htl : tailOk l s = true)
  (B : World → Prop) (F : Nat → (Nat → Value) → World → Prop) (deps : Nat → List Nat) (hdp : depsOk deps 0 l = true)
  (hloc : ∀ j vs i v w, i ∉ deps j → F j vs w → F j (upd vs i v) w) (h0 : B w0.drew) (hop : EachA P l Q a0 B F 0 (l.take s))
  (hlast : ∀ (vs : Nat → Value) (w : World), B w → (∀ j, j < s → F j vs w) → Tail P l Q a0 s (l.drop s) vs w) :
  (Code.region id l.toArray true).wp P Q a0 w0 := by
 refine wp_region_any hm (wpAny_inv (fun listed a w => listed.size = l.length ∧ ((∀ j, listed.getD j false = true → ∀ d ∈ deps j, listed.getD d false = true) ∧ ∀ j o, listed.getD j false = true → l[j]? = some o → ∀ e ∈ o.after, Region.binds .any e = true → listed.getD e.on false = true) ∧ ∃ vs, a = puts l 0 vs a0 ∧ (((∀ j, s ≤ j → listed.getD j false = false) ∧ B w ∧ ∀ j, listed.getD j false = true → F j vs w) ∨ ∃ t, s ≤ t ∧ t ≤ l.length ∧ (∀ j, j < t → listed.getD j false = true) ∧ (∀ j, t ≤ j → listed.getD j false = false) ∧ Tail P l Q a0 t (l.drop t) vs w)) ?_ ?_ _ _ _ _ (by rw [opn_new]; exact Nat.le_refl _) ?_)
 ·rintro listed a w ⟨hsz, ⟨hcl, hcd⟩, vs, rfl, hcase⟩ i hi
  obtain ⟨hni, oi, hoi, hpre⟩ := mem_ready.1 hi
  have ho' : l[i]? = some oi := by simpa using hoi
  have hil : i < l.length := (List.getElem?_eq_some_iff.1 ho').1
  have hnf : listed.getD i false = false := by
   have : i < listed.size := by omega
   simpa [this] using hni
  have hset : ∀ j, (listed.setIfInBounds i true).getD j false = true → j = i ∨ listed.getD j false = true := fun j hj => by
   by_cases hji : i = j
   ·exact Or.inl hji.symm
   ·rw [getD_set_ne false hji] at hj; exact Or.inr hj
  have hself : (listed.setIfInBounds i true).getD i false = true := by
   have : i < listed.size := by omega
   simp [this]
  have hdeps : ∀ j, (listed.setIfInBounds i true).getD j false = true → ∀ d ∈ deps j, (listed.setIfInBounds i true).getD d false = true := fun j hj d hdd => by
   rcases hset j hj with rfl | hj'
   ·have := depsOk_spec deps l 0 j oi hdp ho'
    rw [Nat.zero_add] at this
    rcases this d hdd with rfl | ⟨e, he, hb, hde⟩
    ·exact hself
    ·exact getD_set_true (hcl _ (hpre e he hb) d hde)
   ·exact getD_set_true (hcl j hj' d hdd)
  have hcd2 : ∀ j o, (listed.setIfInBounds i true).getD j false = true → l[j]? = some o → ∀ e ∈ o.after, Region.binds .any e = true → (listed.setIfInBounds i true).getD e.on false = true := fun j o hj hoj e he hb => by
   rcases hset j hj with rfl | hj'
   ·obtain rfl : o = oi := Option.some.inj (hoj.symm.trans ho')
    exact getD_set_true (hpre e he hb)
   ·exact getD_set_true (hcd j o hj' hoj e he hb)
  have hputs : ∀ v, (puts l 0 vs a0).put oi.dst v = puts l 0 (upd vs i v) a0 := fun v => by have := puts_put l 0 i oi vs a0 v hap ho'; rwa [Nat.zero_add] at this
  have later : s ≤ i → (∀ j, j < i → listed.getD j false = true) := fun hsi j hj => by
   exact reach_spec (listed := fun j => listed.getD j false = true) hcd j l.length i (fun o ho e he hb => by
    obtain rfl : o = oi := Option.some.inj (ho.symm.trans ho')
    exact hpre e he hb) ((tailOk_spec htl i oi hsi ho').1 j hj)
  have hdrop : l.drop i = oi :: l.drop (i + 1) := by
   rw [List.drop_eq_getElem_cons hil]
   have : l[i] = oi := by rw [List.getElem?_eq_getElem hil] at ho'; exact Option.some.inj ho'
   rw [this]
  have hd2 : (i < s ∧ (∀ j, s ≤ j → listed.getD j false = false) ∧ B w ∧ ∀ j, listed.getD j false = true → F j vs w) ∨ (s ≤ i ∧ (∀ j, i ≤ j → listed.getD j false = false) ∧ Tail P l Q a0 i (l.drop i) vs w) := by
   rcases hcase with ⟨hns, hB, hF⟩ | ⟨t, hst, htl', hlow, hhigh, hT⟩
   ·by_cases his : i < s
    ·exact Or.inl ⟨his, hns, hB, hF⟩
    ·have hsi : s ≤ i := by omega
     have hl := later hsi
     have : i = s := by
      rcases Nat.lt_or_ge s i with h | h
      ·have h1 := hl s h; rw [hns s (Nat.le_refl _)] at h1; cases h1
      ·omega
     subst this
     exact Or.inr ⟨Nat.le_refl _, hns, hlast vs w hB fun j hj => hF j (hl j hj)⟩
   ·have hti : t ≤ i := by
     rcases Nat.lt_or_ge i t with h | h
     ·rw [hlow i h] at hnf; cases hnf
     ·exact h
    have hl := later (by omega)
    have : i = t := by
     rcases Nat.lt_or_ge t i with h | h
     ·have h1 := hl t h; rw [hhigh t (Nat.le_refl _)] at h1; cases h1
     ·omega
    subst this
    exact Or.inr ⟨hst, hhigh, hT⟩
  rcases hd2 with ⟨his, hns, hB, hF⟩ | ⟨hsi, hhigh, hT⟩
  ·have hot : (l.take s)[i]? = some oi := by rw [List.getElem?_take, if_pos his]; exact ho'
   have hst := Each.get (l.take s) 0 i oi (EachA.each _ 0 hop) hot
   rw [Nat.zero_add] at hst
   refine wpOp_step hoi fun K hK => ?_
   refine hst vs w hB (fun e he hb => hF _ (hpre e he hb)) K fun v w' hB' hFi hFj => hK _ _ ?_
   refine ⟨by simp [hsz], ⟨hdeps, hcd2⟩, upd vs i v, hputs v, Or.inl ⟨fun j hj => ?_, hB', fun j hj => ?_⟩⟩
   ·rw [getD_set_ne false (by omega)]; exact hns j hj
   ·by_cases hji : j = i
    ·subst hji; exact hFi
    ·rcases hset j hj with h | hj'
     ·exact absurd h hji
     ·refine hloc j vs i v w' (fun hin => ?_) (hFj j hji (hF j hj'))
      rw [hcl j hj' i hin] at hnf
      cases hnf
  ·rw [hdrop] at hT
   refine wpOp_step hoi fun K hK => ?_
   rw [if_pos (by simp [Region.wanted, (tailOk_spec htl i oi hsi ho').2])]
   refine hT _ (fun _ => rfl) K fun v w' hT' => hK _ _ ?_
   refine ⟨by simp [hsz], ⟨hdeps, hcd2⟩, upd vs i v, hputs v, Or.inr ⟨i + 1, by omega, hil, fun j hj => ?_, fun j hj => ?_, hT'⟩⟩
   ·rcases Nat.lt_or_ge j i with h | h
    ·exact getD_set_true (later hsi j h)
    ·obtain rfl : j = i := by omega
     exact hself
   ·rw [getD_set_ne false (by omega)]; exact hhigh j (by omega)
 ·rintro listed a w ⟨hsz, ⟨hcl, hcd⟩, vs, rfl, hcase⟩ hr
  have all : ∀ n, ∀ j, j < n → j < l.length → listed.getD j false = true := by
   intro n
   induction n with
   | zero => intro j h; omega
   | succ n ih =>
    intro j hjn hjl
    rcases Nat.lt_or_ge j n with h | h
    ·exact ih j h hjl
    obtain rfl : j = n := by omega
    have hoj : l[j]? = some l[j] := List.getElem?_eq_getElem hjl
    by_cases hc : listed.getD j false = true
    ·exact hc
    ·exfalso
     have hjs : j < listed.size := by omega
     have hmem : j ∈ Region.ready .any l.toArray listed := mem_ready.2 ⟨by simpa [hjs] using hc, l[j], by simp, fun e he hbe => by
      have := backB_spec l 0 j _ hbk hoj e he hbe
      exact ih e.on (by omega) (by omega)⟩
     rw [hr] at hmem
     cases hmem
  rcases hcase with ⟨hns, hB, hF⟩ | ⟨t, hst, htl', hlow, hhigh, hT⟩
  ·exfalso
   have h1 := all (s + 1) s (by omega) hsl
   rw [hns s (Nat.le_refl _)] at h1
   cases h1
  ·have : t = l.length := by
    rcases Nat.lt_or_ge t l.length with h | h
    ·have h1 := all (t + 1) t (by omega) h
     rw [hhigh t (Nat.le_refl _)] at h1
     cases h1
    ·omega
   subst this
   rw [List.drop_length] at hT
   exact hT
 ·obtain ⟨vs, hvs⟩ := puts_self l 0 a0
  have hno : ∀ j, (Array.replicate l.toArray.size false).getD j false = false := fun j => by
   rw [Array.getD_eq_getD_getElem?, Array.getElem?_replicate]
   split <;> rfl
  refine ⟨by simp, ⟨fun j hj => ?_, fun j o hj => ?_⟩, vs, hvs.symm, Or.inl ⟨fun j _ => hno j, h0, fun j hj => ?_⟩⟩
  all_goals
   rw [hno] at hj
   cases hj
end Go.Proofs.Ytpfpjbeofogbgaa.Ri
end
