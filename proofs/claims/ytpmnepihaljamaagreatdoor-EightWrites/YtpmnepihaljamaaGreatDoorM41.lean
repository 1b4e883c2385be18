/-
  Texts put together (merge.py): NRefMon, ERLa, RInv.
-/
import Derived.RegionTactic
import Derived.Test.YtpmnepihaljamaaGreatDoorM36
import Derived.Test.YtpmnepihaljamaaGreatDoorM37
import Derived.Test.YtpmnepihaljamaaGreatDoorM40
/-
  What the reference's Money answers, as a contract: for every int64.
-/
section
namespace Go.Proofs.YtpmnepihaljamaaGreatDoor.Nu
open Go.RowKit Go.Sort Go.Lib

theorem dec_hundred (u : Nat) (h : 100 ≤ u) : decDigits u = decDigits (u / 100) ++ two u := by
  rw [dec_big u (by omega), dec_big (u / 10) (by omega), List.append_assoc, show u / 10 / 10 = u / 100 by omega]
  rfl
theorem pad_end (u j : Nat) (P : List UInt8) (hP : P = List.replicate j 48 ++ decDigits u) (hj : j = 0 ∨ j + (decDigits u).length ≤ 3) (hl : 3 ≤ P.length) : P.take (P.length - 2) = decDigits (u / 100) ∧ P.drop (P.length - 2) = two u := by
  by_cases h : 100 ≤ u
  · have e := dec_hundred u h
    have hp : 1 ≤ (decDigits (u / 100)).length := by rw [Lib.decDigits_length]; exact Lib.nDigits_pos _
    have h2 : (two u).length = 2 := rfl
    have hj0 : j = 0 := by rcases hj with h | h; exact h; rw [e, List.length_append] at h; omega
    subst hj0
    rw [List.replicate_zero, List.nil_append, e] at hP
    subst hP
    rw [List.length_append, h2, Nat.add_sub_cancel]
    exact ⟨List.take_left .., List.drop_left ..⟩
  · have e0 : decDigits (u / 100) = [48] := by rw [show u / 100 = 0 by omega]; exact dec_small 0 (by omega)
    rw [e0]
    by_cases h1 : u < 10
    · obtain ⟨c, ec, et⟩ := cents_one u (by omega)
      rw [show u % 100 = u by omega] at ec
      rw [ec] at hP hj
      have : j = 2 := by rw [hP] at hl; simp at hl hj; omega
      subst this
      subst hP
      rw [et]
      exact ⟨rfl, rfl⟩
    · obtain ⟨c, d, ec, et⟩ := cents_two u (by omega)
      rw [show u % 100 = u by omega] at ec
      rw [ec] at hP hj
      have : j = 1 := by rw [hP] at hl; simp at hl hj; omega
      subst this
      subst hP
      rw [et]
      exact ⟨rfl, rfl⟩
theorem str_ext {a : ByteArray} {l : List UInt8} (h : a.data.toList = l) : a = ⟨l.toArray⟩ := by subst h; exact (Lib.mk_data a).symm
theorem rint_str (n : Int) (h0 : -9223372036854775808 ≤ n) (h1 : n ≤ 9223372036854775807) (w : World) (S : ByteArray) (hS : S = ⟨(Lib.itoa n).toArray⟩) :
    Calls Tryz.prog 52 #[.int .i64 n] w fun e w' => e = .returned (.string S) ∧ Grw w w' := by
  subst hS; exact rint_any n h0 h1 w

/-- What the padding keeps. -/
def Pad (u : Nat) (T : ByteArray) : Prop := ∃ j, T.data.toList = List.replicate j 48 ++ decDigits u ∧ (j = 0 ∨ j + (decDigits u).length ≤ 3)
theorem pad_size (u : Nat) (T : ByteArray) (h : Pad u T) (hu : u < 18446744073709551616) : T.size ≤ 20 := by
  obtain ⟨j, e, hj⟩ := h
  have hl := dec_len u 20 (by omega) (by omega)
  rw [Lib.size_eq, e, List.length_append, List.length_replicate]
  omega
theorem pad_more (u : Nat) (T : ByteArray) (h : Pad u T) (hs : T.size < 3) : Pad u ((⟨#[48]⟩ : ByteArray) ++ T) := by
  obtain ⟨j, e, hj⟩ := h
  have hs' := Lib.size_eq T
  rw [e, List.length_append, List.length_replicate] at hs'
  refine ⟨j + 1, ?_, Or.inr (by omega)⟩
  rw [app_data, e, List.replicate_succ]
  rfl
theorem pad_out (u m : Nat) (T : ByteArray) (h : Pad u T) (hs : T.size = m + 2) (hm : 1 ≤ m) : (T.extract 0 m).data.toList = decDigits (u / 100) ∧ (T.extract m (m + 2)).data.toList = two u := by
  obtain ⟨j, e, hj⟩ := h
  have hl := Lib.size_eq T
  obtain ⟨p1, p2⟩ := pad_end u j _ e hj (by omega)
  rw [show T.data.toList.length - 2 = m by omega] at p1 p2
  rw [Lib.extract_data, Lib.extract_data]
  constructor
  · simpa using p1
  · rw [← p2]; exact List.take_of_length_le (by rw [List.length_drop]; omega)

set_option maxHeartbeats 2000000 in
theorem rmoney_any (a : Int) (h0 : -9223372036854775808 ≤ a) (h1 : a ≤ 9223372036854775807) (w : World) :
    Calls Tryz.prog 54 #[.int .i64 a] w fun e w' => e = .returned (.string ⟨(moneyL a).toArray⟩) ∧ Grw w w' := by
  obtain ⟨S, hS⟩ : ∃ S : ByteArray, Hid (S = ⟨(Lib.itoa a).toArray⟩) := ⟨_, rfl⟩
  by_cases hn : a < 0
  · obtain ⟨u, rfl⟩ : ∃ u : Nat, a = -(u : Int) := ⟨a.natAbs, by omega⟩
    have hl : S.data.toList = 45 :: decDigits u := by rw [hS.out, Lib.itoa_neg u (by omega)]
    have hsz : S.size = (decDigits u).length + 1 := by rw [Lib.size_eq, hl]; rfl
    have hdl := dec_len u 20 (by omega) (by omega)
    have h1s : (1 : Int) ≤ S.size := by omega
    have HE : Hid (Pad u (S.extract 1 S.size)) := by
      refine ⟨0, ?_, Or.inl rfl⟩
      rw [Lib.extract_data, hl, List.take_of_length_le (by simp; omega)]
      rfl
    clear hl
    have HZ := Lib.hid hsz
    clear hsz
    go_enter Tryz.func54, Tryz.ntmps54
    go_wp2_with (first | (go_at_call 52; refine (rint_str _ h0 h1 _ S hS.out).mono ?_; rintro e w1 ⟨rfl, g1⟩))
    go_loopg [3] (3 - (S.extract 1 S.size).size) (fun g s3 wx => ∃ T : ByteArray, s3 = .string T ∧ g = 3 - T.size ∧ Hid (Pad u T) ∧ wx = w1)
    case atStart => exact ⟨_, rfl, rfl, HE, rfl⟩
    case round =>
      obtain ⟨T, rfl, rfl, HP, rfl⟩ := hrel
      have ht := pad_size u T HP.out (by omega)
      by_cases hlt : T.size < 3
      · have HM := Lib.hid (pad_more u T HP.out hlt)
        go_wp2
        go_roundg (2 - T.size)
        case measure => omega
        case rel => exact ⟨_, rfl, by rw [app_size]; show 2 - T.size = 3 - (1 + T.size); omega, HM, rfl⟩
      · obtain ⟨m, hm⟩ : ∃ m, T.size = m + 2 := ⟨T.size - 2, by omega⟩
        obtain ⟨p1, p2⟩ := pad_out u m T HP.out hm (by omega)
        have H : Hid ((⟨(moneyL (-(u : Int))).toArray⟩ : ByteArray) = ⟨#[45]⟩ ++ T.extract 0 m ++ ⟨#[46]⟩ ++ T.extract m (m + 2)) := by
          show _ = _
          rw [money_neg u (by omega) _ _ rfl rfl, str_ext p1, str_ext p2]
          apply ByteArray.ext; simp
        have hm1 : 1 ≤ m := by omega
        have hm2 : m ≤ 20 := by omega
        clear p1 p2 hlt ht
        go_wp2
        go_quiet (fail)
        go_wp2
        go_ret
        exact ⟨by rw [H.out]; first | rfl | simp, grw_trans g1 (grw_drewN _ _)⟩
  · obtain ⟨u, rfl⟩ : ∃ u : Nat, a = (u : Int) := ⟨a.natAbs, by omega⟩
    have hl : S.data.toList = decDigits u := by rw [hS.out, Lib.itoa_nonneg u]
    have HE : Hid (Pad u S) := by
      refine ⟨0, ?_, Or.inl rfl⟩
      rw [hl]
      rfl
    clear hl
    go_enter Tryz.func54, Tryz.ntmps54
    go_wp2_with (first | (go_at_call 52; refine (rint_str _ h0 h1 _ S hS.out).mono ?_; rintro e w1 ⟨rfl, g1⟩))
    go_loopg [3] (3 - S.size) (fun g s3 wx => ∃ T : ByteArray, s3 = .string T ∧ g = 3 - T.size ∧ Hid (Pad u T) ∧ wx = w1)
    case atStart => exact ⟨_, rfl, rfl, HE, rfl⟩
    case round =>
      obtain ⟨T, rfl, rfl, HP, rfl⟩ := hrel
      have ht := pad_size u T HP.out (by omega)
      by_cases hlt : T.size < 3
      · have HM := Lib.hid (pad_more u T HP.out hlt)
        go_wp2
        go_roundg (2 - T.size)
        case measure => omega
        case rel => exact ⟨_, rfl, by rw [app_size]; show 2 - T.size = 3 - (1 + T.size); omega, HM, rfl⟩
      · obtain ⟨m, hm⟩ : ∃ m, T.size = m + 2 := ⟨T.size - 2, by omega⟩
        obtain ⟨p1, p2⟩ := pad_out u m T HP.out hm (by omega)
        have H : Hid ((⟨(moneyL (u : Int)).toArray⟩ : ByteArray) = ⟨#[]⟩ ++ T.extract 0 m ++ ⟨#[46]⟩ ++ T.extract m (m + 2)) := by
          show _ = _
          rw [money_pos u _ _ rfl rfl, str_ext p1, str_ext p2]
          apply ByteArray.ext; simp
        have hm1 : 1 ≤ m := by omega
        have hm2 : m ≤ 20 := by omega
        clear p1 p2 hlt ht
        go_wp2
        go_quiet (fail)
        go_wp2
        go_ret
        exact ⟨by rw [H.out]; first | rfl | simp, grw_trans g1 (grw_drewN _ _)⟩
end Go.Proofs.YtpmnepihaljamaaGreatDoor.Nu
end

/-
  What the reference's Line answers, as a contract: a service's segments, in new memory.
-/
section
set_option linter.unusedSimpArgs false
set_option linter.unusedVariables false
set_option maxRecDepth 100000
namespace Go.Proofs.YtpmnepihaljamaaGreatDoor
open Go.RowKit
open Cm (Ln LnBox lnv LnOk)

/-- Plain called for where its texts were just laid: new memory. -/
theorem rpl_row {w0 : World} {B : Nat} (ts : List Tx) (hn : ts.length ≤ 1000) (hB : B ≤ w0.heap.size) (V : World) (H : Nat) (hH : V.heap.size = H) (hV : Below w0.heap.size w0 V) (W : World) (hW : Below (V.alloc (.cells (ts.map fun t => Value.string (mk t)).toArray 9)).heap.size (V.alloc (.cells (ts.map fun t => Value.string (mk t)).toArray 9)) W) :
    Calls Tryz.prog 25 #[.slice (some ⟨H, 0, none⟩) ts.length ts.length] W fun x w' => (∃ ga gc, x = .returned (.agg #[.slice ga ts.length gc]) ∧ SegAt B ts (.slice ga ts.length gc) w') ∧ Below W.heap.size W w' := by
  subst hH
  refine (rpl_any _ ts _ (TxAt.move (tx_row V ts (by simp only [maxLen]; omega)) (Below.moves hW)) hn).mono ?_
  rintro _ _ ⟨⟨u, hx, he⟩, hb⟩
  obtain ⟨ga, gc, rfl⟩ : ∃ ga gc, u = .slice ga ts.length gc := by obtain ⟨ps, h1, _⟩ := he; exact own_form h1
  exact ⟨⟨ga, gc, hx, he.mono (by have h1 := (below_trans (below_alloc V _) hW).size; have h2 := hV.size; omega)⟩, hb⟩
theorem below_set {B q j : Nat} {a W : World} {v : Value} (h : Below B a W) (hq : B ≤ q) : Below B a (W.setCell ⟨q, j, none⟩ v) := h.setCell (p := ⟨q, j, none⟩) hq _
theorem drew_blk {W : World} {q : Nat} {o : Obj} (h : W.heap[q]? = some o) : W.drew.heap[q]? = some o := h
theorem wpList_append_run {P : Program} {w w' : World} {ops : Array Oper} {rest : List Oper} {o : Oper} {a : Act} {Q : Exit → Act → World → Prop} (hgd : o.guard = none) (s x : Operand) (t : TypeId) (ho : o.op = .call { callee := .builtin .append, args := #[s, x], argTypes := #[t, t] }) (vs vx r : Value) (hs : a.eval s = vs) (hx : a.eval x = vx) (hr : (Builtin.append_ #[t, t] o.type #[vs, vx]).run P w = .ok r w') (h : wpList P ops Q rest (a.put o.dst r) w') : wpList P ops Q (o :: rest) a w :=
  wpList_plain hgd fun _ hK => by
    unfold Oper.wp execOp
    simp only [ho, resolve, invoke, builtin, Sem.run_bind, Sem.run_pure, Result.andThen_ok, List.map_toArray, List.map_cons, List.map_nil, hs, hx, hr]
    exact hK _ _ h
/-- A service's second segment, of parts each in a block of its own. -/
theorem rsv_els {B g pA pB pC : Nat} {v : Value} {P : List Tx} {a b c : Tx} {W : World} (hg : W.heap[g]? = some (.cells #[slc pA, v, slc pB, slc pC] 45 (0, 0))) (hA : W.heap[pA]? = some (.cells #[.string (mk a)] 9 (0, 0))) (hB : W.heap[pB]? = some (.cells #[.string (mk b)] 9 (0, 0))) (hC : W.heap[pC]? = some (.cells #[.string (mk c)] 9 (0, 0))) (hv : TxAt (fun b => B ≤ b) W v P) (lo : B ≤ g ∧ B ≤ pA ∧ B ≤ pB ∧ B ≤ pC) :
    ElAt (fun b => B ≤ b) W (.slice (some ⟨g, 0, none⟩) 4 4) [[a], P, [b], [c]] := by
  refine ⟨_, 4, rfl, Nat.le_refl _, by simp [maxLen], Or.inr ⟨g, 0, rfl, lo.1, (Array.getElem?_eq_some_iff.1 hg).1, fun j x hj => ?_⟩⟩
  rw [Nat.zero_add, cell_of_row W g j _ _ (0, 0) hg]
  match j, hj with
  | 0, hj => simp at hj; subst hj; exact ⟨_, rfl, tx_block hA lo.2.1⟩
  | 1, hj => simp at hj; subst hj; exact ⟨_, rfl, hv⟩
  | 2, hj => simp at hj; subst hj; exact ⟨_, rfl, tx_block hB lo.2.2.1⟩
  | 3, hj => simp at hj; subst hj; exact ⟨_, rfl, tx_block hC lo.2.2.2⟩
/-- Behind the store into the box, wherever it was made. -/
theorem rsv_fill {w0 : World} {B g q pA pB pC : Nat} {v cv : Value} {P : List Tx} {a b c : Tx} {W : World} (hB0 : B ≤ w0.heap.size) (hv : TxAt (fun b => B ≤ b) w0 v P) (hW : Below w0.heap.size w0 W) (hq : W.heap[q]? = some (.cells #[cv] 50 (0, 0))) (hg : W.heap[g]? = some (.cells #[slc pA, v, slc pB, slc pC] 45 (0, 0))) (hA : W.heap[pA]? = some (.cells #[.string (mk a)] 9 (0, 0))) (hB : W.heap[pB]? = some (.cells #[.string (mk b)] 9 (0, 0))) (hC : W.heap[pC]? = some (.cells #[.string (mk c)] 9 (0, 0))) (lo : w0.heap.size ≤ q ∧ w0.heap.size ≤ g ∧ w0.heap.size ≤ pA ∧ w0.heap.size ≤ pB ∧ w0.heap.size ≤ pC) :
    Hid (ElAt (fun b => B ≤ b) (W.setCell ⟨q, 0, none⟩ (.slice (some ⟨g, 0, none⟩) 4 4)) (.slice (some ⟨g, 0, none⟩) 4 4) [[a], P, [b], [c]]) ∧ Hid ((W.setCell ⟨q, 0, none⟩ (.slice (some ⟨g, 0, none⟩) 4 4)).heap[q]? = some (.cells #[.slice (some ⟨g, 0, none⟩) 4 4] 50 (0, 0))) ∧ Hid (Below w0.heap.size w0 (W.setCell ⟨q, 0, none⟩ (.slice (some ⟨g, 0, none⟩) 4 4))) := by
  have hbb : Below w0.heap.size w0 (W.setCell ⟨q, 0, none⟩ (.slice (some ⟨g, 0, none⟩) 4 4)) := hW.setCell (p := ⟨q, 0, none⟩) lo.1 _
  exact ⟨rsv_els (heap_far hg (other_block hg hq (by decide))) (heap_far hA (other_block hA hq (by decide))) (heap_far hB (other_block hB hq (by decide))) (heap_far hC (other_block hC hq (by decide))) (TxAt.move hv ⟨hbb.size, fun b hb hk => ⟨hk, hbb.block b hb⟩⟩) ⟨by omega, by omega, by omega, by omega⟩, by show _ = _; rw [heap_set hq]; rfl, hbb⟩
/-- The box made last, with what is stored. -/
theorem rsv_new {w0 : World} {B g q pA pB pC : Nat} {v : Value} {P : List Tx} {a b c : Tx} {W : World} (hB0 : B ≤ w0.heap.size) (hv : TxAt (fun b => B ≤ b) w0 v P) (hW : Below w0.heap.size w0 W) (hq : W.heap.size = q) (hg : W.heap[g]? = some (.cells #[slc pA, v, slc pB, slc pC] 45 (0, 0))) (hA : W.heap[pA]? = some (.cells #[.string (mk a)] 9 (0, 0))) (hB : W.heap[pB]? = some (.cells #[.string (mk b)] 9 (0, 0))) (hC : W.heap[pC]? = some (.cells #[.string (mk c)] 9 (0, 0))) (lo : w0.heap.size ≤ g ∧ w0.heap.size ≤ pA ∧ w0.heap.size ≤ pB ∧ w0.heap.size ≤ pC) :
    Hid (ElAt (fun b => B ≤ b) (W.alloc (.cells #[.slice (some ⟨g, 0, none⟩) 4 4] 50)) (.slice (some ⟨g, 0, none⟩) 4 4) [[a], P, [b], [c]]) ∧ Hid ((W.alloc (.cells #[.slice (some ⟨g, 0, none⟩) 4 4] 50)).heap[q]? = some (.cells #[.slice (some ⟨g, 0, none⟩) 4 4] 50 (0, 0))) ∧ Hid (Below w0.heap.size w0 (W.alloc (.cells #[.slice (some ⟨g, 0, none⟩) 4 4] 50))) := by
  have hal := below_alloc W (.cells #[.slice (some ⟨g, 0, none⟩) 4 4] 50)
  have hbb := below_trans hW hal
  exact ⟨rsv_els (keepB hg hal) (keepB hA hal) (keepB hB hal) (keepB hC hal) (TxAt.move hv ⟨hbb.size, fun b hb hk => ⟨hk, hbb.block b hb⟩⟩) ⟨by omega, by omega, by omega, by omega⟩, new_at _ _ _ hq, hbb⟩
end Go.Proofs.YtpmnepihaljamaaGreatDoor
end

/-
  A region that leaves its order open, by facts: each operation, whenever it comes up, leaves a fact that lasts; so each is walked once, whatever the order.
-/
section
namespace Go.Proofs.YtpmnepihaljamaaGreatDoor.Ri
open Go

def opn (l : Array Bool) : Nat := l.toList.countP (fun b => !b)
theorem opn_set {l : Array Bool} {i : Nat} (h : l.getD i true = false) : opn (l.setIfInBounds i true) + 1 = opn l := by
  have hi : i < l.size := by
    rcases Nat.lt_or_ge i l.size with h' | h'
    · exact h'
    · simp [Array.getElem?_eq_none h'] at h
  have hb : l[i] = false := by simpa [hi] using h
  unfold opn
  rw [Array.toList_setIfInBounds]
  have e : l.toList = l.toList.take i ++ false :: l.toList.drop (i + 1) := by
    have := List.take_append_drop i l.toList
    rw [List.drop_eq_getElem_cons (by simpa using hi)] at this
    rw [← hb]; simpa using this.symm
  have e2 : l.toList.set i true = l.toList.take i ++ true :: l.toList.drop (i + 1) := by
    rw [List.set_eq_take_append_cons_drop, if_pos (by simpa using hi)]
  rw [e2]
  conv => rhs; rw [e]
  simp only [List.countP_append, List.countP_cons]
  simp
  omega
theorem wpAny_inv {P : Program} {ops : Array Oper} {Q : Exit → Act → World → Prop} (I : Array Bool → Act → World → Prop)
    (hs : ∀ listed a w, I listed a w → ∀ i ∈ Region.ready .any ops listed, wpOp P ops Q i (I (listed.setIfInBounds i true)) a w)
    (hd : ∀ listed a w, I listed a w → Region.ready .any ops listed = [] → Q .normal a w) :
    ∀ (fuel : Nat) (listed : Array Bool) (a : Act) (w : World), opn listed ≤ fuel → I listed a w → wpAny P .any ops Q fuel listed a w
  | 0, listed, a, w, hf, h => by
    have hr : Region.ready .any ops listed = [] := by
      cases hr : Region.ready .any ops listed with
      | nil => rfl
      | cons i r =>
        have hi : i ∈ Region.ready .any ops listed := by rw [hr]; exact List.mem_cons_self
        have := opn_set (mem_ready.1 hi).1
        omega
    exact ⟨hr, hd _ _ _ h hr⟩
  | fuel + 1, listed, a, w, hf, h => ⟨fun hr => hd _ _ _ h hr, fun i hi => wpOp_mono (fun a' w' h' => wpAny_inv I hs hd fuel _ a' w' (by have := opn_set (mem_ready.1 hi).1; omega) h') (hs _ _ _ h i hi)⟩
theorem opn_new (n : Nat) : opn (Array.replicate n false) = n := by simp [opn, List.countP_replicate]

/-! ### The frame: its own slots, and what the operations have put -/
def upd (vs : Nat → Value) (i : Nat) (v : Value) : Nat → Value := fun k => if k = i then v else vs k
theorem upd_same (vs : Nat → Value) (i : Nat) (v : Value) : upd vs i v i = v := if_pos rfl
theorem upd_ne (vs : Nat → Value) {i k : Nat} (v : Value) (h : k ≠ i) : upd vs i v k = vs k := if_neg h
def puts : List Oper → Nat → (Nat → Value) → Act → Act
  | [], _, _, a => a
  | o :: l, k, vs, a => puts l (k + 1) vs (a.put o.dst (vs k))
def apartD : List Oper → Bool
  | [] => true
  | o :: l => (o.dst.isNone || l.all fun x => x.dst != o.dst) && apartD l
theorem puts_congr : ∀ (l : List Oper) (k : Nat) (vs us : Nat → Value) (a : Act), (∀ j, k ≤ j → vs j = us j) → puts l k vs a = puts l k us a
  | [], _, _, _, _, _ => rfl
  | o :: l, k, vs, us, a, h => by
    show puts l (k + 1) vs (a.put o.dst (vs k)) = puts l (k + 1) us (a.put o.dst (us k))
    rw [h k (Nat.le_refl _)]
    exact puts_congr l (k + 1) vs us _ fun j hj => h j (by omega)
theorem put_put (a : Act) (d : Option Tmp) (u v : Value) : (a.put d u).put d v = a.put d v := by
  cases d with
  | none => rfl
  | some d => simp [Act.put]
theorem puts_late : ∀ (l : List Oper) (k : Nat) (vs : Nat → Value) (a : Act) (d : Option Tmp) (v : Value), (∀ x ∈ l, ∀ t, x.dst = some t → d ≠ some t) → (puts l k vs a).put d v = puts l k vs (a.put d v)
  | [], _, _, _, _, _, _ => rfl
  | o :: l, k, vs, a, d, v, h => by
    show (puts l (k + 1) vs (a.put o.dst (vs k))).put d v = puts l (k + 1) vs ((a.put d v).put o.dst (vs k))
    rw [puts_late l (k + 1) vs _ d v fun x hx => h x (List.mem_cons_of_mem _ hx), Act.put_comm a (vs k) v fun t ht => h o List.mem_cons_self t ht]
theorem puts_put : ∀ (l : List Oper) (k i : Nat) (o : Oper) (vs : Nat → Value) (a : Act) (v : Value), apartD l = true → l[i]? = some o → (puts l k vs a).put o.dst v = puts l k (upd vs (k + i) v) a
  | [], _, _, _, _, _, _, _, h => by simp at h
  | x :: l, k, 0, o, vs, a, v, hap, h => by
    simp at h
    subst h
    show (puts l (k + 1) vs (a.put x.dst (vs k))).put x.dst v = puts l (k + 1) (upd vs k v) (a.put x.dst (upd vs k v k))
    rw [upd_same]
    simp only [apartD, Bool.and_eq_true, Bool.or_eq_true, List.all_eq_true] at hap
    rw [puts_late l (k + 1) vs _ x.dst v ?_, put_put]
    · exact puts_congr l (k + 1) _ _ _ fun j hj => (upd_ne vs v (by omega)).symm
    · intro y hy t ht e
      rcases hap.1 with h1 | h1
      · rw [e] at h1; cases h1
      · have := h1 y hy
        rw [ht, e] at this
        simp at this
  | x :: l, k, i + 1, o, vs, a, v, hap, h => by
    simp at h
    show (puts l (k + 1) vs (a.put x.dst (vs k))).put o.dst v = puts l (k + 1) (upd vs (k + (i + 1)) v) (a.put x.dst (upd vs (k + (i + 1)) v k))
    simp only [apartD, Bool.and_eq_true] at hap
    rw [puts_put l (k + 1) i o vs _ v hap.2 h, upd_ne vs v (show k ≠ k + (i + 1) by omega), show k + 1 + i = k + (i + 1) by omega]
theorem put_self (a : Act) (d : Option Tmp) : ∃ v, a.put d v = a := by
  cases d with
  | none => exact ⟨undef, rfl⟩
  | some d =>
    refine ⟨a.tmps.getD d undef, ?_⟩
    show ({ a with tmps := a.tmps.setIfInBounds d (a.tmps.getD d undef) } : Act) = a
    have : a.tmps.setIfInBounds d (a.tmps.getD d undef) = a.tmps := by
      apply Array.ext_getElem?
      intro i
      rw [Array.getElem?_setIfInBounds]
      split
      · next h => subst h; split
                  · next h' => simp [h']
                  · next h' => rw [Array.getElem?_eq_none (by omega)]
      · rfl
    rw [this]
theorem puts_self : ∀ (l : List Oper) (k : Nat) (a : Act), ∃ vs, puts l k vs a = a
  | [], _, a => ⟨fun _ => undef, rfl⟩
  | o :: l, k, a => by
    obtain ⟨v, hv⟩ := put_self a o.dst
    obtain ⟨vs, hvs⟩ := puts_self l (k + 1) a
    refine ⟨upd vs k v, ?_⟩
    show puts l (k + 1) (upd vs k v) (a.put o.dst (upd vs k v k)) = a
    rw [upd_same, hv, puts_congr l (k + 1) _ vs a fun j hj => upd_ne vs v (by omega)]
    exact hvs

/-! ### The law -/
def back : Nat → List Oper → Bool
  | _, [] => true
  | k, o :: l => (o.after.all fun e => decide (e.on < k)) && back (k + 1) l
theorem back_spec : ∀ (l : List Oper) (k i : Nat) (o : Oper), back k l = true → l[i]? = some o → ∀ e ∈ o.after, e.on < k + i
  | [], _, _, _, _, h => by simp at h
  | x :: l, k, 0, o, hb, h => by
    simp at h; subst h
    simp only [back, Bool.and_eq_true, Array.all_eq_true_iff_forall_mem, decide_eq_true_eq] at hb
    exact fun e he => hb.1 e he
  | x :: l, k, i + 1, o, hb, h => by
    simp at h
    simp only [back, Bool.and_eq_true] at hb
    intro e he
    have := back_spec l (k + 1) i o hb.2 h e he
    omega
/-- What a fact may look at: its own value, and what is looked at by those that it waits for. -/
def depsOk (deps : Nat → List Nat) : Nat → List Oper → Bool
  | _, [] => true
  | k, o :: l => ((deps k).all fun d => d == k || o.after.any fun e => Region.binds .any e && (deps e.on).contains d) && depsOk deps (k + 1) l
theorem depsOk_spec (deps : Nat → List Nat) : ∀ (l : List Oper) (k i : Nat) (o : Oper), depsOk deps k l = true → l[i]? = some o → ∀ d ∈ deps (k + i), d = k + i ∨ ∃ e ∈ o.after, Region.binds .any e = true ∧ d ∈ deps e.on
  | [], _, _, _, _, h => by simp at h
  | x :: l, k, 0, o, hb, h => by
    simp at h; subst h
    simp only [depsOk, Bool.and_eq_true, List.all_eq_true, Bool.or_eq_true, beq_iff_eq, Array.any_eq_true', List.contains_eq_mem, decide_eq_true_eq] at hb
    intro d hd
    rcases hb.1 d hd with h1 | ⟨e, he, h2, h3⟩
    · exact Or.inl h1
    · exact Or.inr ⟨e, he, h2, h3⟩
  | x :: l, k, i + 1, o, hb, h => by
    simp at h
    simp only [depsOk, Bool.and_eq_true] at hb
    intro d hd
    have := depsOk_spec deps l (k + 1) i o hb.2 h d (by rw [show k + 1 + i = k + (i + 1) by omega]; exact hd)
    rwa [show k + 1 + i = k + (i + 1) by omega] at this
def Step (P : Program) (l : List Oper) (Q : Exit → Act → World → Prop) (a0 : Act) (B : World → Prop) (F : Nat → (Nat → Value) → World → Prop) (k : Nat) (o : Oper) : Prop :=
  ∀ (vs : Nat → Value) (w : World), B w → (∀ e ∈ o.after, Region.binds .any e = true → F e.on vs w) → ∀ K : Act → World → Prop, (∀ v w', B w' → F k (upd vs k v) w' → (∀ j, j ≠ k → F j vs w → F j vs w') → K ((puts l 0 vs a0).put o.dst v) w') → if Region.wanted o (yielded l.toArray (puts l 0 vs a0).tmps) = true then Oper.wp P o (puts l 0 vs a0) w K Q else K ((puts l 0 vs a0).put o.dst undef) w
def Each (P : Program) (l : List Oper) (Q : Exit → Act → World → Prop) (a0 : Act) (B : World → Prop) (F : Nat → (Nat → Value) → World → Prop) : Nat → List Oper → Prop
  | _, [] => True
  | k, o :: r => Step P l Q a0 B F k o ∧ Each P l Q a0 B F (k + 1) r
theorem Each.get {P : Program} {l : List Oper} {Q : Exit → Act → World → Prop} {a0 : Act} {B : World → Prop} {F : Nat → (Nat → Value) → World → Prop} : ∀ (r : List Oper) (k i : Nat) (o : Oper), Each P l Q a0 B F k r → r[i]? = some o → Step P l Q a0 B F (k + i) o
  | [], _, _, _, _, h => by simp at h
  | x :: r, k, 0, o, hh, h => by simp at h; subst h; exact hh.1
  | x :: r, k, i + 1, o, hh, h => by
    simp at h
    have := Each.get r (k + 1) i o hh.2 h
    rwa [show k + 1 + i = k + (i + 1) by omega] at this
theorem wp_region_facts {P : Program} {id : Nat} {l : List Oper} {Q : Exit → Act → World → Prop} {a0 : Act} {w0 : World} (hm : P.follows .mixedOrders = true) (hap : apartD l = true) (hbk : back 0 l = true)
    (B : World → Prop) (F : Nat → (Nat → Value) → World → Prop) (deps : Nat → List Nat) (hdp : depsOk deps 0 l = true)
    (hloc : ∀ j vs i v w, i ∉ deps j → F j vs w → F j (upd vs i v) w) (h0 : B w0.drew) (hop : Each P l Q a0 B F 0 l)
    (hd : ∀ vs w, B w → (∀ j, j < l.length → F j vs w) → Q .normal (puts l 0 vs a0) w) : (Code.region id l.toArray true).wp P Q a0 w0 := by
  refine wp_region_any hm (wpAny_inv (fun listed a w => listed.size = l.length ∧ (∀ j, listed.getD j false = true → ∀ d ∈ deps j, listed.getD d false = true) ∧ ∃ vs, a = puts l 0 vs a0 ∧ B w ∧ ∀ j, listed.getD j false = true → F j vs w) ?_ ?_ _ _ _ _ (by rw [opn_new]; exact Nat.le_refl _) ?_)
  · rintro listed a w ⟨hsz, hcl, vs, rfl, hB, hF⟩ i hi
    obtain ⟨hni, o, ho, hpre⟩ := mem_ready.1 hi
    have ho' : l[i]? = some o := by simpa using ho
    have hil : i < l.length := (List.getElem?_eq_some_iff.1 ho').1
    have hnf : listed.getD i false = false := by
      have : i < listed.size := by omega
      simpa [this] using hni
    have hst := Each.get l 0 i o hop ho'
    rw [Nat.zero_add] at hst
    refine wpOp_step ho fun K hK => ?_
    refine hst vs w hB (fun e he hb => hF _ (hpre e he hb)) K fun v w' hB' hFi hFj => hK _ _ ?_
    have hset : ∀ j, (listed.setIfInBounds i true).getD j false = true → j = i ∨ listed.getD j false = true := fun j hj => by
      by_cases hji : i = j
      · exact Or.inl hji.symm
      · rw [getD_set_ne false hji] at hj; exact Or.inr hj
    refine ⟨by simp [hsz], fun j hj d hdd => ?_, upd vs i v, by have := puts_put l 0 i o vs a0 v hap ho'; rwa [Nat.zero_add] at this, hB', fun j hj => ?_⟩
    · rcases hset j hj with rfl | hj'
      · have := depsOk_spec deps l 0 j o hdp ho'
        rw [Nat.zero_add] at this
        rcases this d hdd with rfl | ⟨e, he, hb, hde⟩
        · have : d < listed.size := by omega
          simp [this]
        · exact getD_set_true (hcl _ (hpre e he hb) d hde)
      · exact getD_set_true (hcl j hj' d hdd)
    · by_cases hji : j = i
      · subst hji; exact hFi
      · rcases hset j hj with h | hj'
        · exact absurd h hji
        · refine hloc j vs i v w' (fun hin => ?_) (hFj j hji (hF j hj'))
          rw [hcl j hj' i hin] at hnf
          cases hnf
  · rintro listed a w ⟨hsz, hcl, vs, rfl, hB, hF⟩ hr
    refine hd vs w hB fun j hj => hF j ?_
    have all : ∀ n, ∀ j, j < n → j < l.length → listed.getD j false = true := by
      intro n
      induction n with
      | zero => intro j h; omega
      | succ n ih =>
        intro j hjn hjl
        rcases Nat.lt_or_ge j n with h | h
        · exact ih j h hjl
        obtain rfl : j = n := by omega
        have hoj : l[j]? = some l[j] := List.getElem?_eq_getElem hjl
        by_cases hc : listed.getD j false = true
        · exact hc
        · exfalso
          have hjs : j < listed.size := by omega
          have hmem : j ∈ Region.ready .any l.toArray listed := mem_ready.2 ⟨by simpa [hjs] using hc, l[j], by simp, fun e he _ => by
            have := back_spec l 0 j _ hbk hoj e he
            exact ih e.on (by omega) (by omega)⟩
          rw [hr] at hmem
          cases hmem
    exact all (j + 1) j (by omega) hj
  · obtain ⟨vs, hvs⟩ := puts_self l 0 a0
    refine ⟨by simp, fun j hj => ?_, vs, hvs.symm, h0, fun j hj => ?_⟩
    all_goals
      exfalso
      rw [Array.getD_eq_getD_getElem?, Array.getElem?_replicate] at hj
      split at hj <;> simp at hj
/-! ### The same, over a frame that is a letter: what each slot holds is known -/
def Pre (F : Nat → (Nat → Value) → World → Prop) (vs : Nat → Value) (w : World) : List Edge → Prop
  | [] => True
  | e :: r => (Region.binds .any e = true → F e.on vs w) ∧ Pre F vs w r
theorem Pre.of {F : Nat → (Nat → Value) → World → Prop} {vs : Nat → Value} {w : World} : ∀ (r : List Edge), (∀ e ∈ r, Region.binds .any e = true → F e.on vs w) → Pre F vs w r
  | [], _ => trivial
  | e :: r, h => ⟨h e List.mem_cons_self, Pre.of r fun e he => h e (List.mem_cons_of_mem _ he)⟩
def StepA (P : Program) (l : List Oper) (Q : Exit → Act → World → Prop) (a0 : Act) (B : World → Prop) (F : Nat → (Nat → Value) → World → Prop) (k : Nat) (o : Oper) : Prop :=
  ∀ (vs : Nat → Value) (w : World) (A : Act), (∀ t : Nat, A.tmps[t]?.getD undef = (puts l 0 vs a0).tmps[t]?.getD undef) → B w → Pre F vs w o.after.toList → ∀ K : Act → World → Prop, (∀ v w', B w' → F k (upd vs k v) w' → (∀ j, j ≠ k → F j vs w → F j vs w') → K (A.put o.dst v) w') → o.wp P A w K Q
def EachA (P : Program) (l : List Oper) (Q : Exit → Act → World → Prop) (a0 : Act) (B : World → Prop) (F : Nat → (Nat → Value) → World → Prop) : Nat → List Oper → Prop
  | _, [] => True
  | k, o :: r => (o.guard = none ∧ StepA P l Q a0 B F k o) ∧ EachA P l Q a0 B F (k + 1) r
theorem EachA.each {P : Program} {l : List Oper} {Q : Exit → Act → World → Prop} {a0 : Act} {B : World → Prop} {F : Nat → (Nat → Value) → World → Prop} : ∀ (r : List Oper) (k : Nat), EachA P l Q a0 B F k r → Each P l Q a0 B F k r
  | [], _, _ => trivial
  | o :: r, k, h => ⟨fun vs w hB hpre K hK => by
      rw [if_pos (by simp [Region.wanted, h.1.1])]
      exact h.1.2 vs w _ (fun _ => rfl) hB (Pre.of _ fun e he => hpre e (by simpa using he)) K hK, EachA.each r (k + 1) h.2⟩
theorem wp_region_lasting {P : Program} {id : Nat} {l : List Oper} {Q : Exit → Act → World → Prop} {a0 : Act} {w0 : World} (hm : P.follows .mixedOrders = true) (hap : apartD l = true) (hbk : back 0 l = true)
    (B : World → Prop) (F : Nat → (Nat → Value) → World → Prop) (deps : Nat → List Nat) (hdp : depsOk deps 0 l = true)
    (hloc : ∀ j vs i v w, i ∉ deps j → F j vs w → F j (upd vs i v) w) (h0 : B w0.drew) (hop : EachA P l Q a0 B F 0 l)
    (hd : ∀ vs w, B w → (∀ j, j < l.length → F j vs w) → Q .normal (puts l 0 vs a0) w) : (Code.region id l.toArray true).wp P Q a0 w0 :=
  wp_region_facts hm hap hbk B F deps hdp hloc h0 (EachA.each l 0 hop) hd
end Go.Proofs.YtpmnepihaljamaaGreatDoor.Ri
end
