/-
  What accs.put answers, as a contract: the rows in new memory, with a row at its place.
-/
import Derived.Test.YtdppelkfcnbgbaaYGet
import Derived.Test.YtdppelkfcnbgbaaYInsG
set_option linter.unusedSimpArgs false
set_option linter.unusedVariables false
set_option maxRecDepth 100000
namespace Go.Proofs.Ytdppelkfcnbgbaa.Ac
open Go.RowKit

theorem set5 (A D : List Value) (b0 b1 b2 b3 b4 a0 a1 a2 a3 a4 : Value) (p : Nat) (hA : A.length = p) :
    (((((A ++ b0 :: b1 :: b2 :: b3 :: b4 :: D).set p a0).set (p + 1) a1).set (p + 2) a2).set (p + 3) a3).set (p + 4) a4 = A ++ a0 :: a1 :: a2 :: a3 :: a4 :: D := by
  subst hA
  simp [List.set_append]
theorem drop5 (L : List Value) (p : Nat) (h : p + 5 ≤ L.length) : ∃ b0 b1 b2 b3 b4, L = L.take p ++ b0 :: b1 :: b2 :: b3 :: b4 :: L.drop (p + 5) := by
  refine ⟨L[p], L[p + 1], L[p + 2], L[p + 3], L[p + 4], ?_⟩
  rw [← List.drop_eq_getElem_cons (show p + 4 < L.length by omega), ← List.drop_eq_getElem_cons (show p + 3 < L.length by omega), ← List.drop_eq_getElem_cons (show p + 2 < L.length by omega), ← List.drop_eq_getElem_cons (show p + 1 < L.length by omega), ← List.drop_eq_getElem_cons (show p < L.length by omega), List.take_append_drop]
theorem rcs_set (l : List Row) (i : Nat) (r : Row) (hi : i < l.length) : rcs (l.set i r) = (rcs l).take (i * 5) ++ rc r ++ (rcs l).drop (i * 5 + 5) := by
  rw [List.set_eq_take_append_cons_drop, if_pos hi, rcs_app, rcs_cons, rcs_take, rcs_drop, List.append_assoc]
  congr 3
  omega
theorem take_spl (C X : List Value) (n p : Nat) (hX : X.length = 5) (hp : p + 5 ≤ n) (hn : n ≤ C.length) : (C.take p ++ X ++ C.drop (p + 5)).take n = (C.take n).take p ++ X ++ (C.take n).drop (p + 5) := by
  have h1 : (C.take p ++ X).length = p + 5 := by rw [List.length_append, List.length_take, hX]; omega
  rw [List.take_append, h1, List.take_of_length_le (by omega), List.take_take, Nat.min_eq_left (by omega), List.drop_take]
theorem own_put {B : Nat} {w : World} {g cap : Nat} {l : List Row} (h : Own B w (.slice (some ⟨g, 0, none⟩) l.length cap) l) (i : Nat) (r : Row) (hi : i < l.length) :
    Own B (((((w.setCell ⟨g, i * 5, none⟩ (.string (mk r.who))).setCell ⟨g, i * 5 + 1, none⟩ (.bool r.fam)).setCell ⟨g, i * 5 + 2, none⟩ (.int .i64 r.year)).setCell ⟨g, i * 5 + 3, none⟩ (.int .i64 r.de)).setCell ⟨g, i * 5 + 4, none⟩ (.int .i64 r.oo)) (.slice (some ⟨g, 0, none⟩) l.length cap) (l.set i r) := by
  rcases h.2 with ⟨e, _⟩ | ⟨g', cap', cur, e, hbg, hg, h1, h2, hs, ht⟩
  · simp at e
  · simp only [Value.slice.injEq, Option.some.injEq, Addr.mk.injEq, and_true, true_and] at e
    obtain ⟨rfl, rfl⟩ := e
    have s1 := heap_set hg (i * 5) (.string (mk r.who))
    have s2 := heap_set s1 (i * 5 + 1) (.bool r.fam)
    have s3 := heap_set s2 (i * 5 + 2) (.int .i64 r.year)
    have s4 := heap_set s3 (i * 5 + 3) (.int .i64 r.de)
    have s5 := heap_set s4 (i * 5 + 4) (.int .i64 r.oo)
    have hlen : (l.set i r).length = l.length := List.length_set
    refine ⟨by rw [rcs_len], Or.inr ⟨g, cap, _, by rw [hlen], hbg, s5, by rw [hlen]; exact h1, h2, by simpa using hs, ?_⟩⟩
    simp only [Array.toList_setIfInBounds]
    have hcl : cur.toList.length = cap * 5 := by simpa using hs
    obtain ⟨b0, b1, b2, b3, b4, hd⟩ := drop5 cur.toList (i * 5) (by omega)
    have hpl : (cur.toList.take (i * 5)).length = i * 5 := by rw [List.length_take]; omega
    have hall : ((((cur.toList.set (i * 5) (.string (mk r.who))).set (i * 5 + 1) (.bool r.fam)).set (i * 5 + 2) (.int .i64 r.year)).set (i * 5 + 3) (.int .i64 r.de)).set (i * 5 + 4) (.int .i64 r.oo) = cur.toList.take (i * 5) ++ rc r ++ cur.toList.drop (i * 5 + 5) := by
      conv => lhs; rw [hd]
      rw [set5 _ _ _ _ _ _ _ _ _ _ _ _ _ hpl]
      simp [rc]
    rw [hall, hlen, rcs_set l i r hi, ← ht]
    exact take_spl cur.toList (rc r) (l.length * 5) (i * 5) rfl (by omega) (by omega)
theorem own_base {B B' : Nat} {w : World} {v : Value} {l : List Row} (hB : B' ≤ B) (h : Own B w v l) : Own B' w v l :=
  ⟨h.1, h.2.imp id fun ⟨g, c, cur, e, h0, r⟩ => ⟨g, c, cur, e, Nat.le_trans hB h0, r⟩⟩
def putR (l : List Row) (r : Row) (i : Nat) (fb : Bool) : List Row := if fb = true then l.set i r else if r.oo = 0 then l else l.take i ++ r :: l.drop i

set_option maxHeartbeats 8000000 in
theorem put_any (l : List Row) (r : Row) (v : Value) (w : World) (h : RwsAt All w v l) (hl : l.length ≤ 10000) (hU : Up l) :
    Calls Try.prog 31 #[v, rwv r] w fun e w' => ∃ v' i fb, e = .returned v' ∧ Stands l r i fb ∧ Own w.heap.size w' v' (putR l r i fb) ∧ Below w.heap.size w w' := by
  have hb1 := below_alloc w (.cells #[.string (mk r.who), .bool r.fam, .int .i64 r.year, .int .i64 r.de, .int .i64 r.oo] TA)
  have hz1 := heap_alloc_new w (.cells #[.string (mk r.who), .bool r.fam, .int .i64 r.year, .int .i64 r.de, .int .i64 r.oo] TA)
  have hs1 : (w.alloc (.cells #[.string (mk r.who), .bool r.fam, .int .i64 r.year, .int .i64 r.de, .int .i64 r.oo] TA)).heap.size = w.heap.size + 1 := by simp
  have HZ := Lib.hid hz1
  have HB := Lib.hid hb1
  have HCl := Lib.hid (clone_any l v _ (h.grw hb1) (by omega))
  have HFi := Lib.hid fun W v' (hW : RwsAt All W v' l) => find_any l r v' W hW (by omega) hU
  obtain ⟨fa, fk, rfl, hm1, hm2⟩ := h.form
  have HL := Lib.hid hl
  clear h hb1 hz1
  go_enter Try.func31, Try.ntmps31
  go_upto_region 1 with fail
  generalize w.alloc (.cells #[.string (mk r.who), .bool r.fam, .int .i64 r.year, .int .i64 r.de, .int .i64 r.oo] TA) = W at *
  generalize hp : w.heap.size = p at *
  go_wp2_with fail
  go_at_call 45
  refine HCl.out.mono ?_
  rintro e w1 ⟨v1, rfl, ho1, hb1⟩
  have HB1 := Lib.hid (below_tr hp HB.out hb1)
  have HZ1 := Lib.hid (keepB HZ.out hb1)
  have HWp : Hid (p ≤ W.heap.size) := Nat.le_trans (Nat.le_succ p) (Nat.le_of_eq hs1.symm)
  have HS1 := Lib.hid (Nat.le_trans (Nat.le_of_eq hs1.symm) hb1.size)
  have HO1 := Lib.hid ho1
  have HQ : Hid (∀ b, v1.ownBlock = some b → p + 1 ≤ b) := fun b hb => by have := (ho1.lt b hb).1; rw [hs1] at this; exact this
  obtain ⟨a1, c1, rfl, hm3, hm4⟩ := own_form ho1
  have hc1 := (rws_of_own (K := All) ho1 fun _ _ => trivial)
  have HR1 := Lib.hid hc1
  clear ho1 hb1 HCl HZ HB hc1 hs1
  obtain ⟨z0, z1, z2, z3, z4⟩ := cells5 HZ1.out
  go_wp2_with fail
  go_at_call 33
  refine (HFi.out _ _ HR1.out).mono ?_
  rintro e w2 ⟨⟨i, fb, rfl, hst⟩, hb2⟩
  have HB2 := Lib.hid (below_tr hp HB1.out hb2)
  have HZ2 := Lib.hid (keepB HZ1.out hb2)
  have HO2 := Lib.hid (own_far HO1.out hb2)
  have HS2 := Lib.hid (Nat.le_trans HS1.out hb2.size)
  have HST := Lib.hid hst
  clear hb2 hst HFi HB1 HZ1 HO1 HR1 HS1 z0 z1 z2 z3 z4
  obtain ⟨z0, z1, z2, z3, z4⟩ := cells5 HZ2.out
  cases fb with
  | true =>
    obtain ⟨hi, -⟩ := HST.out.2.2.2.1 rfl
    have HE : Hid (putR l r i true = l.set i r) := (rfl : putR l r i true = l.set i r)
    have hform : ∃ g cur, a1 = some ⟨g, 0, none⟩ ∧ p + 1 ≤ g ∧ w2.heap[g]? = some (.cells cur TA (0, 0)) := by
      rcases HO2.out.2 with ⟨e, h0⟩ | ⟨g, cap, cur, e, hbg, hg, _⟩
      · omega
      · simp only [Value.slice.injEq] at e
        exact ⟨g, cur, e.1, HQ.out g (by rw [e.1]; rfl), hg⟩
    obtain ⟨g, cur, rfl, hgp, hg⟩ := hform
    have hc := cell_keep (rws_of_own (K := All) HO2.out fun _ _ => trivial) i hi
    rw [Nat.zero_add] at hc
    obtain ⟨x0, x1, x2, x3, x4⟩ := hc
    have t0 : w2.frozen? ⟨g, i * 5, none⟩ = false := Lib.frozen_of_heap hg _
    have t1 : w2.frozen? ⟨g, i * 5 + 1, none⟩ = false := Lib.frozen_of_heap hg _
    have t2 : w2.frozen? ⟨g, i * 5 + 2, none⟩ = false := Lib.frozen_of_heap hg _
    have t3 : w2.frozen? ⟨g, i * 5 + 3, none⟩ = false := Lib.frozen_of_heap hg _
    have t4 : w2.frozen? ⟨g, i * 5 + 4, none⟩ = false := Lib.frozen_of_heap hg _
    have HOF := Lib.hid (own_put HO2.out i r hi)
    have HBF : Hid (Below p w (((((w2.setCell ⟨g, i * 5, none⟩ (.string (mk r.who))).setCell ⟨g, i * 5 + 1, none⟩ (.bool r.fam)).setCell ⟨g, i * 5 + 2, none⟩ (.int .i64 r.year)).setCell ⟨g, i * 5 + 3, none⟩ (.int .i64 r.de)).setCell ⟨g, i * 5 + 4, none⟩ (.int .i64 r.oo))) :=
      ((((HB2.out.setCell (p := ⟨g, i * 5, none⟩) (show p ≤ g by omega) _).setCell (p := ⟨g, i * 5 + 1, none⟩) (show p ≤ g by omega) _).setCell (p := ⟨g, i * 5 + 2, none⟩) (show p ≤ g by omega) _).setCell (p := ⟨g, i * 5 + 3, none⟩) (show p ≤ g by omega) _).setCell (p := ⟨g, i * 5 + 4, none⟩) (show p ≤ g by omega) _
    have hiz : (i : Int) < (l.length : Int) := by omega
    clear hg HO2 HB2 HZ2 HS2 HQ
    go_wp2
    go_ret
    refine ⟨_, i, true, rfl, HST.out, ?_, ?_⟩
    · rw [hp, HE.out]
      exact own_base HWp.out HOF.out
    · rw [hp]; exact HBF.out
  | false =>
    by_cases h0 : r.oo = 0
    · have HE : Hid (putR l r i false = l) := (by unfold putR; rw [if_neg (by decide), if_pos h0] : putR l r i false = l)
      have hz : (r.oo == 0) = true := by simp [h0]
      clear h0
      go_wp2
      go_ret
      refine ⟨_, i, false, rfl, HST.out, ?_, ?_⟩
      · rw [hp, HE.out]
        exact own_base HWp.out HO2.out
      · rw [hp]; exact HB2.out
    · have HE : Hid (putR l r i false = l.take i ++ r :: l.drop i) := (by unfold putR; rw [if_neg (by decide), if_neg h0] : putR l r i false = l.take i ++ r :: l.drop i)
      have hz : (r.oo == 0) = false := by simp [h0]
      have hb3 := below_alloc w2 (.cells #[.string (mk r.who), .bool r.fam, .int .i64 r.year, .int .i64 r.de, .int .i64 r.oo] TA)
      have hz3 := heap_alloc_new w2 (.cells #[.string (mk r.who), .bool r.fam, .int .i64 r.year, .int .i64 r.de, .int .i64 r.oo] TA)
      have HIn := Lib.hid (insert_any l r i p _ w2.heap.size _ (own_base HWp.out (own_far HO2.out hb3)) HST.out.1 (by omega) (Nat.le_trans (by have := HS2.out; omega) hb3.size) (fun e => by have := (HO2.out.lt _ e).2; omega) hz3)
      have HB3 := Lib.hid (below_tr hp HB2.out hb3)
      obtain ⟨l2, Hl2⟩ : ∃ l2, Hid (l.take i ++ r :: l.drop i = l2) := ⟨_, (rfl : l.take i ++ r :: l.drop i = _)⟩
      rw [Hl2.out] at HIn HE
      clear h0 hb3 hz3 HO2 HB2 HZ2 HS2 HQ
      go_wp2_with fail
      go_at_call 46
      refine HIn.out.mono ?_
      rintro e w4 ⟨v4, rfl, ho4, hb4⟩
      have HO4 := Lib.hid ho4
      have HB4 := Lib.hid (HB3.out.trans hb4)
      obtain ⟨a4, c4, rfl, -, -⟩ := own_form ho4
      clear ho4 hb4 HIn HB3 z0 z1 z2 z3 z4
      go_wp2
      go_ret
      refine ⟨_, i, false, rfl, HST.out, ?_, ?_⟩
      · rw [hp, HE.out]
        exact HO4.out
      · rw [hp]; exact HB4.out
end Go.Proofs.Ytdppelkfcnbgbaa.Ac
