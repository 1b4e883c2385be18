/-
  Texts put together (merge.py): YClone, YIns.
-/
import Derived.Lib.Overlaps
import Derived.Lib.AppendZerosOnto
import Derived.Lib.SliceRun
import Derived.Laws.CopyRow
import Derived.Laws.CopyOwn
import Derived.Laws.Externs
import Derived.Test.YtfoooldkmokjpaaGreatDoorMj8
set_option linter.unusedSimpArgs false
set_option linter.unusedVariables false
section
set_option maxRecDepth 100000
namespace Go.Proofs.YtfoooldkmokjpaaGreatDoor.Ac
open Go.RowKit
theorem run_copy_rows (P : Program) (w : World) (dT sT ty elem : TypeId) (sz g o dLen dCap : Nat) (a : Addr) (sLen sCap : Nat) (cur : Array Value) (t : TypeId) (cs : List Value)
  (hu : P.underlying dT = some (.slice elem)) (hs : (P.info? elem).map (·.size) = some sz)
  (hg : w.heap[g]? = some (.cells cur t (0, 0))) (hn : cs.length = Nat.min sLen dLen * sz)
  (hsrc : ∀ j v, cs[j]? = some v → w.cell? (a.add j) = some v) (hfit : o + cs.length ≤ cur.size) (h1 : ∀ v ∈ cs, v.oneCell' = true) :
  (Builtin.copy_ #[dT, sT] ty #[.slice (some ⟨g, o, none⟩) dLen dCap, .slice (some a) sLen sCap]).run P w =
   .ok (goInt (Nat.min sLen dLen)) (w.setRow g (cur.toList.take o ++ cs ++ cur.toList.drop (o + cs.length)).toArray) := by
 have hl := run_loadCells_list (P := P) w a cs hsrc
 have hst := run_storeCells_at P g o t cs 0 cur w hg (by simpa using hfit) h1
 cases hq : P.info? elem with
 | none => simp [hq] at hs
 | some i =>
  have hi : i.size = sz := by simpa [hq] using hs
  simp [Builtin.copy_, run_underlying hu, Builtin.lenOf, Builtin.firstCells, sizeOf, typeInfo, hq, hi, ← hn, hl, hst]
theorem add_lit (b o j : Nat) : (⟨b, o, none⟩ : Addr).add j = ⟨b, o + j, none⟩ := by unfold Addr.add; split <;> simp_all
theorem rows_src {w : World} {b o : Nat} {l : List Row} (h : ∀ (j : Nat) x, l[j]? = some x → RwCells w b (o + j * 5) x) (j : Nat) (u : Value) (hj : (rcs l)[j]? = some u) : w.cell? ⟨b, o + j, none⟩ = some u := by
 have hjl : j < l.length * 5 := by have := (List.getElem?_eq_some_iff.1 hj).1; rwa [rcs_len] at this
 have hq : j / 5 < l.length := by omega
 have hx := List.getElem?_eq_getElem hq
 obtain ⟨c0, c1, c2, c3, c4⟩ := h _ _ hx
 have e := rcs_at l (j / 5) _ hx (j % 5) (Nat.mod_lt _ (by omega))
 rw [show j / 5 * 5 + j % 5 = j by omega, hj] at e
 have hr : j % 5 = 0 ∨ j % 5 = 1 ∨ j % 5 = 2 ∨ j % 5 = 3 ∨ j % 5 = 4 := by omega
 rcases hr with r | r | r | r | r <;> rw [r] at e
 ·rw [show o + j = o + j / 5 * 5 by omega, c0]; exact e.symm
 ·rw [show o + j = o + j / 5 * 5 + 1 by omega, c1]; exact e.symm
 ·rw [show o + j = o + j / 5 * 5 + 2 by omega, c2]; exact e.symm
 ·rw [show o + j = o + j / 5 * 5 + 3 by omega, c3]; exact e.symm
 ·rw [show o + j = o + j / 5 * 5 + 4 by omega, c4]; exact e.symm
set_option maxHeartbeats 4000000 in
theorem clone_any (l : List Row) (v : Value) (w : World) (h : RwsAt All w v l) (hl : l.length ≤ 1000000) :
  Calls Tryz.prog 28 #[v] w fun e w' => ∃ v', e = .returned v' ∧ Own w.heap.size w' v' l ∧ Below w.heap.size w w' := by
 obtain ⟨a, c, rfl, h1, h2, h3⟩ := h
 have q22 : ∀ (w : World) (a : Option Addr) (n c n' c' : Nat), (binOp .eql 32 (.slice a n c) (.slice none n' c')).run Tryz.prog w = .ok (.bool a.isNone) w := fun w a n c n' c' => Lib.run_eql_slice_nil w _ _ a n c n' c' Tryz.underlying32
 cases a with
 | none =>
  have hl0 : l = [] := by
   rcases h3 with h | ⟨b, o, e, _⟩
   ·exact h
   ·cases e
  subst hl0
  go_enter Tryz.func28, Tryz.ntmps28
  go_wp2
  go_ret
  exact ⟨_, rfl, own_nil _ _, Below.refl _ _⟩
 | some ad =>
  obtain ⟨b, o, s⟩ := ad
  obtain ⟨i0, hi, hz0, hz1, hz2⟩ := infoA
  have HS : Hid (∀ j u, (rcs l)[j]? = some u → w.cell? ((⟨b, o, s⟩ : Addr).add j) = some u) := by
   intro j u hj
   rcases h3 with h | ⟨b', o', e, _, _, hc⟩
   ·subst h; simp [rcs] at hj
   ·simp only [Option.some.injEq, Addr.mk.injEq] at e
    obtain ⟨rfl, rfl, rfl⟩ := e
    rw [add_lit]
    exact rows_src hc j u hj
  clear h3
  go_enter Tryz.func28, Tryz.ntmps28
  go_wp2_with (at_builtin; refine wpList_append_own _ rfl _ _ 32 rfl w.heap.size TA i0 _ 5 48 Tryz.underlying32 hi hz0 hz1 hz2 rfl (by decide) _ _ _ rfl (World.ownsRow_made w #[] 0 (Nat.le_refl _) (Nat.zero_le _) rfl) ⟨b, o, s⟩ l.length c (rcs l) rfl ?qc1 ?qc2 ?qc3 ?qc4 ?qc5 ?qc6 ?_)
  case qc1 => rw [rcs_len]
  case qc2 => intro j u hj; exact Lib.cell?_alloc_some _ (HS.out j u hj)
  case qc3 => exact rcs_one l
  case qc4 => unfold maxLen; omega
  case qc5 => omega
  case qc6 => simp
  intro v' w1 hown hgrow hnil
  go_wp2
  go_ret
  refine ⟨v', rfl, ?_, ?_⟩
  ·unfold Own; simpa using hown
  ·exact ((Below.refl _ w).alloc (Nat.le_refl _) _).grown hgrow (by simp) (by intro k hk; simp [Value.ownBlock] at hk; omega)
end Go.Proofs.YtfoooldkmokjpaaGreatDoor.Ac
end
section
set_option maxRecDepth 100000
namespace Go.Proofs.YtfoooldkmokjpaaGreatDoor.Ac
open Go.RowKit
theorem wpList_app_E {P : Program} {w : World} {ops : Array Oper} {rest : List Oper} {o : Oper} {a : Act} {Q : Exit → Act → World → Prop} (hgd : o.guard = none) (s x : Operand) (t tn : TypeId)
  (ho : o.op = .call { callee := .builtin .append, args := #[s, x], argTypes := #[t, tn] }) (vs vx : Value) (hs : a.eval s = vs) (hx : a.eval x = vx) (v' : Value) (R : World → Prop)
  (hr : ∃ w', (Builtin.append_ #[t, tn] o.type #[vs, vx]).run P w = .ok v' w' ∧ R w') (h : ∀ w', Hid (R w') → wpList P ops Q rest (a.put o.dst v') w') : wpList P ops Q (o :: rest) a w := by
 obtain ⟨w', hr, hR⟩ := hr
 exact Lib.wpList_append_run w hgd s x t tn ho vs vx hs hx v' w' hr (h w' hR)
theorem step_copy_E {P : Program} {ops : Array Oper} {o : Oper} {a : Act} {w : World} {K : Act → World → Prop} {Q : Exit → Act → World → Prop} {E : Prop}
  (hg : o.guard = none) (d x : Operand) (dT sT : TypeId) (hop : o.op = Op.call { callee := Callee.builtin Builtin.copy, args := #[d, x], argTypes := #[dT, sT] })
  (v u : Value) (hd : a.eval d = v) (hx : a.eval x = u) (v' : Value) (R : World → Prop) (hr : ∃ w', (Builtin.copy_ #[dT, sT] o.type #[v, u]).run P w = .ok v' w' ∧ R w') (hK : ∀ w', Hid (R w') → K (a.put o.dst v') w') :
  if Region.wanted o (yielded ops a.tmps) = true then Oper.wp P o a w K Q else E := by
 obtain ⟨w', h1, h2⟩ := hr
 have h3 := hK w' h2
 subst hd hx
 rw [if_pos (show Region.wanted o (yielded ops a.tmps) = true by simp [Region.wanted, hg])]
 unfold Oper.wp
 simp [execOp, hop, resolve, invoke, builtin, h1, Result.andThen]
 exact h3
def spl (L : List Value) (off : Nat) (cs : List Value) : List Value := L.take off ++ cs ++ L.drop (off + cs.length)
theorem spl_len (L : List Value) (off : Nat) (cs : List Value) (h : off + cs.length ≤ L.length) : (spl L off cs).length = L.length := by simp [spl]; omega
theorem spl_take (L : List Value) (off : Nat) (cs : List Value) (h : off + cs.length ≤ L.length) : (spl L off cs).take (off + cs.length) = L.take off ++ cs := by
 unfold spl
 exact List.take_left' (by simp; omega)
theorem spl_head (L : List Value) (off : Nat) (cs : List Value) (k : Nat) (hk : k ≤ off) (h : off + cs.length ≤ L.length) : (spl L off cs).take k = L.take k := by
 unfold spl
 rw [List.append_assoc, List.take_append_of_le_length (by simp; omega), List.take_take]
 congr 1; omega
theorem spl_two {L A X D : List Value} {p q r : Nat} (hA : L.take p = A) (hp : p + X.length = q) (hq : q + D.length = r) (hr : r ≤ L.length) : (spl (spl L p X) q D).take r = A ++ X ++ D := by
 have h1 : p + X.length ≤ L.length := by omega
 have e1 := spl_take L p X h1
 rw [hA, hp] at e1
 have h2 : q + D.length ≤ (spl L p X).length := by rw [spl_len _ _ _ h1]; omega
 have e2 := spl_take (spl L p X) q D h2
 rw [e1, hq] at e2
 exact e2
theorem spl_rev {L A X D : List Value} {p q r : Nat} (hA : L.take p = A) (hp : p + X.length = q) (hq : q + D.length = r) (hr : r ≤ L.length) : (spl (spl L q D) p X).take r = A ++ X ++ D := by
 have h1 : q + D.length ≤ L.length := by omega
 have h2 : p + X.length ≤ (spl L q D).length := by rw [spl_len _ _ _ h1]; omega
 have e0 : (spl L q D).take p = A := by rw [spl_head L q D p (by omega) h1, hA]
 have hAl : A.length = p := by rw [← hA, List.length_take]; omega
 have e1 : spl (spl L q D) p X = A ++ X ++ (spl L q D).drop q := by
  conv => lhs; unfold spl
  rw [show (List.take q L ++ D ++ List.drop (q + D.length) L) = spl L q D from rfl, e0, hp]
 have e3 : (spl L q D).drop q = D ++ L.drop r := by
  unfold spl
  rw [List.append_assoc, List.drop_left' (by simp; omega), hq]
 rw [e1, e3, ← List.append_assoc]
 exact List.take_left' (by simp; omega)
def Lies (H : Nat) (L : List Value) (p : Nat) (w : World) (W : World) : Prop := W.heap[H]? = some (.cells L.toArray TA (0, 0)) ∧ Below p w W
theorem copy_lies {H : Nat} {L : List Value} {p : Nat} {w W : World} (h : Lies H L p w W) (hpH : p ≤ H) (a : Addr) (o dLen dCap sLen sCap : Nat) (cs : List Value) (k : Nat) (hk : Nat.min sLen dLen = k) (hn : cs.length = k * 5)
  (hsrc : ∀ j v, cs[j]? = some v → W.cell? (a.add j) = some v) (hfit : o + cs.length ≤ L.length) (h1 : ∀ v ∈ cs, v.oneCell' = true) (ty : TypeId) :
  ∃ W', (Builtin.copy_ #[32, 32] ty #[.slice (some ⟨H, o, none⟩) dLen dCap, .slice (some a) sLen sCap]).run Tryz.prog W = .ok (goInt k) W' ∧ Lies H (spl L o cs) p w W' := by
 obtain ⟨i0, hi, hz0, hz1, hz2⟩ := infoA
 have hr := run_copy_rows Tryz.prog W 32 32 ty TA 5 H o dLen dCap a sLen sCap L.toArray TA cs Tryz.underlying32 (by rw [hi]; simp [hz1]) h.1 (by rw [hk]; exact hn) hsrc (by simpa using hfit) h1
 rw [hk] at hr
 refine ⟨_, hr, ?_, below_setRow h.2 hpH _⟩
 have := setRow_heap W H L.toArray (L.toArray.toList.take o ++ cs ++ L.toArray.toList.drop (o + cs.length)).toArray TA _ h.1
 exact this
set_option maxHeartbeats 4000000 in
theorem ins_end (l : List Row) (x : Row) (B : Nat) (v : Value) (vb : Nat) (w : World) (hown : Own B w v l) (hl : l.length ≤ 100000) (hB : B ≤ w.heap.size)
  (hx : w.heap[vb]? = some (.cells #[.string (mk x.who), .bool x.fam, .int .i64 x.year, .int .i64 x.de, .int .i64 x.oo] TA (0, 0))) :
  Calls Tryz.prog 174 #[v, .int .i64 (l.length : Nat), .slice (some ⟨vb, 0, none⟩) 1 1] w fun e w' => ∃ v', e = .returned v' ∧ Own B w' v' (l ++ [x]) ∧ Below B w w' := by
 have HO := Lib.hid hown
 rcases hown.2 with ⟨rfl, h0⟩ | ⟨g, cap, cur, rfl, hbg, hg, h1, h2, hs, ht⟩
 ·have hl0 : l = [] := List.length_eq_zero_iff.1 h0
  subst hl0
  clear hown h0
  go_enter Tryz.func174, Tryz.ntmps174
  go_wp2_with (at_builtin; refine wpList_plain (by rfl) (fun K hK => ?_); refine wp_app _ _ rfl B (.slice none 0 0) [] rfl HO.out vb 1 x rfl hx (by simp) hB (fun v' w' ho hg _ => ?_); refine hK _ _ ?_)
  have HB := Lib.hid (grow_low HO.out hg hB)
  have HO2 := Lib.hid ho
  obtain ⟨a, c, rfl, -, -⟩ := own_form ho
  clear hg ho
  go_wp2
  go_ret
  exact ⟨_, rfl, HO2.out, HB.out⟩
 ·have hnz : (l.length : Int) ≤ (cap : Int) := by omega
  have hc63 : cap ≤ 9223372036854775807 := by unfold maxLen at h2; exact h2
  clear hown hs ht h2
  by_cases hc : cap = l.length
  ·subst hc
   go_enter Tryz.func174, Tryz.ntmps174
   go_wp2_with (at_builtin; refine wpList_plain (by rfl) (fun K hK => ?_); refine wp_app _ _ rfl B (.slice (some ⟨g, 0, none⟩) l.length l.length) l rfl HO.out vb 1 x rfl hx (by omega) hB (fun v' w' ho hg _ => ?_); refine hK _ _ ?_)
   have HB := Lib.hid (grow_low HO.out hg hB)
   have HO2 := Lib.hid ho
   obtain ⟨a, c, rfl, -, -⟩ := own_form ho
   clear hg ho
   go_wp2
   go_ret
   exact ⟨_, rfl, HO2.out, HB.out⟩
  ·go_enter Tryz.func174, Tryz.ntmps174
   go_wp2_with (at_builtin; refine wpList_plain (by rfl) (fun K hK => ?_); refine wp_app _ _ rfl B (.slice (some ⟨g, 0, none⟩) l.length cap) l rfl HO.out vb 1 x rfl hx (by omega) hB (fun v' w' ho hg _ => ?_); refine hK _ _ ?_)
   have HB := Lib.hid (grow_low HO.out hg hB)
   have HO2 := Lib.hid ho
   obtain ⟨a, c, rfl, -, -⟩ := own_form ho
   clear hg ho
   go_wp2
   go_ret
   exact ⟨_, rfl, HO2.out, HB.out⟩
end Go.Proofs.YtfoooldkmokjpaaGreatDoor.Ac
end
