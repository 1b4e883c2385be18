/-
  slices.Insert of one row into rows of the call's own, as a contract: at the end, into a new row, within the row that there is.
-/
import Derived.Test.YtdppelkfcnbgbaaYClone
set_option linter.unusedSimpArgs false
set_option linter.unusedVariables false
set_option maxRecDepth 100000
namespace Go.Proofs.Ytdppelkfcnbgbaa.Ac
open Go.RowKit

theorem wpList_app_E {P : Program} {w : World} {ops : Array Oper} {rest : List Oper} {o : Oper} {a : Act} {Q : Exit → Act → World → Prop} (hgd : o.guard = none) (s x : Operand) (t tn : TypeId)
    (ho : o.op = .call { callee := .builtin .append, args := #[s, x], argTypes := #[t, tn] }) (vs vx : Value) (hs : a.eval s = vs) (hx : a.eval x = vx) (v' : Value) (R : World → Prop)
    (hr : ∃ w', (Builtin.append_ #[t, tn] o.type #[vs, vx]).run P w = .ok v' w' ∧ R w') (h : ∀ w', Hid (R w') → wpList P ops Q rest (a.put o.dst v') w') : wpList P ops Q (o :: rest) a w := by
  obtain ⟨w', hr, hR⟩ := hr
  exact Lib.wpList_append_run w hgd s x t tn ho vs vx hs hx v' w' hr (h w' hR)
/-- copy(d, x) as one step of a region that draws: what it comes to is told by an existence, the world behind it by R alone. -/
theorem step_copy_E {P : Program} {ops : Array Oper} {o : Oper} {a : Act} {w : World} {K : Act → World → Prop} {Q : Exit → Act → World → Prop} {E : Prop}
    (hg : o.guard = none) (d x : Operand) (dT sT : TypeId) (hop : o.op = Op.call { callee := Callee.builtin Builtin.copy, args := #[d, x], argTypes := #[dT, sT] })
    (v u : Value) (hd : a.eval d = v) (hx : a.eval x = u) (v' : Value) (R : World → Prop) (hr : ∃ w', (Builtin.copy_ #[dT, sT] o.type #[v, u]).run P w = .ok v' w' ∧ R w') (hK : ∀ w', Hid (R w') → K (a.put o.dst v') w') :
    if Region.wanted o (yielded ops a.tmps) = true then Oper.wp P o a w K Q else E := by
  obtain ⟨w', h1, h2⟩ := hr
  have h3 := hK w' h2
  subst hd hx
  rw [if_pos (show Region.wanted o (yielded ops a.tmps) = true by simp [Region.wanted, hg])]
  unfold Oper.wp
  simp [execOp, hop, resolve, invoke, builtin, h1, Result.andThen]
  exact h3

/-- Cells laid over a row from a place on. -/
def spl (L : List Value) (off : Nat) (cs : List Value) : List Value := L.take off ++ cs ++ L.drop (off + cs.length)
theorem spl_len (L : List Value) (off : Nat) (cs : List Value) (h : off + cs.length ≤ L.length) : (spl L off cs).length = L.length := by simp [spl]; omega
theorem spl_take (L : List Value) (off : Nat) (cs : List Value) (h : off + cs.length ≤ L.length) : (spl L off cs).take (off + cs.length) = L.take off ++ cs := by
  unfold spl
  exact List.take_left' (by simp; omega)
theorem spl_drop (L : List Value) (off : Nat) (cs : List Value) (h : off + cs.length ≤ L.length) : (spl L off cs).drop (off + cs.length) = L.drop (off + cs.length) := by
  unfold spl
  exact List.drop_left' (by simp; omega)
theorem spl_head (L : List Value) (off : Nat) (cs : List Value) (k : Nat) (hk : k ≤ off) (h : off + cs.length ≤ L.length) : (spl L off cs).take k = L.take k := by
  unfold spl
  rw [List.append_assoc, List.take_append_of_le_length (by simp; omega), List.take_take]
  congr 1; omega
/-- First the one, then what stood behind. -/
theorem spl_two {L A X D : List Value} {p q r : Nat} (hA : L.take p = A) (hp : p + X.length = q) (hq : q + D.length = r) (hr : r ≤ L.length) : (spl (spl L p X) q D).take r = A ++ X ++ D := by
  have h1 : p + X.length ≤ L.length := by omega
  have e1 := spl_take L p X h1
  rw [hA, hp] at e1
  have h2 : q + D.length ≤ (spl L p X).length := by rw [spl_len _ _ _ h1]; omega
  have e2 := spl_take (spl L p X) q D h2
  rw [e1, hq] at e2
  exact e2
/-- First what stood behind, then the one. -/
theorem spl_rev {L A X D : List Value} {p q r : Nat} (hA : L.take p = A) (hp : p + X.length = q) (hq : q + D.length = r) (hr : r ≤ L.length) : (spl (spl L q D) p X).take r = A ++ X ++ D := by
  have h1 : q + D.length ≤ L.length := by omega
  have h2 : p + X.length ≤ (spl L q D).length := by rw [spl_len _ _ _ h1]; omega
  have e0 : (spl L q D).take p = A := by rw [spl_head L q D p (by omega) h1, hA]
  have hAl : A.length = p := by rw [← hA, List.length_take]; omega
  have e1 : spl (spl L q D) p X = A ++ X ++ (spl L q D).drop q := by
    conv => lhs; unfold spl
    rw [show (List.take q L ++ D ++ List.drop (q + D.length) L) = spl L q D from rfl, e0, hp]
  have e3 : (spl L q D).drop q = D ++ L.drop r := by
    unfold spl
    rw [List.append_assoc, List.drop_left' (by simp; omega), hq]
  rw [e1, e3, ← List.append_assoc]
  exact List.take_left' (by simp; omega)

/-- A row that is known whole, and what stands below. -/
def Lies (H : Nat) (L : List Value) (p : Nat) (w : World) (W : World) : Prop := W.heap[H]? = some (.cells L.toArray TA (0, 0)) ∧ Below p w W
theorem copy_lies {H : Nat} {L : List Value} {p : Nat} {w W : World} (h : Lies H L p w W) (hpH : p ≤ H) (a : Addr) (o dLen dCap sLen sCap : Nat) (cs : List Value) (k : Nat) (hk : Nat.min sLen dLen = k) (hn : cs.length = k * 5)
    (hsrc : ∀ j v, cs[j]? = some v → W.cell? (a.add j) = some v) (hfit : o + cs.length ≤ L.length) (h1 : ∀ v ∈ cs, v.oneCell' = true) (ty : TypeId) :
    ∃ W', (Builtin.copy_ #[22, 22] ty #[.slice (some ⟨H, o, none⟩) dLen dCap, .slice (some a) sLen sCap]).run Try.prog W = .ok (goInt k) W' ∧ Lies H (spl L o cs) p w W' := by
  obtain ⟨i0, hi, hz0, hz1, hz2⟩ := infoA
  have hr := run_copy_rows Try.prog W 22 22 ty TA 5 H o dLen dCap a sLen sCap L.toArray TA cs Try.underlying22 (by rw [hi]; simp [hz1]) h.1 (by rw [hk]; exact hn) hsrc (by simpa using hfit) h1
  rw [hk] at hr
  refine ⟨_, hr, ?_, below_setRow h.2 hpH _⟩
  have := setRow_heap W H L.toArray (L.toArray.toList.take o ++ cs ++ L.toArray.toList.drop (o + cs.length)).toArray TA _ h.1
  exact this

set_option maxHeartbeats 4000000 in
theorem ins_end (l : List Row) (x : Row) (B : Nat) (v : Value) (vb : Nat) (w : World) (hown : Own B w v l) (hl : l.length ≤ 100000) (hB : B ≤ w.heap.size)
    (hx : w.heap[vb]? = some (.cells #[.string (mk x.who), .bool x.fam, .int .i64 x.year, .int .i64 x.de, .int .i64 x.oo] TA (0, 0))) :
    Calls Try.prog 46 #[v, .int .i64 (l.length : Nat), .slice (some ⟨vb, 0, none⟩) 1 1] w fun e w' => ∃ v', e = .returned v' ∧ Own B w' v' (l ++ [x]) ∧ Below B w w' := by
  have HO := Lib.hid hown
  rcases hown.2 with ⟨rfl, h0⟩ | ⟨g, cap, cur, rfl, hbg, hg, h1, h2, hs, ht⟩
  · have hl0 : l = [] := List.length_eq_zero_iff.1 h0
    subst hl0
    clear hown h0
    go_enter Try.func46, Try.ntmps46
    go_wp2_with (at_builtin; refine wpList_plain (by rfl) (fun K hK => ?_); refine wp_app _ _ rfl B (.slice none 0 0) [] rfl HO.out vb 1 x rfl hx (by simp) hB (fun v' w' ho hg _ => ?_); refine hK _ _ ?_)
    have HB := Lib.hid (grow_low HO.out hg hB)
    have HO2 := Lib.hid ho
    obtain ⟨a, c, rfl, -, -⟩ := own_form ho
    clear hg ho
    go_wp2
    go_ret
    exact ⟨_, rfl, HO2.out, HB.out⟩
  · have hnz : (l.length : Int) ≤ (cap : Int) := by omega
    have hc63 : cap ≤ 9223372036854775807 := by unfold maxLen at h2; exact h2
    clear hown hs ht h2
    by_cases hc : cap = l.length
    · subst hc
      go_enter Try.func46, Try.ntmps46
      go_wp2_with (at_builtin; refine wpList_plain (by rfl) (fun K hK => ?_); refine wp_app _ _ rfl B (.slice (some ⟨g, 0, none⟩) l.length l.length) l rfl HO.out vb 1 x rfl hx (by omega) hB (fun v' w' ho hg _ => ?_); refine hK _ _ ?_)
      have HB := Lib.hid (grow_low HO.out hg hB)
      have HO2 := Lib.hid ho
      obtain ⟨a, c, rfl, -, -⟩ := own_form ho
      clear hg ho
      go_wp2
      go_ret
      exact ⟨_, rfl, HO2.out, HB.out⟩
    · go_enter Try.func46, Try.ntmps46
      go_wp2_with (at_builtin; refine wpList_plain (by rfl) (fun K hK => ?_); refine wp_app _ _ rfl B (.slice (some ⟨g, 0, none⟩) l.length cap) l rfl HO.out vb 1 x rfl hx (by omega) hB (fun v' w' ho hg _ => ?_); refine hK _ _ ?_)
      have HB := Lib.hid (grow_low HO.out hg hB)
      have HO2 := Lib.hid ho
      obtain ⟨a, c, rfl, -, -⟩ := own_form ho
      clear hg ho
      go_wp2
      go_ret
      exact ⟨_, rfl, HO2.out, HB.out⟩
end Go.Proofs.Ytdppelkfcnbgbaa.Ac
