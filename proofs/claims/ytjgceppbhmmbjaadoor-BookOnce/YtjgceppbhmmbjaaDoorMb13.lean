/-
  Texts put together (merge.py): BIns.
-/
import Derived.Deep.RegionLaw
import Derived.Deep.LoopGhost
import Derived.Deep.RegionHeld3
import Derived.Deep.DeepCutAuto
import Derived.Lib.Strings
import Derived.Lib.Hide
import Derived.Lib.Builder
import Derived.BigQuiet
import Derived.WalkLawsBesides
import Derived.Lib.Overlaps
import Derived.Lib.AppendZerosOnto
import Derived.Laws.CopyRow
import Derived.Laws.CopyOwn
import Derived.Laws.Externs
import Derived.Test.YtjgceppbhmmbjaaDoorMb6
/-
  slices.Insert of one entry into entries of the call's own, as a contract: at the end, into a new row, within the row that there is.
-/
section
set_option linter.unusedSimpArgs false
set_option linter.unusedVariables false
set_option maxRecDepth 100000
namespace Go.Proofs.YtjgceppbhmmbjaaDoor.Bk
open Go.RowKit

theorem gb_of {w W : World} {r : Option Nat} (h : Below w.heap.size w W) : w.grownBy W r := ⟨h.os, h.tape, h.output, h.size, fun k hk _ => h.block k hk⟩
theorem gb_drew {w W : World} {r : Option Nat} (h : w.grownBy W r) : w.grownBy W.drew r := ⟨h.os, h.tape, h.output, h.size, h.block⟩
theorem gb_setRow {w W : World} {H : Nat} (h : w.grownBy W (some H)) (cs : Array Value) : w.grownBy (W.setRow H cs) (some H) := ⟨h.os, h.tape, h.output, by simpa [World.setRow] using h.size, fun k hk hn => (setRow_other W H k cs (fun e => hn (by rw [e]))).trans (h.block k hk hn)⟩
theorem gb_keep {w W : World} {H q : Nat} {o : Obj} (hx : w.heap[q]? = some o) (h : w.grownBy W (some H)) (hn : q ≠ H) : W.heap[q]? = some o := (h.block q (Array.getElem?_eq_some_iff.1 hx).1 (fun e => hn (by injection e))).trans hx
theorem gb_new {w W : World} {r : Option Nat} (h : w.grownBy W (some w.heap.size)) : w.grownBy W r := ⟨h.os, h.tape, h.output, h.size, fun k hk _ => h.block k hk (fun e => by injection e; omega)⟩
theorem ownE_form {w : World} {B : Nat} {v : Value} {l : List Ev} (h : OwnE B w v l) : ∃ a c, v = .slice a l.length c := by
  rcases h.2 with ⟨rfl, h0⟩ | ⟨g, c, cur, rfl, _⟩
  · exact ⟨none, 0, by rw [h0]⟩
  · exact ⟨_, c, rfl⟩
/-- copy(d, s) over elements of any number of cells, into a row that is known whole. -/
theorem run_copy_rows (P : Program) (w : World) (dT sT ty elem : TypeId) (sz g o dLen dCap : Nat) (a : Addr) (sLen sCap : Nat) (cur : Array Value) (t : TypeId) (cs : List Value)
    (hu : P.underlying dT = some (.slice elem)) (hs : (P.info? elem).map (·.size) = some sz)
    (hg : w.heap[g]? = some (.cells cur t (0, 0))) (hn : cs.length = Nat.min sLen dLen * sz)
    (hsrc : ∀ j v, cs[j]? = some v → w.cell? (a.add j) = some v) (hfit : o + cs.length ≤ cur.size) (h1 : ∀ v ∈ cs, v.oneCell' = true) :
    (Builtin.copy_ #[dT, sT] ty #[.slice (some ⟨g, o, none⟩) dLen dCap, .slice (some a) sLen sCap]).run P w =
      .ok (goInt (Nat.min sLen dLen)) (w.setRow g (cur.toList.take o ++ cs ++ cur.toList.drop (o + cs.length)).toArray) := by
  have hl := run_loadCells_list (P := P) w a cs hsrc
  have hst := run_storeCells_at P g o t cs 0 cur w hg (by simpa using hfit) h1
  cases hq : P.info? elem with
  | none => simp [hq] at hs
  | some i =>
    have hi : i.size = sz := by simpa [hq] using hs
    simp [Builtin.copy_, run_underlying hu, Builtin.lenOf, Builtin.firstCells, sizeOf, typeInfo, hq, hi, ← hn, hl, hst]

theorem wpList_app_E {P : Program} {w : World} {ops : Array Oper} {rest : List Oper} {o : Oper} {a : Act} {Q : Exit → Act → World → Prop} (hgd : o.guard = none) (s x : Operand) (t tn : TypeId)
    (ho : o.op = .call { callee := .builtin .append, args := #[s, x], argTypes := #[t, tn] }) (vs vx : Value) (hs : a.eval s = vs) (hx : a.eval x = vx) (v' : Value) (R : World → Prop)
    (hr : ∃ w', (Builtin.append_ #[t, tn] o.type #[vs, vx]).run P w = .ok v' w' ∧ R w') (h : ∀ w', Hid (R w') → wpList P ops Q rest (a.put o.dst v') w') : wpList P ops Q (o :: rest) a w := by
  obtain ⟨w', hr, hR⟩ := hr
  exact Lib.wpList_append_run w hgd s x t tn ho vs vx hs hx v' w' hr (h w' hR)
/-- copy(d, x) as one step of a region that draws: what it comes to is told by an existence, the world behind it by R alone. -/
theorem step_copy_E {P : Program} {ops : Array Oper} {o : Oper} {a : Act} {w : World} {K : Act → World → Prop} {Q : Exit → Act → World → Prop} {E : Prop}
    (hg : o.guard = none) (d x : Operand) (dT sT : TypeId) (hop : o.op = Op.call { callee := Callee.builtin Builtin.copy, args := #[d, x], argTypes := #[dT, sT] })
    (v u : Value) (hd : a.eval d = v) (hx : a.eval x = u) (v' : Value) (R : World → Prop) (hr : ∃ w', (Builtin.copy_ #[dT, sT] o.type #[v, u]).run P w = .ok v' w' ∧ R w') (hK : ∀ w', Hid (R w') → K (a.put o.dst v') w') :
    if Region.wanted o (yielded ops a.tmps) = true then Oper.wp P o a w K Q else E := by
  obtain ⟨w', h1, h2⟩ := hr
  have h3 := hK w' h2
  subst hd hx
  rw [if_pos (show Region.wanted o (yielded ops a.tmps) = true by simp [Region.wanted, hg])]
  unfold Oper.wp
  simp [execOp, hop, resolve, invoke, builtin, h1, Result.andThen]
  exact h3

/-- Cells laid over a row from a place on. -/
def spl (L : List Value) (off : Nat) (cs : List Value) : List Value := L.take off ++ cs ++ L.drop (off + cs.length)
theorem spl_len (L : List Value) (off : Nat) (cs : List Value) (h : off + cs.length ≤ L.length) : (spl L off cs).length = L.length := by simp [spl]; omega
theorem spl_take (L : List Value) (off : Nat) (cs : List Value) (h : off + cs.length ≤ L.length) : (spl L off cs).take (off + cs.length) = L.take off ++ cs := by
  unfold spl
  exact List.take_left' (by simp; omega)
theorem spl_drop (L : List Value) (off : Nat) (cs : List Value) (h : off + cs.length ≤ L.length) : (spl L off cs).drop (off + cs.length) = L.drop (off + cs.length) := by
  unfold spl
  exact List.drop_left' (by simp; omega)
theorem spl_head (L : List Value) (off : Nat) (cs : List Value) (k : Nat) (hk : k ≤ off) (h : off + cs.length ≤ L.length) : (spl L off cs).take k = L.take k := by
  unfold spl
  rw [List.append_assoc, List.take_append_of_le_length (by simp; omega), List.take_take]
  congr 1; omega
/-- First the one, then what stood behind. -/
theorem spl_two {L A X D : List Value} {p q r : Nat} (hA : L.take p = A) (hp : p + X.length = q) (hq : q + D.length = r) (hr : r ≤ L.length) : (spl (spl L p X) q D).take r = A ++ X ++ D := by
  have h1 : p + X.length ≤ L.length := by omega
  have e1 := spl_take L p X h1
  rw [hA, hp] at e1
  have h2 : q + D.length ≤ (spl L p X).length := by rw [spl_len _ _ _ h1]; omega
  have e2 := spl_take (spl L p X) q D h2
  rw [e1, hq] at e2
  exact e2
/-- First what stood behind, then the one. -/
theorem spl_rev {L A X D : List Value} {p q r : Nat} (hA : L.take p = A) (hp : p + X.length = q) (hq : q + D.length = r) (hr : r ≤ L.length) : (spl (spl L q D) p X).take r = A ++ X ++ D := by
  have h1 : q + D.length ≤ L.length := by omega
  have h2 : p + X.length ≤ (spl L q D).length := by rw [spl_len _ _ _ h1]; omega
  have e0 : (spl L q D).take p = A := by rw [spl_head L q D p (by omega) h1, hA]
  have hAl : A.length = p := by rw [← hA, List.length_take]; omega
  have e1 : spl (spl L q D) p X = A ++ X ++ (spl L q D).drop q := by
    conv => lhs; unfold spl
    rw [show (List.take q L ++ D ++ List.drop (q + D.length) L) = spl L q D from rfl, e0, hp]
  have e3 : (spl L q D).drop q = D ++ L.drop r := by
    unfold spl
    rw [List.append_assoc, List.drop_left' (by simp; omega), hq]
  rw [e1, e3, ← List.append_assoc]
  exact List.take_left' (by simp; omega)

/-- A row that is known whole, and what stands below. -/
def Lies (H : Nat) (L : List Value) (p : Nat) (w : World) (W : World) : Prop := W.heap[H]? = some (.cells L.toArray TE (0, 0)) ∧ w.grownBy W (some H)
theorem copy_lies {H : Nat} {L : List Value} {p : Nat} {w W : World} (h : Lies H L p w W) (hpH : p ≤ H) (a : Addr) (o dLen dCap sLen sCap : Nat) (cs : List Value) (k : Nat) (hk : Nat.min sLen dLen = k) (hn : cs.length = k * 10)
    (hsrc : ∀ j v, cs[j]? = some v → W.cell? (a.add j) = some v) (hfit : o + cs.length ≤ L.length) (h1 : ∀ v ∈ cs, v.oneCell' = true) (ty : TypeId) :
    ∃ W', (Builtin.copy_ #[22, 22] ty #[.slice (some ⟨H, o, none⟩) dLen dCap, .slice (some a) sLen sCap]).run Tryd.prog W = .ok (goInt k) W' ∧ Lies H (spl L o cs) p w W' := by
  obtain ⟨i0, hi, hz0, hz1, hz2⟩ := infoE
  have hr := run_copy_rows Tryd.prog W 22 22 ty TE 10 H o dLen dCap a sLen sCap L.toArray TE cs Tryd.underlying22 (by rw [hi]; simp [hz1]) h.1 (by rw [hk]; exact hn) hsrc (by simpa using hfit) h1
  rw [hk] at hr
  refine ⟨_, hr, ?_, gb_setRow h.2 _⟩
  have := setRow_heap W H L.toArray (L.toArray.toList.take o ++ cs ++ L.toArray.toList.drop (o + cs.length)).toArray TE _ h.1
  exact this

set_option maxHeartbeats 4000000 in
theorem ins_end (l : List Ev) (x : Ev) (hsl : ∀ y ∈ l, Sl y) (hsx : Sl x) (B : Nat) (v : Value) (vb : Nat) (w : World) (hown : OwnE B w v l) (hl : l.length ≤ 100000) (hB : B ≤ w.heap.size)
    (hx : w.heap[vb]? = some (.cells (enc x.e x.m x.o) TE (0, 0))) :
    Calls Tryd.prog 29 #[v, .int .i64 (l.length : Nat), .slice (some ⟨vb, 0, none⟩) 1 1] w fun e w' => ∃ v', e = .returned v' ∧ OwnE B w' v' (l ++ [x]) ∧ w.grownBy w' v.ownBlock ∧ (v'.ownBlock = v.ownBlock ∨ v'.ownBlock = some w.heap.size) := by
  have HO := Lib.hid hown
  rcases hown.2 with ⟨rfl, h0⟩ | ⟨g, cap, cur, rfl, hbg, hg, h1, h2, hs, ht⟩
  · have hl0 : l = [] := List.length_eq_zero_iff.1 h0
    subst hl0
    clear hown h0
    go_enter Tryd.func29, Tryd.ntmps29
    go_wp2_with (at_builtin; refine wpList_plain (by rfl) (fun K hK => ?_); refine wp_app _ _ rfl B (.slice none 0 0) [] rfl HO.out vb 1 x rfl hx hsx (by simp) hB (fun v' w' ho hg hat => ?_); refine hK _ _ ?_)
    have HB := Lib.hid (And.intro hg hat)
    have HO2 := Lib.hid ho
    obtain ⟨a, c, rfl⟩ := ownE_form ho
    clear hg ho hat
    go_wp2
    go_ret
    exact ⟨_, rfl, HO2.out, HB.out⟩
  · have hnz : (l.length : Int) ≤ (cap : Int) := by omega
    have hc63 : cap ≤ 9223372036854775807 := by unfold maxLen at h2; exact h2
    clear hown hs ht h2
    by_cases hc : cap = l.length
    · subst hc
      go_enter Tryd.func29, Tryd.ntmps29
      go_wp2_with (at_builtin; refine wpList_plain (by rfl) (fun K hK => ?_); refine wp_app _ _ rfl B (.slice (some ⟨g, 0, none⟩) l.length l.length) l rfl HO.out vb 1 x rfl hx hsx (by omega) hB (fun v' w' ho hg hat => ?_); refine hK _ _ ?_)
      have HB := Lib.hid (And.intro hg hat)
      have HO2 := Lib.hid ho
      obtain ⟨a, c, rfl⟩ := ownE_form ho
      clear hg ho hat
      go_wp2
      go_ret
      exact ⟨_, rfl, HO2.out, HB.out⟩
    · go_enter Tryd.func29, Tryd.ntmps29
      go_wp2_with (at_builtin; refine wpList_plain (by rfl) (fun K hK => ?_); refine wp_app _ _ rfl B (.slice (some ⟨g, 0, none⟩) l.length cap) l rfl HO.out vb 1 x rfl hx hsx (by omega) hB (fun v' w' ho hg hat => ?_); refine hK _ _ ?_)
      have HB := Lib.hid (And.intro hg hat)
      have HO2 := Lib.hid ho
      obtain ⟨a, c, rfl⟩ := ownE_form ho
      clear hg ho hat
      go_wp2
      go_ret
      exact ⟨_, rfl, HO2.out, HB.out⟩
theorem ins_cells (l : List Ev) (x : Ev) (i : Nat) : ecs (l.take i) ++ ec x ++ ecs (l.drop i) = ecs (l.take i ++ x :: l.drop i) := by
  rw [ecs_app, ecs_cons, List.append_assoc]
theorem ins_len (l : List Ev) (x : Ev) (i : Nat) (hi : i ≤ l.length) : (l.take i ++ x :: l.drop i).length = l.length + 1 := by simp; omega
theorem own_of_lies {B H G p : Nat} {w W : World} {L : List Value} {l : List Ev} (h : Lies H L p w W) (hB : B ≤ H) (hG : l.length ≤ G) (hG2 : G ≤ maxLen) (hL : L.length = G * 10) (ht : L.take (l.length * 10) = ecs l) : OwnE B W (.slice (some ⟨H, 0, none⟩) l.length G) l :=
  ⟨ecs_len l, Or.inr ⟨H, G, L.toArray, rfl, hB, h.1, hG, hG2, by simpa using hL, by simpa using ht⟩⟩
theorem drop_src {W : World} {g : Nat} {cur : List Value} (hg : W.heap[g]? = some (.cells cur.toArray TE (0, 0))) {l : List Ev} (ht : cur.take (l.length * 10) = ecs l) (i : Nat) (j : Nat) (u : Value) (hj : (ecs (l.drop i))[j]? = some u) : W.cell? ((⟨g, i * 10, none⟩ : Addr).add j) = some u := by
  rw [add_lit, cell_of_row W g _ _ _ (0, 0) hg]
  rw [ecs_drop, List.getElem?_drop, ← ht, List.getElem?_take] at hj
  split at hj
  · simpa using hj
  · cases hj
theorem zc_size (k : Nat) : (Builtin.zeroCells (Value.agg #[.string ByteArray.empty, .string ByteArray.empty, .string ByteArray.empty, .int .i64 0, .int .i64 0, .string ByteArray.empty, .slice none 0 0, .int .i64 0, .int .i64 0, .slice none 0 0]).cells k).size = k * 10 := by
  simp [Builtin.zeroCells, Value.cells]

set_option maxHeartbeats 8000000 in
theorem ins_grow (l : List Ev) (x : Ev) (hsl : ∀ y ∈ l, Sl y) (hsx : Sl x) (i : Nat) (B g c : Nat) (cur : List Value) (vb : Nat) (w : World) (hi : i < l.length) (hl : l.length ≤ 100000) (hB : B ≤ w.heap.size)
    (hg : w.heap[g]? = some (.cells cur.toArray TE (0, 0))) (hc1 : l.length ≤ c) (hc2 : c < l.length + 1) (ht : cur.take (l.length * 10) = ecs l)
    (hx : w.heap[vb]? = some (.cells (enc x.e x.m x.o) TE (0, 0))) :
    Calls Tryd.prog 29 #[.slice (some ⟨g, 0, none⟩) l.length c, .int .i64 (i : Nat), .slice (some ⟨vb, 0, none⟩) 1 1] w fun e w' => ∃ v', e = .returned v' ∧ OwnE B w' v' (l.take i ++ x :: l.drop i) ∧ w.grownBy w' (some g) ∧ (v'.ownBlock = (some g) ∨ v'.ownBlock = some w.heap.size) := by
  obtain ⟨n, hn⟩ : ∃ n, l.length = n := ⟨_, rfl⟩
  rw [hn] at hi hl hc1 hc2 ⊢
  obtain ⟨i0, hi0, hz0, hz1, hz2⟩ := infoE
  have hgw : g < w.heap.size := (Array.getElem?_eq_some_iff.1 hg).1
  have hvw : vb < w.heap.size := (Array.getElem?_eq_some_iff.1 hx).1
  have hil : (l.take i).length = i := by rw [List.length_take]; omega
  have hold : (Builtin.firstCells i0.size i (.slice (some ⟨g, 0, none⟩) i c)).run Tryd.prog w.drew = .ok (ecs (l.take i)).toArray w.drew := by
    rw [hz1]
    refine run_firstCells_some w.drew 10 i ⟨g, 0, none⟩ i c _ (by rw [ecs_len, hil]) (fun j u hj => ?_)
    rw [add_lit, Nat.zero_add]
    have : w.drew.cell? ⟨g, j, none⟩ = w.cell? ⟨g, j, none⟩ := rfl
    rw [this, cell_of_row w g _ _ _ (0, 0) hg]
    rw [ecs_take, ← ht, List.getElem?_take] at hj
    split at hj
    · rw [List.getElem?_take] at hj
      split at hj
      · simpa using hj
      · cases hj
    · cases hj
  obtain ⟨G, hG⟩ : ∃ G, grownCap w (n + 1) c TE = G := ⟨_, rfl⟩
  have hGn : n + 1 ≤ G := by rw [← hG]; exact grownCap_ge w _ _ _
  have hGm : G ≤ maxLen := by rw [← hG]; exact grownCap_le_maxLen w (n + 1) c TE (by unfold maxLen; omega)
  have hG63 : G ≤ 9223372036854775807 := by unfold maxLen at hGm; exact hGm
  obtain ⟨L0, hL0⟩ : ∃ L0 : List Value, L0 = ((ecs (l.take i)).toArray ++ Builtin.zeroCells (Value.agg #[.string ByteArray.empty, .string ByteArray.empty, .string ByteArray.empty, .int .i64 0, .int .i64 0, .string ByteArray.empty, .slice none 0 0, .int .i64 0, .int .i64 0, .slice none 0 0]).cells (n + 1 - i) ++ Builtin.zeroCells (Value.agg #[.string ByteArray.empty, .string ByteArray.empty, .string ByteArray.empty, .int .i64 0, .int .i64 0, .string ByteArray.empty, .slice none 0 0, .int .i64 0, .int .i64 0, .slice none 0 0]).cells (G - (n + 1))).toList := ⟨_, rfl⟩
  have hLl : L0.length = G * 10 := by
    rw [hL0, Array.length_toList, Array.size_append, Array.size_append, zc_size, zc_size]
    simp only [List.size_toArray, ecs_len, hil]
    omega
  have hLt : L0.take (i * 10) = ecs (l.take i) := by
    rw [hL0, Array.toList_append, Array.toList_append, List.append_assoc]
    exact List.take_left' (by simp only [ecs_len, hil])
  have HA1 : Hid (∀ ty, ∃ W1, (Builtin.append_ #[22, 3] ty #[.slice (some ⟨g, 0, none⟩) i c, .int .i64 ((n : Int) + 1 - (i : Int))]).run Tryd.prog w = .ok (.slice (some ⟨w.heap.size, 0, none⟩) (n + 1) G) W1 ∧ Lies w.heap.size L0 w.heap.size w W1) := fun ty => by
    have h := Lib.run_append_grow_zeros w 22 3 ty TE i0 _ .i64 .i64 Tryd.underlying22 Tryd.underlying3 hi0 hz0 (some ⟨g, 0, none⟩) i c _ hold (n + 1 - i) (by omega) (by omega) (by omega) (by omega) (by rw [hz2]; omega) (by rw [hz2, show i + (n + 1 - i) = n + 1 by omega]; exact growslice_fits hc2 (by omega))
    rw [show i + (n + 1 - i) = n + 1 by omega, hG] at h
    rw [show (n : Int) + 1 - (i : Int) = ((n + 1 - i : Nat) : Int) by omega]
    refine ⟨_, h, ?_, ?_⟩
    · rw [hL0, Array.toArray_toList]
      exact heap_alloc_new w.drew _
    · exact gb_of ((Below.drew (Below.refl w.heap.size w)).alloc (Nat.le_refl _) _)
  have hdl : (l.drop i).length = n - i := by rw [List.length_drop, hn]
  have HA2 : Hid (∀ W1, Lies w.heap.size L0 w.heap.size w W1 → ∀ ty dc, ∃ W2, (Builtin.copy_ #[22, 22] ty #[.slice (some ⟨w.heap.size, i * 10, none⟩) (n + 1 - i) dc, .slice (some ⟨vb, 0, none⟩) 1 1]).run Tryd.prog W1 = .ok (goInt 1) W2 ∧ Lies w.heap.size (spl L0 (i * 10) (ec x)) w.heap.size w W2) := fun W1 h1 ty dc =>
    copy_lies h1 (Nat.le_refl _) ⟨vb, 0, none⟩ (i * 10) (n + 1 - i) dc 1 1 (ec x) 1 (by simp only [Nat.min_def]; split <;> omega) rfl (ec_src (gb_keep hx h1.2 (by omega))) (by rw [hLl]; simp only [ec, List.length_cons, List.length_nil]; omega) (ec_one x hsx) ty
  have hL2 : (spl L0 (i * 10) (ec x)).length = G * 10 := by rw [spl_len _ _ _ (by rw [hLl]; simp only [ec, List.length_cons, List.length_nil]; omega), hLl]
  have HA3 : Hid (∀ W2, Lies w.heap.size (spl L0 (i * 10) (ec x)) w.heap.size w W2 → ∀ ty dc sc, ∃ W3, (Builtin.copy_ #[22, 22] ty #[.slice (some ⟨w.heap.size, (i + 1) * 10, none⟩) (n + 1 - (i + 1)) dc, .slice (some ⟨g, i * 10, none⟩) (n - i) sc]).run Tryd.prog W2.drew = .ok (goInt (n - i : Nat)) W3 ∧ Lies w.heap.size (spl (spl L0 (i * 10) (ec x)) ((i + 1) * 10) (ecs (l.drop i))) w.heap.size w W3) := fun W2 h2 ty dc sc =>
    copy_lies (W := W2.drew) ⟨h2.1, gb_drew h2.2⟩ (Nat.le_refl _) ⟨g, i * 10, none⟩ ((i + 1) * 10) (n + 1 - (i + 1)) dc (n - i) sc (ecs (l.drop i)) (n - i) (by simp only [Nat.min_def]; split <;> omega) (by rw [ecs_len, hdl]) (fun j u hj => drop_src (W := W2.drew) (gb_keep hg (gb_drew h2.2) (by omega)) ht i j u hj) (by rw [hL2, ecs_len, hdl]; omega) (ecs_one _ fun y hy => hsl y (List.mem_of_mem_drop hy)) ty
  have HL3 : Hid ((spl (spl L0 (i * 10) (ec x)) ((i + 1) * 10) (ecs (l.drop i))).length = G * 10 ∧ (spl (spl L0 (i * 10) (ec x)) ((i + 1) * 10) (ecs (l.drop i))).take ((n + 1) * 10) = ecs (l.take i ++ x :: l.drop i)) := by
    refine ⟨by rw [spl_len _ _ _ (by rw [hL2, ecs_len, hdl]; omega), hL2], ?_⟩
    rw [← ins_cells]
    exact spl_two hLt (by simp only [ec, List.length_cons, List.length_nil]; omega) (by rw [ecs_len, hdl]; omega) (by rw [hLl]; omega)
  have HE : Hid ((l.take i ++ x :: l.drop i).length = n + 1) := by rw [← hn]; exact ins_len l x i (by omega)
  have e1 : ¬ ((i : Int) = (n : Int)) := by omega
  have e1b : ((i : Int) == (n : Int)) = false := by simp; omega
  have e2 : (c : Int) < (n : Int) + 1 := by omega
  have e3 : (i : Int) ≤ (n : Int) := by omega
  have e4 : (i : Int) ≤ (c : Int) := by omega
  have e5 : ¬ (c = i) := by omega
  have e6 : ¬ (G = i) := by omega
  have e7 : ¬ (G = i + 1) := by omega
  have e8 : (i : Int) + 1 ≤ (n : Int) + 1 := by omega
  have e9 : (i : Int) ≤ (n : Int) + 1 := by omega
  have e10 : ((i : Int) + 1).toNat = i + 1 := by omega
  have e11 : (0 : Int) ≤ (i : Int) + 1 := by omega
  have e12 : IntKind.i64.wrap ((i : Int) + 1) = (i : Int) + 1 := by rw [IntKind.wrap_i64]; omega
  have HG := Lib.hid (And.intro hGn hGm)
  obtain ⟨l2, Hl2⟩ : ∃ l2, Hid (l.take i ++ x :: l.drop i = l2) := ⟨_, (rfl : l.take i ++ x :: l.drop i = _)⟩
  rw [Hl2.out] at HL3 HE ⊢
  generalize spl (spl L0 (i * 10) (ec x)) ((i + 1) * 10) (ecs (l.drop i)) = L3 at *
  generalize spl L0 (i * 10) (ec x) = L2 at *
  obtain ⟨p, Hp⟩ : ∃ p, Hid (w.heap.size = p) := ⟨_, (rfl : w.heap.size = _)⟩
  rw [Hp.out] at HA1 HA2 HA3 hB
  have hB' := hB
  clear hold hL0 hLl hLt hL2 hdl Hl2 hil hG hi0 hz0 hz1 hz2 hg hx ht hn hgw hvw
  go_enter Tryd.func29, Tryd.ntmps29
  go_upto_region 10 with (at_builtin; refine wpList_app_E rfl _ _ 22 3 rfl (.slice (some ⟨g, 0, none⟩) i c) (.int .i64 ((n : Int) + 1 - (i : Int))) rfl rfl _ _ (HA1.out _) ?_; intro W1 HW1)
  obtain ⟨W2, hr2, hW2⟩ := HA2.out W1 HW1.out 3 (G - i)
  have HW2 := Lib.hid hW2
  clear hW2
  go_wp2_with fail
  clear hr2
  go_region_law (refine step_copy_E rfl _ _ 22 22 rfl (.slice (some ⟨p, (i + 1) * 10, none⟩) (n + 1 - (i + 1)) (G - (i + 1))) (.slice (some ⟨g, i * 10, none⟩) (n - i) (c - i)) (by simp [Act.eval, Act.put]) (by simp [Act.eval, Act.put]) (goInt (n - i : Nat)) _ (HA3.out _ HW2.out 3 (G - (i + 1)) (c - i)) ?_; intro W3 HW3)
  all_goals (
    go_wp2
    go_ret
    refine ⟨_, rfl, ?_, ?_⟩
    · rw [← HE.out]
      exact own_of_lies HW3.out hB' (by rw [HE.out]; exact HG.out.1) HG.out.2 HL3.out.1 (by rw [HE.out]; exact HL3.out.2)
    · exact ⟨gb_new (by rw [Hp.out]; exact HW3.out.2), Or.inr (by rw [Hp.out]; rfl)⟩)

set_option maxHeartbeats 8000000 in
theorem ins_shift (l : List Ev) (x : Ev) (hsl : ∀ y ∈ l, Sl y) (hsx : Sl x) (i : Nat) (B g c : Nat) (cur : List Value) (vb : Nat) (w : World) (hi : i < l.length) (hl : l.length ≤ 100000) (hBg : B ≤ g) (hne : vb ≠ g)
    (hg : w.heap[g]? = some (.cells cur.toArray TE (0, 0))) (hc2 : l.length + 1 ≤ c) (hcm : c ≤ maxLen) (hcs : cur.length = c * 10) (ht : cur.take (l.length * 10) = ecs l)
    (hx : w.heap[vb]? = some (.cells (enc x.e x.m x.o) TE (0, 0))) :
    Calls Tryd.prog 29 #[.slice (some ⟨g, 0, none⟩) l.length c, .int .i64 (i : Nat), .slice (some ⟨vb, 0, none⟩) 1 1] w fun e w' => ∃ v', e = .returned v' ∧ OwnE B w' v' (l.take i ++ x :: l.drop i) ∧ w.grownBy w' (some g) ∧ (v'.ownBlock = (some g) ∨ v'.ownBlock = some w.heap.size) := by
  obtain ⟨n, hn⟩ : ∃ n, l.length = n := ⟨_, rfl⟩
  rw [hn] at hi hl hc2 ⊢
  obtain ⟨i0, hi0, hz0, hz1, hz2⟩ := infoE
  have hil : (l.take i).length = i := by rw [List.length_take]; omega
  have hdl : (l.drop i).length = n - i := by rw [List.length_drop, hn]
  have hLt : cur.take (i * 10) = ecs (l.take i) := by
    rw [ecs_take, ← ht, List.take_take]; congr 1; omega
  have hsz : ∀ w, (Go.sizeOf TE).run Tryd.prog w = .ok 10 w := fun w => by simp [sizeOf, typeInfo, hi0, hz1]
  have hov : ∀ lb cb, (callFunc 37 #[.slice (some ⟨vb, 0, none⟩) 1 1, .slice (some ⟨g, (i + 1) * 10, none⟩) lb cb]).run Tryd.prog w = .ok (.value (.bool false)) w := fun lb cb => by
    rw [run_callFunc_extern Tryd.func37 (by kernel_rfl) (by kernel_rfl) (by kernel_rfl) (e := Extern.SlicesOverlaps.overlaps #[22, 22] #[4]) (by kernel_rfl),
      Lib.run_overlaps_apart w 22 4 TE Tryd.underlying22 10 hsz ⟨vb, 0, none⟩ ⟨g, (i + 1) * 10, none⟩ 1 1 lb cb hne TE TE 10 (c * 10) (by simp [World.shape?, hx]) (by simp [World.shape?, hg, hcs]) (by omega) (Lib.frozen_of_heap hx _) (Lib.frozen_of_heap hx _)]
    rfl
  have HA2 : Hid (∀ ty dc sc, ∃ W2, (Builtin.copy_ #[22, 22] ty #[.slice (some ⟨g, (i + 1) * 10, none⟩) (n + 1 - (i + 1)) dc, .slice (some ⟨g, i * 10, none⟩) (n + 1 - i) sc]).run Tryd.prog w.drew = .ok (goInt (n - i : Nat)) W2 ∧ Lies g (spl cur ((i + 1) * 10) (ecs (l.drop i))) B w W2) := fun ty dc sc =>
    copy_lies (W := w.drew) ⟨hg, gb_of (Below.drew (Below.refl w.heap.size w))⟩ hBg ⟨g, i * 10, none⟩ ((i + 1) * 10) (n + 1 - (i + 1)) dc (n + 1 - i) sc (ecs (l.drop i)) (n - i) (by simp only [Nat.min_def]; split <;> omega) (by rw [ecs_len, hdl]) (fun j u hj => drop_src (W := w.drew) hg ht i j u hj) (by rw [hcs, ecs_len, hdl]; omega) (ecs_one _ fun y hy => hsl y (List.mem_of_mem_drop hy)) ty
  have hL2 : (spl cur ((i + 1) * 10) (ecs (l.drop i))).length = c * 10 := by rw [spl_len _ _ _ (by rw [hcs, ecs_len, hdl]; omega), hcs]
  have HA3 : Hid (∀ W2, Lies g (spl cur ((i + 1) * 10) (ecs (l.drop i))) B w W2 → W2.heap[vb]? = w.heap[vb]? → ∀ ty dc, ∃ W3, (Builtin.copy_ #[22, 22] ty #[.slice (some ⟨g, i * 10, none⟩) (n + 1 - i) dc, .slice (some ⟨vb, 0, none⟩) 1 1]).run Tryd.prog W2 = .ok (goInt 1) W3 ∧ Lies g (spl (spl cur ((i + 1) * 10) (ecs (l.drop i))) (i * 10) (ec x)) B w W3) := fun W2 h2 hk ty dc =>
    copy_lies h2 hBg ⟨vb, 0, none⟩ (i * 10) (n + 1 - i) dc 1 1 (ec x) 1 (by simp only [Nat.min_def]; split <;> omega) rfl (ec_src (hk.trans hx)) (by rw [hL2]; simp only [ec, List.length_cons, List.length_nil]; omega) (ec_one x hsx) ty
  have HL3 : Hid ((spl (spl cur ((i + 1) * 10) (ecs (l.drop i))) (i * 10) (ec x)).length = c * 10 ∧ (spl (spl cur ((i + 1) * 10) (ecs (l.drop i))) (i * 10) (ec x)).take ((n + 1) * 10) = ecs (l.take i ++ x :: l.drop i)) := by
    refine ⟨by rw [spl_len _ _ _ (by rw [hL2]; simp only [ec, List.length_cons, List.length_nil]; omega), hL2], ?_⟩
    rw [← ins_cells]
    exact spl_rev hLt (by simp only [ec, List.length_cons, List.length_nil]; omega) (by rw [ecs_len, hdl]; omega) (by rw [hcs]; omega)
  have HE : Hid ((l.take i ++ x :: l.drop i).length = n + 1) := by rw [← hn]; exact ins_len l x i (by omega)
  have e1 : ¬ ((i : Int) = (n : Int)) := by omega
  have e1b : ((i : Int) == (n : Int)) = false := by simp; omega
  have hc63 : c ≤ 9223372036854775807 := by unfold maxLen at hcm; exact hcm
  have e2 : ¬ ((c : Int) < (n : Int) + 1) := by omega
  have e3 : (i : Int) ≤ (n : Int) := by omega
  have e4 : (i : Int) ≤ (c : Int) := by omega
  have e5 : ¬ (c = i) := by omega
  have e7 : ¬ (c = i + 1) := by omega
  have e8 : (i : Int) + 1 ≤ (n : Int) + 1 := by omega
  have e9 : (i : Int) ≤ (n : Int) + 1 := by omega
  have e10 : ((i : Int) + 1).toNat = i + 1 := by omega
  have e10b : ((n : Int) + 1).toNat = n + 1 := by omega
  have e11 : (0 : Int) ≤ (i : Int) + 1 := by omega
  have e11b : (n : Int) + 1 ≤ (c : Int) := by omega
  have e12 : IntKind.i64.wrap ((i : Int) + 1) = (i : Int) + 1 := by rw [IntKind.wrap_i64]; omega
  have HC := Lib.hid (And.intro hc2 hcm)
  obtain ⟨l2, Hl2⟩ : ∃ l2, Hid (l.take i ++ x :: l.drop i = l2) := ⟨_, (rfl : l.take i ++ x :: l.drop i = _)⟩
  rw [Hl2.out] at HL3 HE ⊢
  generalize spl (spl cur ((i + 1) * 10) (ecs (l.drop i))) (i * 10) (ec x) = L3 at *
  have HVB : Hid (∀ W2, (∃ ty dc sc, (Builtin.copy_ #[22, 22] ty #[.slice (some ⟨g, (i + 1) * 10, none⟩) (n + 1 - (i + 1)) dc, .slice (some ⟨g, i * 10, none⟩) (n + 1 - i) sc]).run Tryd.prog w.drew = .ok (goInt (n - i : Nat)) W2) → W2.heap[vb]? = w.heap[vb]?) := by
    rintro W2 ⟨ty, dc, sc, h⟩
    have hr := run_copy_rows Tryd.prog w.drew 22 22 ty TE 10 g ((i + 1) * 10) (n + 1 - (i + 1)) dc ⟨g, i * 10, none⟩ (n + 1 - i) sc cur.toArray TE (ecs (l.drop i)) Tryd.underlying22 (by rw [hi0]; simp [hz1]) hg (by rw [ecs_len, hdl]; congr 1; simp only [Nat.min_def]; split <;> omega) (fun j u hj => drop_src (W := w.drew) hg ht i j u hj) (by simp only [List.size_toArray]; rw [hcs, ecs_len, hdl]; omega) (ecs_one _ fun y hy => hsl y (List.mem_of_mem_drop hy))
    rw [hr] at h
    injection h with _ h
    rw [← h]
    exact setRow_other w.drew g vb _ hne
  have HA4 : Hid (∀ ty dc sc, ∃ W2, (Builtin.copy_ #[22, 22] ty #[.slice (some ⟨g, (i + 1) * 10, none⟩) (n + 1 - (i + 1)) dc, .slice (some ⟨g, i * 10, none⟩) (n + 1 - i) sc]).run Tryd.prog w.drew = .ok (goInt (n - i : Nat)) W2 ∧ (Lies g (spl cur ((i + 1) * 10) (ecs (l.drop i))) B w W2 ∧ W2.heap[vb]? = w.heap[vb]?)) := fun ty dc sc => by
    obtain ⟨W2, h, hl⟩ := HA2.out ty dc sc
    exact ⟨W2, h, hl, HVB.out W2 ⟨ty, dc, sc, h⟩⟩
  clear hL2 hdl hLt Hl2 hil hi0 hz0 hz1 hz2 hsz hg hx ht hn hcs HA2 HVB
  generalize spl cur ((i + 1) * 10) (ecs (l.drop i)) = L2 at *
  go_enter Tryd.func29, Tryd.ntmps29
  go_wp2_with (simp only [hov])
  go_region_law (refine step_copy_E rfl _ _ 22 22 rfl (.slice (some ⟨g, (i + 1) * 10, none⟩) (n + 1 - (i + 1)) (c - (i + 1))) (.slice (some ⟨g, i * 10, none⟩) (n + 1 - i) (c - i)) (by simp [Act.eval, Act.put]) (by simp [Act.eval, Act.put]) (goInt (n - i : Nat)) _ (HA4.out 3 (c - (i + 1)) (c - i)) ?_; intro W2 HW2)
  all_goals (
    obtain ⟨W3, hr3, hW3⟩ := HA3.out W2 HW2.out.1 HW2.out.2 3 (c - i)
    have HW3 := Lib.hid hW3
    clear hW3
    go_wp2
    go_ret
    refine ⟨_, rfl, ?_, ?_⟩
    · rw [← HE.out]
      exact own_of_lies HW3.out hBg (by rw [HE.out]; exact HC.out.1) HC.out.2 HL3.out.1 (by rw [HE.out]; exact HL3.out.2)
    · exact ⟨HW3.out.2, Or.inl rfl⟩)
/-- At whatever place. -/
theorem insert_any (l : List Ev) (x : Ev) (hsl : ∀ y ∈ l, Sl y) (hsx : Sl x) (i : Nat) (B : Nat) (v : Value) (vb : Nat) (w : World) (hown : OwnE B w v l) (hi : i ≤ l.length) (hl : l.length ≤ 100000) (hB : B ≤ w.heap.size) (hne : v.ownBlock ≠ some vb)
    (hx : w.heap[vb]? = some (.cells (enc x.e x.m x.o) TE (0, 0))) :
    Calls Tryd.prog 29 #[v, .int .i64 (i : Nat), .slice (some ⟨vb, 0, none⟩) 1 1] w fun e w' => ∃ v', e = .returned v' ∧ OwnE B w' v' (l.take i ++ x :: l.drop i) ∧ w.grownBy w' v.ownBlock ∧ (v'.ownBlock = v.ownBlock ∨ v'.ownBlock = some w.heap.size) := by
  rcases Nat.lt_or_ge i l.length with h | h
  · rcases hown.2 with ⟨rfl, h0⟩ | ⟨g, cap, cur, rfl, hbg, hg, h1, h2, hs, ht⟩
    · omega
    · have hg' : w.heap[g]? = some (.cells cur.toList.toArray TE (0, 0)) := by rw [Array.toArray_toList]; exact hg
      have hs' : cur.toList.length = cap * 10 := by simpa using hs
      have hne' : vb ≠ g := fun e => hne (by rw [e]; rfl)
      rcases Nat.lt_or_ge cap (l.length + 1) with hc | hc
      · exact ins_grow l x hsl hsx i B g cap cur.toList vb w h hl hB hg' h1 hc ht hx
      · exact ins_shift l x hsl hsx i B g cap cur.toList vb w h hl hbg hne' hg' hc h2 hs' ht hx
  · have e : i = l.length := by omega
    subst e
    rw [List.take_of_length_le (Nat.le_refl _), List.drop_eq_nil_of_le (Nat.le_refl _)]
    exact ins_end l x hsl hsx B v vb w hown hl hB hx
/-- One more at a place, whose rows lie elsewhere. -/
theorem Full.ins {B : Nat} {w w' : World} {v v' : Value} {L : List Ev} {f : Ev} {i : Nat} (h : Full B w v L) (hf : Cont (fun b => v.ownBlock ≠ some b) w f) (ho : OwnE B w' v' (L.take i ++ f :: L.drop i)) (hg : w.grownBy w' v.ownBlock) (hv : v'.ownBlock = v.ownBlock ∨ v'.ownBlock = some w.heap.size) : Full B w' v' (L.take i ++ f :: L.drop i) := by
  refine ⟨ho, fun x hx => ?_⟩
  have hm : Moves (fun b => v.ownBlock ≠ some b) (fun b => v'.ownBlock ≠ some b) w w' := by
    refine ⟨hg.size, fun b hb hk => ⟨?_, hg.block b hb (fun e => hk e.symm)⟩⟩
    rcases hv with e | e
    · rw [e]; exact hk
    · rw [e]; intro q; injection q with q; omega
  rcases List.mem_append.1 hx with hx | hx
  · exact (h.2 x (List.mem_of_mem_take hx)).move hm
  · rcases List.mem_cons.1 hx with rfl | hx
    · exact hf.move hm
    · exact (h.2 x (List.mem_of_mem_drop hx)).move hm
theorem Full.sl {B : Nat} {w : World} {v : Value} {L : List Ev} (h : Full B w v L) : ∀ x ∈ L, Sl x := fun x hx => (h.2 x hx).sl
end Go.Proofs.YtjgceppbhmmbjaaDoor.Bk
end
