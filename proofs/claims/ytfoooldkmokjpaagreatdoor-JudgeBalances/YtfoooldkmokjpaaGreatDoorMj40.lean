/-
  Texts put together (merge.py): IKey, ISet, IMarks.
-/
import Derived.Deep.LoopGhost
import Derived.Maps.OwnSet
import Derived.Deep.OwnRows
import Derived.Test.YtfoooldkmokjpaaGreatDoorMj19
set_option linter.unusedSimpArgs false
set_option linter.unusedVariables false
section
set_option maxRecDepth 100000
namespace Go.Proofs.YtfoooldkmokjpaaGreatDoor.Tw
open Go.RowKit
open Cm (Ln lnv LnBox below_alloc below_trans)
set_option maxHeartbeats 1000000 in
theorem last_any (n : Int) (w : World) (h0 : -9223372036854775808 ≤ n) (h1 : n ≤ 9223372036854775807) :
  Calls Tryz.prog 124 #[.int .i64 n] w fun e w' => e = .returned (.int .u8 (dig n)) ∧ w' = w := by
 have hm1 := Int.tmod_lt_of_pos n (b := 10) (by omega)
 have hm2 := Int.lt_tmod_of_pos n (b := 10) (by omega)
 unfold dig
 by_cases hz : n.tmod 10 < 0
 ·rw [if_pos hz]
  go_enter Tryz.func124, Tryz.ntmps124
  go_wp2
  go_ret
  exact ⟨rfl, rfl⟩
 ·rw [if_neg hz]
  go_enter Tryz.func124, Tryz.ntmps124
  go_wp2
  go_ret
  exact ⟨rfl, rfl⟩
theorem digs_snoc (k : Nat) (n : Int) (a : List UInt8) : a ++ digs (k + 1) n = (a ++ [UInt8.ofNat (48 + dig n).toNat]) ++ digs k (n.tdiv 10) := by simp [digs]
theorem sign_nat (n : Int) : ((UInt8.ofNat (48 + dig n).toNat).toNat : Int) = 48 + dig n := by
 have := dig_in n
 rw [UInt8.toNat_ofNat']
 omega
theorem quo_in (m : Int) (h0 : -9223372036854775808 ≤ m) (h1 : m ≤ 9223372036854775807) : -9223372036854775808 ≤ m.tdiv 10 ∧ m.tdiv 10 ≤ 9223372036854775807 := by
 rcases Int.le_total 0 m with h | h
 ·have := Int.tdiv_eq_ediv_of_nonneg (a := m) (b := 10) h
  omega
 ·have := Int.tdiv_eq_ediv_of_nonneg (a := -m) (b := 10) (by omega)
  rw [Int.neg_tdiv] at this
  omega
set_option maxHeartbeats 2000000 in
theorem back_any (n : Int) (w : World) (h0 : -9223372036854775808 ≤ n) (h1 : n ≤ 9223372036854775807) :
  Calls Tryz.prog 84 #[.int .i64 n] w fun e w' => ∃ v, e = .returned v ∧ Own w.heap.size w' v (digs 8 n) ∧ Below w.heap.size w w' := by
 go_enter Tryz.func84, Tryz.ntmps84
 go_wp2
 go_loopg [0, 3, 4] 8 (fun gg d v i wr => ∃ (k : Nat) (m : Int) (l : List UInt8), k ≤ 8 ∧ gg = 8 - k ∧ d = .int .i64 m ∧ i = .int .i64 k ∧ -9223372036854775808 ≤ m ∧ m ≤ 9223372036854775807 ∧ l.length = k ∧ Hid (Own w.heap.size wr v l) ∧ Hid (Below w.heap.size w wr) ∧ Hid (l ++ digs (8 - k) m = digs 8 n))
 case atStart => exact ⟨0, n, [], by omega, rfl, rfl, rfl, h0, h1, rfl, Own.nil _ _, Below.refl _ _, rfl⟩
 case round =>
  obtain ⟨k, m, l, hk, hg, rfl, rfl, hm0, hm1, hll, HO, HB, HD⟩ := hrel
  by_cases hlt : k < 8
  ·have HL := Lib.hid fun W => last_any m W hm0 hm1
   have hqb : -9223372036854775808 ≤ m.tdiv 10 ∧ m.tdiv 10 ≤ 9223372036854775807 := quo_in m hm0 hm1
   obtain ⟨d0, d1⟩ := dig_in m
   have HS := Lib.hid (sign_nat m)
   have HN := Lib.hid (digs_snoc (8 - (k + 1)) m l)
   generalize UInt8.ofNat (48 + dig m).toNat = c at *
   generalize dig m = g at *
   have hws := HB.out.size
   have HOa := Lib.hid fun o => own_far HO.out (below_alloc wr o)
   go_wp2_with (first
    | (go_at_call 124; refine (HL.out _).mono ?_; rintro e w1 ⟨rfl, rfl⟩)
    | (at_builtin; refine app_one rfl _ _ rfl w.heap.size _ l rfl (HOa.out _) _ 1 (48 + g) c rfl HS.out.symm (by first | simp | rfl) (by omega) (by simp; omega) ?_; intro v' w2 ho2 hb2)
    | go_in)
   go_roundg (8 - (k + 1))
   case rel => exact ⟨k + 1, m.tdiv 10, l ++ [c], by omega, rfl, rfl, by go_num, hqb.1, hqb.2, by simp [hll], ho2, HB.out.trans (((below_alloc _ _).mono hws).trans hb2), by
    have := HD.out
    rw [show 8 - k = 8 - (k + 1) + 1 by omega, HN.out] at this
    exact this⟩
   case measure => omega
  ·obtain rfl : k = 8 := by omega
   have HD' : Hid (l = digs 8 n) := by show l = digs 8 n; rw [← HD.out]; simp [digs]
   go_wp2
   go_ret
   exact ⟨_, rfl, by rw [← HD'.out]; exact HO.out, HB.out⟩
theorem modsT_len : ∀ (l : List Tx), (∀ t ∈ l, t.length ≤ 20000) → (modsT l).length ≤ l.length * 20001
 | [], _ => by simp [modsT]
 | m :: ms, h => by
  have h1 := modsT_len ms (fun t ht => h t (List.mem_cons_of_mem _ ht))
  have h2 := h m (List.mem_cons_self ..)
  simp only [modsT, List.length_cons, List.length_append]
  omega
theorem modsT_app : ∀ (a b : List Tx), modsT (a ++ b) = modsT a ++ modsT b
 | [], b => rfl
 | m :: ms, b => by simp [modsT, modsT_app ms b]
theorem modsT_snoc (l : List Tx) (k : Nat) (t : Tx) (h : l[k]? = some t) : modsT (l.take (k + 1)) = modsT (l.take k) ++ 58 :: t := by
 rw [List.take_add_one, h, modsT_app]
 simp [modsT]
def keyK (x : Ln) (k : Nat) : List UInt8 := digs 8 x.date ++ x.proc ++ modsT (x.mods.take k)
theorem keyK_step (x : Ln) (k : Nat) (t : Tx) (h : x.mods[k]? = some t) : keyK x (k + 1) = keyK x k ++ [58] ++ t := by
 unfold keyK
 rw [modsT_snoc _ _ _ h]
 simp
theorem keyK_0 (x : Ln) : keyK x 0 = digs 8 x.date ++ x.proc := by simp [keyK, modsT]
theorem keyK_all (x : Ln) (k : Nat) (h : x.mods.length ≤ k) : keyK x k = keyV x := by
 unfold keyK keyV
 rw [List.take_of_length_le h, List.append_assoc]
def KyOk (x : Ln) : Prop := -9223372036854775808 ≤ x.date ∧ x.date ≤ 9223372036854775807 ∧ x.proc.length ≤ 40000 ∧ x.mods.length ≤ 20000 ∧ ∀ t ∈ x.mods, t.length ≤ 20000
theorem keyK_len (x : Ln) (h : KyOk x) (k : Nat) : 0 < (keyK x k).length ∧ (keyK x k).length ≤ 500000000 := by
 obtain ⟨_, _, h1, h2, h3⟩ := h
 have h4 := modsT_len (x.mods.take k) (fun t ht => h3 t (List.mem_of_mem_take ht))
 have h5 : (x.mods.take k).length ≤ 20000 := by rw [List.length_take]; omega
 have h6 : (x.mods.take k).length * 20001 ≤ 20000 * 20001 := Nat.mul_le_mul_right _ h5
 unfold keyK
 rw [List.length_append, List.length_append, digs_len]
 omega
set_option maxHeartbeats 4000000 in
theorem key_any (x : Ln) (m : Value) (w : World) (hm : TxAt All w m x.mods) (hx : KyOk x) :
  Calls Tryz.prog 47 #[lnv x m] w fun e w' => e = .returned (.string (mk (keyV x))) ∧ Below w.heap.size w w' := by
 have HLn := Lib.hid (keyK_len x hx)
 have HSt := Lib.hid (keyK_step x)
 have HAll := Lib.hid (keyK_all x)
 obtain ⟨x0, x1, x2, x3, x4⟩ := hx
 have HZ := Lib.hid x4
 have HBk := Lib.hid fun W => back_any x.date W x0 x1
 have HM := Lib.hid fun W (h : Below w.heap.size w W) => TxAt.move hm (Below.moves h)
 obtain ⟨a, c, rfl, f1, f2⟩ := Cm.TxAt.form hm
 have HX := Lib.hid (Cm.LnBox.new w x (.slice a x.mods.length c) 46)
 have HW := Lib.hid (below_alloc w (.cells #[.string (mk x.proc), .slice a x.mods.length c, .int .i64 x.date, .int .i64 x.units, .int .i64 x.billed, .int .i64 x.prior] 46))
 have HWs : Hid (w.heap.size < (w.alloc (.cells #[.string (mk x.proc), .slice a x.mods.length c, .int .i64 x.date, .int .i64 x.units, .int .i64 x.billed, .int .i64 x.prior] 46)).heap.size) := by show _ < _; simp
 have HK0 := Lib.hid (keyK_0 x)
 clear hm x0 x1 x4
 go_enter Tryz.func47, Tryz.ntmps47
 go_wp2_with fail
 generalize w.alloc (.cells #[.string (mk x.proc), .slice a x.mods.length c, .int .i64 x.date, .int .i64 x.units, .int .i64 x.billed, .int .i64 x.prior] 46) = W at *
 obtain ⟨c0, c1, c2, c3, c4, c5⟩ := HX.out
 go_wp2_with (first
  | (go_at_call 84; refine (HBk.out _).mono ?_; rintro e w1 ⟨v1, rfl, ho1, hb1⟩; obtain ⟨p0, p1, p2, p3, p4, p5⟩ := Cm.LnBox.grw HX.out hb1)
  | (at_builtin; refine app_str rfl _ _ rfl W.heap.size _ (digs 8 x.date) x.proc rfl ho1 rfl (by rw [digs_len]; omega) (by omega) hb1.size ?_; intro v2 w2 ho2 hb2; obtain ⟨q0, q1, q2, q3, q4, q5⟩ := Cm.LnBox.grw HX.out (hb1.trans hb2); clear p0 p1 p2 p3 p4 p5)
  | go_in)
 go_loopg [3, 16] x.mods.length (fun gg v i wr => ∃ k : Nat, k ≤ x.mods.length ∧ gg = x.mods.length - k ∧ i = .int .i64 k ∧ Hid (Own W.heap.size wr v (keyK x k)) ∧ Hid (Below W.heap.size W wr))
 case atStart => exact ⟨0, Nat.zero_le _, rfl, rfl, by show Own _ _ _ _; rw [HK0.out]; exact ho2, hb1.trans hb2⟩
 case round =>
  obtain ⟨k, hk, hg, rfl, HO, HB⟩ := hrel
  clear c0 c1 c2 c3 c4 c5 q0 q1 q2 q3 q4 q5 ho1 hb1 ho2 hb2
  obtain ⟨l0, l1⟩ := HLn.out k
  by_cases hlt : k < x.mods.length
  ·obtain ⟨b, o, rfl, hx, hc⟩ := Cm.tx_get (HM.out wr (below_trans HW.out HB.out)) k hlt
   have ht := HZ.out _ (List.mem_of_getElem? hx)
   have HN := Lib.hid (HSt.out k _ hx)
   generalize x.mods[k] = t at *
   have hws := HB.out.size
   have HOa := Lib.hid fun o => own_far HO.out (below_alloc wr o)
   have HBa := Lib.hid fun o => HB.out.trans ((below_alloc wr o).mono hws)
   clear hx
   go_wp2_with (first
    | (at_builtin; refine app_one rfl _ _ rfl W.heap.size _ (keyK x k) rfl (HOa.out _) _ 1 58 58 rfl rfl (by first | simp | rfl) (by omega) (by simp; omega) ?_; intro v2 w2 ho2 hb2)
    | (at_builtin; refine app_str rfl _ _ rfl W.heap.size _ (keyK x k ++ [58]) t rfl ho2 rfl (by simp; omega) (by omega) ((HBa.out _).trans hb2).size ?_; intro v3 w3 ho3 hb3)
    | go_in)
   go_roundg (x.mods.length - (k + 1))
   case rel => exact ⟨k + 1, by omega, rfl, by go_num, by show Own _ _ _ _; rw [HN.out]; exact ho3, ((HBa.out _).trans hb2).trans hb3⟩
   case measure => omega
  ·have HV := Lib.hid (HAll.out k (by omega))
   have hcv := conv_own HO.out l0
   rw [HV.out] at hcv
   have hlt' : ¬ (k : Int) < (x.mods.length : Int) := by omega
   go_wp2
   go_ret
   exact ⟨rfl, below_trans HW.out HB.out⟩
end Go.Proofs.YtfoooldkmokjpaaGreatDoor.Tw
end
section
set_option maxRecDepth 100000
namespace Go.Proofs.YtfoooldkmokjpaaGreatDoor.Tw
open Go.RowKit Go.Maps
open Cm (Ln lnv LnsAt LnBox below_alloc below_trans)
theorem law9 : Keyed Tryz.prog 9 := string_keyed Tryz.underlying9
theorem zeroU (w : World) : (zeroValue 96).run Tryz.prog w = .ok (.agg #[]) w := by kernel_rfl
theorem info4 : (Tryz.prog.info? 4).map (fun i => (i.zero, i.size, i.bytes)) = some (some (.bool false), 1, 1) := by kernel_rfl
def SetIs (w : World) (b n : Nat) (C : List Ln) : Prop := ∃ D : DataW Unit, w.ownsMap Tryz.prog 9 unitElem b n D ∧ ∀ s : List UInt8, Maps.has D (.string s) = C.any fun y => keyV y == s
theorem SetIs.new (w : World) : SetIs (w.alloc (.map #[] 0)) w.heap.size 0 [] := ⟨.map [], World.ownsMap_made _ _ _ _, fun s => rfl⟩
theorem SetIs.far {w w' : World} {b n : Nat} {C : List Ln} (h : SetIs w b n C) (hb : Below w.heap.size w w') : SetIs w' b n C := by
 obtain ⟨D, ⟨es, clock, hh, r⟩, h2⟩ := h
 exact ⟨D, ⟨es, clock, keepB hh hb, r⟩, h2⟩
theorem SetIs.set {w : World} {b n : Nat} {C : List Ln} (h : SetIs w b n C) {a : Addr} (ha : b ≠ a.block) (u : Value) : SetIs (w.setCell a u) b n C := by
 obtain ⟨D, h1, h2⟩ := h
 exact ⟨D, h1.setCell ha u, h2⟩
theorem SetIs.lt {w : World} {b n : Nat} {C : List Ln} (h : SetIs w b n C) : b < w.heap.size := by
 obtain ⟨D, h1, h2⟩ := h
 exact h1.lt
theorem set_put {ops : Array Oper} {rest : List Oper} {o : Oper} {a : Act} {w : World} {Q : Exit → Act → World → Prop} (hgd : o.guard = none) (m x v : Operand) (ho : o.op = Op.mapUpdate 95 m x v)
  (b n : Nat) (C : List Ln) (hm : a.eval m = .map (some b)) (h : SetIs w b n C) (hn : n ≤ 1000000) (y : Ln) (hy : (keyV y).length ≤ 1000000000) (hx : a.eval x = .string (mk (keyV y))) (hv : a.eval v = .agg #[])
  (hK : ∀ w', SetIs w' b (n + 1) (C ++ [y]) → w.grownBy w' (some b) → wpList Tryz.prog ops Q rest (a.put o.dst undef) w') : wpList Tryz.prog ops Q (o :: rest) a w := by
 obtain ⟨D, h1, h2⟩ := h
 have hkey : keyOf Tryz.prog 9 (.string (mk (keyV y))) = some (.string (keyV y)) := by
  have := Go.WideMaps.keyOf_string_mk (P := Tryz.prog) Tryz.underlying9 (s := mk (keyV y)) (by rw [mk_size]; unfold maxLen; omega)
  rwa [mk_list] at this
 refine wpList_mapUpdate_own _ hgd m x v 95 ho 9 96 law9 Tryz.underlying95 (unitElem (H := Unit)) b n D hm h1 (by unfold maxLen; omega) _ _ _ hx hv hkey _ [] unitElem_mk fun w' q1 q2 => hK w' ⟨_, q1, fun s => ?_⟩ q2
 rw [List.any_append]
 by_cases e : keyV y = s
 ·subst e
  rw [has_put_same (k := .string (keyV y)) h1.isMap True.intro]
  simp
 ·rw [has_put_other (fun h => e (by injection h with h; exact h.symm)), h2 s]
  simp [e]
theorem set_look {ops : Array Oper} {rest : List Oper} {o : Oper} {a : Act} {w : World} {Q : Exit → Act → World → Prop} (hgd : o.guard = none) (m x : Operand) (ho : o.op = Op.lookup 95 m x true)
  (b n : Nat) (C : List Ln) (hm : a.eval m = .map (some b)) (h : SetIs w b n C) (y : Ln) (hy : (keyV y).length ≤ 1000000000) (hx : a.eval x = .string (mk (keyV y))) (B : Bool) (hB : inB y C = B)
  (hK : wpList Tryz.prog ops Q rest (a.put o.dst (.tuple #[.agg #[], .bool B])) w) : wpList Tryz.prog ops Q (o :: rest) a w := by
 obtain ⟨D, h1, h2⟩ := h
 have hkey : keyOf Tryz.prog 9 (.string (mk (keyV y))) = some (.string (keyV y)) := by
  have := Go.WideMaps.keyOf_string_mk (P := Tryz.prog) Tryz.underlying9 (s := mk (keyV y)) (by rw [mk_size]; unfold maxLen; omega)
  rwa [mk_list] at this
 refine wpList_lookup_own_unit _ hgd m x 95 ho 9 96 law9 Tryz.underlying95 (zeroU _) b n D hm h1 _ _ hx hkey ?_
 rw [h2 (keyV y)]
 have e : (C.any fun z => keyV z == keyV y) = B := hB
 rw [e]
 exact hK
def BlAt (w : World) (v : Value) (l : List Bool) : Prop := RowAt All (fun _ u x => u = .bool x) w v l
theorem BlAt.far {w w' : World} {v : Value} {l : List Bool} (h : BlAt w v l) (hb : Below w.heap.size w w') : BlAt w' v l := RowAt.move h (Below.moves hb) fun _ _ _ h => h
theorem BlAt.form {w : World} {v : Value} {l : List Bool} (h : BlAt w v l) : ∃ a c, v = .slice a l.length c ∧ l.length ≤ c ∧ c ≤ 9223372036854775807 := by
 obtain ⟨a, c, rfl, h1, h2, _⟩ := h
 exact ⟨a, c, rfl, h1, by unfold maxLen at h2; exact h2⟩
theorem BlAt.get {w : World} {a : Option Addr} {n c : Nat} {l : List Bool} (h : BlAt w (.slice a n c) l) (k : Nat) (hk : k < l.length) : ∃ b o, a = some ⟨b, o, none⟩ ∧ l[k]? = some l[k] ∧ w.cell? ⟨b, o + k, none⟩ = some (.bool l[k]) := by
 obtain ⟨a', c', he, h1, h2, h3⟩ := h
 have ha : a = a' := by injection he
 subst ha
 rcases h3 with h | ⟨b, o, ha, _, _, hc⟩
 ·subst h; simp at hk
 ·have hx := List.getElem?_eq_getElem hk
  obtain ⟨m, q1, rfl⟩ := hc k _ hx
  exact ⟨b, o, ha, hx, q1⟩
theorem bl_of_row {w : World} {g n : Nat} {l : List Bool} {f : Nat → Value} (h : w.rowIs g 4 n f) (hn : l.length = n) (hm : n ≤ 1000000) (hf : ∀ i, i < n → f i = .bool (l.getD i false)) : BlAt w (.slice (some ⟨g, 0, none⟩) n n) l := by
 subst hn
 refine ⟨some ⟨g, 0, none⟩, l.length, rfl, Nat.le_refl _, by unfold maxLen; omega, Or.inr ⟨g, 0, rfl, trivial, h.lt, fun j x hj => ?_⟩⟩
 have hjl : j < l.length := (List.getElem?_eq_some_iff.1 hj).1
 refine ⟨_, by rw [Nat.zero_add]; exact h.cell hjl, ?_⟩
 rw [hf j hjl, List.getD_eq_getElem?_getD, hj]
 rfl
end Go.Proofs.YtfoooldkmokjpaaGreatDoor.Tw
end
section
set_option maxRecDepth 100000
namespace Go.Proofs.YtfoooldkmokjpaaGreatDoor.Tw
open Go.RowKit Go.Maps
open Cm (Ln lnv LnsAt LnBox below_alloc below_trans)
theorem keyV_len (x : Ln) (h : KyOk x) : (keyV x).length ≤ 500000000 := by
 have := (keyK_len x h x.mods.length).2
 rwa [keyK_all x _ (Nat.le_refl _)] at this
def mkF (A l : List Ln) (j : Nat) : Nat → Value := fun q => if q < j then .bool ((marksV A l).getD q false) else .bool false
theorem mkF_step (A l : List Ln) (j : Nat) (x : Ln) (h : l[j]? = some x) (q : Nat) : (if q = j then .bool (inB x (A ++ l.take j)) else mkF A l j q) = mkF A l (j + 1) q := by
 have hm := marks_at l A j x h
 rw [← in_app] at hm
 unfold mkF
 by_cases e : q = j
 ·subst e
  rw [if_pos rfl, if_pos (by omega), List.getD_eq_getElem?_getD, hm]
  rfl
 ·rw [if_neg e]
  by_cases e2 : q < j
  ·rw [if_pos e2, if_pos (by omega)]
  ·rw [if_neg e2, if_neg (by omega)]
theorem take_snoc (l : List Ln) (j : Nat) (x : Ln) (h : l[j]? = some x) : l.take (j + 1) = l.take j ++ [x] := by
 rw [List.take_add_one, h]; rfl
theorem bl_of_mk {w : World} {g : Nat} {A l : List Ln} {j : Nat} (h : w.rowIs g 4 l.length (mkF A l j)) (hj : l.length ≤ j) (hm : l.length ≤ 1000000) : BlAt w (.slice (some ⟨g, 0, none⟩) l.length l.length) (marksV A l) := by
 refine bl_of_row h (marks_len l A) hm fun i hi => ?_
 unfold mkF
 rw [if_pos (by omega)]
set_option maxHeartbeats 8000000 in
theorem marks_ex (v va : Value) (l A : List Ln) (w : World) (h : LnsAt All w v l) (hA : LnsAt All w va A) (hz : ∀ x ∈ l, KyOk x) (hzA : ∀ x ∈ A, KyOk x) (hl : l.length ≤ 10000) (hlA : A.length ≤ 10000) :
  Calls Tryz.prog 26 #[v, va] w fun e w' => ∃ g, e = .returned (.slice (some ⟨g, 0, none⟩) l.length l.length) ∧ BlAt w' (.slice (some ⟨g, 0, none⟩) l.length l.length) (marksV A l) ∧ Below w.heap.size w w' := by
 have HL := Lib.hid fun W (hb : Below w.heap.size w W) => LnsAt.move h (Below.moves hb)
 have HLA := Lib.hid fun W (hb : Below w.heap.size w W) => LnsAt.move hA (Below.moves hb)
 have HZ := Lib.hid hz
 have HZA := Lib.hid hzA
 obtain ⟨a, c, rfl, f1, f2⟩ := LnsAt.form h
 obtain ⟨aa, ca, rfl, g1, g2⟩ := LnsAt.form hA
 have hmm := @run_makeMap Tryz.prog
 have HMK := run_make_row' (P := Tryz.prog) 66 4 (.bool false) 1 Tryz.underlying66 info4 rfl .i64 .i64 l.length (by omega) (by omega)
 clear h hA hz hzA
 go_enter Tryz.func26, Tryz.ntmps26
 go_wp2
 go_loopg [15] A.length (fun gg i wr => ∃ k : Nat, k ≤ A.length ∧ gg = A.length - k ∧ i = .int .i64 k ∧ Hid (SetIs wr w.heap.size k (A.take k)) ∧ Hid (Below w.heap.size w wr))
 case atStart => exact ⟨0, Nat.zero_le _, rfl, rfl, SetIs.new w, below_alloc w _⟩
 case round =>
  obtain ⟨k, hk, hg, rfl, HS, HB⟩ := hrel
  by_cases hlt : k < A.length
  ·obtain ⟨b, o, m, rfl, hx, ⟨c0, c1, c2, c3, c4, c5⟩, hr⟩ := LnsAt.get (HLA.out wr HB.out) k hlt
   have hky := HZA.out _ (List.mem_of_getElem? hx)
   have HKl := Lib.hid (keyV_len _ hky)
   have HKy := Lib.hid fun o => key_any A[k] m (wr.alloc o) (TxAt.move hr (moves_alloc All wr o)) hky
   have HT := Lib.hid (take_snoc A k _ hx)
   obtain ⟨am, cm, rfl, -, -⟩ := Cm.TxAt.form hr
   have hbl := World.block_lt_of_cell? wr _ c0
   have HSw := Lib.hid fun o w1 (hb1 : Below (wr.alloc o).heap.size (wr.alloc o) w1) => SetIs.far HS.out (below_trans (below_alloc wr o) hb1)
   have HBw := Lib.hid fun o w1 (hb1 : Below (wr.alloc o).heap.size (wr.alloc o) w1) => below_trans HB.out (below_trans (below_alloc wr o) hb1)
   clear hx hr hky
   generalize A[k] = x at *
   go_wp2_with (first
    | (go_at_call 47; refine (HKy.out _).mono ?_; rintro e w1 ⟨rfl, hb1⟩)
    | (at_mapUpdate; refine set_put rfl _ _ _ rfl w.heap.size k (A.take k) rfl (HSw.out _ _ hb1) (by omega) x (by have := HKl.out; omega) rfl rfl ?_; intro w2 hs2 hg2)
    | go_in)
   go_roundg (A.length - (k + 1))
   case rel => exact ⟨k + 1, by omega, rfl, by go_num, by show SetIs _ _ _ _; rw [HT.out]; exact hs2, (HBw.out _ _ hb1).grown hg2 (HBw.out _ _ hb1).size (fun j hj => by injection hj with hj; omega)⟩
   case measure => omega
  ·have HT : Hid (A.take k = A) := List.take_of_length_le (by omega)
   have hkA : k = A.length := by omega
   have HS0 : Hid (SetIs wr w.heap.size A.length A) := by show SetIs _ _ _ _; rw [HT.out, hkA] at HS; exact HS.out
   have hlt' : ¬ (k : Int) < (A.length : Int) := by omega
   clear HS HT hkA
   obtain ⟨wo, hwo⟩ : ∃ z, z = wr := ⟨_, rfl⟩
   subst hwo
   have hBG := HS0.out.lt
   go_wp2
   go_loopg [29] l.length (fun gg i wr => ∃ j : Nat, j ≤ l.length ∧ gg = l.length - j ∧ i = .int .i64 j ∧ Hid (SetIs wr w.heap.size (A.length + j) (A ++ l.take j)) ∧ Hid (Below w.heap.size w wr) ∧ Hid (wr.rowIs wo.heap.size 4 l.length (mkF A l j)))
   case atStart => exact ⟨0, Nat.zero_le _, rfl, rfl, by show SetIs _ _ _ _; rw [List.take_zero, List.append_nil]; exact SetIs.far HS0.out (below_alloc wo _), below_trans HB.out (below_alloc wo _), (World.rowIs_made wo (.bool false) l.length 4).congr fun q hq => by simp [mkF]⟩
   case round =>
    obtain ⟨j, hj, hgj, rfl, HS, HB2, HR⟩ := hrel
    by_cases hltj : j < l.length
    ·obtain ⟨b, o, m, rfl, hx, ⟨c0, c1, c2, c3, c4, c5⟩, hr⟩ := LnsAt.get (HL.out wr HB2.out) j hltj
     have hky := HZ.out _ (List.mem_of_getElem? hx)
     have HKl := Lib.hid (keyV_len _ hky)
     have HKy := Lib.hid fun o => key_any l[j] m (wr.alloc o) (TxAt.move hr (moves_alloc All wr o)) hky
     have HT := Lib.hid (take_snoc l j _ hx)
     have HF := Lib.hid (mkF_step A l j _ hx)
     obtain ⟨am, cm, rfl, -, -⟩ := Cm.TxAt.form hr
     have hbl := World.block_lt_of_cell? wr _ c0
     have HSw := Lib.hid fun o w1 (hb1 : Below (wr.alloc o).heap.size (wr.alloc o) w1) => SetIs.far HS.out (below_trans (below_alloc wr o) hb1)
     have HBw := Lib.hid fun o w1 (hb1 : Below (wr.alloc o).heap.size (wr.alloc o) w1) => below_trans HB2.out (below_trans (below_alloc wr o) hb1)
     have HRw := Lib.hid fun o w1 (hb1 : Below (wr.alloc o).heap.size (wr.alloc o) w1) => World.rowIs.of_block HR.out ((below_trans (below_alloc wr o) hb1).block _ HR.out.lt)
     clear hx hr hky
     generalize l[j] = x at *
     obtain ⟨V, HV⟩ : ∃ V, Hid (inB x (A ++ l.take j) = V) := ⟨_, rfl⟩
     rw [HV.out] at HF
     go_wp2_with (first
      | (go_at_call 47; refine (HKy.out _).mono ?_; rintro e w1 ⟨rfl, hb1⟩; have hrc := (HRw.out _ _ hb1).cell hltj; have hrf := (HRw.out _ _ hb1).frozen j)
      | (at_lookup; refine set_look rfl _ _ rfl w.heap.size (A.length + j) (A ++ l.take j) rfl (HSw.out _ _ hb1) x (by have := HKl.out; omega) rfl V HV.out ?_)
      | (at_mapUpdate; refine set_put rfl _ _ _ rfl w.heap.size (A.length + j) (A ++ l.take j) rfl (SetIs.set (HSw.out _ _ hb1) (by show w.heap.size ≠ wo.heap.size; omega) _) (by omega) x (by have := HKl.out; omega) rfl rfl ?_; intro w2 hs2 hg2)
      | go_in)
     have hR1 := World.rowIs.set (HRw.out _ _ hb1) j (.bool V)
     have hB1 := Below.setCell (HBw.out _ _ hb1) (p := ⟨wo.heap.size, j, none⟩) (by show w.heap.size ≤ wo.heap.size; omega) (.bool V)
     go_roundg (l.length - (j + 1))
     case rel => exact ⟨j + 1, by omega, rfl, by go_num, by show SetIs _ _ _ _; rw [HT.out, ← List.append_assoc]; exact hs2, hB1.grown hg2 hB1.size (fun q hq => by injection hq with hq; omega), (World.rowIs.of_block hR1 (hg2.block _ hR1.lt (fun e => by injection e with e; omega))).congr fun q hq => HF.out q⟩
     case measure => omega
    ·have HU := Lib.hid (bl_of_mk HR.out (by omega) (by omega))
     have hlt2 : ¬ (j : Int) < (l.length : Int) := by omega
     go_wp2
     go_ret
     exact ⟨_, rfl, HU.out, HB2.out⟩
end Go.Proofs.YtfoooldkmokjpaaGreatDoor.Tw
end
