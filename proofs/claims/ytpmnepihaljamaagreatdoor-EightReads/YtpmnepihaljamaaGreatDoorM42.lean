/-
  Texts put together (merge.py): ERRd.
-/
import Derived.RegionTactic
import Derived.Test.YtpmnepihaljamaaGreatDoorM39
import Derived.Test.YtpmnepihaljamaaGreatDoorM29
import Derived.Test.YtpmnepihaljamaaGreatDoorM41
/-
  What the reference's Read answers, as a contract. (Written by gen_rrd.py.)
-/
section
set_option linter.unusedSimpArgs false
set_option linter.unusedVariables false
set_option maxRecDepth 100000
namespace Go.Proofs.YtpmnepihaljamaaGreatDoor
open Go.RowKit
open Et
open Cm (Ln lnv Cl clv cl0 btv)
def RclAt (P : Nat → Prop) (B : Nat) (w : World) (v : Value) (xs : List Cl) : Prop :=
  ∃ ms : List Value, ms.length = xs.length ∧ w.ownsRow B 43 7 v xs.length (ccs xs ms) ∧ ∀ (j : Nat) (x : Cl) (m : Value), xs[j]? = some x → ms[j]? = some m → Cm.LnsAt (fun b => P b ∧ v.ownBlock ≠ some b) w m x.lines
theorem RclAt.nil (P : Nat → Prop) (B : Nat) (w : World) : RclAt P B w (.slice none 0 0) [] := ⟨[], rfl, World.ownsRow_nil _ _ _ _, fun j x m h _ => by simp at h⟩
theorem RclAt.keep {P : Nat → Prop} {B : Nat} {w w' : World} {v : Value} {xs : List Cl} (h : RclAt P B w v xs) (hs : w.heap.size ≤ w'.heap.size) (hk : ∀ g, B ≤ g → ∀ cs, w.heap[g]? = some (.cells cs 43 (0, 0)) → w'.heap[g]? = some (.cells cs 43 (0, 0))) (hm : ∀ b, b < w.heap.size → P b → w'.heap[b]? = w.heap[b]?) : RclAt P B w' v xs := by
  obtain ⟨ms, h1, h2, h3⟩ := h
  exact ⟨ms, h1, own_keep h2 hk, fun j x m hx hn => Cm.LnsAt.move (h3 j x m hx hn) ⟨hs, fun b hb hk => ⟨hk, hm b hb hk.1⟩⟩⟩
theorem RclAt.grw {P : Nat → Prop} {B : Nat} {w w' : World} {v : Value} {xs : List Cl} (h : RclAt P B w v xs) (hb : Below w.heap.size w w') : RclAt P B w' v xs :=
  h.keep hb.size (fun g _ cs hg => keepB hg hb) fun b hb' _ => hb.block b hb'
theorem RclAt.grown {P : Nat → Prop} {B p : Nat} {w w' : World} {v : Value} {xs : List Cl} (h : RclAt P B w v xs) (hG : w.grownBy w' (some p)) (hp : p < B) (hP : ∀ b, P b → b ≠ p) : RclAt P B w' v xs :=
  h.keep hG.size (fun g hg cs hh => grown_heap hh hG (by omega)) fun b hb hk => hG.block b hb (fun e => hP b hk (Option.some.inj e))
theorem RclAt.set {P : Nat → Prop} {B q j : Nat} {w : World} {v u : Value} {xs : List Cl} (h : RclAt P B w v xs) (hq : q < B) (hP : ∀ b, P b → b ≠ q) : RclAt P B (w.setCell ⟨q, j, none⟩ u) v xs :=
  h.keep (by simp [World.setCell]) (fun g hg ds hh => heap_far hh (by omega)) fun b hb hk => Below.heap_setCell _ _ _ _ (hP b hk)
theorem RclAt.cls {P : Nat → Prop} {B : Nat} {w : World} {v : Value} {xs : List Cl} (h : RclAt P B w v xs) : Cm.ClsAt All w v xs := by
  obtain ⟨ms, h1, ⟨hl, h⟩, h3⟩ := h
  rcases h with ⟨rfl, h0⟩ | ⟨g, cap, cur, rfl, hB, hg, h4, h2, hs, ht⟩
  · obtain rfl := List.length_eq_zero_iff.1 h0
    exact ⟨none, 0, rfl, by simp, by simp [maxLen], Or.inl rfl⟩
  · refine ⟨_, cap, rfl, h4, h2, Or.inr ⟨g, 0, rfl, trivial, (Array.getElem?_eq_some_iff.1 hg).1, fun j x hj => ?_⟩⟩
    have hjl : j < xs.length := (List.getElem?_eq_some_iff.1 hj).1
    have hm : ms[j]? = some ms[j] := List.getElem?_eq_getElem (by omega)
    obtain ⟨e0, e1, e2, e3, e4, e5, e6⟩ := ccs_at xs ms j x _ hj hm
    rw [← ht, List.getElem?_take, if_pos (by omega)] at e0 e1 e2 e3 e4 e5 e6
    refine ⟨ms[j], ⟨?_, ?_, ?_, ?_, ?_, ?_, ?_⟩, Cm.LnsAt.move (h3 j x _ hj hm) (moves_weak _ fun b _ hk => trivial)⟩
    all_goals rw [Nat.zero_add, cell_of_row w g _ cur _ (0, 0) hg]
    · simpa using e0
    · simpa using e1
    · simpa using e2
    · simpa using e3
    · simpa using e4
    · simpa using e5
    · simpa using e6
theorem RclAt.app {P : Nat → Prop} {B : Nat} {w w' : World} {v v' : Value} {xs : List Cl} {x : Cl} {ms : List Value} {m : Value} (h1 : ms.length = xs.length) (h2 : w.ownsRow B 43 7 v xs.length (ccs xs ms))
    (h3 : ∀ (j : Nat) (x : Cl) (m : Value), xs[j]? = some x → ms[j]? = some m → Cm.LnsAt (fun b => P b ∧ v.ownBlock ≠ some b) w m x.lines) (hm : Cm.LnsAt (fun b => P b ∧ v.ownBlock ≠ some b) w m x.lines)
    (hown : w'.ownsRow B 43 7 v' (xs.length + 1) (ccs xs ms ++ [.string (mk x.id), .string (mk x.mem), .string (mk x.fam), .int .i64 x.net, .int .i64 x.does, .string (mk x.ref), m])) (hg : w.grownBy w' v.ownBlock) (hat : v'.ownBlock = v.ownBlock ∨ v'.ownBlock = some w.heap.size) : RclAt P B w' v' (xs ++ [x]) := by
  have hmv : Moves (fun b => P b ∧ v.ownBlock ≠ some b) (fun b => P b ∧ v'.ownBlock ≠ some b) w w' := moves_grown hg fun b hb hk => ⟨⟨hk.1, by
    rcases hat with e | e
    · rw [e]; exact hk.2
    · rw [e]; intro he; have := Option.some.inj he; omega⟩, fun he => hk.2 he.symm⟩
  refine ⟨ms ++ [m], by simp [h1], by rw [ccs_app xs ms x m h1, List.length_append]; exact hown, fun j y n hy hn => ?_⟩
  rcases Nat.lt_or_ge j xs.length with hj | hj
  · rw [List.getElem?_append_left hj] at hy
    rw [List.getElem?_append_left (by omega)] at hn
    exact Cm.LnsAt.move (h3 j y n hy hn) hmv
  · rw [List.getElem?_append_right hj] at hy
    rw [List.getElem?_append_right (by omega)] at hn
    have hj0 : j - xs.length = 0 := by
      have := (List.getElem?_eq_some_iff.1 hy).1
      simp at this; omega
    rw [hj0] at hy
    rw [show j - ms.length = 0 by omega] at hn
    simp at hy hn
    subst hy hn
    exact Cm.LnsAt.move hm hmv
/-- Texts lie in no block that holds none. -/
theorem tx_not {K : Nat → Prop} {w : World} {m : Value} {xs : List Tx} {q : Nat} {cs : Array Value} {T : TypeId} (h : TxAt K w m xs) (hq : w.heap[q]? = some (.cells cs T (0, 0))) (hc : ∀ (i : Nat) (s : ByteArray), cs[i]? ≠ some (.string s)) : TxAt (fun b => K b ∧ b ≠ q) w m xs := by
  obtain ⟨a, c, rfl, h1, h2, h0 | ⟨b, o, rfl, hK, hlt, hall⟩⟩ := h
  · exact ⟨a, c, rfl, h1, h2, Or.inl h0⟩
  · refine ⟨_, c, rfl, h1, h2, ?_⟩
    cases xs with
    | nil => exact Or.inl rfl
    | cons x r =>
      refine Or.inr ⟨b, o, rfl, ⟨hK, fun e => ?_⟩, hlt, hall⟩
      subst e
      obtain ⟨u, hu, rfl⟩ := hall 0 x rfl
      rw [cell_of_row w b _ cs T (0, 0) hq] at hu
      exact hc _ _ hu
theorem RsvAt.lnsP {K P : Nat → Prop} {B : Nat} {w : World} {v : Value} {xs : List Ln} (h : RsvAt K B w v xs) (hB : ∀ b, B ≤ b → P b) (hK : ∀ m ts, TxAt K w m ts → TxAt P w m ts) : Cm.LnsAt P w v xs := by
  obtain ⟨ms, h1, ⟨hl, h⟩, h3⟩ := h
  rcases h with ⟨rfl, h0⟩ | ⟨g, cap, cur, rfl, hBg, hg, h4, h2, hs, ht⟩
  · obtain rfl := List.length_eq_zero_iff.1 h0
    exact ⟨none, 0, rfl, by simp, by simp [maxLen], Or.inl rfl⟩
  · refine ⟨_, cap, rfl, h4, h2, Or.inr ⟨g, 0, rfl, hB g hBg, (Array.getElem?_eq_some_iff.1 hg).1, fun j x hj => ?_⟩⟩
    have hjl : j < xs.length := (List.getElem?_eq_some_iff.1 hj).1
    have hm : ms[j]? = some ms[j] := List.getElem?_eq_getElem (by omega)
    obtain ⟨e0, e1, e2, e3, e4, e5⟩ := lcs_at xs ms j x _ hj hm
    rw [← ht, List.getElem?_take, if_pos (by omega)] at e0 e1 e2 e3 e4 e5
    refine ⟨ms[j], ⟨?_, ?_, ?_, ?_, ?_, ?_⟩, hK _ _ (h3 j x _ hj hm)⟩
    all_goals rw [Nat.zero_add, cell_of_row w g _ cur _ (0, 0) hg]
    · simpa using e0
    · simpa using e1
    · simpa using e2
    · simpa using e3
    · simpa using e4
    · simpa using e5
theorem Two.grown {B p : Nat} {w w' : World} (h : Two B w) (hG : w.grownBy w' (some p)) (h1 : B ≠ p) (h2 : B + 1 ≠ p) : Two B w' := ⟨grown_heap h.1 hG h1, grown_heap h.2 hG h2⟩
theorem put5r_two {W : World} {B : Nat} (h : Two B W) (a b c d e : Value) : (((((W.setCell ⟨B + 1, 0, none⟩ d).setCell ⟨B + 1, 1, none⟩ e).setCell ⟨B, 0, none⟩ a).setCell ⟨B, 1, none⟩ b).setCell ⟨B, 2, none⟩ c).heap[B]? = some (.cells #[a, b, c] 23 (0, 0)) ∧ (((((W.setCell ⟨B + 1, 0, none⟩ d).setCell ⟨B + 1, 1, none⟩ e).setCell ⟨B, 0, none⟩ a).setCell ⟨B, 1, none⟩ b).setCell ⟨B, 2, none⟩ c).heap[B + 1]? = some (.cells #[d, e] 26 (0, 0)) := by
  have g0 := heap_set h.2 0 d
  have g1 := heap_set g0 1 e
  have k0 := heap_far (j := 1) (u := e) (heap_far (j := 0) (u := d) h.1 (show B ≠ B + 1 by omega)) (show B ≠ B + 1 by omega)
  have k1 := heap_set k0 0 a
  have k2 := heap_set k1 1 b
  have k3 := heap_set k2 2 c
  exact ⟨k3, heap_far (heap_far (heap_far g1 (by omega)) (by omega)) (by omega)⟩
theorem rs_e {l : List Sg} (h1 : txB l tBHT 1 = true) (h2 : Nu.riE (tx l 1) 3 = 0) : rsE l = if (rsP l).1 = 0 then (if ((rsP l).2.length : Int) = Nu.riV (tx l 1) 3 then 0 else 6) else (rsP l).1 := by unfold rsE; rw [if_pos h1, if_pos h2]
theorem rs_e1 {l : List Sg} (h1 : txB l tBHT 1 = false) : rsE l = 4 := by unfold rsE; rw [h1]; rfl
theorem rs_e2 {l : List Sg} (h1 : txB l tBHT 1 = true) (h2 : Nu.riE (tx l 1) 3 ≠ 0) : rsE l = Nu.riE (tx l 1) 3 := by unfold rsE; rw [if_pos h1, if_neg h2]
set_option maxHeartbeats 32000000 in
theorem rread8_any (t : ByteArray) (w : World) (hs : t.size ≤ maxLen) :
    Calls Tryz.prog 14 #[.string t] w fun x w' => (∃ u, x = .returned (.tuple #[dv3 (rD t.data.toList), btv (rN t.data.toList) u, .int .i64 (rE t.data.toList)]) ∧ Cm.ClsAt All w' u (rV t.data.toList)) ∧ Below w.heap.size w w' := by
  have hb0 := below_trans (below_alloc w D0) (below_alloc (w.alloc D0) B0)
  have HO : Hid (Calls Tryz.prog 31 #[.string ⟨#[56, 51, 55]⟩, .string t] ((w.alloc D0).alloc B0) fun x w' => (∃ u, x = .returned (.tuple #[dv3 (opD t837 t.data.toList), .int .i64 (opN t837 t.data.toList), u, .int .i64 (opE t837 t.data.toList)]) ∧ SgAt All w' u (opL t837 t.data.toList)) ∧ Below ((w.alloc D0).alloc B0).heap.size ((w.alloc D0).alloc B0) w') := ropen_any ⟨#[56, 51, 55]⟩ t ((w.alloc D0).alloc B0) hs
  have HTw := Lib.hid (Two.start w)
  have HB0 := Lib.hid hb0
  have hrE : rE t.data.toList = (if opE t837 t.data.toList = 0 then rsE (opL t837 t.data.toList) else opE t837 t.data.toList) := rfl
  have HRY := Lib.hid (r_yes (s := t.data.toList))
  have HRN := Lib.hid (r_no (s := t.data.toList))
  have HFIT := Lib.hid (op_fit (k := t837) (s := t.data.toList))
  have HrV : Hid (rsE (opL t837 t.data.toList) = 0 → rsV (opL t837 t.data.toList) = (rsP (opL t837 t.data.toList)).2) := fun h => by unfold rsV; rw [if_pos h]
  obtain ⟨⟨da, db, dc⟩, hDD⟩ : ∃ DD, opD t837 t.data.toList = DD := ⟨_, rfl⟩
  rw [hDD] at HO HRY
  clear hb0 hs hDD
  generalize opE t837 t.data.toList = OE at *
  generalize opN t837 t.data.toList = N at *
  generalize opL t837 t.data.toList = L at *
  have HO2 : Hid (Calls Tryz.prog 31 #[.string ⟨#[56, 51, 55]⟩, .string t] ((w.alloc D0).alloc B0) fun x w' => (∃ u, x = .returned (.tuple #[.agg #[.int .u8 da.toNat, .int .u8 db.toNat, .int .u8 dc.toNat], .int .i64 N, u, .int .i64 OE]) ∧ SgAt All w' u L) ∧ Below ((w.alloc D0).alloc B0).heap.size ((w.alloc D0).alloc B0) w') := HO.out
  clear HO
  go_enter Tryz.func14, Tryz.ntmps14
  go_wp2_with fail
  go_at_call 31
  refine HO2.out.mono ?_
  rintro x w1 ⟨⟨u, rfl, hu⟩, hb1⟩
  have HW1 := Lib.hid (HTw.out.grw hb1)
  have HB1 := Lib.hid (below_trans HB0.out hb1)
  have HU1 := Lib.hid hu
  obtain ⟨ua, uc, rfl, fu1, fu2, -⟩ := hu
  have hb2 := below_alloc w1 (.cells #[.int .u8 da.toNat, .int .u8 db.toNat, .int .u8 dc.toNat] 23)
  have HW2 := Lib.hid (HW1.out.grw hb2)
  have HB2 := Lib.hid (below_trans HB1.out hb2)
  have HU2 := Lib.hid (SgAt.move HU1.out (Below.moves hb2))
  have HD2 := Lib.hid (heap_alloc_new w1 (.cells #[.int .u8 da.toNat, .int .u8 db.toNat, .int .u8 dc.toNat] 23))
  have hw1 : w.heap.size + 1 < w1.heap.size := (Array.getElem?_eq_some_iff.1 HW1.out.2).1
  have hw2 : w1.heap.size < (w1.alloc (.cells #[.int .u8 da.toNat, .int .u8 db.toNat, .int .u8 dc.toNat] 23)).heap.size := by simp
  clear hb1 hb2 HU1 HW1 HB1
  go_upto_region 2 with fail
  generalize w1.alloc (.cells #[.int .u8 da.toNat, .int .u8 db.toNat, .int .u8 dc.toNat] 23) = w2 at *
  generalize hq5 : w1.heap.size = q5 at *
  clear hq5
  unfold maxLen at fu2
  by_cases he : OE = 0
  case neg =>
    rw [if_neg he] at hrE
    have HX := Lib.hid (And.intro hrE (HRN.out (by rw [hrE]; exact he)))
    have hne : (OE != 0) = true := by simpa using he
    clear he hrE
    obtain ⟨b0, b1, b2, b3, b4, b5⟩ := cells3 HW2.out.1
    obtain ⟨c0, c1, c2, c3⟩ := cells2 HW2.out.2
    go_wp2
    clear b0 b1 b2 b3 b4 b5 c0 c1 c2 c3
    have HBF : Hid (Below w.heap.size w (((((w2.setCell ⟨w.heap.size, 0, none⟩ (.int .u8 0)).setCell ⟨w.heap.size, 1, none⟩ (.int .u8 0)).setCell ⟨w.heap.size, 2, none⟩ (.int .u8 0)).setCell ⟨w.heap.size + 1, 0, none⟩ (.int .i64 0)).setCell ⟨w.heap.size + 1, 1, none⟩ (.slice none 0 0))) := put5_below HB2.out _ _ _ _ _
    have HZF := Lib.hid (put5_two HW2.out (.int .u8 0) (.int .u8 0) (.int .u8 0) (.int .i64 0) (.slice none 0 0))
    have HZ1 : Hid ((((((w2.setCell ⟨w.heap.size, 0, none⟩ (.int .u8 0)).setCell ⟨w.heap.size, 1, none⟩ (.int .u8 0)).setCell ⟨w.heap.size, 2, none⟩ (.int .u8 0)).setCell ⟨w.heap.size + 1, 0, none⟩ (.int .i64 0)).setCell ⟨w.heap.size + 1, 1, none⟩ (.slice none 0 0)).heap[w.heap.size]? = some (.cells #[.int .u8 0, .int .u8 0, .int .u8 0] 23 (0, 0))) := HZF.out.1
    have HZ2 : Hid ((((((w2.setCell ⟨w.heap.size, 0, none⟩ (.int .u8 0)).setCell ⟨w.heap.size, 1, none⟩ (.int .u8 0)).setCell ⟨w.heap.size, 2, none⟩ (.int .u8 0)).setCell ⟨w.heap.size + 1, 0, none⟩ (.int .i64 0)).setCell ⟨w.heap.size + 1, 1, none⟩ (.slice none 0 0)).heap[w.heap.size + 1]? = some (.cells #[.int .i64 0, .slice none 0 0] 26 (0, 0))) := HZF.out.2
    clear HZF
    generalize (((((w2.setCell ⟨w.heap.size, 0, none⟩ (.int .u8 0)).setCell ⟨w.heap.size, 1, none⟩ (.int .u8 0)).setCell ⟨w.heap.size, 2, none⟩ (.int .u8 0)).setCell ⟨w.heap.size + 1, 0, none⟩ (.int .i64 0)).setCell ⟨w.heap.size + 1, 1, none⟩ (.slice none 0 0)) = wz at *
    obtain ⟨e0, e1, e2, -⟩ := cells3 HZ1.out
    obtain ⟨g0, g1, -⟩ := cells2 HZ2.out
    refine bodyPost_ret (v := .tuple #[.agg #[.int .u8 0, .int .u8 0, .int .u8 0], .agg #[.int .i64 0, .slice none 0 0], .int .i64 (OE)]) (by simp [results, Tryz.results14, go_sem, e0, e1, e2, g0, g1]) rfl ?_
    exact ⟨⟨.slice none 0 0, by rw [HX.out.1, HX.out.2.1, HX.out.2.2.1]; rfl, by rw [HX.out.2.2.2]; exact cls_nil _ _⟩, HBF.out⟩
  obtain ⟨o1, o2, o3, o4⟩ := HFIT.out he
  rw [if_pos he] at hrE
  subst he
  have HER := Lib.hid hrE
  obtain ⟨EE, hEE⟩ : ∃ EE, EE = rsE L := ⟨_, rfl⟩
  rw [← hEE] at HER HrV
  have HEE := Lib.hid hEE
  have HN0 : Hid (∀ E, EE = E → E ≠ 0 → rE t.data.toList = E ∧ rD t.data.toList = (0, 0, 0) ∧ rN t.data.toList = 0 ∧ rV t.data.toList = []) := fun E h h0 => ⟨by rw [HER.out, h], HRN.out (by rw [HER.out, h]; exact h0)⟩
  clear hrE hEE HFIT HO2 HTw HB0 HRN
  obtain ⟨p, hp⟩ : ∃ p, p = w2.heap.size := ⟨_, rfl⟩
  have hb3 := below_alloc w2 (.cells #[.slice ua L.length uc, .int .i64 0] 63)
  have HW3 := Lib.hid (HW2.out.grw hb3)
  have HB3 := Lib.hid (below_trans HB2.out hb3)
  have HD3 := Lib.hid (keepB HD2.out hb3)
  have HP3 : Hid (SgBox p ua L.length uc 0 (w2.alloc (.cells #[.slice ua L.length uc, .int .i64 0] 63))) := by show SgBox _ _ _ _ _ _; rw [hp]; exact heap_alloc_new w2 _
  have HK3 : Hid (SgAt (fun b => b < p) (w2.alloc (.cells #[.slice ua L.length uc, .int .i64 0] 63)) (.slice ua L.length uc) L) := SgAt.move HU2.out ⟨hb3.size, fun b hb _ => ⟨by rw [hp]; exact hb, hb3.block b hb⟩⟩
  have hp3 : p < (w2.alloc (.cells #[.slice ua L.length uc, .int .i64 0] 63)).heap.size := by rw [hp]; simp
  have hpq : q5 < p := by rw [hp]; exact hw2
  clear hb3
  go_upto_region 5 with fail
  generalize w2.alloc (.cells #[.slice ua L.length uc, .int .i64 0] 63) = w3 at *
  rw [← hp]
  have hw2p : w2.heap.size = p := hp.symm
  clear hp hw2p HW2 HB2 HD2 HU2 hw2
  have HC : Hid (Calls Tryz.prog 32 #[.pointer (some ⟨p, 0, none⟩), .string ⟨#[66, 72, 84]⟩, .int .i64 2, .int .i64 (-1)] w3 fun e w' => e = .returned (.bool (txB L tBHT 1)) ∧ Below w3.heap.size w3 w') := by
    have := ris_any p ua uc 0 2 tBHT (-1) L w3 HP3.out (SgAt.move HK3.out (moves_weak _ fun _ _ _ => trivial)) o1 (by omega) o4 (by omega) (by omega)
    rw [List.drop_zero, is_tx] at this
    exact this
  cases hT : txB L tBHT 1
  · rw [hT] at HC
    have HX := Lib.hid (HN0.out 4 (by rw [HEE.out, rs_e1 hT]) (by decide))
    go_wp2_with fail
    go_at_call 32
    refine HC.out.mono ?_
    rintro z w4 ⟨rfl, hb⟩
    have HW4 := Lib.hid (HW3.out.grw hb)
    have HB4 := Lib.hid (below_trans HB3.out hb)
    clear hb
    obtain ⟨b0, b1, b2, b3, b4, b5⟩ := cells3 HW4.out.1
    obtain ⟨c0, c1, c2, c3⟩ := cells2 HW4.out.2
    go_wp2
    clear b0 b1 b2 b3 b4 b5 c0 c1 c2 c3
    have HBF : Hid (Below w.heap.size w (((((w4.setCell ⟨w.heap.size, 0, none⟩ (.int .u8 0)).setCell ⟨w.heap.size, 1, none⟩ (.int .u8 0)).setCell ⟨w.heap.size, 2, none⟩ (.int .u8 0)).setCell ⟨w.heap.size + 1, 0, none⟩ (.int .i64 0)).setCell ⟨w.heap.size + 1, 1, none⟩ (.slice none 0 0))) := put5_below HB4.out _ _ _ _ _
    have HZF := Lib.hid (put5_two HW4.out (.int .u8 0) (.int .u8 0) (.int .u8 0) (.int .i64 0) (.slice none 0 0))
    have HZ1 : Hid ((((((w4.setCell ⟨w.heap.size, 0, none⟩ (.int .u8 0)).setCell ⟨w.heap.size, 1, none⟩ (.int .u8 0)).setCell ⟨w.heap.size, 2, none⟩ (.int .u8 0)).setCell ⟨w.heap.size + 1, 0, none⟩ (.int .i64 0)).setCell ⟨w.heap.size + 1, 1, none⟩ (.slice none 0 0)).heap[w.heap.size]? = some (.cells #[.int .u8 0, .int .u8 0, .int .u8 0] 23 (0, 0))) := HZF.out.1
    have HZ2 : Hid ((((((w4.setCell ⟨w.heap.size, 0, none⟩ (.int .u8 0)).setCell ⟨w.heap.size, 1, none⟩ (.int .u8 0)).setCell ⟨w.heap.size, 2, none⟩ (.int .u8 0)).setCell ⟨w.heap.size + 1, 0, none⟩ (.int .i64 0)).setCell ⟨w.heap.size + 1, 1, none⟩ (.slice none 0 0)).heap[w.heap.size + 1]? = some (.cells #[.int .i64 0, .slice none 0 0] 26 (0, 0))) := HZF.out.2
    clear HZF
    generalize (((((w4.setCell ⟨w.heap.size, 0, none⟩ (.int .u8 0)).setCell ⟨w.heap.size, 1, none⟩ (.int .u8 0)).setCell ⟨w.heap.size, 2, none⟩ (.int .u8 0)).setCell ⟨w.heap.size + 1, 0, none⟩ (.int .i64 0)).setCell ⟨w.heap.size + 1, 1, none⟩ (.slice none 0 0)) = wz at *
    obtain ⟨e0, e1, e2, -⟩ := cells3 HZ1.out
    obtain ⟨g0, g1, -⟩ := cells2 HZ2.out
    refine bodyPost_ret (v := .tuple #[.agg #[.int .u8 0, .int .u8 0, .int .u8 0], .agg #[.int .i64 0, .slice none 0 0], .int .i64 (4)]) (by simp [results, Tryz.results14, go_sem, e0, e1, e2, g0, g1]) rfl ?_
    exact ⟨⟨.slice none 0 0, by rw [HX.out.1, HX.out.2.1, HX.out.2.2.1]; rfl, by rw [HX.out.2.2.2]; exact cls_nil _ _⟩, HBF.out⟩
  rw [hT] at HC
  go_wp2_with fail
  go_at_call 32
  refine HC.out.mono ?_
  rintro z w4 ⟨rfl, hb⟩
  have HW4 := Lib.hid (HW3.out.grw hb)
  have HB4 := Lib.hid (below_trans HB3.out hb)
  have HD4 := Lib.hid (keepB HD3.out hb)
  have HP4 := Lib.hid (HP3.out.grw hb)
  have HK4 := Lib.hid (SgAt.move (K' := fun b => b < p) HK3.out ⟨hb.size, fun b hb' hk => ⟨hk, hb.block b hb'⟩⟩)
  have hp4 : p < w4.heap.size := by have := hb.size; omega
  clear hb HC HW3 HB3 HD3 HP3 HK3 hp3
  obtain ⟨pp, y, r, hL, -⟩ := Et.tx1_form hT
  have HLf := Lib.hid hL
  have hl1 : 1 ≤ L.length := by rw [hL]; simp
  have HTx : Hid (tx L 1 = y ∧ L.tail = r ∧ L.drop 1 = r ∧ L.drop 0 = [pp, [y]] :: r) := by rw [hL]; exact ⟨rfl, rfl, rfl, rfl⟩
  have HTT := Lib.hid hT
  clear hT hL
  obtain ⟨b0, b1⟩ := HP4.out.cells
  have bf := Lib.frozen_of_heap HP4.out 1
  go_upto_region 8 with fail
  have HP5 : Hid (SgBox p ua L.length uc 1 (w4.setCell ⟨p, 1, none⟩ (.int .i64 1))) := HP4.out.set _ rfl
  have HW5 : Hid (Two w.heap.size (w4.setCell ⟨p, 1, none⟩ (.int .i64 1))) := ⟨heap_far HW4.out.1 (by omega), heap_far HW4.out.2 (by omega)⟩
  have HD5 := Lib.hid (heap_far (j := 1) (u := .int .i64 1) HD4.out (show q5 ≠ p by omega))
  have HB5 : Hid (Below w.heap.size w (w4.setCell ⟨p, 1, none⟩ (.int .i64 1))) := HB4.out.setCell (p := ⟨p, 1, none⟩) (by show w.heap.size ≤ p; omega) _
  have HK5 : Hid (SgAt (fun b => b < p) (w4.setCell ⟨p, 1, none⟩ (.int .i64 1)) (.slice ua L.length uc) L) := SgAt.move HK4.out ⟨by simp [World.setCell], fun b hb hk => ⟨hk, Below.heap_setCell _ _ _ _ (show b ≠ p from fun e => by have : b < p := hk; omega)⟩⟩
  have hp5 : p < (w4.setCell ⟨p, 1, none⟩ (.int .i64 1)).heap.size := by simp [World.setCell]; exact hp4
  generalize w4.setCell ⟨p, 1, none⟩ (.int .i64 1) = w5 at *
  clear b0 b1 bf HP4 HW4 HD4 HB4 HK4 hp4
  have HE1 : Hid (Calls Tryz.prog 34 #[.pointer (some ⟨p, 0, none⟩), .int .i64 1] w5 fun e w' => e = .returned (.string (mk y)) ∧ Below w5.heap.size w5 w') := rel_at p ua uc 0 1 L _ r y w5 HP5.out (SgAt.move HK5.out (moves_weak _ fun _ _ _ => trivial)) o4 HTx.out.2.2.2 rfl (by omega)
  have HM : Hid (∀ W : World, Calls Tryz.prog 33 #[.string (mk y), .int .i64 3] W fun e w' => e = .returned (.tuple #[.int .i64 (Nu.riV y 3), .int .i64 (Nu.riE y 3)]) ∧ Below W.heap.size W w') := fun W => rint_tx y 3 W
  go_wp2_with fail
  go_at_call 34
  refine HE1.out.mono ?_
  rintro z w6 ⟨rfl, hb6⟩
  by_cases hf0 : Nu.riE y 3 = 0
  case neg =>
    have HX := Lib.hid (HN0.out (Nu.riE y 3) (by rw [HEE.out, rs_e2 HTT.out (by rw [HTx.out.1]; exact hf0), HTx.out.1]) hf0)
    have hne : (Nu.riE y 3 != 0) = true := by simpa using hf0
    clear hf0
    generalize Nu.riE y 3 = E3 at *
    go_wp2_with fail
    go_at_call 33
    refine (HM.out _).mono ?_
    rintro z w7 ⟨rfl, hb7⟩
    have HW7 := Lib.hid (HW5.out.grw (below_trans hb6 hb7))
    have HB7 := Lib.hid (below_trans HB5.out (below_trans hb6 hb7))
    clear hb6 hb7
    obtain ⟨b0, b1, b2, b3, b4, b5⟩ := cells3 HW7.out.1
    obtain ⟨c0, c1, c2, c3⟩ := cells2 HW7.out.2
    go_wp2
    clear b0 b1 b2 b3 b4 b5 c0 c1 c2 c3
    have HBF : Hid (Below w.heap.size w (((((w7.setCell ⟨w.heap.size, 0, none⟩ (.int .u8 0)).setCell ⟨w.heap.size, 1, none⟩ (.int .u8 0)).setCell ⟨w.heap.size, 2, none⟩ (.int .u8 0)).setCell ⟨w.heap.size + 1, 0, none⟩ (.int .i64 0)).setCell ⟨w.heap.size + 1, 1, none⟩ (.slice none 0 0))) := put5_below HB7.out _ _ _ _ _
    have HZF := Lib.hid (put5_two HW7.out (.int .u8 0) (.int .u8 0) (.int .u8 0) (.int .i64 0) (.slice none 0 0))
    have HZ1 : Hid ((((((w7.setCell ⟨w.heap.size, 0, none⟩ (.int .u8 0)).setCell ⟨w.heap.size, 1, none⟩ (.int .u8 0)).setCell ⟨w.heap.size, 2, none⟩ (.int .u8 0)).setCell ⟨w.heap.size + 1, 0, none⟩ (.int .i64 0)).setCell ⟨w.heap.size + 1, 1, none⟩ (.slice none 0 0)).heap[w.heap.size]? = some (.cells #[.int .u8 0, .int .u8 0, .int .u8 0] 23 (0, 0))) := HZF.out.1
    have HZ2 : Hid ((((((w7.setCell ⟨w.heap.size, 0, none⟩ (.int .u8 0)).setCell ⟨w.heap.size, 1, none⟩ (.int .u8 0)).setCell ⟨w.heap.size, 2, none⟩ (.int .u8 0)).setCell ⟨w.heap.size + 1, 0, none⟩ (.int .i64 0)).setCell ⟨w.heap.size + 1, 1, none⟩ (.slice none 0 0)).heap[w.heap.size + 1]? = some (.cells #[.int .i64 0, .slice none 0 0] 26 (0, 0))) := HZF.out.2
    clear HZF
    generalize (((((w7.setCell ⟨w.heap.size, 0, none⟩ (.int .u8 0)).setCell ⟨w.heap.size, 1, none⟩ (.int .u8 0)).setCell ⟨w.heap.size, 2, none⟩ (.int .u8 0)).setCell ⟨w.heap.size + 1, 0, none⟩ (.int .i64 0)).setCell ⟨w.heap.size + 1, 1, none⟩ (.slice none 0 0)) = wz at *
    obtain ⟨e0, e1, e2, -⟩ := cells3 HZ1.out
    obtain ⟨g0, g1, -⟩ := cells2 HZ2.out
    refine bodyPost_ret (v := .tuple #[.agg #[.int .u8 0, .int .u8 0, .int .u8 0], .agg #[.int .i64 0, .slice none 0 0], .int .i64 (E3)]) (by simp [results, Tryz.results14, go_sem, e0, e1, e2, g0, g1]) rfl ?_
    exact ⟨⟨.slice none 0 0, by rw [HX.out.1, HX.out.2.1, HX.out.2.2.1]; rfl, by rw [HX.out.2.2.2]; exact cls_nil _ _⟩, HBF.out⟩
  have HES : Hid (EE = if (rsP L).1 = 0 then (if ((rsP L).2.length : Int) = Nu.riV y 3 then 0 else 6) else (rsP L).1) := by show _ = _; rw [HEE.out, rs_e HTT.out (by rw [HTx.out.1]; exact hf0), HTx.out.1]
  rw [hf0] at HM
  clear hf0
  generalize Nu.riV y 3 = V at *
  go_wp2_with fail
  go_at_call 33
  refine (HM.out _).mono ?_
  rintro z w7 ⟨rfl, hb7⟩
  have hb57 := below_trans hb6 (below_trans hb7 (below_alloc w7 (.cells #[.int .i64 N, .slice none 0 0] 26)))
  obtain ⟨q12, hq12⟩ : ∃ q12, q12 = w7.heap.size := ⟨_, rfl⟩
  have HW8 := Lib.hid (HW5.out.grw hb57)
  have HB8 := Lib.hid (below_trans HB5.out hb57)
  have HD8 := Lib.hid (keepB HD5.out hb57)
  have HP8 := Lib.hid (HP5.out.grw hb57)
  have HK8 := Lib.hid (SgAt.move (K' := fun b => b < p) HK5.out ⟨hb57.size, fun b hb' hk => ⟨hk, hb57.block b hb'⟩⟩)
  have HQ8 : Hid ((w7.alloc (.cells #[.int .i64 N, .slice none 0 0] 26)).heap[q12]? = some (.cells #[.int .i64 N, .slice none 0 0] 26 (0, 0))) := by show _ = _; rw [hq12]; exact heap_alloc_new w7 _
  have hp12 : p < q12 := by rw [hq12]; have := hb6.size; have := hb7.size; omega
  have h128 : q12 + 1 ≤ (w7.alloc (.cells #[.int .i64 N, .slice none 0 0] 26)).heap.size := by rw [hq12]; simp
  clear hb6 hb7 hb57 HP5 HW5 HD5 HB5 HK5 hp5 HM HE1
  go_upto_region 12 with fail
  rw [← hq12]
  generalize w7.alloc (.cells #[.int .i64 N, .slice none 0 0] 26) = w8 at *
  clear hq12
  have HF8 : Hid ((L.drop 1).length ≤ L.length ∧ clsA L.length [] (L.drop 1) = rsP L) := ⟨by rw [List.length_drop]; omega, by rw [HTx.out.2.2.1]; show _ = clsA L.length [] L.tail; rw [HTx.out.2.1]⟩
  obtain ⟨P, hP⟩ : ∃ P : Nat → Prop, P = fun b => b ≠ w.heap.size ∧ b ≠ w.heap.size + 1 ∧ b ≠ p ∧ b ≠ q12 := ⟨_, rfl⟩
  have HPP : Hid (∀ b, P b ↔ b ≠ w.heap.size ∧ b ≠ w.heap.size + 1 ∧ b ≠ p ∧ b ≠ q12) := fun b => by rw [hP]
  have HR8 : Hid (RclAt P (q12 + 1) w8 (.slice none 0 0) []) := RclAt.nil _ _ _
  clear hP HLf
  go_loopg [14] (L.length - 1) (fun gg _ wr => ∃ (a' : Nat) (acc : List Cl) (f : Nat) (sa : Option Addr) (sc : Nat), gg = L.length - a' ∧ a' ≤ L.length ∧ acc.length ≤ 256 ∧ q12 + 1 ≤ wr.heap.size ∧ Hid (SgBox p ua L.length uc a' wr) ∧ Hid (Two w.heap.size wr) ∧ Hid (wr.heap[q5]? = some (.cells #[.int .u8 da.toNat, .int .u8 db.toNat, .int .u8 dc.toNat] 23 (0, 0))) ∧ Hid (wr.heap[q12]? = some (.cells #[.int .i64 N, .slice sa acc.length sc] 26 (0, 0))) ∧ Hid (RclAt P (q12 + 1) wr (.slice sa acc.length sc) acc) ∧ Hid (SgAt (fun b => b < p) wr (.slice ua L.length uc) L) ∧ Hid (Below w.heap.size w wr) ∧ Hid ((L.drop a').length ≤ f ∧ clsA f acc (L.drop a') = rsP L))
  case atStart => exact ⟨1, [], L.length, none, 0, rfl, hl1, by simp, h128, HP8.out, HW8.out, HD8.out, HQ8.out, HR8.out, HK8.out, HB8.out, HF8.out⟩
  case round =>
    clear HP8 HW8 HD8 HQ8 HR8 HK8 HB8 HF8 h128
    obtain ⟨a', acc, f, sa, sc, hgg, la', hac, h12, HP9, HW9, HD9, HQ9, HR9, HK9, HB9, HFr⟩ := hrel
    generalize wr = w9 at *
    obtain ⟨s0, s1⟩ := HP9.out.cells
    obtain ⟨t0, t1, t2, t3⟩ := cells2 HQ9.out
    by_cases hlt : a' < L.length
    case neg =>
      have hgeI : ¬ (a' : Int) < (L.length : Int) := by omega
      have HE0 : Hid (rsP L = (0, acc)) := by show _ = _; rw [← HFr.out.2, List.drop_eq_nil_of_le (by omega), cls_stop]
      have HE4 : Hid (EE = if (acc.length : Int) = V then 0 else 6) := by show _ = _; rw [HES.out, HE0.out]; rfl
      clear HFr HES
      by_cases hcv : (acc.length : Int) = V
      case neg =>
        have hne : ((acc.length : Int) != V) = true := by simpa using hcv
        have HX := Lib.hid (HN0.out 6 (by rw [HE4.out, if_neg hcv]) (by decide))
        clear hcv
        obtain ⟨b0, b1, b2, b3, b4, b5⟩ := cells3 HW9.out.1
        obtain ⟨c0, c1, c2, c3⟩ := cells2 HW9.out.2
        go_wp2
        clear b0 b1 b2 b3 b4 b5 c0 c1 c2 c3
        have HBF : Hid (Below w.heap.size w (((((w9.setCell ⟨w.heap.size, 0, none⟩ (.int .u8 0)).setCell ⟨w.heap.size, 1, none⟩ (.int .u8 0)).setCell ⟨w.heap.size, 2, none⟩ (.int .u8 0)).setCell ⟨w.heap.size + 1, 0, none⟩ (.int .i64 0)).setCell ⟨w.heap.size + 1, 1, none⟩ (.slice none 0 0))) := put5_below HB9.out _ _ _ _ _
        have HZF := Lib.hid (put5_two HW9.out (.int .u8 0) (.int .u8 0) (.int .u8 0) (.int .i64 0) (.slice none 0 0))
        have HZ1 : Hid ((((((w9.setCell ⟨w.heap.size, 0, none⟩ (.int .u8 0)).setCell ⟨w.heap.size, 1, none⟩ (.int .u8 0)).setCell ⟨w.heap.size, 2, none⟩ (.int .u8 0)).setCell ⟨w.heap.size + 1, 0, none⟩ (.int .i64 0)).setCell ⟨w.heap.size + 1, 1, none⟩ (.slice none 0 0)).heap[w.heap.size]? = some (.cells #[.int .u8 0, .int .u8 0, .int .u8 0] 23 (0, 0))) := HZF.out.1
        have HZ2 : Hid ((((((w9.setCell ⟨w.heap.size, 0, none⟩ (.int .u8 0)).setCell ⟨w.heap.size, 1, none⟩ (.int .u8 0)).setCell ⟨w.heap.size, 2, none⟩ (.int .u8 0)).setCell ⟨w.heap.size + 1, 0, none⟩ (.int .i64 0)).setCell ⟨w.heap.size + 1, 1, none⟩ (.slice none 0 0)).heap[w.heap.size + 1]? = some (.cells #[.int .i64 0, .slice none 0 0] 26 (0, 0))) := HZF.out.2
        clear HZF
        generalize (((((w9.setCell ⟨w.heap.size, 0, none⟩ (.int .u8 0)).setCell ⟨w.heap.size, 1, none⟩ (.int .u8 0)).setCell ⟨w.heap.size, 2, none⟩ (.int .u8 0)).setCell ⟨w.heap.size + 1, 0, none⟩ (.int .i64 0)).setCell ⟨w.heap.size + 1, 1, none⟩ (.slice none 0 0)) = wz at *
        obtain ⟨e0, e1, e2, -⟩ := cells3 HZ1.out
        obtain ⟨g0, g1, -⟩ := cells2 HZ2.out
        refine bodyPost_ret (v := .tuple #[.agg #[.int .u8 0, .int .u8 0, .int .u8 0], .agg #[.int .i64 0, .slice none 0 0], .int .i64 (6)]) (by simp [results, Tryz.results14, go_sem, e0, e1, e2, g0, g1]) rfl ?_
        exact ⟨⟨.slice none 0 0, by rw [HX.out.1, HX.out.2.1, HX.out.2.2.1]; rfl, by rw [HX.out.2.2.2]; exact cls_nil _ _⟩, HBF.out⟩
      have hne : ((acc.length : Int) != V) = false := by simpa using hcv
      have HX0 : Hid (EE = 0) := by show _ = _; rw [HE4.out, if_pos hcv]
      have HX := Lib.hid (show rE t.data.toList = 0 from by rw [HER.out, HX0.out])
      obtain ⟨y1, y2, y3⟩ := HRY.out HX.out
      have HY : Hid (rD t.data.toList = (da, db, dc) ∧ rN t.data.toList = N ∧ rV t.data.toList = acc) := ⟨y1, y2, by rw [y3, HrV.out HX0.out, HE0.out]⟩
      clear hcv y1 y2 y3 HE4 HE0 HrV HRY HN0
      obtain ⟨k0, k1, k2, -⟩ := cells3 HD9.out
      obtain ⟨b0, b1, b2, b3, b4, b5⟩ := cells3 HW9.out.1
      obtain ⟨c0, c1, c2, c3⟩ := cells2 HW9.out.2
      have n1 : q5 ≠ w.heap.size := by omega
      have n2 : q5 ≠ w.heap.size + 1 := by omega
      have n3 : q12 ≠ w.heap.size := by omega
      have n4 : q12 ≠ w.heap.size + 1 := by omega
      go_upto_region 21 with fail
      go_region
      go_wp2
      clear b0 b1 b2 b3 b4 b5 c0 c1 c2 c3 k0 k1 k2 s0 s1 t0 t1 t2 t3 hne
      have HBF : Hid (Below w.heap.size w ((((((w9.setCell ⟨w.heap.size, 0, none⟩ (.int .u8 da.toNat)).setCell ⟨w.heap.size, 1, none⟩ (.int .u8 db.toNat)).setCell ⟨w.heap.size, 2, none⟩ (.int .u8 dc.toNat)).setCell ⟨w.heap.size + 1, 0, none⟩ (.int .i64 N)).setCell ⟨w.heap.size + 1, 1, none⟩ (.slice sa acc.length sc)).drew)) := Below.drew (put5_below HB9.out _ _ _ _ _)
      have HZF := Lib.hid (put5_two HW9.out (.int .u8 da.toNat) (.int .u8 db.toNat) (.int .u8 dc.toNat) (.int .i64 N) (.slice sa acc.length sc))
      have HZ1 : Hid (((((((w9.setCell ⟨w.heap.size, 0, none⟩ (.int .u8 da.toNat)).setCell ⟨w.heap.size, 1, none⟩ (.int .u8 db.toNat)).setCell ⟨w.heap.size, 2, none⟩ (.int .u8 dc.toNat)).setCell ⟨w.heap.size + 1, 0, none⟩ (.int .i64 N)).setCell ⟨w.heap.size + 1, 1, none⟩ (.slice sa acc.length sc)).drew).heap[w.heap.size]? = some (.cells #[.int .u8 da.toNat, .int .u8 db.toNat, .int .u8 dc.toNat] 23 (0, 0))) := HZF.out.1
      have HZ2 : Hid (((((((w9.setCell ⟨w.heap.size, 0, none⟩ (.int .u8 da.toNat)).setCell ⟨w.heap.size, 1, none⟩ (.int .u8 db.toNat)).setCell ⟨w.heap.size, 2, none⟩ (.int .u8 dc.toNat)).setCell ⟨w.heap.size + 1, 0, none⟩ (.int .i64 N)).setCell ⟨w.heap.size + 1, 1, none⟩ (.slice sa acc.length sc)).drew).heap[w.heap.size + 1]? = some (.cells #[.int .i64 N, .slice sa acc.length sc] 26 (0, 0))) := HZF.out.2
      have hP1 : ∀ b, P b → b ≠ w.heap.size := fun b hb => ((HPP.out b).1 hb).1
      have hP2 : ∀ b, P b → b ≠ w.heap.size + 1 := fun b hb => ((HPP.out b).1 hb).2.1
      have hq1 : w.heap.size < q12 + 1 := by omega
      have hq2 : w.heap.size + 1 < q12 + 1 := by omega
      have HCF : Hid (Cm.ClsAt All ((((((w9.setCell ⟨w.heap.size, 0, none⟩ (.int .u8 da.toNat)).setCell ⟨w.heap.size, 1, none⟩ (.int .u8 db.toNat)).setCell ⟨w.heap.size, 2, none⟩ (.int .u8 dc.toNat)).setCell ⟨w.heap.size + 1, 0, none⟩ (.int .i64 N)).setCell ⟨w.heap.size + 1, 1, none⟩ (.slice sa acc.length sc)).drew) (.slice sa acc.length sc) acc) := Cm.ClsAt.move (RclAt.cls (((((HR9.out.set (j := 0) (u := .int .u8 da.toNat) hq1 hP1).set (j := 1) (u := .int .u8 db.toNat) hq1 hP1).set (j := 2) (u := .int .u8 dc.toNat) hq1 hP1).set (j := 0) (u := .int .i64 N) hq2 hP2).set (j := 1) (u := .slice sa acc.length sc) hq2 hP2)) (Below.moves (Below.drew (Below.refl _ _)))
      clear HZF hP1 hP2 hq1 hq2
      generalize ((((((w9.setCell ⟨w.heap.size, 0, none⟩ (.int .u8 da.toNat)).setCell ⟨w.heap.size, 1, none⟩ (.int .u8 db.toNat)).setCell ⟨w.heap.size, 2, none⟩ (.int .u8 dc.toNat)).setCell ⟨w.heap.size + 1, 0, none⟩ (.int .i64 N)).setCell ⟨w.heap.size + 1, 1, none⟩ (.slice sa acc.length sc)).drew) = wz at *
      obtain ⟨e0, e1, e2, -⟩ := cells3 HZ1.out
      obtain ⟨g0, g1, -⟩ := cells2 HZ2.out
      refine bodyPost_ret (v := .tuple #[.agg #[.int .u8 da.toNat, .int .u8 db.toNat, .int .u8 dc.toNat], .agg #[.int .i64 N, .slice sa acc.length sc], .int .i64 0]) (by simp [results, Tryz.results14, go_sem, e0, e1, e2, g0, g1]) rfl ?_
      exact ⟨⟨.slice sa acc.length sc, by rw [HX.out, HY.out.1, HY.out.2.1]; rfl, by rw [HY.out.2.2]; exact HCF.out⟩, HBF.out⟩
    have hltI : (a' : Int) < (L.length : Int) := by omega
    obtain ⟨g, r', hdl⟩ : ∃ g r', L.drop a' = g :: r' := ⟨_, _, drop_cons hlt⟩
    have HDL := Lib.hid hdl
    clear hdl
    by_cases h256 : acc.length = 256
    case pos =>
      have h2I : ((acc.length : Int) == 256) = true := by rw [beq_iff_eq]; omega
      have HE0 : Hid (rsP L = (10, [])) := by show _ = _; rw [← HFr.out.2, HDL.out]; exact cls_limit (by rw [← HDL.out]; exact HFr.out.1) h256
      have HX := Lib.hid (HN0.out 10 (by rw [HES.out, HE0.out]; rfl) (by decide))
      clear h256
      obtain ⟨b0, b1, b2, b3, b4, b5⟩ := cells3 HW9.out.1
      obtain ⟨c0, c1, c2, c3⟩ := cells2 HW9.out.2
      go_wp2
      clear b0 b1 b2 b3 b4 b5 c0 c1 c2 c3
      have HBF : Hid (Below w.heap.size w (((((w9.setCell ⟨w.heap.size, 0, none⟩ (.int .u8 0)).setCell ⟨w.heap.size, 1, none⟩ (.int .u8 0)).setCell ⟨w.heap.size, 2, none⟩ (.int .u8 0)).setCell ⟨w.heap.size + 1, 0, none⟩ (.int .i64 0)).setCell ⟨w.heap.size + 1, 1, none⟩ (.slice none 0 0))) := put5_below HB9.out _ _ _ _ _
      have HZF := Lib.hid (put5_two HW9.out (.int .u8 0) (.int .u8 0) (.int .u8 0) (.int .i64 0) (.slice none 0 0))
      have HZ1 : Hid ((((((w9.setCell ⟨w.heap.size, 0, none⟩ (.int .u8 0)).setCell ⟨w.heap.size, 1, none⟩ (.int .u8 0)).setCell ⟨w.heap.size, 2, none⟩ (.int .u8 0)).setCell ⟨w.heap.size + 1, 0, none⟩ (.int .i64 0)).setCell ⟨w.heap.size + 1, 1, none⟩ (.slice none 0 0)).heap[w.heap.size]? = some (.cells #[.int .u8 0, .int .u8 0, .int .u8 0] 23 (0, 0))) := HZF.out.1
      have HZ2 : Hid ((((((w9.setCell ⟨w.heap.size, 0, none⟩ (.int .u8 0)).setCell ⟨w.heap.size, 1, none⟩ (.int .u8 0)).setCell ⟨w.heap.size, 2, none⟩ (.int .u8 0)).setCell ⟨w.heap.size + 1, 0, none⟩ (.int .i64 0)).setCell ⟨w.heap.size + 1, 1, none⟩ (.slice none 0 0)).heap[w.heap.size + 1]? = some (.cells #[.int .i64 0, .slice none 0 0] 26 (0, 0))) := HZF.out.2
      clear HZF
      generalize (((((w9.setCell ⟨w.heap.size, 0, none⟩ (.int .u8 0)).setCell ⟨w.heap.size, 1, none⟩ (.int .u8 0)).setCell ⟨w.heap.size, 2, none⟩ (.int .u8 0)).setCell ⟨w.heap.size + 1, 0, none⟩ (.int .i64 0)).setCell ⟨w.heap.size + 1, 1, none⟩ (.slice none 0 0)) = wz at *
      obtain ⟨e0, e1, e2, -⟩ := cells3 HZ1.out
      obtain ⟨g0, g1, -⟩ := cells2 HZ2.out
      refine bodyPost_ret (v := .tuple #[.agg #[.int .u8 0, .int .u8 0, .int .u8 0], .agg #[.int .i64 0, .slice none 0 0], .int .i64 (10)]) (by simp [results, Tryz.results14, go_sem, e0, e1, e2, g0, g1]) rfl ?_
      exact ⟨⟨.slice none 0 0, by rw [HX.out.1, HX.out.2.1, HX.out.2.2.1]; rfl, by rw [HX.out.2.2.2]; exact cls_nil _ _⟩, HBF.out⟩
    have h2I : ((acc.length : Int) == 256) = false := by rw [beq_eq_false_iff_ne]; omega
    have H256 := Lib.hid h256
    obtain ⟨E1, hE1⟩ : ∃ E1, E1 = clE (acc.length + 1) (L.drop a') := ⟨_, rfl⟩
    have HSv : Hid (Calls Tryz.prog 35 #[.pointer (some ⟨p, 0, none⟩), .int .i64 ((acc.length : Int) + 1)] w9 fun e w' => (∃ (c : Cl) (ma : Option Addr) (mn mc : Nat), e = .returned (.tuple #[clv c (.slice ma mn mc), .int .i64 E1]) ∧ (E1 = 0 → c = clC (L.drop a') ∧ RsvAt (fun b => b < p ∧ b < w9.heap.size) w9.heap.size w' (.slice ma mn mc) c.lines ∧ ∃ a'', SgBox p ua L.length uc a'' w' ∧ L.drop a'' = (clP (L.drop a')).2.2 ∧ a'' ≤ L.length ∧ a' < a'')) ∧ w9.grownBy w' (some p)) := by
      have := rck_any (fun b => b < p) p (fun b hb e => by have : b < p := hb; omega) ua uc a' (acc.length + 1) L w9 HP9.out HK9.out o1 o2 o3 la' o4 (by omega)
      rw [← hE1] at this
      exact this
    have HE1 := Lib.hid hE1
    clear hE1 h256
    go_wp2_with fail
    go_at_call 35
    refine HSv.out.mono ?_
    rintro z w10 ⟨⟨c, ma, mn, mc, rfl, hok⟩, hG⟩
    have HOK := Lib.hid hok
    have HW10 := Lib.hid (HW9.out.grown hG (by omega) (by omega))
    have HD10 := Lib.hid (grown_heap HD9.out hG (show q5 ≠ p by omega))
    have HQ10 := Lib.hid (grown_heap HQ9.out hG (show q12 ≠ p by omega))
    have HR10 := Lib.hid (HR9.out.grown hG (show p < q12 + 1 by omega) (fun b hb => ((HPP.out b).1 hb).2.2.1))
    have HK10 := Lib.hid (SgAt.move (K' := fun b => b < p) HK9.out (moves_grown hG fun b _ hk => ⟨hk, fun e => by have : b < p := hk; have := Option.some.inj e; omega⟩))
    have HB10 := Lib.hid (HB9.out.grown hG HB9.out.size fun k hk => by have := Option.some.inj hk; omega)
    have h12' : q12 + 1 ≤ w10.heap.size := Nat.le_trans h12 hG.size
    have HS9 : Hid (w9.heap.size ≤ w10.heap.size) := hG.size
    obtain ⟨ms9, -, own9, -⟩ := HR9.out
    have HOW : Hid (∀ q, (Value.slice sa acc.length sc).ownBlock = some q → q12 + 1 ≤ q ∧ q < w9.heap.size) := fun q hq => own9.lt q hq
    clear hok hG HSv HP9 HW9 HD9 HQ9 HR9 HK9 HB9 own9 s0 s1 t0 t1 t2 t3 hltI
    go_upto_region 16 with fail
    have hbx := below_alloc w10 (.cells #[.string (mk c.id), .string (mk c.mem), .string (mk c.fam), .int .i64 c.net, .int .i64 c.does, .string (mk c.ref), .slice ma mn mc] 43)
    have HBX := Lib.hid hbx
    have HW11 := Lib.hid (HW10.out.grw hbx)
    have HD11 := Lib.hid (keepB HD10.out hbx)
    have HQ11 := Lib.hid (keepB HQ10.out hbx)
    have HR11 := Lib.hid (HR10.out.grw hbx)
    have HK11 := Lib.hid (SgAt.move (K' := fun b => b < p) HK10.out ⟨hbx.size, fun b hb hk => ⟨hk, hbx.block b hb⟩⟩)
    have HB11 := Lib.hid (below_trans HB10.out hbx)
    have HX11 := Lib.hid (heap_alloc_new w10 (.cells #[.string (mk c.id), .string (mk c.mem), .string (mk c.fam), .int .i64 c.net, .int .i64 c.does, .string (mk c.ref), .slice ma mn mc] 43))
    have h11 : q12 + 1 ≤ (w10.alloc (.cells #[.string (mk c.id), .string (mk c.mem), .string (mk c.fam), .int .i64 c.net, .int .i64 c.does, .string (mk c.ref), .slice ma mn mc] 43)).heap.size := Nat.le_trans h12' hbx.size
    generalize w10.alloc (.cells #[.string (mk c.id), .string (mk c.mem), .string (mk c.fam), .int .i64 c.net, .int .i64 c.does, .string (mk c.ref), .slice ma mn mc] 43) = w11 at *
    clear hbx HD10 HQ10 HR10 HK10 HB10
    by_cases h10 : E1 = 0
    case neg =>
      have hne : (E1 != 0) = true := by simpa using h10
      have HE0 : Hid (rsP L = (E1, [])) := by
        show _ = _
        rw [← HFr.out.2, HDL.out, cls_fault (by rw [← HDL.out]; exact HFr.out.1) H256.out (by rw [← HDL.out, ← HE1.out]; exact h10), ← HDL.out, ← HE1.out]
      have HX := Lib.hid (HN0.out E1 (by rw [HES.out, HE0.out, if_neg h10]) h10)
      clear h10
      obtain ⟨b0, b1, b2, b3, b4, b5⟩ := cells3 HW11.out.1
      obtain ⟨c0, c1, c2, c3⟩ := cells2 HW11.out.2
      go_wp2
      clear b0 b1 b2 b3 b4 b5 c0 c1 c2 c3
      have HBF : Hid (Below w.heap.size w (((((w11.setCell ⟨w.heap.size, 0, none⟩ (.int .u8 0)).setCell ⟨w.heap.size, 1, none⟩ (.int .u8 0)).setCell ⟨w.heap.size, 2, none⟩ (.int .u8 0)).setCell ⟨w.heap.size + 1, 0, none⟩ (.int .i64 0)).setCell ⟨w.heap.size + 1, 1, none⟩ (.slice none 0 0))) := put5_below HB11.out _ _ _ _ _
      have HZF := Lib.hid (put5_two HW11.out (.int .u8 0) (.int .u8 0) (.int .u8 0) (.int .i64 0) (.slice none 0 0))
      have HZ1 : Hid ((((((w11.setCell ⟨w.heap.size, 0, none⟩ (.int .u8 0)).setCell ⟨w.heap.size, 1, none⟩ (.int .u8 0)).setCell ⟨w.heap.size, 2, none⟩ (.int .u8 0)).setCell ⟨w.heap.size + 1, 0, none⟩ (.int .i64 0)).setCell ⟨w.heap.size + 1, 1, none⟩ (.slice none 0 0)).heap[w.heap.size]? = some (.cells #[.int .u8 0, .int .u8 0, .int .u8 0] 23 (0, 0))) := HZF.out.1
      have HZ2 : Hid ((((((w11.setCell ⟨w.heap.size, 0, none⟩ (.int .u8 0)).setCell ⟨w.heap.size, 1, none⟩ (.int .u8 0)).setCell ⟨w.heap.size, 2, none⟩ (.int .u8 0)).setCell ⟨w.heap.size + 1, 0, none⟩ (.int .i64 0)).setCell ⟨w.heap.size + 1, 1, none⟩ (.slice none 0 0)).heap[w.heap.size + 1]? = some (.cells #[.int .i64 0, .slice none 0 0] 26 (0, 0))) := HZF.out.2
      clear HZF
      generalize (((((w11.setCell ⟨w.heap.size, 0, none⟩ (.int .u8 0)).setCell ⟨w.heap.size, 1, none⟩ (.int .u8 0)).setCell ⟨w.heap.size, 2, none⟩ (.int .u8 0)).setCell ⟨w.heap.size + 1, 0, none⟩ (.int .i64 0)).setCell ⟨w.heap.size + 1, 1, none⟩ (.slice none 0 0)) = wz at *
      obtain ⟨e0, e1, e2, -⟩ := cells3 HZ1.out
      obtain ⟨g0, g1, -⟩ := cells2 HZ2.out
      refine bodyPost_ret (v := .tuple #[.agg #[.int .u8 0, .int .u8 0, .int .u8 0], .agg #[.int .i64 0, .slice none 0 0], .int .i64 (E1)]) (by simp [results, Tryz.results14, go_sem, e0, e1, e2, g0, g1]) rfl ?_
      exact ⟨⟨.slice none 0 0, by rw [HX.out.1, HX.out.2.1, HX.out.2.2.1]; rfl, by rw [HX.out.2.2.2]; exact cls_nil _ _⟩, HBF.out⟩
    subst h10
    obtain ⟨hc, hrv, a2, hpb, hdn, la2, hlt2⟩ := HOK.out rfl
    obtain ⟨f', ff1, ff2⟩ := cls_more (f := f) (acc := acc) (g := g) (r := r') (by rw [← HDL.out]; exact HFr.out.1) H256.out (by rw [← HDL.out, ← HE1.out])
    have HF2 : Hid ((L.drop a2).length ≤ f' ∧ clsA f' (acc ++ [c]) (L.drop a2) = rsP L) := ⟨by rw [hdn, HDL.out]; exact ff1, by rw [hdn, hc, HDL.out, ← ff2, ← HDL.out]; exact HFr.out.2⟩
    have hml : Cm.LnsAt (fun b => P b ∧ (Value.slice sa acc.length sc).ownBlock ≠ some b) w10 (.slice ma mn mc) c.lines := by
      refine hrv.lnsP (fun b hb => ⟨(HPP.out b).2 ⟨by omega, by omega, by omega, by omega⟩, fun he => by have := (HOW.out b he).2; omega⟩) fun m ts hts => ?_
      have h1 := tx_not (tx_not hts HW10.out.1 (fun i s h => by rcases i with _ | _ | _ | i <;> simp at h)) HW10.out.2 (fun i s h => by rcases i with _ | _ | i <;> simp at h)
      exact TxAt.move h1 (moves_weak _ fun b _ hk => ⟨(HPP.out b).2 ⟨hk.1.2, hk.2, by have := hk.1.1.1; omega, by have := hk.1.1.1; omega⟩, fun he => by have := (HOW.out b he).1; have := hk.1.1.1; omega⟩)
    obtain ⟨_, _, hsl⟩ := hrv.form
    simp only [Value.slice.injEq] at hsl
    obtain ⟨rfl, rfl, rfl⟩ := hsl
    have HP11 := Lib.hid (hpb.grw HBX.out)
    have HM11 := Lib.hid (Cm.LnsAt.move hml (show Moves _ (fun b => P b ∧ (Value.slice sa acc.length sc).ownBlock ≠ some b) w10 w11 from ⟨HBX.out.size, fun b hb hk => ⟨hk, HBX.out.block b hb⟩⟩))
    clear hc hrv hml hpb hdn ff1 ff2 HOK HE1 HDL HFr HBX HW10 HS9
    obtain ⟨ms, y1, y2, y3⟩ := HR11.out
    obtain ⟨ic, j1, j2, j3, j4⟩ := infoC
    have HY := Lib.hid (And.intro y1 (And.intro y2 y3))
    clear y1 y2 y3
    obtain ⟨d0, d1, d2, d3, d4, d5, d6⟩ := claim_cells HX11.out
    obtain ⟨t0, t1, t2, t3⟩ := cells2 HQ11.out
    have hb5 := below_alloc w11 (.cells #[.string (mk c.id), .string (mk c.mem), .string (mk c.fam), .int .i64 c.net, .int .i64 c.does, .string (mk c.ref), .slice ma c.lines.length mc] 43)
    have HB5 := Lib.hid hb5
    have HO5 := Lib.hid (own_grw HY.out.2.1 hb5)
    have HNw := Lib.hid (World.news_of_block (heap_alloc_new w11 (.cells #[.string (mk c.id), .string (mk c.mem), .string (mk c.fam), .int .i64 c.net, .int .i64 c.does, .string (mk c.ref), .slice ma c.lines.length mc] 43)))
    have HON : Hid (∀ z ∈ ([.string (mk c.id), .string (mk c.mem), .string (mk c.fam), .int .i64 c.net, .int .i64 c.does, .string (mk c.ref), .slice ma c.lines.length mc] : List Value), z.oneCell' = true) := fun z hz => by simp at hz; rcases hz with rfl | rfl | rfl | rfl | rfl | rfl | rfl <;> rfl
    have HLN : Hid (acc.length + 1 ≤ maxLen) := by show _ ≤ _; simp only [maxLen]; omega
    have HLB : Hid ((acc.length + 1) * 104 ≤ 140737488355328) := by show _ ≤ _; omega
    have HBB : Hid (q12 + 1 ≤ (w11.alloc (.cells #[.string (mk c.id), .string (mk c.mem), .string (mk c.fam), .int .i64 c.net, .int .i64 c.does, .string (mk c.ref), .slice ma c.lines.length mc] 43)).heap.size) := by show _ ≤ _; have := hb5.size; omega
    clear hb5
    go_wp2_with (at_builtin; refine wpList_append_own_at _ (by rfl) _ _ 24 (by rfl) (q12 + 1) 43 ic (.agg #[.string ByteArray.empty, .string ByteArray.empty, .string ByteArray.empty, .int .i64 0, .int .i64 0, .string ByteArray.empty, .slice none 0 0]) 7 104 Tryz.underlying24 j1 j2 j3 j4 (by rfl) (by omega) (.slice sa acc.length sc) acc.length (ccs acc ms) (by rfl) HO5.out ⟨w11.heap.size, 0, none⟩ 1 1 [.string (mk c.id), .string (mk c.mem), .string (mk c.fam), .int .i64 c.net, .int .i64 c.does, .string (mk c.ref), .slice ma c.lines.length mc] (by rfl) (by rfl) HNw.out HON.out HLN.out HLB.out HBB.out ?_)
    intro v6 w6 hown hgrow hnil hat
    have HS6 : Hid (RclAt P (q12 + 1) w6 v6 (acc ++ [c])) := RclAt.app HY.out.1 HO5.out (fun j x m hx hm => Cm.LnsAt.move (HY.out.2.2 j x m hx hm) ⟨HB5.out.size, fun b hb hk => ⟨hk, HB5.out.block b hb⟩⟩) (Cm.LnsAt.move HM11.out ⟨HB5.out.size, fun b hb hk => ⟨hk, HB5.out.block b hb⟩⟩) hown hgrow (by simpa using hat)
    have hgk : ∀ q, (Value.slice sa acc.length sc).ownBlock = some q → q12 + 1 ≤ q := fun q hq => (HO5.out.lt q hq).1
    have HW6 : Hid (Two w.heap.size w6) := ⟨kept_oth (keepB HW11.out.1 HB5.out) HO5.out (by decide) hgrow, kept_oth (keepB HW11.out.2 HB5.out) HO5.out (by decide) hgrow⟩
    have HD6 := Lib.hid (kept_oth (keepB HD11.out HB5.out) HO5.out (by decide) hgrow)
    have HQ6 := Lib.hid (kept_oth (keepB HQ11.out HB5.out) HO5.out (by decide) hgrow)
    have HP6 : Hid (SgBox p ua L.length uc a2 w6) := kept_oth (HP11.out.grw HB5.out) HO5.out (by decide) hgrow
    have HK6 : Hid (SgAt (fun b => b < p) w6 (.slice ua L.length uc) L) := SgAt.move (SgAt.move (K' := fun b => b < p) HK11.out ⟨HB5.out.size, fun b hb hk => ⟨hk, HB5.out.block b hb⟩⟩) (moves_grown hgrow fun b _ hk => ⟨hk, fun e => by have := hgk b e.symm; have : b < p := hk; omega⟩)
    have HB6 := Lib.hid ((below_trans HB11.out HB5.out).grown hgrow (by have := (below_trans HB11.out HB5.out).size; exact this) fun k hk => by have := hgk k hk; omega)
    have h6 : q12 + 1 ≤ w6.heap.size := Nat.le_trans HBB.out hgrow.size
    obtain ⟨sa2, sc2, rfl⟩ : ∃ sa2 sc2, v6 = .slice sa2 (acc.length + 1) sc2 := own_form6 hown
    have hac2 : acc.length + 1 ≤ 256 := by have := H256.out; omega
    clear hown hgrow hnil hat HNw HON HLN HLB HBB HO5 HB5 hgk d0 d1 d2 d3 d4 d5 d6 t0 t1 t2 t3 HW11 HD11 HQ11 HR11 HK11 HB11 HM11 HP11 HX11
    obtain ⟨t0, t1, t2, t3⟩ := cells2 HQ6.out
    go_wp2
    go_roundg (L.length - a2)
    case rel =>
      refine ⟨a2, acc ++ [c], f', sa2, sc2, rfl, la2, by rw [List.length_append]; exact hac2, by simp [World.setCell]; exact h6, heap_far HP6.out (by omega), ⟨heap_far HW6.out.1 (by omega), heap_far HW6.out.2 (by omega)⟩, heap_far HD6.out (by omega), ?_, ?_, SgAt.move HK6.out ⟨by simp [World.setCell], fun b hb hk => ⟨hk, Below.heap_setCell _ _ _ _ (show b ≠ q12 from fun e => by have : b < p := hk; omega)⟩⟩, HB6.out.setCell (p := ⟨q12, 1, none⟩) (by show w.heap.size ≤ q12; omega) _, HF2.out⟩
      · have := heap_set HQ6.out 1 (.slice sa2 (acc.length + 1) sc2); rw [List.length_append]; exact this
      · have := HS6.out.set (q := q12) (j := 1) (u := .slice sa2 (acc.length + 1) sc2) (by omega) (fun b hb => ((HPP.out b).1 hb).2.2.2); rw [List.length_append]; exact this
    case measure => omega
end Go.Proofs.YtpmnepihaljamaaGreatDoor
end
