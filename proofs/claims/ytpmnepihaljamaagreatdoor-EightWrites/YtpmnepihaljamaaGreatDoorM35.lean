/-
  Texts put together (merge.py): ERead, ESame.
-/
import Derived.Test.YtpmnepihaljamaaGreatDoorM31
import Derived.Test.YtpmnepihaljamaaGreatDoorM34
import Derived.Test.YtpmnepihaljamaaGreatDoorM6
import Derived.Test.YtpmnepihaljamaaGreatDoorM7
import Derived.Test.YtpmnepihaljamaaGreatDoorM9
/-
  What eight.Read answers, as a contract: for every text.
-/
section
set_option linter.unusedSimpArgs false
set_option linter.unusedVariables false
set_option maxRecDepth 100000
namespace Go.Proofs.YtpmnepihaljamaaGreatDoor
open Go.RowKit
open Et
open Cm (Ln lnv ln0 Cl clv cl0 checkE totV totE btv)

theorem op_fit {k s : Tx} (h : opE k s = 0) : Nm (opL k s) ∧ Sh (opL k s) ∧ Qs (opL k s) ∧ (opL k s).length ≤ 100000 := by
  obtain ⟨c1, c2, c3⟩ := cover_once h
  obtain ⟨hg, hk, h0, h1, hwr, hl, hvv⟩ := wp_zero c1
  obtain ⟨-, w2, w3⟩ := wr_ok hwr
  have L := wrT_len _ w3
  have hlen : s.length = 6 + ln (abt k (opN k s) (opL k s)) := by
    have := congrArg List.length c2
    rw [hvv, List.length_append, headL_len, L] at this
    exact this.symm
  have hln : ln (opL k s) ≤ 65536 := by
    have : ln (opL k s) ≤ ln (abt k (opN k s) (opL k s)) := by
      unfold abt
      rw [ln_app, ln_app]
      omega
    omega
  have hsub : ∀ g ∈ opL k s, g ∈ abt k (opN k s) (opL k s) := fun g hg => by
    unfold abt
    exact List.mem_append_right _ (List.mem_append_left _ hg)
  refine ⟨fun g hg => ?_, fun g hg ps hps x hx => ?_, fun g hg ps hps => ?_, ?_⟩
  · have := w3 g (hsub g hg)
    unfold segOk at this
    rw [Bool.and_eq_true] at this
    exact this.1
  · have a := gn_le hg
    have b := pn_le hps
    have c := xn_le hx
    omega
  · have a := gn_le hg
    have b := pn_le hps
    have c := sum_many ps
    omega
  · have : (opL k s).length ≤ (abt k (opN k s) (opL k s)).length := by
      unfold abt
      rw [List.length_append, List.length_append]
      omega
    omega
theorem r_no {s : Tx} (h : rE s ≠ 0) : rD s = (0, 0, 0) ∧ rN s = 0 ∧ rV s = [] := by
  unfold rD rN rV
  rw [if_neg h, if_neg h, if_neg h]
  exact ⟨rfl, rfl, rfl⟩
theorem r_yes {s : Tx} (h : rE s = 0) : rD s = opD t837 s ∧ rN s = opN t837 s ∧ rV s = rsV (opL t837 s) := by
  unfold rD rN rV
  rw [if_pos h, if_pos h, if_pos h]
  exact ⟨rfl, rfl, rfl⟩
theorem cls_nil (K : Nat → Prop) (w : World) : Cm.ClsAt K w (.slice none 0 0) [] := ⟨none, 0, rfl, by simp, by simp [maxLen], Or.inl rfl⟩
theorem cells2 {w : World} {q : Nat} {v u : Value} {T : TypeId} (h : w.heap[q]? = some (.cells #[v, u] T (0, 0))) : w.cell? ⟨q, 0, none⟩ = some v ∧ w.cell? ⟨q, 1, none⟩ = some u ∧ w.frozen? ⟨q, 0, none⟩ = false ∧ w.frozen? ⟨q, 1, none⟩ = false :=
  ⟨by rw [cell_of_row w q 0 _ T (0, 0) h]; rfl, by rw [cell_of_row w q 1 _ T (0, 0) h]; rfl, Lib.frozen_of_heap h 0, Lib.frozen_of_heap h 1⟩
theorem cells3 {w : World} {q : Nat} {a b c : Value} {T : TypeId} (h : w.heap[q]? = some (.cells #[a, b, c] T (0, 0))) : w.cell? ⟨q, 0, none⟩ = some a ∧ w.cell? ⟨q, 1, none⟩ = some b ∧ w.cell? ⟨q, 2, none⟩ = some c ∧ w.frozen? ⟨q, 0, none⟩ = false ∧ w.frozen? ⟨q, 1, none⟩ = false ∧ w.frozen? ⟨q, 2, none⟩ = false :=
  ⟨by rw [cell_of_row w q 0 _ T (0, 0) h]; rfl, by rw [cell_of_row w q 1 _ T (0, 0) h]; rfl, by rw [cell_of_row w q 2 _ T (0, 0) h]; rfl, Lib.frozen_of_heap h 0, Lib.frozen_of_heap h 1, Lib.frozen_of_heap h 2⟩
abbrev D0 : Obj := .cells #[.int .u8 0, .int .u8 0, .int .u8 0] 23
abbrev B0 : Obj := .cells #[.int .i64 0, .slice none 0 0] 26
/-- The two boxes of the answer, at two places. -/
def Two (B : Nat) (w : World) : Prop := w.heap[B]? = some (.cells #[.int .u8 0, .int .u8 0, .int .u8 0] 23 (0, 0)) ∧ w.heap[B + 1]? = some (.cells #[.int .i64 0, .slice none 0 0] 26 (0, 0))
theorem Two.start (w : World) : Two w.heap.size ((w.alloc D0).alloc B0) := by
  have h2 := heap_alloc_new (w.alloc D0) B0
  rw [show (w.alloc D0).heap.size = w.heap.size + 1 by simp] at h2
  exact ⟨keepB (heap_alloc_new w D0) (below_alloc (w.alloc D0) B0), h2⟩
theorem Two.grw {B : Nat} {w w' : World} (h : Two B w) (hb : Below w.heap.size w w') : Two B w' := ⟨keepB h.1 hb, keepB h.2 hb⟩
/-- Both boxes written: what they hold, and what stands besides. -/
abbrev put5 (W : World) (B : Nat) (a b c d e : Value) : World := ((((W.setCell ⟨B, 0, none⟩ a).setCell ⟨B, 1, none⟩ b).setCell ⟨B, 2, none⟩ c).setCell ⟨B + 1, 0, none⟩ d).setCell ⟨B + 1, 1, none⟩ e
theorem put5_two {W : World} {B : Nat} (h : Two B W) (a b c d e : Value) : (put5 W B a b c d e).heap[B]? = some (.cells #[a, b, c] 23 (0, 0)) ∧ (put5 W B a b c d e).heap[B + 1]? = some (.cells #[d, e] 26 (0, 0)) := by
  have h0 : (W.setCell ⟨B, 0, none⟩ a).heap[B]? = some (.cells #[a, .int .u8 0, .int .u8 0] 23 (0, 0)) := by rw [heap_set h.1]; rfl
  have h1 : ((W.setCell ⟨B, 0, none⟩ a).setCell ⟨B, 1, none⟩ b).heap[B]? = some (.cells #[a, b, .int .u8 0] 23 (0, 0)) := by rw [heap_set h0]; rfl
  have h2 : (((W.setCell ⟨B, 0, none⟩ a).setCell ⟨B, 1, none⟩ b).setCell ⟨B, 2, none⟩ c).heap[B]? = some (.cells #[a, b, c] 23 (0, 0)) := by rw [heap_set h1]; rfl
  have g2 : (((W.setCell ⟨B, 0, none⟩ a).setCell ⟨B, 1, none⟩ b).setCell ⟨B, 2, none⟩ c).heap[B + 1]? = some (.cells #[.int .i64 0, .slice none 0 0] 26 (0, 0)) := heap_far (heap_far (heap_far h.2 (by omega)) (by omega)) (by omega)
  have g3 : ((((W.setCell ⟨B, 0, none⟩ a).setCell ⟨B, 1, none⟩ b).setCell ⟨B, 2, none⟩ c).setCell ⟨B + 1, 0, none⟩ d).heap[B + 1]? = some (.cells #[d, .slice none 0 0] 26 (0, 0)) := by rw [heap_set g2]; rfl
  exact ⟨heap_far (heap_far h2 (by omega)) (by omega), by rw [heap_set g3]; rfl⟩
theorem put5_below {B : Nat} {w W : World} (h : Below B w W) (a b c d e : Value) : Below B w (put5 W B a b c d e) :=
  ((((h.setCell (p := ⟨B, 0, none⟩) (Nat.le_refl _) a).setCell (p := ⟨B, 1, none⟩) (Nat.le_refl _) b).setCell (p := ⟨B, 2, none⟩) (Nat.le_refl _) c).setCell (p := ⟨B + 1, 0, none⟩) (Nat.le_succ _) d).setCell (p := ⟨B + 1, 1, none⟩) (Nat.le_succ _) e
theorem put5_moves {W : World} {B : Nat} {K K' : Nat → Prop} (hk : ∀ b, K b → K' b ∧ b ≠ B ∧ b ≠ B + 1) (a b c d e : Value) : Moves K K' W (put5 W B a b c d e) := by
  refine ⟨by simp [World.setCell], fun q _ h => ⟨(hk q h).1, ?_⟩⟩
  obtain ⟨-, n1, n2⟩ := hk q h
  rw [Below.heap_setCell _ _ _ _ n2, Below.heap_setCell _ _ _ _ n2, Below.heap_setCell _ _ _ _ n1, Below.heap_setCell _ _ _ _ n1, Below.heap_setCell _ _ _ _ n1]

set_option maxHeartbeats 8000000 in
theorem eread_any (t : ByteArray) (w : World) (hT : Tab w) (hD : Da.Tab w) (hs : t.size ≤ maxLen) :
    Calls Tryz.prog 13 #[.string t] w fun x w' => (∃ u, x = .returned (.tuple #[dv3 (rD t.data.toList), btv (rN t.data.toList) u, .int .i64 (rE t.data.toList)]) ∧ Cm.ClsAt (fun b => w.heap.size ≤ b) w' u (rV t.data.toList)) ∧ Below w.heap.size w w' := by
  have hb0 := below_trans (below_alloc w D0) (below_alloc (w.alloc D0) B0)
  have HO : Hid (Calls Tryz.prog 29 #[.string ⟨#[56, 51, 55]⟩, .string t] ((w.alloc D0).alloc B0) fun x w' => (∃ u, x = .returned (.tuple #[dv3 (opD t837 t.data.toList), .int .i64 (opN t837 t.data.toList), u, .int .i64 (opE t837 t.data.toList)]) ∧ SgAt All w' u (opL t837 t.data.toList)) ∧ Below ((w.alloc D0).alloc B0).heap.size ((w.alloc D0).alloc B0) w') := open_any ⟨#[56, 51, 55]⟩ t ((w.alloc D0).alloc B0) (tab_grw hT hb0) hs
  have HTw := Lib.hid (Two.start w)
  have HB0 := Lib.hid hb0
  have HTb := Lib.hid (And.intro hT hD)
  have hrE : rE t.data.toList = (if opE t837 t.data.toList = 0 then rsE (opL t837 t.data.toList) else opE t837 t.data.toList) := rfl
  clear hb0 hT hD hs
  by_cases he : opE t837 t.data.toList = 0
  case neg =>
    rw [if_neg he] at hrE
    have HX := Lib.hid (And.intro hrE (r_no (by rw [hrE]; exact he)))
    have hne : (opE t837 t.data.toList != 0) = true := by simpa using he
    clear he hrE
    generalize opE t837 t.data.toList = E at *
    generalize opN t837 t.data.toList = N at *
    obtain ⟨⟨da, db, dc⟩, hDD⟩ : ∃ DD, opD t837 t.data.toList = DD := ⟨_, rfl⟩
    rw [hDD] at HO
    generalize opL t837 t.data.toList = L at *
    have HO2 : Hid (Calls Tryz.prog 29 #[.string ⟨#[56, 51, 55]⟩, .string t] ((w.alloc D0).alloc B0) fun x w' => (∃ u, x = .returned (.tuple #[.agg #[.int .u8 da.toNat, .int .u8 db.toNat, .int .u8 dc.toNat], .int .i64 N, u, .int .i64 E]) ∧ SgAt All w' u L) ∧ Below ((w.alloc D0).alloc B0).heap.size ((w.alloc D0).alloc B0) w') := HO.out
    clear HO hDD
    go_enter Tryz.func13, Tryz.ntmps13
    go_wp2_with fail
    go_at_call 29
    refine HO2.out.mono ?_
    rintro x w1 ⟨⟨u, rfl, hu⟩, hb1⟩
    have HW1 := Lib.hid (HTw.out.grw hb1)
    have HB1 := Lib.hid (below_trans HB0.out hb1)
    have HU1 := Lib.hid hu
    obtain ⟨ua, uc, rfl, -, -, -⟩ := hu
    have hb2 := below_alloc w1 (.cells #[.int .u8 da.toNat, .int .u8 db.toNat, .int .u8 dc.toNat] 23)
    have HW2 := Lib.hid (HW1.out.grw hb2)
    have HB2 := Lib.hid (below_trans HB1.out hb2)
    have HU2 := Lib.hid (SgAt.move HU1.out (Below.moves hb2))
    have HD2 := Lib.hid (heap_alloc_new w1 (.cells #[.int .u8 da.toNat, .int .u8 db.toNat, .int .u8 dc.toNat] 23))
    have hw1 : w.heap.size + 1 < w1.heap.size := (Array.getElem?_eq_some_iff.1 HW1.out.2).1
    clear hb1 hb2 HU1 HW1 HB1
    go_upto_if 18 with fail
    generalize w1.alloc (.cells #[.int .u8 da.toNat, .int .u8 db.toNat, .int .u8 dc.toNat] 23) = w2 at *
    obtain ⟨b0, b1, b2, b3, b4, b5⟩ := cells3 HW2.out.1
    obtain ⟨c0, c1, c2, c3⟩ := cells2 HW2.out.2
    go_wp2
    clear b0 b1 b2 b3 b4 b5 c0 c1 c2 c3
    have HBF : Hid (Below w.heap.size w (((((w2.setCell ⟨w.heap.size, 0, none⟩ (.int .u8 0)).setCell ⟨w.heap.size, 1, none⟩ (.int .u8 0)).setCell ⟨w.heap.size, 2, none⟩ (.int .u8 0)).setCell ⟨w.heap.size + 1, 0, none⟩ (.int .i64 0)).setCell ⟨w.heap.size + 1, 1, none⟩ (.slice none 0 0))) := put5_below HB2.out _ _ _ _ _
    have HZF := Lib.hid (put5_two HW2.out (.int .u8 0) (.int .u8 0) (.int .u8 0) (.int .i64 0) (.slice none 0 0))
    have HZ1 : Hid ((((((w2.setCell ⟨w.heap.size, 0, none⟩ (.int .u8 0)).setCell ⟨w.heap.size, 1, none⟩ (.int .u8 0)).setCell ⟨w.heap.size, 2, none⟩ (.int .u8 0)).setCell ⟨w.heap.size + 1, 0, none⟩ (.int .i64 0)).setCell ⟨w.heap.size + 1, 1, none⟩ (.slice none 0 0)).heap[w.heap.size]? = some (.cells #[.int .u8 0, .int .u8 0, .int .u8 0] 23 (0, 0))) := HZF.out.1
    have HZ2 : Hid ((((((w2.setCell ⟨w.heap.size, 0, none⟩ (.int .u8 0)).setCell ⟨w.heap.size, 1, none⟩ (.int .u8 0)).setCell ⟨w.heap.size, 2, none⟩ (.int .u8 0)).setCell ⟨w.heap.size + 1, 0, none⟩ (.int .i64 0)).setCell ⟨w.heap.size + 1, 1, none⟩ (.slice none 0 0)).heap[w.heap.size + 1]? = some (.cells #[.int .i64 0, .slice none 0 0] 26 (0, 0))) := HZF.out.2
    clear HZF
    generalize (((((w2.setCell ⟨w.heap.size, 0, none⟩ (.int .u8 0)).setCell ⟨w.heap.size, 1, none⟩ (.int .u8 0)).setCell ⟨w.heap.size, 2, none⟩ (.int .u8 0)).setCell ⟨w.heap.size + 1, 0, none⟩ (.int .i64 0)).setCell ⟨w.heap.size + 1, 1, none⟩ (.slice none 0 0)) = wz at *
    obtain ⟨e0, e1, e2, -⟩ := cells3 HZ1.out
    obtain ⟨g0, g1, -⟩ := cells2 HZ2.out
    refine bodyPost_ret (v := .tuple #[.agg #[.int .u8 0, .int .u8 0, .int .u8 0], .agg #[.int .i64 0, .slice none 0 0], .int .i64 E]) (by simp [results, Tryz.results13, go_sem, e0, e1, e2, g0, g1]) rfl ?_
    exact ⟨⟨.slice none 0 0, by rw [HX.out.1, HX.out.2.1, HX.out.2.2.1]; rfl, by rw [HX.out.2.2.2]; exact cls_nil _ _⟩, HBF.out⟩
  obtain ⟨o1, o2, o3, o4⟩ := op_fit he
  rw [he] at HO
  rw [if_pos he] at hrE
  have HC : Hid (∀ v W, Below w.heap.size w W → SgAt All W v (opL t837 t.data.toList) → Calls Tryz.prog 30 #[v] W fun e w' => (∃ u, e = .returned (.tuple #[u, .int .i64 (rsE (opL t837 t.data.toList))]) ∧ Cm.ClsAt (fun b => W.heap.size ≤ b) w' u (rsV (opL t837 t.data.toList))) ∧ Below W.heap.size W w') := fun v W hW hv => ecls_any v _ W hv o1 o2 o3 (tab_grw HTb.out.1 hW) (Cm.tab_below HTb.out.2 hW) o4
  have HRY := Lib.hid (r_yes (s := t.data.toList))
  have HRN := Lib.hid (r_no (s := t.data.toList))
  obtain ⟨⟨da, db, dc⟩, hDD⟩ : ∃ DD, opD t837 t.data.toList = DD := ⟨_, rfl⟩
  rw [hDD] at HO HRY
  clear o1 o2 o3 o4 he hDD
  generalize opN t837 t.data.toList = N at *
  generalize rsE (opL t837 t.data.toList) = E at *
  generalize rsV (opL t837 t.data.toList) = CL at *
  generalize opL t837 t.data.toList = L at *
  have HO2 : Hid (Calls Tryz.prog 29 #[.string ⟨#[56, 51, 55]⟩, .string t] ((w.alloc D0).alloc B0) fun x w' => (∃ u, x = .returned (.tuple #[.agg #[.int .u8 da.toNat, .int .u8 db.toNat, .int .u8 dc.toNat], .int .i64 N, u, .int .i64 0]) ∧ SgAt All w' u L) ∧ Below ((w.alloc D0).alloc B0).heap.size ((w.alloc D0).alloc B0) w') := HO.out
  clear HO
  by_cases hE : E = 0
  case neg =>
    have HX := Lib.hid (And.intro hrE (HRN.out (by rw [hrE]; exact hE)))
    have hne : (E != 0) = true := by simpa using hE
    clear hrE hE
    go_enter Tryz.func13, Tryz.ntmps13
    go_wp2_with fail
    go_at_call 29
    refine HO2.out.mono ?_
    rintro x w1 ⟨⟨u, rfl, hu⟩, hb1⟩
    have HW1 := Lib.hid (HTw.out.grw hb1)
    have HB1 := Lib.hid (below_trans HB0.out hb1)
    have HU1 := Lib.hid hu
    obtain ⟨ua, uc, rfl, -, -, -⟩ := hu
    have hb2 := below_alloc w1 (.cells #[.int .u8 da.toNat, .int .u8 db.toNat, .int .u8 dc.toNat] 23)
    have HW2 := Lib.hid (HW1.out.grw hb2)
    have HB2 := Lib.hid (below_trans HB1.out hb2)
    have HU2 := Lib.hid (SgAt.move HU1.out (Below.moves hb2))
    have HD2 := Lib.hid (heap_alloc_new w1 (.cells #[.int .u8 da.toNat, .int .u8 db.toNat, .int .u8 dc.toNat] 23))
    have hw1 : w.heap.size + 1 < w1.heap.size := (Array.getElem?_eq_some_iff.1 HW1.out.2).1
    clear hb1 hb2 HU1 HW1 HB1
    go_upto_if 18 with fail
    generalize w1.alloc (.cells #[.int .u8 da.toNat, .int .u8 db.toNat, .int .u8 dc.toNat] 23) = w2 at *
    have HC2 := Lib.hid (HC.out _ _ HB2.out HU2.out)
    go_wp2_with fail
    go_at_call 30
    refine HC2.out.mono ?_
    rintro x w3 ⟨⟨u3, rfl, hc⟩, hb3⟩
    have HW3 := Lib.hid (HW2.out.grw hb3)
    have HB3 := Lib.hid (below_trans HB2.out hb3)
    have HD3 := Lib.hid (keepB HD2.out hb3)
    have HC3 := Lib.hid hc
    obtain ⟨ca, cc, rfl, -, -, -⟩ := hc
    have hz2 := HB2.out.size
    have hz1 := (Array.getElem?_eq_some_iff.1 HW2.out.2).1
    clear hb3
    obtain ⟨b0, b1, b2, b3, b4, b5⟩ := cells3 HW3.out.1
    obtain ⟨c0, c1, c2, c3⟩ := cells2 HW3.out.2
    go_wp2
    clear b0 b1 b2 b3 b4 b5 c0 c1 c2 c3
    have HBF : Hid (Below w.heap.size w (((((w3.setCell ⟨w.heap.size, 0, none⟩ (.int .u8 0)).setCell ⟨w.heap.size, 1, none⟩ (.int .u8 0)).setCell ⟨w.heap.size, 2, none⟩ (.int .u8 0)).setCell ⟨w.heap.size + 1, 0, none⟩ (.int .i64 0)).setCell ⟨w.heap.size + 1, 1, none⟩ (.slice none 0 0))) := put5_below HB3.out _ _ _ _ _
    have HZF := Lib.hid (put5_two HW3.out (.int .u8 0) (.int .u8 0) (.int .u8 0) (.int .i64 0) (.slice none 0 0))
    have HZ1 : Hid ((((((w3.setCell ⟨w.heap.size, 0, none⟩ (.int .u8 0)).setCell ⟨w.heap.size, 1, none⟩ (.int .u8 0)).setCell ⟨w.heap.size, 2, none⟩ (.int .u8 0)).setCell ⟨w.heap.size + 1, 0, none⟩ (.int .i64 0)).setCell ⟨w.heap.size + 1, 1, none⟩ (.slice none 0 0)).heap[w.heap.size]? = some (.cells #[.int .u8 0, .int .u8 0, .int .u8 0] 23 (0, 0))) := HZF.out.1
    have HZ2 : Hid ((((((w3.setCell ⟨w.heap.size, 0, none⟩ (.int .u8 0)).setCell ⟨w.heap.size, 1, none⟩ (.int .u8 0)).setCell ⟨w.heap.size, 2, none⟩ (.int .u8 0)).setCell ⟨w.heap.size + 1, 0, none⟩ (.int .i64 0)).setCell ⟨w.heap.size + 1, 1, none⟩ (.slice none 0 0)).heap[w.heap.size + 1]? = some (.cells #[.int .i64 0, .slice none 0 0] 26 (0, 0))) := HZF.out.2
    clear HZF
    generalize (((((w3.setCell ⟨w.heap.size, 0, none⟩ (.int .u8 0)).setCell ⟨w.heap.size, 1, none⟩ (.int .u8 0)).setCell ⟨w.heap.size, 2, none⟩ (.int .u8 0)).setCell ⟨w.heap.size + 1, 0, none⟩ (.int .i64 0)).setCell ⟨w.heap.size + 1, 1, none⟩ (.slice none 0 0)) = wz at *
    obtain ⟨e0, e1, e2, -⟩ := cells3 HZ1.out
    obtain ⟨g0, g1, -⟩ := cells2 HZ2.out
    refine bodyPost_ret (v := .tuple #[.agg #[.int .u8 0, .int .u8 0, .int .u8 0], .agg #[.int .i64 0, .slice none 0 0], .int .i64 E]) (by simp [results, Tryz.results13, go_sem, e0, e1, e2, g0, g1]) rfl ?_
    exact ⟨⟨.slice none 0 0, by rw [HX.out.1, HX.out.2.1, HX.out.2.2.1]; rfl, by rw [HX.out.2.2.2]; exact cls_nil _ _⟩, HBF.out⟩
  subst hE
  obtain ⟨y1, y2, y3⟩ := HRY.out hrE
  have HX := Lib.hid (And.intro hrE (And.intro y1 (And.intro y2 y3)))
  clear hrE y1 y2 y3
  go_enter Tryz.func13, Tryz.ntmps13
  go_wp2_with fail
  go_at_call 29
  refine HO2.out.mono ?_
  rintro x w1 ⟨⟨u, rfl, hu⟩, hb1⟩
  have HW1 := Lib.hid (HTw.out.grw hb1)
  have HB1 := Lib.hid (below_trans HB0.out hb1)
  have HU1 := Lib.hid hu
  obtain ⟨ua, uc, rfl, -, -, -⟩ := hu
  have hb2 := below_alloc w1 (.cells #[.int .u8 da.toNat, .int .u8 db.toNat, .int .u8 dc.toNat] 23)
  have HW2 := Lib.hid (HW1.out.grw hb2)
  have HB2 := Lib.hid (below_trans HB1.out hb2)
  have HU2 := Lib.hid (SgAt.move HU1.out (Below.moves hb2))
  have HD2 := Lib.hid (heap_alloc_new w1 (.cells #[.int .u8 da.toNat, .int .u8 db.toNat, .int .u8 dc.toNat] 23))
  have hw1 : w.heap.size + 1 < w1.heap.size := (Array.getElem?_eq_some_iff.1 HW1.out.2).1
  clear hb1 hb2 HU1 HW1 HB1
  go_upto_if 18 with fail
  generalize w1.alloc (.cells #[.int .u8 da.toNat, .int .u8 db.toNat, .int .u8 dc.toNat] 23) = w2 at *
  have HC2 := Lib.hid (HC.out _ _ HB2.out HU2.out)
  go_wp2_with fail
  go_at_call 30
  refine HC2.out.mono ?_
  rintro x w3 ⟨⟨u3, rfl, hc⟩, hb3⟩
  have HW3 := Lib.hid (HW2.out.grw hb3)
  have HB3 := Lib.hid (below_trans HB2.out hb3)
  have HD3 := Lib.hid (keepB HD2.out hb3)
  have HC3 := Lib.hid hc
  obtain ⟨ca, cc, rfl, -, -, -⟩ := hc
  have hz2 := HB2.out.size
  have hz1 := (Array.getElem?_eq_some_iff.1 HW2.out.2).1
  clear hb3
  obtain ⟨b0, b1, b2, b3, b4, b5⟩ := cells3 HW3.out.1
  obtain ⟨c0, c1, c2, c3⟩ := cells2 HW3.out.2
  obtain ⟨k0, k1, k2, -⟩ := cells3 HD3.out
  have nn : w1.heap.size ≠ w.heap.size := by omega
  have nn2 : w1.heap.size ≠ w.heap.size + 1 := by omega
  go_wp2
  clear b0 b1 b2 b3 b4 b5 c0 c1 c2 c3
  have HBF : Hid (Below w.heap.size w (((((w3.setCell ⟨w.heap.size, 0, none⟩ (.int .u8 da.toNat)).setCell ⟨w.heap.size, 1, none⟩ (.int .u8 db.toNat)).setCell ⟨w.heap.size, 2, none⟩ (.int .u8 dc.toNat)).setCell ⟨w.heap.size + 1, 0, none⟩ (.int .i64 N)).setCell ⟨w.heap.size + 1, 1, none⟩ (.slice ca CL.length cc))) := put5_below HB3.out _ _ _ _ _
  have HZF := Lib.hid (put5_two HW3.out (.int .u8 da.toNat) (.int .u8 db.toNat) (.int .u8 dc.toNat) (.int .i64 N) (.slice ca CL.length cc))
  have HZ1 : Hid ((((((w3.setCell ⟨w.heap.size, 0, none⟩ (.int .u8 da.toNat)).setCell ⟨w.heap.size, 1, none⟩ (.int .u8 db.toNat)).setCell ⟨w.heap.size, 2, none⟩ (.int .u8 dc.toNat)).setCell ⟨w.heap.size + 1, 0, none⟩ (.int .i64 N)).setCell ⟨w.heap.size + 1, 1, none⟩ (.slice ca CL.length cc)).heap[w.heap.size]? = some (.cells #[.int .u8 da.toNat, .int .u8 db.toNat, .int .u8 dc.toNat] 23 (0, 0))) := HZF.out.1
  have HZ2 : Hid ((((((w3.setCell ⟨w.heap.size, 0, none⟩ (.int .u8 da.toNat)).setCell ⟨w.heap.size, 1, none⟩ (.int .u8 db.toNat)).setCell ⟨w.heap.size, 2, none⟩ (.int .u8 dc.toNat)).setCell ⟨w.heap.size + 1, 0, none⟩ (.int .i64 N)).setCell ⟨w.heap.size + 1, 1, none⟩ (.slice ca CL.length cc)).heap[w.heap.size + 1]? = some (.cells #[.int .i64 N, .slice ca CL.length cc] 26 (0, 0))) := HZF.out.2
  clear HZF
  have HCF : Hid (Cm.ClsAt (fun b => w.heap.size ≤ b) (((((w3.setCell ⟨w.heap.size, 0, none⟩ (.int .u8 da.toNat)).setCell ⟨w.heap.size, 1, none⟩ (.int .u8 db.toNat)).setCell ⟨w.heap.size, 2, none⟩ (.int .u8 dc.toNat)).setCell ⟨w.heap.size + 1, 0, none⟩ (.int .i64 N)).setCell ⟨w.heap.size + 1, 1, none⟩ (.slice ca CL.length cc)) (.slice ca CL.length cc) CL) := Cm.ClsAt.move HC3.out (put5_moves (fun b hb => ⟨by have : w2.heap.size ≤ b := hb; omega, by have : w2.heap.size ≤ b := hb; omega, by have : w2.heap.size ≤ b := hb; omega⟩) _ _ _ _ _)
  generalize (((((w3.setCell ⟨w.heap.size, 0, none⟩ (.int .u8 da.toNat)).setCell ⟨w.heap.size, 1, none⟩ (.int .u8 db.toNat)).setCell ⟨w.heap.size, 2, none⟩ (.int .u8 dc.toNat)).setCell ⟨w.heap.size + 1, 0, none⟩ (.int .i64 N)).setCell ⟨w.heap.size + 1, 1, none⟩ (.slice ca CL.length cc)) = wz at *
  obtain ⟨e0, e1, e2, -⟩ := cells3 HZ1.out
  obtain ⟨g0, g1, -⟩ := cells2 HZ2.out
  refine bodyPost_ret (v := .tuple #[.agg #[.int .u8 da.toNat, .int .u8 db.toNat, .int .u8 dc.toNat], .agg #[.int .i64 N, .slice ca CL.length cc], .int .i64 0]) (by simp [results, Tryz.results13, go_sem, e0, e1, e2, g0, g1]) rfl ?_
  exact ⟨⟨.slice ca CL.length cc, by rw [HX.out.1, HX.out.2.1, HX.out.2.2.1]; rfl, by rw [HX.out.2.2.2]; exact HCF.out⟩, HBF.out⟩
end Go.Proofs.YtpmnepihaljamaaGreatDoor
end

/-
  Two batches that are the same, by the reference's Same; a batch that is light, by the statements' light.
-/
section
set_option linter.unusedSimpArgs false
set_option linter.unusedVariables false
set_option maxRecDepth 100000
namespace Go.Proofs.YtpmnepihaljamaaGreatDoor.Cm
open Go.RowKit
open Classical

set_option maxHeartbeats 4000000 in
theorem sameall_eq (v u : Value) (l : List Cl) (w : World) (h : ClsAt All w v l) (h' : ClsAt All w u l) :
    Calls Tryz.prog 36 #[v, u] w fun e w' => e = .returned (.bool true) ∧ Below w.heap.size w w' := by
  have HV := Lib.hid h
  have HU := Lib.hid h'
  obtain ⟨a, c, rfl, h1, h2⟩ := ClsAt.form h
  obtain ⟨a', c', rfl, h1', h2'⟩ := ClsAt.form h'
  clear h h'
  go_enter Tryz.func36, Tryz.ntmps36
  go_wp2
  go_loopg [5] (l.length) (fun g i wr => ∃ k : Nat, k ≤ l.length ∧ g = l.length - k ∧ i = .int .i64 k ∧ Hid (Below w.heap.size w wr))
  case atStart => exact ⟨0, Nat.zero_le _, rfl, rfl, Below.refl _ _⟩
  case round =>
    obtain ⟨k, hk, hg, rfl, HB⟩ := hrel
    by_cases hlt : k < l.length
    · obtain ⟨b, o, m, rfl, -, hc, hm⟩ := ClsAt.get (ClsAt.move HV.out (Below.moves HB.out)) k hlt
      obtain ⟨b', o', m', rfl, -, hc', hm'⟩ := ClsAt.get (ClsAt.move HU.out (Below.moves HB.out)) k hlt
      generalize l[k] = x at *
      have HS : Hid (∀ W, Below wr.heap.size wr W → Calls Tryz.prog 18 #[clv x m, clv x m'] W fun e w' => e = .returned (.bool true) ∧ Below W.heap.size W w') := fun W hW => by
        have := rsame_any x x m m' W (LnsAt.move hm (Below.moves hW)) (LnsAt.move hm' (Below.moves hW))
        rw [decide_eq_true rfl] at this
        exact this
      obtain ⟨ma, mc, rfl, -, -⟩ := LnsAt.form hm
      obtain ⟨ma', mc', rfl, -, -⟩ := LnsAt.form hm'
      have HCe : Hid (∀ W, Below wr.heap.size wr W → ClCells W b (o + k * 7) x (.slice ma x.lines.length mc) ∧ ClCells W b' (o' + k * 7) x (.slice ma' x.lines.length mc')) := fun W hW => ⟨hc.of (hW.block b (World.block_lt_of_cell? _ _ hc.1)), hc'.of (hW.block b' (World.block_lt_of_cell? _ _ hc'.1))⟩
      obtain ⟨c0, c1, c2, c3, c4, c5, c6⟩ := hc
      obtain ⟨d0, d1, d2, d3, d4, d5, d6⟩ := hc'
      have HBd : Hid (Below wr.heap.size wr wr.drew) := Below.drew (Below.refl _ _)
      clear hm hm'
      go_wp2_with fail
      go_region_held3 (fun w' => w'.cell? ⟨b, o + k * 7, none⟩ = some (.string (mk x.id)) ∧ w'.cell? ⟨b, o + k * 7 + 1, none⟩ = some (.string (mk x.mem)) ∧ w'.cell? ⟨b, o + k * 7 + 2, none⟩ = some (.string (mk x.fam)) ∧ w'.cell? ⟨b, o + k * 7 + 3, none⟩ = some (.int .i64 x.net) ∧ w'.cell? ⟨b, o + k * 7 + 4, none⟩ = some (.int .i64 x.does) ∧ w'.cell? ⟨b, o + k * 7 + 5, none⟩ = some (.string (mk x.ref)) ∧ w'.cell? ⟨b, o + k * 7 + 6, none⟩ = some (.slice ma x.lines.length mc) ∧ w'.cell? ⟨b', o' + k * 7, none⟩ = some (.string (mk x.id)) ∧ w'.cell? ⟨b', o' + k * 7 + 1, none⟩ = some (.string (mk x.mem)) ∧ w'.cell? ⟨b', o' + k * 7 + 2, none⟩ = some (.string (mk x.fam)) ∧ w'.cell? ⟨b', o' + k * 7 + 3, none⟩ = some (.int .i64 x.net) ∧ w'.cell? ⟨b', o' + k * 7 + 4, none⟩ = some (.int .i64 x.does) ∧ w'.cell? ⟨b', o' + k * 7 + 5, none⟩ = some (.string (mk x.ref)) ∧ w'.cell? ⟨b', o' + k * 7 + 6, none⟩ = some ((.slice ma' x.lines.length mc'))) (go_keep) (first | (go_at_call 18; refine (HS.out _ (by with_reducible exact HBd.out)).mono ?_; rintro e w2 ⟨rfl, hb⟩; have HB2 := Lib.hid (below_trans HBd.out hb); obtain ⟨⟨r0, r1, r2, r3, r4, r5, r6⟩, ⟨s0, s1, s2, s3, s4, s5, s6⟩⟩ := HCe.out _ HB2.out; clear hb))
      all_goals
        go_wp2
        go_roundg (l.length - (k + 1))
        case rel => exact ⟨k + 1, by omega, rfl, by go_num, below_trans HB.out HB2.out⟩
        case measure => omega
    · go_wp2
      go_ret
      exact ⟨rfl, HB.out⟩
set_option maxHeartbeats 2000000 in
theorem bsame_eq (n : Int) (v u : Value) (l : List Cl) (w : World) (h : ClsAt All w v l) (h' : ClsAt All w u l) :
    Calls Tryz.prog 15 #[btv n v, btv n u] w fun e w' => e = .returned (.bool true) ∧ Below w.heap.size w w' := by
  have hb := below_trans (below_alloc w (.cells #[.int .i64 n, v] 26)) (below_alloc _ (.cells #[.int .i64 n, u] 26))
  have HS := Lib.hid (sameall_eq v u l ((w.alloc (.cells #[.int .i64 n, v] 26)).alloc (.cells #[.int .i64 n, u] 26)) (ClsAt.move h (Below.moves hb)) (ClsAt.move h' (Below.moves hb)))
  have HB := Lib.hid hb
  obtain ⟨a, c, rfl, h1, h2⟩ := ClsAt.form h
  obtain ⟨a', c', rfl, h1', h2'⟩ := ClsAt.form h'
  clear h h' hb
  go_enter Tryz.func15, Tryz.ntmps15
  go_wp2_with (go_at_call 36; refine HS.out.mono ?_; rintro e w1 ⟨rfl, hb⟩; have HB1 := Lib.hid (below_trans HB.out hb); clear hb)
  go_ret
  exact ⟨rfl, HB1.out⟩
set_option maxHeartbeats 2000000 in
theorem light_any (n : Int) (v : Value) (l : List Cl) (w : World) (h : ClsAt All w v l) (hz : ∀ c ∈ l, ClOk c) :
    Calls Tryz.prog 9 #[btv n v] w fun e w' => (∃ b : Bool, e = .returned (.bool b) ∧ (b = true → (∀ c ∈ l, ClLight c) ∧ cnt l ≤ 600)) ∧ Below w.heap.size w w' := by
  have hb := below_alloc w (.cells #[.int .i64 n, v] 26)
  have HS := Lib.hid (weight_any 600 (by omega) (by omega) v l (w.alloc (.cells #[.int .i64 n, v] 26)) (ClsAt.move h (Below.moves hb)) hz)
  have HB := Lib.hid hb
  obtain ⟨a, c, rfl, h1, h2⟩ := ClsAt.form h
  clear h hb hz
  go_enter Tryz.func9, Tryz.ntmps9
  go_wp2_with (go_at_call 19; refine HS.out.mono ?_; rintro e w1 ⟨⟨k, rfl, hk⟩, hb⟩; have HB1 := Lib.hid (below_trans HB.out hb); have HK := Lib.hid hk; clear hb hk)
  go_ret
  exact ⟨⟨decide (k ≤ 600), rfl, fun e => by obtain ⟨q1, q2⟩ := HK.out (of_decide_eq_true e); have := of_decide_eq_true e; exact ⟨q1, by omega⟩⟩, HB1.out⟩
def exLn : Ln := ⟨[57, 57, 50, 49, 51], [[50, 53]], 20240301, 1, 100, 0⟩
def exC : Cl := ⟨[67, 49], [77, 49], [70, 49], 0, 1, [], [exLn]⟩
def exS : Tx := [73, 83, 65, 42, 58, 126, 71, 83, 42, 56, 51, 55, 42, 55, 126, 83, 84, 42, 56, 51, 55, 42, 55, 126, 66, 72, 84, 42, 49, 126, 72, 76, 42, 49, 126, 78, 77, 42, 77, 49, 42, 70, 49, 126, 67, 76, 77, 42, 67, 49, 42, 49, 46, 48, 48, 42, 48, 42, 49, 42, 126, 76, 88, 42, 49, 126, 83, 86, 42, 72, 67, 58, 57, 57, 50, 49, 51, 58, 50, 53, 42, 49, 46, 48, 48, 42, 49, 126, 68, 84, 80, 42, 52, 55, 50, 42, 50, 48, 50, 52, 48, 51, 48, 49, 126, 83, 69, 42, 57, 42, 55, 126, 71, 69, 42, 49, 42, 55, 126, 73, 69, 65, 42, 49, 42, 55, 126]
end Go.Proofs.YtpmnepihaljamaaGreatDoor.Cm
namespace Go.Proofs.YtpmnepihaljamaaGreatDoor
theorem ex_wt : Et.wtE 42 58 126 7 [Cm.exC] = 0 ∧ Et.wtV 42 58 126 7 [Cm.exC] = Cm.exS := by decide +kernel
theorem ex_no : Et.rE [73, 83, 65, 42, 58, 126] = 5 := by decide +kernel
theorem ex_sg : ln (Et.segs [Cm.exC]) ≤ 90000 ∧ (Et.segs [Cm.exC]).length ≤ 100000 := by decide +kernel
end Go.Proofs.YtpmnepihaljamaaGreatDoor
end
