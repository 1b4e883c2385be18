/-
  What layer 14's light and works answer, as contracts.
-/
import Derived.Test.YtmgjnjbiljpneaaIMarks
import Derived.Test.YtmgjnjbiljpneaaLWeightP
import Derived.Deep.DeepCutAuto
set_option linter.unusedSimpArgs false
set_option linter.unusedVariables false
set_option maxRecDepth 100000
namespace Go.Proofs.Ytmgjnjbiljpneaa.Tw
open Go.RowKit
open Cm (Ln Cl LnsAt ClsAt LnCells LnOk lnv LnBox below_alloc below_trans)

theorem cls_one {w : World} {g : Nat} {v : Value} {l : List Ln} (h : w.heap[g]? = some (.cells #[.string ByteArray.empty, .string ByteArray.empty, .string ByteArray.empty, .int .i64 0, .int .i64 0, .string ByteArray.empty, v] 40 (0, 0))) (hl : LnsAt All w v l) : ClsAt All w (.slice (some ⟨g, 0, none⟩) 1 1) [⟨[], [], [], 0, 0, [], l⟩] := by
  refine ⟨_, 1, rfl, by simp, by simp [maxLen], Or.inr ⟨g, 0, rfl, trivial, (Array.getElem?_eq_some_iff.1 h).1, fun j x hj => ?_⟩⟩
  match j, hj with
  | 0, hj =>
    obtain rfl := Option.some.inj hj
    refine ⟨v, ⟨?_, ?_, ?_, ?_, ?_, ?_, ?_⟩, hl⟩ <;> (rw [cell_of_row w g _ _ _ (0, 0) h]; rfl)
  | n + 1, hj => simp at hj
/-- What light tells: where it is true, of nothing there is too much. -/
def LtV (l : List Ln) (e : Ending) : Prop := ∃ b : Bool, e = .returned (.bool b) ∧ (b = true → l.length ≤ 3000 ∧ ∀ x ∈ l, KyOk x)
set_option maxHeartbeats 4000000 in
theorem light_any (v : Value) (l : List Ln) (w : World) (h : LnsAt All w v l) (hz : ∀ x ∈ l, LnOk x) (hl : l.length ≤ 281474976710656) :
    Calls Try.prog 9 #[v] w fun e w' => LtV l e ∧ Below w.heap.size w w' := by
  obtain ⟨a, c, rfl, f1, f2⟩ := LnsAt.form h
  have HW : Hid (∀ (W : World) (g : Nat), Below w.heap.size w W → W.heap[g]? = some (.cells #[.string ByteArray.empty, .string ByteArray.empty, .string ByteArray.empty, .int .i64 0, .int .i64 0, .string ByteArray.empty, .slice a l.length c] 40 (0, 0)) → Calls Try.prog 18 #[.slice (some ⟨g, 0, none⟩) 1 1, .int .i64 150] W fun e w' => (∃ n : Int, e = .returned (.int .i64 n) ∧ (n ≤ 150 → l.length ≤ 3000 ∧ ∀ x ∈ l, KyOk x)) ∧ Below W.heap.size W w') := fun W g hb hg => by
    refine (Cm.weight_any 150 (by omega) (by omega) _ _ W (cls_one hg (LnsAt.move h (Below.moves hb))) (fun x hx => ?_)).mono ?_
    · obtain rfl : x = _ := by simpa using hx
      exact ⟨⟨by simp, by simp⟩, ⟨by simp, by simp⟩, by simp, by simp, by simp, by simp, hl, hz⟩
    · rintro e w' ⟨⟨n, rfl, h1⟩, h2⟩
      refine ⟨⟨n, rfl, fun hn => ?_⟩, h2⟩
      obtain ⟨q1, q2⟩ := h1 hn _ (List.mem_cons_self ..)
      exact ⟨q1, fun x hx => ⟨(hz x hx).1.1, (hz x hx).1.2, q2 x hx⟩⟩
  have HB := Lib.hid fun o => below_alloc w o
  have HN := Lib.hid fun (o : Obj) => (MapKept.heap_alloc w o).1
  clear h hz
  go_enter Try.func9, Try.ntmps9
  go_wp2_with (go_at_call 18; refine (HW.out _ _ (HB.out _) (HN.out _)).mono ?_; rintro e w' ⟨⟨n, rfl, hn⟩, hb⟩)
  go_ret
  exact ⟨⟨_, rfl, fun h => hn (by simpa using h)⟩, below_trans (HB.out _) hb⟩
def wkA : Ln := ⟨[57, 57, 50, 49, 51], [[50, 53]], 20240301, 0, 0, 0⟩
theorem wk_key : keyV wkA = [49, 48, 51, 48, 52, 50, 48, 50, 57, 57, 50, 49, 51, 58, 50, 53] := by kernel_rfl
theorem wk_m : marksV [] [wkA, wkA] = [false, true] := by kernel_rfl
theorem wk_n : marksV [wkA] [wkA] = [true] := by kernel_rfl
theorem wk_ok : KyOk wkA := ⟨by decide, by decide, by decide, by decide, by decide⟩
theorem wk_one {w : World} {g : Nat} {m : Value} (h : w.heap[g]? = some (.cells #[.string ⟨#[57, 57, 50, 49, 51]⟩, m, .int .i64 20240301, .int .i64 0, .int .i64 0, .int .i64 0] 24 (0, 0))) (hm : TxAt All w m [[50, 53]]) : LnsAt All w (.slice (some ⟨g, 0, none⟩) 1 1) [wkA] := by
  refine ⟨_, 1, rfl, by simp, by simp [maxLen], Or.inr ⟨g, 0, rfl, trivial, (Array.getElem?_eq_some_iff.1 h).1, fun j x hj => ?_⟩⟩
  match j, hj with
  | 0, hj =>
    obtain rfl := Option.some.inj hj
    refine ⟨m, ⟨?_, ?_, ?_, ?_, ?_, ?_⟩, hm⟩ <;> (rw [cell_of_row w g _ _ _ (0, 0) h]; rfl)
  | n + 1, hj => simp at hj
theorem wk_two {w : World} {g : Nat} {m : Value} (h : w.heap[g]? = some (.cells #[.string ⟨#[57, 57, 50, 49, 51]⟩, m, .int .i64 20240301, .int .i64 0, .int .i64 0, .int .i64 0, .string ⟨#[57, 57, 50, 49, 51]⟩, m, .int .i64 20240301, .int .i64 0, .int .i64 0, .int .i64 0] 24 (0, 0))) (hm : TxAt All w m [[50, 53]]) : LnsAt All w (.slice (some ⟨g, 0, none⟩) 2 2) [wkA, wkA] := by
  refine ⟨_, 2, rfl, by simp, by simp [maxLen], Or.inr ⟨g, 0, rfl, trivial, (Array.getElem?_eq_some_iff.1 h).1, fun j x hj => ?_⟩⟩
  match j, hj with
  | 0, hj =>
    obtain rfl := Option.some.inj hj
    refine ⟨m, ⟨?_, ?_, ?_, ?_, ?_, ?_⟩, hm⟩ <;> (rw [cell_of_row w g _ _ _ (0, 0) h]; rfl)
  | 1, hj =>
    obtain rfl := Option.some.inj hj
    refine ⟨m, ⟨?_, ?_, ?_, ?_, ?_, ?_⟩, hm⟩ <;> (rw [cell_of_row w g _ _ _ (0, 0) h]; rfl)
  | n + 2, hj => simp at hj
theorem wk_mods {w : World} {g : Nat} (h : w.heap[g]? = some (.cells #[.string ⟨#[50, 53]⟩] 9 (0, 0))) : TxAt All w (.slice (some ⟨g, 0, none⟩) 1 1) [[50, 53]] := by
  refine ⟨_, 1, rfl, by simp, by simp [maxLen], Or.inr ⟨g, 0, rfl, trivial, (Array.getElem?_eq_some_iff.1 h).1, fun j x hj => ?_⟩⟩
  match j, hj with
  | 0, hj =>
    obtain rfl := Option.some.inj hj
    exact ⟨_, by rw [cell_of_row w g _ _ _ (0, 0) h]; rfl, rfl⟩
  | n + 1, hj => simp at hj
theorem box_ln {w : World} {g : Nat} {m : Value} (h : w.heap[g]? = some (.cells #[.string ⟨#[57, 57, 50, 49, 51]⟩, m, .int .i64 20240301, .int .i64 0, .int .i64 0, .int .i64 0] 24 (0, 0))) : w.cell? ⟨g, 0, none⟩ = some (.string ⟨#[57, 57, 50, 49, 51]⟩) ∧ w.cell? ⟨g, 1, none⟩ = some m ∧ w.cell? ⟨g, 2, none⟩ = some (.int .i64 20240301) ∧ w.cell? ⟨g, 3, none⟩ = some (.int .i64 0) ∧ w.cell? ⟨g, 4, none⟩ = some (.int .i64 0) ∧ w.cell? ⟨g, 5, none⟩ = some (.int .i64 0) := by
  refine ⟨?_, ?_, ?_, ?_, ?_, ?_⟩ <;> (rw [cell_of_row w g _ _ _ (0, 0) h]; rfl)
theorem alloc_new (w : World) (cs : Array Value) (t : TypeId) : (w.alloc (.cells cs t)).heap[w.heap.size]? = some (.cells cs t (0, 0)) := (MapKept.heap_alloc w _).1
theorem alloc_two (w : World) (cs ds : Array Value) (t u : TypeId) : ((w.alloc (.cells cs t)).alloc (.cells ds u)).heap[w.heap.size + 1]? = some (.cells ds u (0, 0)) := by
  have := alloc_new (w.alloc (.cells cs t)) ds u
  rwa [World.size_alloc] at this
theorem lns_nil (w : World) : LnsAt All w (.slice none 0 0) [] := ⟨none, 0, rfl, by simp, by simp [maxLen], Or.inl rfl⟩
theorem mk_list' (x : Tx) : (mk x).toList = x := by rw [Lib.toList_data, mk_list]
set_option maxHeartbeats 8000000 in
theorem works_any (w : World) : Calls Try.prog 10 #[] w fun e w' => e = .returned (.bool true) ∧ Below w.heap.size w w' := by
  have HM : Hid (∀ (W : World) v va (A l : List Ln), LnsAt All W v l → LnsAt All W va A → (∀ x ∈ l, x = wkA) → (∀ x ∈ A, x = wkA) → l.length ≤ 2 → A.length ≤ 2 → Calls Try.prog 14 #[v, va] W fun e w' => ∃ u, e = .returned u ∧ BlAt w' u (marksV A l) ∧ Below W.heap.size W w') := fun W v va A l h hA q qA hl hlA => marks_any v va l A W h hA (fun x hx => by rw [q x hx]; exact wk_ok) (fun x hx => by rw [qA x hx]; exact wk_ok) (by omega) (by omega)
  have HK : Hid (∀ (W : World) m, TxAt All W m [[50, 53]] → Calls Try.prog 11 #[.agg #[.string ⟨#[57, 57, 50, 49, 51]⟩, m, .int .i64 20240301, .int .i64 0, .int .i64 0, .int .i64 0]] W fun e w' => e = .returned (.string (mk [49, 48, 51, 48, 52, 50, 48, 50, 57, 57, 50, 49, 51, 58, 50, 53])) ∧ Below W.heap.size W w') := fun W m hm => by
    have := key_any wkA m W hm wk_ok
    rw [wk_key] at this
    exact this
  have hLit := mk_list' [49, 48, 51, 48, 52, 50, 48, 50, 57, 57, 50, 49, 51, 58, 50, 53]
  go_enter Try.func10, Try.ntmps10
  go_upto_region 2 with fail
  have HB1 := Lib.hid (below_trans (below_alloc w (.cells #[.string ⟨#[50, 53]⟩] 9)) (below_alloc (w.alloc (.cells #[.string ⟨#[50, 53]⟩] 9)) (.cells #[.string ⟨#[57, 57, 50, 49, 51]⟩, .slice (some ⟨w.heap.size, 0, none⟩) 1 1, .int .i64 20240301, .int .i64 0, .int .i64 0, .int .i64 0] 24)))
  have HM1 := Lib.hid (keepB (alloc_new w #[.string ⟨#[50, 53]⟩] 9) (below_alloc (w.alloc (.cells #[.string ⟨#[50, 53]⟩] 9)) (.cells #[.string ⟨#[57, 57, 50, 49, 51]⟩, .slice (some ⟨w.heap.size, 0, none⟩) 1 1, .int .i64 20240301, .int .i64 0, .int .i64 0, .int .i64 0] 24)))
  have HL1 := Lib.hid (alloc_two w #[.string ⟨#[50, 53]⟩] #[.string ⟨#[57, 57, 50, 49, 51]⟩, .slice (some ⟨w.heap.size, 0, none⟩) 1 1, .int .i64 20240301, .int .i64 0, .int .i64 0, .int .i64 0] 9 24)
  generalize (w.alloc (.cells #[.string ⟨#[50, 53]⟩] 9)).alloc (.cells #[.string ⟨#[57, 57, 50, 49, 51]⟩, .slice (some ⟨w.heap.size, 0, none⟩) 1 1, .int .i64 20240301, .int .i64 0, .int .i64 0, .int .i64 0] 24) = W1 at *
  obtain ⟨c0, c1, c2, c3, c4, c5⟩ := box_ln HL1.out
  go_wp2_with fail
  go_at_call 14
  refine (HM.out _ _ _ [] [wkA, wkA] (wk_two (alloc_new W1 _ _) (wk_mods (keepB HM1.out (below_alloc W1 _)))) (lns_nil _) (by simp) (by simp) (by simp) (by simp)).mono ?_
  rintro e w2 ⟨u, rfl, hbl, hb2⟩
  rw [wk_m] at hbl
  obtain ⟨a2, k2, hu, q21, q22⟩ : ∃ a c, u = .slice a 2 c ∧ 2 ≤ c ∧ c ≤ 9223372036854775807 := BlAt.form hbl
  subst hu
  have HU2 := Lib.hid hbl
  have HW2 := Lib.hid (below_trans (below_alloc W1 _) hb2)
  clear hbl hb2 c0 c1 c2 c3 c4 c5
  go_upto_region 3 with fail
  obtain ⟨c0, c1, c2, c3, c4, c5⟩ := box_ln (keepB HL1.out HW2.out)
  have HM2 := Lib.hid (keepB HM1.out HW2.out)
  have hbk := World.block_lt_of_cell? w2 _ c0
  go_wp2_with fail
  go_at_call 14
  refine (HM.out _ _ _ [wkA] [wkA] (wk_one (keepB (alloc_new w2 _ _) (below_alloc _ _)) (wk_mods (keepB HM2.out (below_trans (below_alloc w2 _) (below_alloc _ _))))) (wk_one (alloc_two w2 _ _ _ _) (wk_mods (keepB HM2.out (below_trans (below_alloc w2 _) (below_alloc _ _))))) (by simp) (by simp) (by simp) (by simp)).mono ?_
  rintro e w3 ⟨u, rfl, hbl, hb3⟩
  rw [wk_n] at hbl
  obtain ⟨a3, k3, hu, q31, q32⟩ : ∃ a c, u = .slice a 1 c ∧ 1 ≤ c ∧ c ≤ 9223372036854775807 := BlAt.form hbl
  subst hu
  have HU3 := Lib.hid hbl
  have HW3 := Lib.hid (below_trans (below_trans (below_alloc w2 _) (below_alloc _ _)) hb3)
  clear hbl hb3 c0 c1 c2 c3 c4 c5
  go_upto_region 4 with fail
  obtain ⟨c0, c1, c2, c3, c4, c5⟩ := box_ln (keepB (keepB HL1.out HW2.out) HW3.out)
  have HM3 := Lib.hid (keepB HM2.out HW3.out)
  have HU23 := Lib.hid (HU2.out.far HW3.out)
  go_wp2_with fail
  go_at_call 11
  refine (HK.out w3 _ (wk_mods HM3.out)).mono ?_
  rintro e w4 ⟨rfl, hb4⟩
  obtain ⟨b, o, rfl, -, x0⟩ := BlAt.get (HU23.out.far hb4) 0 (by simp)
  obtain ⟨b', o', he, -, x1⟩ := BlAt.get (HU23.out.far hb4) 1 (by simp)
  injection he with he
  injection he with he1 he2
  subst he1 he2
  obtain ⟨b3, o3, rfl, -, y0⟩ := BlAt.get (HU3.out.far hb4) 0 (by simp)
  have HE := Lib.hid (below_trans HB1.out (below_trans HW2.out (below_trans HW3.out hb4)))
  clear c0 c1 c2 c3 c4 c5 hb4
  have z0 : w4.cell? ⟨b, o + 0, none⟩ = some (.bool false) := x0
  have z1 : w4.cell? ⟨b, o + 1, none⟩ = some (.bool true) := x1
  have z2 : w4.cell? ⟨b3, o3 + 0, none⟩ = some (.bool true) := y0
  simp only [Nat.add_zero] at z0 z2
  clear x0 x1 y0
  go_wp2
  go_ret
  exact ⟨rfl, HE.out⟩
end Go.Proofs.Ytmgjnjbiljpneaa.Tw
