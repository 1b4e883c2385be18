/-
  Texts put together (merge.py): XRows.
-/
import Derived.Test.YtgloihilnbjmeaaDoorMc28
/-
  What the reader's rows does, as a contract: the rows that words are, in a row of the call's own, or the first fault.
-/
section
set_option linter.unusedSimpArgs false
set_option linter.unusedVariables false
set_option maxRecDepth 100000
namespace Go.Proofs.YtgloihilnbjmeaaDoor.Ex
open Go.RowKit
open Wo (Wd WdsAt box_cell box_two keepB heap_far below_alloc below_trans)

theorem rd_low {q E : Nat} {l : List Wd} {f : Int × Nat} {w w' : World} {B : Nat} (h : RdAt q E l f w) (hb : Below B w w') (hq : q < B) : RdAt q E l f w' := by
  obtain ⟨v, h1, h2, h3⟩ := h
  exact ⟨v, by rw [hb.block q hq]; exact h1, h2.move ⟨hb.size, fun b hb' hk => ⟨hk, hb.block b (by omega)⟩⟩, h3⟩
theorem own_grown {w w' : World} {B : Nat} {e : TypeId} {z : Nat} {v : Value} {n : Nat} {xs : List Value} {q : Nat} (h : w.ownsRow B e z v n xs) (hg : w.grownBy w' (some q)) (hq : q < B) : w'.ownsRow B e z v n xs := by
  refine ⟨h.1, h.2.imp id ?_⟩
  rintro ⟨g, c, cur, rfl, h0, hh, hr⟩
  exact ⟨g, c, cur, rfl, h0, grown_heap hh hg (by omega), hr⟩
theorem grown_low {w W W' : World} {p : Option Nat} (h : w.grownBy W p) (hb : Below w.heap.size W W') : w.grownBy W' p :=
  ⟨hb.os.trans h.os, hb.tape.trans h.tape, hb.output.trans h.output, Nat.le_trans h.size hb.size, fun k hk hne => (hb.block k hk).trans (h.block k hk hne)⟩
/-- How the reader stands: no fault, and these words are what is left of it; or the fault that the words tell. -/
def Stand (E : Nat) (acc : List Ed) (r : List Wd) (f : Int × Nat) (RES : Except (Int × Nat) (List Ed)) : Prop := (f.1 = 0 ∧ pRows E (256 - acc.length) acc r = RES) ∨ (¬ f.1 = 0 ∧ RES = .error f)
theorem stand_left {E : Nat} {acc : List Ed} {x : Wd} {t r : List Wd} {f g : Int × Nat} {e : Ed} {RES : Except (Int × Nat) (List Ed)} (hf : f.1 = 0) (ha : acc.length < 256) (h : pRows E (256 - acc.length) acc (x :: t) = RES) (hl : Left (pRow E (x :: t)) e r f g) : Stand E (acc ++ [e]) r g RES := by
  obtain ⟨k, hk⟩ : ∃ k, 256 - acc.length = k + 1 := ⟨255 - acc.length, by omega⟩
  rw [hk] at h
  rcases hl with ⟨rfl, hr⟩ | ⟨hg, hr⟩
  · refine Or.inl ⟨hf, ?_⟩
    rw [rows_ok hr] at h
    rw [List.length_append, show 256 - (acc.length + [e].length) = k by simp; omega]
    exact h
  · refine Or.inr ⟨hg, ?_⟩
    rw [rows_bad hr] at h
    exact h.symm
theorem stand_none {E : Nat} {acc : List Ed} {x : Wd} {t : List Wd} {RES : Except (Int × Nat) (List Ed)} (ha : acc.length < 256) (h : pRows E (256 - acc.length) acc (x :: t) = RES) (hr : pRow E (x :: t) = .error (4, x.2)) : Stand E acc t (4, x.2) RES := by
  obtain ⟨k, hk⟩ : ∃ k, 256 - acc.length = k + 1 := ⟨255 - acc.length, by omega⟩
  rw [hk, rows_bad hr] at h
  exact Or.inr ⟨n4, h.symm⟩
theorem stand_full {E : Nat} {acc : List Ed} {x : Wd} {t : List Wd} {RES : Except (Int × Nat) (List Ed)} (ha : acc.length = 256) (h : pRows E (256 - acc.length) acc (x :: t) = RES) : RES = .error (10, x.2) := by
  rw [ha] at h
  exact h.symm
/-- What rows leaves: the table, or the fault. -/
def Done (RES : Except (Int × Nat) (List Ed)) (acc : List Ed) (f : Int × Nat) : Prop := (f.1 = 0 ∧ RES = .ok acc) ∨ (¬ f.1 = 0 ∧ RES = .error f)
def RwV (q E B : Nat) (w' : World) (RES : Except (Int × Nat) (List Ed)) (e : Ending) : Prop := ∃ (v : Value) (acc : List Ed) (l : List Wd) (f : Int × Nat), e = .returned v ∧ acc.length ≤ 256 ∧ w'.ownsRow B 49 5 v acc.length (ecs acc) ∧ RdAt q E l f w' ∧ Done RES acc f
theorem done_nil {E : Nat} {acc : List Ed} {f : Int × Nat} {RES : Except (Int × Nat) (List Ed)} (h : Stand E acc [] f RES) : Done RES acc f := by
  rcases h with ⟨h1, h2⟩ | h
  · exact Or.inl ⟨h1, by rw [← h2, rows_nil]⟩
  · exact Or.inr h
theorem done_bad {E : Nat} {acc : List Ed} {r : List Wd} {f : Int × Nat} {RES : Except (Int × Nat) (List Ed)} (h : Stand E acc r f RES) (hf : ¬ f.1 = 0) : Done RES acc f := by
  rcases h with ⟨h1, _⟩ | h
  · exact absurd h1 hf
  · exact Or.inr h
theorem n10 {a : Nat} : ¬ ((10, a) : Int × Nat).1 = 0 := by show ¬ (10 : Int) = 0; decide

set_option maxHeartbeats 16000000 in
theorem rows_any (q E : Nat) (ws : List Wd) (w : World) (h : RdAt q E ws (0, 0) w) :
    Calls Tryd.prog 27 #[.pointer (some ⟨q, 0, none⟩)] w fun e w' => RwV q E w.heap.size w' (pRows E 256 [] ws) e ∧ w.grownBy w' (some q) := by
  have HR0 := Lib.hid h
  have HG0 := Lib.hid (grown_of (p := some q) (Below.refl w.heap.size w))
  have hlt : q < w.heap.size := h.lt
  obtain ⟨RES, HRES⟩ : ∃ z, Hid (pRows E 256 [] ws = z) := ⟨_, rfl⟩
  rw [HRES.out]
  have HST0 : Hid (Stand E [] ws (0, 0) RES) := Or.inl ⟨rfl, HRES.out⟩
  clear h HRES
  go_enter Tryd.func27, Tryd.ntmps27
  go_wp2
  go_step3
  go_wp2
  go_step3
  go_wp2
  go_loopg [3] (ws.length) (fun g s3 wr => ∃ (r : List Wd) (acc : List Ed) (fv : Value) (f : Int × Nat), s3 = fv ∧ r.length ≤ g ∧ acc.length ≤ 256 ∧ Hid (RdAt q E r f wr) ∧ Hid (wr.ownsRow w.heap.size 49 5 fv acc.length (ecs acc)) ∧ Hid (w.grownBy wr (some q)) ∧ Hid (Stand E acc r f RES))
  case atStart => exact ⟨ws, [], _, (0, 0), rfl, Nat.le_refl _, Nat.zero_le _, HR0.out, World.ownsRow_nil _ _ _ _, HG0.out, HST0.out⟩
  case round =>
    clear HR0 HG0 HST0
    obtain ⟨r, acc, fv, f, rfl, hrg, hacc, HR, HO, HG, HST⟩ := hrel
    obtain ⟨fa, fk, rfl⟩ := own_form HO.out
    obtain ⟨v, hq, hW, hwb⟩ := HR.out
    obtain ⟨va, vc, rfl, hv1, hv2⟩ := hW.form
    obtain ⟨c0, c1, c2, c3⟩ := cells4 hq
    clear hq hW hwb
    cases r with
    | nil =>
      simp only [List.length_nil] at c0 hv1 hrg
      have HDn := Lib.hid (done_nil HST.out)
      clear HST
      go_wp2
      try rw [Exit.noGoto_ret]
      go_ret
      exact ⟨⟨_, acc, [], f, rfl, hacc, HO.out, HR.out, HDn.out⟩, HG.out⟩
    | cons x t =>
    simp only [List.length_cons] at c0 hv1 hrg
    have hz : (0 : Int) < (t.length : Int) + 1 := by omega
    obtain ⟨f1, f2⟩ := f
    simp only at c2 c3
    by_cases hf : f1 = 0
    rotate_left
    · have q0 : (f1 == 0) = false := by rw [beq_eq_false_iff_ne]; exact hf
      have HDn := Lib.hid (done_bad HST.out hf)
      clear HST hf
      go_wp2
      try rw [Exit.noGoto_ret]
      go_ret
      exact ⟨⟨_, acc, x :: t, (f1, f2), rfl, hacc, HO.out, HR.out, HDn.out⟩, HG.out⟩
    subst hf
    have HE : Hid (pRows E (256 - acc.length) acc (x :: t) = RES) := by
      rcases HST.out with ⟨_, h⟩ | ⟨h, _⟩
      · exact h
      · exact absurd rfl h
    have HT : Hid (Calls Tryd.prog 44 #[.pointer (some ⟨q, 0, none⟩)] wr fun e w' => e = .returned (wdv x) ∧ RdAt q E t (0, f2) w' ∧ wr.grownBy w' (some q)) := take_any q E (x :: t) (0, f2) wr HR.out
    clear HST
    go_wp2_with fail
    go_at_call 44
    refine HT.out.mono ?_
    rintro e w1 ⟨rfl, hr, hg⟩
    have hb := below_alloc w1 (.cells #[.string (mk x.1), .int .i64 (x.2 : Nat)] 61)
    have HR1 := Lib.hid (hr.grw hb)
    have HG1 := Lib.hid (grown_alloc (grown_tr HG.out hg) (.cells #[.string (mk x.1), .int .i64 (x.2 : Nat)] 61))
    have HO1 := Lib.hid (own_far (own_grown HO.out hg hlt) hb)
    have HX1 := Lib.hid (heap_alloc_new w1 (.cells #[.string (mk x.1), .int .i64 (x.2 : Nat)] 61))
    clear hr hg hb HT HR HG HO c0 c1 c2 c3
    go_upto_region 4 with fail
    generalize w1.alloc (.cells #[.string (mk x.1), .int .i64 (x.2 : Nat)] 61) = W at *
    generalize w1.heap.size = p1 at *
    obtain ⟨d0, d1, -, -⟩ := box_two HX1.out
    by_cases hfull : acc.length = 256
    · have q1 : ((acc.length : Int) == 256) = true := by rw [beq_iff_eq]; omega
      have HDn : Hid (Done RES acc (10, x.2)) := Or.inr ⟨n10, stand_full hfull HE.out⟩
      have HFl : Hid (Calls Tryd.prog 45 #[.pointer (some ⟨q, 0, none⟩), .int .i64 10, .int .i64 (x.2 : Nat)] W fun r w' => r = .returned (.tuple #[]) ∧ RdAt q E t (10, x.2) w' ∧ W.grownBy w' (some q)) := fail_any q E t (0, f2) 10 x.2 W HR1.out
      clear hfull HE
      obtain ⟨V, hV, q1⟩ : ∃ V : Bool, V = true ∧ ((acc.length : Int) == 256) = V := ⟨_, q1, rfl⟩
      go_wp2_with fail
      go_at_call 45
      refine HFl.out.mono ?_
      rintro e w2 ⟨rfl, hr2, hg2⟩
      have HR2 := Lib.hid hr2
      have HG2 := Lib.hid (grown_tr HG1.out hg2)
      have HO2 := Lib.hid (own_grown HO1.out hg2 hlt)
      clear hr2 hg2 d0 d1 HFl HX1
      go_wp2
      try rw [Exit.noGoto_ret]
      go_ret
      exact ⟨⟨_, acc, t, (10, x.2), rfl, hacc, HO2.out, HR2.out, HDn.out⟩, HG2.out⟩
    have q1 : ((acc.length : Int) == 256) = false := by rw [beq_eq_false_iff_ne]; omega
    have hal : acc.length < 256 := by omega
    clear hfull
    obtain ⟨V1, HV1, t1⟩ : ∃ V, Hid (V = decide (x.1 = tBun)) ∧ ((mk x.1).toList == [98, 117, 110, 100, 108, 101]) = V := ⟨_, rfl, by by_cases h : x.1 = tBun; rw [decide_eq_true h]; exact lit_t h; rw [decide_eq_false h]; exact lit_f h⟩
    obtain ⟨V2, HV2, t2⟩ : ∃ V, Hid (V = decide (x.1 = tEit)) ∧ ((mk x.1).toList == [101, 105, 116, 104, 101, 114]) = V := ⟨_, rfl, by by_cases h : x.1 = tEit; rw [decide_eq_true h]; exact lit_t h; rw [decide_eq_false h]; exact lit_f h⟩
    obtain ⟨V3, HV3, t3⟩ : ∃ V, Hid (V = decide (x.1 = tUni)) ∧ ((mk x.1).toList == [117, 110, 105, 116, 115]) = V := ⟨_, rfl, by by_cases h : x.1 = tUni; rw [decide_eq_true h]; exact lit_t h; rw [decide_eq_false h]; exact lit_f h⟩
    cases V1 with
    | true =>
      have hx : x = (tBun, x.2) := Prod.ext (of_decide_eq_true HV1.out.symm) rfl
      have HS2 : Hid (Stand E (acc ++ [buX E t]) t.tail.tail.tail (buF E t (0, f2)) RES) := stand_left (f := (0, f2)) rfl hal HE.out (by rw [hx]; exact bundle_left E t (0, f2) rfl x.2)
      have HCn : Hid (Calls Tryd.prog 46 #[.pointer (some ⟨q, 0, none⟩)] W fun e w' => e = .returned (edv (buX E t)) ∧ RdAt q E t.tail.tail.tail (buF E t (0, f2)) w' ∧ W.grownBy w' (some q)) := bundle_any q E t (0, f2) W HR1.out
      generalize buX E t = y at *
      generalize buF E t (0, f2) = ff at *
      clear HE hx HV1 HV2 HV3
      go_wp2_with fail
      go_at_call 46
      refine HCn.out.mono ?_
      rintro e w2 ⟨rfl, hr2, hg2⟩
      have hb3 := below_alloc w2 (.cells #[.int .i64 y.kind, .string (mk y.a), .string (mk y.b), .bool y.bypass, .int .i64 y.n] 49)
      have HR3 := Lib.hid (hr2.grw hb3)
      have HG3 := Lib.hid (grown_alloc (grown_tr HG1.out hg2) (.cells #[.int .i64 y.kind, .string (mk y.a), .string (mk y.b), .bool y.bypass, .int .i64 y.n] 49))
      have HO3 := Lib.hid (own_far (own_grown HO1.out hg2 hlt) hb3)
      have HN3 := Lib.hid (heap_alloc_new w2 (.cells #[.int .i64 y.kind, .string (mk y.a), .string (mk y.b), .bool y.bypass, .int .i64 y.n] 49))
      have HS3 : Hid (w.heap.size ≤ (w2.alloc (.cells #[.int .i64 y.kind, .string (mk y.a), .string (mk y.b), .bool y.bypass, .int .i64 y.n] 49)).heap.size) := HG3.out.size
      clear hr2 hg2 hb3 d0 d1 HCn HX1 HR1 HG1 HO1
      have hal0 : acc.length ≤ 1000000 := by omega
      go_wp2_with (at_builtin; refine wpList_plain (by rfl) (fun K hK => ?_); refine wp_app _ _ (by rfl) w.heap.size (.slice fa acc.length fk) acc (by rfl) HO3.out w2.heap.size 1 y (by rfl) HN3.out hal0 HS3.out ?_)
      intro vn w6 hown hgr hat
      have hlow := grow_low HO3.out hgr HS3.out
      have HR6 := Lib.hid (rd_low HR3.out hlow hlt)
      have HG6 := Lib.hid (grown_low HG3.out hlow)
      have HO6 : Hid (w6.ownsRow w.heap.size 49 5 vn (acc ++ [y]).length (ecs (acc ++ [y]))) := by
        show World.ownsRow _ _ _ _ _ _ _
        rw [List.length_append]
        exact hown
      refine hK _ _ ?_
      clear hK hown hgr hat hlow HR3 HG3 HO3 HN3 HS3
      have hal2 : (acc ++ [y]).length ≤ 256 := by rw [List.length_append]; simp; omega
      have hms : (t.tail.tail.tail).length ≤ t.length := by simp only [List.length_tail]; omega
      clear hal q1
      go_wp2
      go_roundg (t.length)
      case measure => omega
      case rel => exact ⟨t.tail.tail.tail, acc ++ [y], vn, ff, rfl, hms, hal2, HR6.out, HO6.out, HG6.out, HS2.out⟩
    | false =>
    cases V2 with
    | true =>
      have hx : x = (tEit, x.2) := Prod.ext (of_decide_eq_true HV2.out.symm) rfl
      have HS2 : Hid (Stand E (acc ++ [prX E 2 t]) t.tail.tail (prF E t (0, f2)) RES) := stand_left (f := (0, f2)) rfl hal HE.out (by rw [hx]; exact pair_left E t (0, f2) rfl x.2)
      have HCn : Hid (Calls Tryd.prog 47 #[.pointer (some ⟨q, 0, none⟩), .int .i64 2] W fun e w' => e = .returned (edv (prX E 2 t)) ∧ RdAt q E t.tail.tail (prF E t (0, f2)) w' ∧ W.grownBy w' (some q)) := rpair_any q E 2 t (0, f2) W HR1.out
      generalize prX E 2 t = y at *
      generalize prF E t (0, f2) = ff at *
      clear HE hx HV1 HV2 HV3
      go_wp2_with fail
      go_at_call 47
      refine HCn.out.mono ?_
      rintro e w2 ⟨rfl, hr2, hg2⟩
      have hb3 := below_alloc w2 (.cells #[.int .i64 y.kind, .string (mk y.a), .string (mk y.b), .bool y.bypass, .int .i64 y.n] 49)
      have HR3 := Lib.hid (hr2.grw hb3)
      have HG3 := Lib.hid (grown_alloc (grown_tr HG1.out hg2) (.cells #[.int .i64 y.kind, .string (mk y.a), .string (mk y.b), .bool y.bypass, .int .i64 y.n] 49))
      have HO3 := Lib.hid (own_far (own_grown HO1.out hg2 hlt) hb3)
      have HN3 := Lib.hid (heap_alloc_new w2 (.cells #[.int .i64 y.kind, .string (mk y.a), .string (mk y.b), .bool y.bypass, .int .i64 y.n] 49))
      have HS3 : Hid (w.heap.size ≤ (w2.alloc (.cells #[.int .i64 y.kind, .string (mk y.a), .string (mk y.b), .bool y.bypass, .int .i64 y.n] 49)).heap.size) := HG3.out.size
      clear hr2 hg2 hb3 d0 d1 HCn HX1 HR1 HG1 HO1
      have hal0 : acc.length ≤ 1000000 := by omega
      go_wp2_with (at_builtin; refine wpList_plain (by rfl) (fun K hK => ?_); refine wp_app _ _ (by rfl) w.heap.size (.slice fa acc.length fk) acc (by rfl) HO3.out w2.heap.size 1 y (by rfl) HN3.out hal0 HS3.out ?_)
      intro vn w6 hown hgr hat
      have hlow := grow_low HO3.out hgr HS3.out
      have HR6 := Lib.hid (rd_low HR3.out hlow hlt)
      have HG6 := Lib.hid (grown_low HG3.out hlow)
      have HO6 : Hid (w6.ownsRow w.heap.size 49 5 vn (acc ++ [y]).length (ecs (acc ++ [y]))) := by
        show World.ownsRow _ _ _ _ _ _ _
        rw [List.length_append]
        exact hown
      refine hK _ _ ?_
      clear hK hown hgr hat hlow HR3 HG3 HO3 HN3 HS3
      have hal2 : (acc ++ [y]).length ≤ 256 := by rw [List.length_append]; simp; omega
      have hms : (t.tail.tail).length ≤ t.length := by simp only [List.length_tail]; omega
      clear hal q1
      go_wp2
      go_roundg (t.length)
      case measure => omega
      case rel => exact ⟨t.tail.tail, acc ++ [y], vn, ff, rfl, hms, hal2, HR6.out, HO6.out, HG6.out, HS2.out⟩
    | false =>
    cases V3 with
    | true =>
      have hx : x = (tUni, x.2) := Prod.ext (of_decide_eq_true HV3.out.symm) rfl
      have HS2 : Hid (Stand E (acc ++ [unX E t]) t.tail.tail (unF E t (0, f2)) RES) := stand_left (f := (0, f2)) rfl hal HE.out (by rw [hx]; exact units_left E t (0, f2) rfl x.2)
      have HCn : Hid (Calls Tryd.prog 48 #[.pointer (some ⟨q, 0, none⟩)] W fun e w' => e = .returned (edv (unX E t)) ∧ RdAt q E t.tail.tail (unF E t (0, f2)) w' ∧ W.grownBy w' (some q)) := runits_any q E t (0, f2) W HR1.out
      generalize unX E t = y at *
      generalize unF E t (0, f2) = ff at *
      clear HE hx HV1 HV2 HV3
      go_wp2_with fail
      go_at_call 48
      refine HCn.out.mono ?_
      rintro e w2 ⟨rfl, hr2, hg2⟩
      have hb3 := below_alloc w2 (.cells #[.int .i64 y.kind, .string (mk y.a), .string (mk y.b), .bool y.bypass, .int .i64 y.n] 49)
      have HR3 := Lib.hid (hr2.grw hb3)
      have HG3 := Lib.hid (grown_alloc (grown_tr HG1.out hg2) (.cells #[.int .i64 y.kind, .string (mk y.a), .string (mk y.b), .bool y.bypass, .int .i64 y.n] 49))
      have HO3 := Lib.hid (own_far (own_grown HO1.out hg2 hlt) hb3)
      have HN3 := Lib.hid (heap_alloc_new w2 (.cells #[.int .i64 y.kind, .string (mk y.a), .string (mk y.b), .bool y.bypass, .int .i64 y.n] 49))
      have HS3 : Hid (w.heap.size ≤ (w2.alloc (.cells #[.int .i64 y.kind, .string (mk y.a), .string (mk y.b), .bool y.bypass, .int .i64 y.n] 49)).heap.size) := HG3.out.size
      clear hr2 hg2 hb3 d0 d1 HCn HX1 HR1 HG1 HO1
      have hal0 : acc.length ≤ 1000000 := by omega
      go_wp2_with (at_builtin; refine wpList_plain (by rfl) (fun K hK => ?_); refine wp_app _ _ (by rfl) w.heap.size (.slice fa acc.length fk) acc (by rfl) HO3.out w2.heap.size 1 y (by rfl) HN3.out hal0 HS3.out ?_)
      intro vn w6 hown hgr hat
      have hlow := grow_low HO3.out hgr HS3.out
      have HR6 := Lib.hid (rd_low HR3.out hlow hlt)
      have HG6 := Lib.hid (grown_low HG3.out hlow)
      have HO6 : Hid (w6.ownsRow w.heap.size 49 5 vn (acc ++ [y]).length (ecs (acc ++ [y]))) := by
        show World.ownsRow _ _ _ _ _ _ _
        rw [List.length_append]
        exact hown
      refine hK _ _ ?_
      clear hK hown hgr hat hlow HR3 HG3 HO3 HN3 HS3
      have hal2 : (acc ++ [y]).length ≤ 256 := by rw [List.length_append]; simp; omega
      have hms : (t.tail.tail).length ≤ t.length := by simp only [List.length_tail]; omega
      clear hal q1
      go_wp2
      go_roundg (t.length)
      case measure => omega
      case rel => exact ⟨t.tail.tail, acc ++ [y], vn, ff, rfl, hms, hal2, HR6.out, HO6.out, HG6.out, HS2.out⟩
    | false =>
      have HS2 : Hid (Stand E acc t (4, x.2) RES) := stand_none hal HE.out (row_none E (of_decide_eq_false HV1.out.symm) (of_decide_eq_false HV2.out.symm) (of_decide_eq_false HV3.out.symm) x.2 t)
      have HFl : Hid (Calls Tryd.prog 45 #[.pointer (some ⟨q, 0, none⟩), .int .i64 4, .int .i64 (x.2 : Nat)] W fun r w' => r = .returned (.tuple #[]) ∧ RdAt q E t (4, x.2) w' ∧ W.grownBy w' (some q)) := fail_any q E t (0, f2) 4 x.2 W HR1.out
      clear HE HV1 HV2 HV3
      go_wp2_with fail
      go_at_call 45
      refine HFl.out.mono ?_
      rintro e w2 ⟨rfl, hr2, hg2⟩
      have HR2 := Lib.hid hr2
      have HG2 := Lib.hid (grown_tr HG1.out hg2)
      have HO2 := Lib.hid (own_grown HO1.out hg2 hlt)
      clear hr2 hg2 d0 d1 HFl HX1 HR1 HG1 HO1
      clear hal q1
      go_wp2
      go_roundg (t.length)
      case measure => omega
      case rel => exact ⟨t, acc, _, (4, x.2), rfl, Nat.le_refl _, hacc, HR2.out, HO2.out, HG2.out, HS2.out⟩
end Go.Proofs.YtgloihilnbjmeaaDoor.Ex
end
