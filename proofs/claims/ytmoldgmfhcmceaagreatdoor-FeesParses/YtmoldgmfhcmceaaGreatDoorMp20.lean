/-
  Texts put together (merge.py): ZApp, ZRows.
-/
import Derived.Laws.AppendOwn
import Derived.Deep.AppendLies
import Derived.Maps.AppendAt
import Derived.Test.YtmoldgmfhcmceaaGreatDoorMp11
import Derived.Test.YtmoldgmfhcmceaaGreatDoorMp19
/-
  A row of fees of the call's own: what append leaves of it.
-/
section
set_option linter.unusedSimpArgs false
set_option linter.unusedVariables false
set_option maxRecDepth 100000
namespace Go.Proofs.YtmoldgmfhcmceaaGreatDoor.Fe
open Go.RowKit
open Wo (Wd WdsAt keepB box_cell box_two heap_far below_alloc below_trans)

/-- append(v, x) over fees. -/
theorem wp_app {o : Oper} {a : Act} {w : World} {K : Act → World → Prop} {Q : Exit → Act → World → Prop} (s x : Operand) (ho : o.op = .call { callee := .builtin .append, args := #[s, x], argTypes := #[22, 22] })
    (B : Nat) (v : Value) (L : List Fee) (hs : a.eval s = v) (hown : w.ownsRow B 45 5 v L.length (fcs L)) (b c : Nat) (f : Fee) (hx : a.eval x = .slice (some ⟨b, 0, none⟩) 1 c)
    (hc : w.heap[b]? = some (.cells #[.string (mk f.proc), .string (mk f.mod), .int .i64 f.net, .int .i64 f.frm, .int .i64 f.cents] 45 (0, 0))) (hbd : L.length ≤ 1000000) (hB : B ≤ w.heap.size)
    (h : ∀ v' w', w'.ownsRow B 45 5 v' (L ++ [f]).length (fcs (L ++ [f])) → w.grownBy w' v.ownBlock → (v'.ownBlock = v.ownBlock ∨ v'.ownBlock = some w.heap.size) → K (a.put o.dst v') w') : o.wp Tryz.prog a w K Q := by
  obtain ⟨i, q1, q2, q3, q4⟩ := infoF
  have hb0 : b < w.heap.size := (Array.getElem?_eq_some_iff.1 hc).1
  refine wp_append_lies w s x 22 ho B 45 i _ 5 56 Tryz.underlying22 q1 q2 q3 q4 rfl (by omega) v L.length (fcs L) hs hown ⟨b, 0, none⟩ 1 c (fc f) hx rfl (fun j u hj => ?_) (fun u hu => fcs_one [f] u (by simpa [fcs, fc] using hu)) (by omega) (by unfold maxLen; omega) (by omega) hB w.heap.size rfl fun g cap w' hown' hg hat _ => ?_
  · rw [show (⟨b, 0, none⟩ : Addr).add j = ⟨b, j, none⟩ by unfold Addr.add; split <;> simp_all]
    rw [cell_of_row w b j _ _ (0, 0) hc]
    match j, hj with
    | 0, hj => exact hj
    | 1, hj => exact hj
    | 2, hj => exact hj
    | 3, hj => exact hj
    | 4, hj => exact hj
    | n + 5, hj => simp [fc] at hj
  · refine h _ w' (by rw [fcs_app, List.length_append]; exact hown') hg ?_
    rcases hat with e | e
    · exact Or.inl (by rw [e]; rfl)
    · exact Or.inr (by rw [e]; rfl)
theorem own_form {w : World} {B : Nat} {e : TypeId} {z : Nat} {v : Value} {n : Nat} {xs : List Value} (h : w.ownsRow B e z v n xs) : ∃ a c, v = .slice a n c := by
  rcases h.2 with ⟨rfl, rfl⟩ | ⟨g, c, cur, rfl, _⟩
  · exact ⟨none, 0, rfl⟩
  · exact ⟨_, c, rfl⟩
theorem own_far {w w' : World} {B : Nat} {e : TypeId} {z : Nat} {v : Value} {n : Nat} {xs : List Value} (h : w.ownsRow B e z v n xs) (hb : Below w.heap.size w w') : w'.ownsRow B e z v n xs := by
  refine ⟨h.1, h.2.imp id ?_⟩
  rintro ⟨g, c, cur, rfl, h0, hh, hr⟩
  exact ⟨g, c, cur, rfl, h0, keepB hh hb, hr⟩
theorem own_set {w : World} {B : Nat} {e : TypeId} {z : Nat} {v : Value} {n : Nat} {xs : List Value} (h : w.ownsRow B e z v n xs) {q : Nat} (hq : q < B) (j : Nat) (u : Value) : (w.setCell ⟨q, j, none⟩ u).ownsRow B e z v n xs := by
  refine ⟨h.1, h.2.imp id ?_⟩
  rintro ⟨g, c, cur, rfl, h0, hh, hr⟩
  exact ⟨g, c, cur, rfl, h0, heap_far hh (by omega), hr⟩
/-- What lies below the row's base stands where it grows. -/
theorem grow_low {w w' : World} {B : Nat} {e : TypeId} {z : Nat} {v : Value} {n : Nat} {xs : List Value} (ho : w.ownsRow B e z v n xs) (hg : w.grownBy w' v.ownBlock) (hB : B ≤ w.heap.size) : Below B w w' :=
  ⟨hg.os, hg.tape, hg.output, hg.size, fun k hk => hg.block k (by omega) (fun e => by have := (ho.lt k e.symm).1; omega)⟩
end Go.Proofs.YtmoldgmfhcmceaaGreatDoor.Fe
end

/-
  What fees.readRows answers, as a contract: the rows that words are, in a row of the call's own, or the first fault.
-/
section
set_option linter.unusedSimpArgs false
set_option linter.unusedVariables false
set_option maxRecDepth 100000
namespace Go.Proofs.YtmoldgmfhcmceaaGreatDoor.Fe
open Go.RowKit
open Wo (Wd WdsAt keepB box_cell box_two heap_far below_alloc below_trans)

theorem wds_take {K : Nat → Prop} {w : World} {a : Option Addr} {n c : Nat} {r : List Wd} (h : WdsAt K w (.slice a n c) r) (h6 : 6 ≤ r.length) : WdsAt K w (.slice a 6 c) (r.take 6) := by
  obtain ⟨a', c', he, h1, h2, h3⟩ := h
  obtain ⟨rfl, -, rfl⟩ : a = a' ∧ n = r.length ∧ c = c' := by injection he with e1 e2 e3; exact ⟨e1, e2, e3⟩
  have hl : (r.take 6).length = 6 := by rw [List.length_take]; omega
  refine ⟨a, c, by rw [hl], by omega, h2, Or.inr ?_⟩
  rcases h3 with h | ⟨b, o, ha, hk, hb, hc⟩
  · subst h; simp at h6
  · exact ⟨b, o, ha, hk, hb, fun j x hj => hc j x (by rw [List.getElem?_take] at hj; split at hj; exact hj; cases hj)⟩
theorem wds_drop {K : Nat → Prop} {w : World} {b o n c : Nat} {r : List Wd} (h : WdsAt K w (.slice (some ⟨b, o, none⟩) n c) r) (h6 : 6 ≤ r.length) : WdsAt K w (.slice (some ⟨b, o + 12, none⟩) (r.length - 6) (c - 6)) (r.drop 6) := by
  obtain ⟨a', c', he, h1, h2, h3⟩ := h
  obtain ⟨rfl, -, rfl⟩ : some ⟨b, o, none⟩ = a' ∧ n = r.length ∧ c = c' := by injection he with e1 e2 e3; exact ⟨e1, e2, e3⟩
  have hl : (r.drop 6).length = r.length - 6 := List.length_drop
  refine ⟨_, c - 6, by rw [hl], by omega, by omega, Or.inr ?_⟩
  rcases h3 with h | ⟨b', o', ha, hk, hb, hc⟩
  · subst h; simp at h6
  · simp only [Option.some.injEq, Addr.mk.injEq, and_true] at ha
    obtain ⟨rfl, rfl⟩ := ha
    refine ⟨b, o + 12, rfl, hk, hb, fun j x hj => ?_⟩
    rw [List.getElem?_drop] at hj
    have := hc (6 + j) x hj
    rw [show o + 12 + j * 2 = o + (6 + j) * 2 by omega]
    exact this
theorem wds_none {K : Nat → Prop} {w : World} (a : Option Addr) : WdsAt K w (.slice a 0 0) [] := ⟨a, 0, rfl, by simp, by simp [maxLen], Or.inl rfl⟩
theorem wds_addr {K : Nat → Prop} {w : World} {a : Option Addr} {n c : Nat} {r : List Wd} (h : WdsAt K w (.slice a n c) r) (h0 : 0 < r.length) : ∃ b o, a = some ⟨b, o, none⟩ := by
  obtain ⟨b, o, e, _⟩ := WdsAt.get h 0 h0
  exact ⟨b, o, e⟩
theorem row_bad {a b c d e g : Wd} {x : Int × Nat} (h : pRow a b c d e g = .error x) : x.1 ≠ 0 := by
  rw [row_form] at h
  split at h
  · split at h
    · split at h
      · split at h
        · split at h
          · split at h
            · cases h
            · next hq => simp only [Except.error.injEq] at h; subst h; exact hq
          · simp only [Except.error.injEq] at h; subst h; simp
        · simp only [Except.error.injEq] at h; subst h; simp
      · simp only [Except.error.injEq] at h; subst h; simp
    · simp only [Except.error.injEq] at h; subst h; simp
  · simp only [Except.error.injEq] at h; subst h; simp
theorem six_split {r : List Wd} (h : 6 ≤ r.length) : ∃ x0 x1 x2 x3 x4 x5 t, r = x0 :: x1 :: x2 :: x3 :: x4 :: x5 :: t := by
  match r, h with
  | x0 :: x1 :: x2 :: x3 :: x4 :: x5 :: t, _ => exact ⟨x0, x1, x2, x3, x4, x5, t, rfl⟩
theorem rows_short {E f : Nat} {acc : List Fee} {r : List Wd} (h0 : 0 < r.length) (h : r.length < 6) : pRows E (f + 1) acc r = .error (4, E) := by
  match r, h0, h with
  | [_], _, _ => rfl
  | [_, _], _, _ => rfl
  | [_, _, _], _, _ => rfl
  | [_, _, _, _], _, _ => rfl
  | [_, _, _, _, _], _, _ => rfl
  | x0 :: x1 :: x2 :: x3 :: x4 :: x5 :: t, _, h => simp at h; omega
theorem rows_full {E : Nat} {acc : List Fee} {r : List Wd} (h0 : 0 < r.length) : pRows E 0 acc r = .error (10, r[0].2) := by
  match r, h0 with
  | x :: t, _ => rfl
theorem rows_nil (E f : Nat) (acc : List Fee) : pRows E f acc [] = .ok acc := by cases f <;> rfl
theorem rows_six (E f : Nat) (acc : List Fee) (x0 x1 x2 x3 x4 x5 : Wd) (t : List Wd) : pRows E (f + 1) acc (x0 :: x1 :: x2 :: x3 :: x4 :: x5 :: t) = match pRow x0 x1 x2 x3 x4 x5 with | .error x => .error x | .ok x => pRows E f (acc ++ [x]) t := rfl
def RowsV (B : Nat) (w' : World) : Except (Int × Nat) (List Fee) → Ending → Prop
  | .ok l, e => ∃ v, e = .returned (.tuple #[v, .agg #[.int .i64 0, .int .i64 0]]) ∧ w'.ownsRow B 45 5 v l.length (fcs l)
  | .error x, e => e = .returned (.tuple #[.slice none 0 0, .agg #[.int .i64 x.1, .int .i64 (x.2 : Nat)]])
theorem drew_heap {w : World} {k : Nat} {o : Obj} (h : w.heap[k]? = some o) : w.drew.heap[k]? = some o := h
set_option maxHeartbeats 16000000 in
theorem readRows_any (ws : List Wd) (E : Nat) (v : Value) (w : World) (h : WdsAt All w v ws) (hl : ∀ x ∈ ws, x.1.length ≤ 65536) (hn : ws.length ≤ 1000000) (hE : E ≤ 281474976710656) (hT : Da.Tab w) :
    Calls Tryz.prog 33 #[v, .int .i64 (E : Nat)] w fun r w' => RowsV (w.heap.size + 1) w' (pRows E 512 [] ws) r ∧ Below w.heap.size w w' := by
  have HW := Lib.hid h
  have HT := Lib.hid hT
  have HL := Lib.hid hl
  obtain ⟨RES, HRES⟩ : ∃ z, Hid (pRows E 512 [] ws = z) := ⟨_, rfl⟩
  rw [HRES.out]
  obtain ⟨va, vc, rfl, hv1, hv2⟩ := h.form
  have HB0 := Lib.hid (below_alloc w (.cells #[.int .i64 0, .int .i64 0] 30))
  have HZ0 := Lib.hid (heap_alloc_new w (.cells #[.int .i64 0, .int .i64 0] 30))
  have HS0 : Hid (w.heap.size + 1 ≤ (w.alloc (.cells #[.int .i64 0, .int .i64 0] 30)).heap.size) := by show _ ≤ _; simp
  clear h hT hl
  go_enter Tryz.func33, Tryz.ntmps33
  go_upto_region 1 with fail
  generalize w.alloc (.cells #[.int .i64 0, .int .i64 0] 30) = W at *
  generalize hp : w.heap.size = p at *
  go_wp2
  go_loopg [0, 6] (ws.length) (fun g s0 s6 wr => ∃ (r : List Wd) (acc : List Fee) (la : Option Addr) (lc : Nat) (fv : Value), s0 = .slice la r.length lc ∧ s6 = fv ∧ r.length ≤ g ∧ r.length ≤ 1000000 ∧ r.length ≤ lc ∧ lc ≤ 9223372036854775807 ∧ acc.length ≤ 512 ∧ Hid (WdsAt All w (.slice la r.length lc) r) ∧ Hid (∀ x ∈ r, x.1.length ≤ 65536) ∧ Hid (Below p w wr) ∧ Hid (wr.heap[p]? = some (.cells #[.int .i64 0, .int .i64 0] 30 (0, 0))) ∧ Hid (p + 1 ≤ wr.heap.size) ∧ Hid (wr.ownsRow (p + 1) 45 5 fv acc.length (fcs acc)) ∧ Hid (pRows E (512 - acc.length) acc r = RES))
  case atStart => exact ⟨ws, [], va, vc, _, rfl, rfl, Nat.le_refl _, hn, hv1, hv2, Nat.zero_le _, HW.out, HL.out, HB0.out, HZ0.out, HS0.out, World.ownsRow_nil _ _ _ _, HRES.out⟩
  case round =>
    clear HB0 HZ0 HS0 HW HL HRES hn
    obtain ⟨r, acc, la, lc, fv, rfl, rfl, hrg, hrn, hr1, hr2, hacc, HW, HL, HB, HZ, HSz, HO, HE⟩ := hrel
    obtain ⟨fa, fk, rfl⟩ := own_form HO.out
    by_cases h0 : r.length = 0
    · have q0 : ¬ (0 : Int) < (r.length : Int) := by omega
      have HR : Hid (RES = .ok acc) := by
        show _ = _
        have e : r = [] := List.length_eq_zero_iff.1 h0
        rw [← HE.out, e, rows_nil]
      have f2 := Lib.frozen_of_heap HZ.out
      obtain ⟨y0, y1, -, -⟩ := box_two HZ.out
      clear h0 HE
      go_wp2
      clear y0 y1 f2
      have hr2 := hp2_same HZ.out (.int .i64 0) (.int .i64 0)
      have hbf := below_p2 HB.out (Nat.le_refl p) (.int .i64 0) (.int .i64 0)
      have hof := own_set (own_set HO.out (Nat.lt_succ_self p) 0 (.int .i64 0)) (Nat.lt_succ_self p) 1 (.int .i64 0)
      simp only [put2] at hr2 hbf
      obtain ⟨FW, hFW⟩ : ∃ z, z = (wr.setCell ⟨p, 0, none⟩ (.int .i64 0)).setCell ⟨p, 1, none⟩ (.int .i64 0) := ⟨_, rfl⟩
      rw [← hFW] at hr2 hbf hof ⊢
      clear hFW
      obtain ⟨t0, t1, -, -⟩ := box_two hr2
      refine bodyPost_ret (v := .tuple #[.slice fa acc.length fk, .agg #[.int .i64 0, .int .i64 0]]) (by simp [results, Tryz.results33, go_sem, t0, t1]) rfl ?_
      refine ⟨?_, by first | exact hbf | (rw [hp]; exact hbf)⟩
      rw [HR.out]
      first | exact ⟨_, rfl, hof⟩ | (rw [hp]; exact ⟨_, rfl, hof⟩)
    · have hpos : 0 < r.length := by omega
      have q0 : (0 : Int) < (r.length : Int) := by omega
      obtain ⟨b, oo, rfl⟩ := wds_addr HW.out hpos
      clear h0
      by_cases hfull : acc.length = 512
      · have q1 : ((acc.length : Int) == 512) = true := by rw [beq_iff_eq]; omega
        obtain ⟨x, HX⟩ : ∃ x, Hid (r[0] = x) := ⟨r[0], (rfl : r[0] = r[0])⟩
        have HR : Hid (RES = .error (10, x.2)) := by show _ = _; rw [← HE.out, hfull, Nat.sub_self, rows_full hpos, HX.out]
        obtain ⟨b1, o1, e1, -, -, c0, c1⟩ := WdsAt.get (HW.out.move (show Moves All All w wr from by subst hp; exact Below.moves HB.out)) 0 hpos
        simp only [Option.some.injEq, Addr.mk.injEq, and_true] at e1
        obtain ⟨rfl, rfl⟩ := e1
        rw [HX.out] at c1
        rw [Nat.zero_mul, Nat.add_zero] at c1
        clear c0 hfull HE HX
        have f2 := Lib.frozen_of_heap HZ.out
        obtain ⟨y0, y1, -, -⟩ := box_two HZ.out
        go_upto_region 4 with fail
        go_region
        all_goals
          go_wp2
          clear y0 y1 f2 c1
          have hr2 := drew_heap (hp2_same HZ.out (.int .i64 10) (.int .i64 (x.2 : Nat)))
          have hbf := Below.drew (below_p2 HB.out (Nat.le_refl p) (.int .i64 10) (.int .i64 (x.2 : Nat)))
          simp only [put2] at hr2 hbf
          obtain ⟨FW, hFW⟩ : ∃ z, z = ((wr.setCell ⟨p, 0, none⟩ (.int .i64 10)).setCell ⟨p, 1, none⟩ (.int .i64 (x.2 : Nat))).drew := ⟨_, rfl⟩
          rw [← hFW] at hr2 hbf ⊢
          clear hFW
          obtain ⟨t0, t1, -, -⟩ := box_two hr2
          refine bodyPost_ret (v := .tuple #[.slice none 0 0, .agg #[.int .i64 10, .int .i64 (x.2 : Nat)]]) (by simp [results, Tryz.results33, go_sem, t0, t1]) rfl ?_
          refine ⟨?_, by first | exact hbf | (rw [hp]; exact hbf)⟩
          rw [HR.out]
          rfl
      · have q1 : ((acc.length : Int) == 512) = false := by rw [beq_eq_false_iff_ne]; omega
        obtain ⟨f', hf'⟩ : ∃ f', 512 - acc.length = f' + 1 := ⟨512 - acc.length - 1, by omega⟩
        rw [hf'] at HE
        by_cases hsh : r.length < 6
        · have q2 : (r.length : Int) < 6 := by omega
          have HR : Hid (RES = .error (4, E)) := by show _ = _; rw [← HE.out, rows_short hpos hsh]
          clear HE hf'
          have f2 := Lib.frozen_of_heap HZ.out
          obtain ⟨y0, y1, -, -⟩ := box_two HZ.out
          go_wp2
          clear y0 y1 f2
          have hr2 := hp2_same HZ.out (.int .i64 4) (.int .i64 (E : Nat))
          have hbf := below_p2 HB.out (Nat.le_refl p) (.int .i64 4) (.int .i64 (E : Nat))
          simp only [put2] at hr2 hbf
          obtain ⟨FW, hFW⟩ : ∃ z, z = (wr.setCell ⟨p, 0, none⟩ (.int .i64 4)).setCell ⟨p, 1, none⟩ (.int .i64 (E : Nat)) := ⟨_, rfl⟩
          rw [← hFW] at hr2 hbf ⊢
          clear hFW
          obtain ⟨t0, t1, -, -⟩ := box_two hr2
          refine bodyPost_ret (v := .tuple #[.slice none 0 0, .agg #[.int .i64 4, .int .i64 (E : Nat)]]) (by simp [results, Tryz.results33, go_sem, t0, t1]) rfl ?_
          refine ⟨?_, by first | exact hbf | (rw [hp]; exact hbf)⟩
          rw [HR.out]
          rfl
        · have q2 : ¬ (r.length : Int) < 6 := by omega
          have h6 : 6 ≤ r.length := by omega
          have hc6 : (6 : Int) ≤ (lc : Int) := by omega
          obtain ⟨x0, x1, x2, x3, x4, x5, t, hrt⟩ := six_split h6
          have HRT := Lib.hid hrt
          have hB' : Below w.heap.size w wr := by subst hp; exact HB.out
          have HRR : Hid (Calls Tryz.prog 61 #[.slice (some ⟨b, oo, none⟩) 6 lc] wr fun e w' => e = .returned (rowA (pRow x0 x1 x2 x3 x4 x5)) ∧ Below wr.heap.size wr w') := by
            refine readRow_any x0 x1 x2 x3 x4 x5 _ wr ?_ (fun x hx => ?_) (Cm.tab_below HT.out hB')
            · have := (wds_take HW.out h6).move (Below.moves hB')
              rw [hrt] at this
              exact this
            · have := HL.out x (by rw [hrt]; exact (List.mem_append_left t hx : x ∈ [x0, x1, x2, x3, x4, x5] ++ t))
              omega
          have HE2 : Hid ((match pRow x0 x1 x2 x3 x4 x5 with | .error x => .error x | .ok x => pRows E f' (acc ++ [x]) t) = RES) := by show _ = _; rw [← HE.out, hrt, rows_six]
          have HT6 : Hid (r.drop 6 = t) := by show _ = _; rw [hrt]; rfl
          have HRB := Lib.hid (fun x => @row_bad x0 x1 x2 x3 x4 x5 x)
          generalize pRow x0 x1 x2 x3 x4 x5 = PR at *
          clear hrt hB' HE
          go_wp2_with fail
          go_at_call 61
          refine HRR.out.mono ?_
          rintro e w2 ⟨rfl, hb2⟩
          have HB2 := Lib.hid (show Below p w w2 by subst hp; exact below_trans HB.out (hb2.mono (by have := HB.out.size; omega)))
          have HZ2 := Lib.hid (keepB HZ.out hb2)
          have HO2 := Lib.hid (own_far HO.out hb2)
          have HSz2 : Hid (p + 1 ≤ w2.heap.size) := Nat.le_trans HSz.out hb2.size
          clear hb2 HB HZ HO HSz HRR
          cases PR with
          | error y =>
            have hy := HRB.out y rfl
            have HR : Hid (RES = .error y) := HE2.out.symm
            have q3 : (y.1 != 0) = true := by simpa using hy
            clear hy HE2 HRB
            have hb3 := below_trans (below_alloc w2 (.cells #[.string ⟨#[]⟩, .string ⟨#[]⟩, .int .i64 0, .int .i64 0, .int .i64 0] 45)) (below_alloc _ (.cells #[.int .i64 y.1, .int .i64 (y.2 : Nat)] 30))
            have HZ3 := Lib.hid (keepB HZ2.out hb3)
            have HB3 := Lib.hid (HB2.out.trans (hb3.mono (by have := HSz2.out; omega)))
            have hz8 := heap_alloc_new (w2.alloc (.cells #[.string ⟨#[]⟩, .string ⟨#[]⟩, .int .i64 0, .int .i64 0, .int .i64 0] 45)) (.cells #[.int .i64 y.1, .int .i64 (y.2 : Nat)] 30)
            rw [show (w2.alloc (.cells #[.string ⟨#[]⟩, .string ⟨#[]⟩, .int .i64 0, .int .i64 0, .int .i64 0] 45)).heap.size = w2.heap.size + 1 by simp] at hz8
            have HZ8 := Lib.hid hz8
            clear hb3 hz8
            unfold rowA zfe
            go_upto_region 8 with fail
            generalize (w2.alloc (.cells #[.string ⟨#[]⟩, .string ⟨#[]⟩, .int .i64 0, .int .i64 0, .int .i64 0] 45)).alloc (.cells #[.int .i64 y.1, .int .i64 (y.2 : Nat)] 30) = W3 at *
            generalize w2.heap.size + 1 = q8 at *
            have f2 := Lib.frozen_of_heap HZ3.out
            obtain ⟨y0, y1, -, -⟩ := box_two HZ3.out
            obtain ⟨v0, v1, -, -⟩ := box_two HZ8.out
            go_upto_region 9 with fail
            go_region
            all_goals
              go_wp2
              clear y0 y1 f2 v0 v1
              have hr2 := drew_heap (hp2_same HZ3.out (.int .i64 y.1) (.int .i64 (y.2 : Nat)))
              have hbf := Below.drew (below_p2 HB3.out (Nat.le_refl p) (.int .i64 y.1) (.int .i64 (y.2 : Nat)))
              simp only [put2] at hr2 hbf
              obtain ⟨FW, hFW⟩ : ∃ z, z = ((W3.setCell ⟨p, 0, none⟩ (.int .i64 y.1)).setCell ⟨p, 1, none⟩ (.int .i64 (y.2 : Nat))).drew := ⟨_, rfl⟩
              rw [← hFW] at hr2 hbf ⊢
              clear hFW
              obtain ⟨t0, t1, -, -⟩ := box_two hr2
              refine bodyPost_ret (v := .tuple #[.slice none 0 0, .agg #[.int .i64 y.1, .int .i64 (y.2 : Nat)]]) (by simp [results, Tryz.results33, go_sem, t0, t1]) rfl ?_
              refine ⟨?_, by first | exact hbf | (rw [hp]; exact hbf)⟩
              rw [HR.out]
              rfl
          | ok f =>
            have HR : Hid (pRows E f' (acc ++ [f]) t = RES) := HE2.out
            clear HE2 HRB
            have hb3 := below_trans (below_alloc w2 (.cells #[.string (mk f.proc), .string (mk f.mod), .int .i64 f.net, .int .i64 f.frm, .int .i64 f.cents] 45)) (below_alloc _ (.cells #[.int .i64 0, .int .i64 0] 30))
            have HZ3 := Lib.hid (keepB HZ2.out hb3)
            have HB3 := Lib.hid (HB2.out.trans (hb3.mono (by have := HSz2.out; omega)))
            have HO3 := Lib.hid (own_far HO2.out hb3)
            have HSz3 : Hid (p + 1 ≤ ((w2.alloc (.cells #[.string (mk f.proc), .string (mk f.mod), .int .i64 f.net, .int .i64 f.frm, .int .i64 f.cents] 45)).alloc (.cells #[.int .i64 0, .int .i64 0] 30)).heap.size) := Nat.le_trans HSz2.out hb3.size
            have HZ7 := Lib.hid (keepB (heap_alloc_new w2 (.cells #[.string (mk f.proc), .string (mk f.mod), .int .i64 f.net, .int .i64 f.frm, .int .i64 f.cents] 45)) (below_alloc _ (.cells #[.int .i64 0, .int .i64 0] 30)))
            have hz8 := heap_alloc_new (w2.alloc (.cells #[.string (mk f.proc), .string (mk f.mod), .int .i64 f.net, .int .i64 f.frm, .int .i64 f.cents] 45)) (.cells #[.int .i64 0, .int .i64 0] 30)
            rw [show (w2.alloc (.cells #[.string (mk f.proc), .string (mk f.mod), .int .i64 f.net, .int .i64 f.frm, .int .i64 f.cents] 45)).heap.size = w2.heap.size + 1 by simp] at hz8
            have HZ8 := Lib.hid hz8
            clear hb3 hz8
            unfold rowA
            go_upto_region 8 with fail
            generalize (w2.alloc (.cells #[.string (mk f.proc), .string (mk f.mod), .int .i64 f.net, .int .i64 f.frm, .int .i64 f.cents] 45)).alloc (.cells #[.int .i64 0, .int .i64 0] 30) = W3 at *
            generalize w2.heap.size + 1 = q8 at *
            generalize w2.heap.size = q7 at *
            obtain ⟨v0, v1, -, -⟩ := box_two HZ8.out
            obtain ⟨u0, u1, u2, u3, u4⟩ := cells5 HZ7.out
            have hb4 := below_alloc W3 (.cells #[.string (mk f.proc), .string (mk f.mod), .int .i64 f.net, .int .i64 f.frm, .int .i64 f.cents] 45)
            have HO4 := Lib.hid (own_far HO3.out hb4)
            have HZ4 := Lib.hid (keepB HZ3.out hb4)
            have HN4 := Lib.hid (heap_alloc_new W3 (.cells #[.string (mk f.proc), .string (mk f.mod), .int .i64 f.net, .int .i64 f.frm, .int .i64 f.cents] 45))
            have HB4 := Lib.hid (HB3.out.trans (hb4.mono (by have := HSz3.out; omega)))
            have HSz4 : Hid (p + 1 ≤ (W3.alloc (.cells #[.string (mk f.proc), .string (mk f.mod), .int .i64 f.net, .int .i64 f.frm, .int .i64 f.cents] 45)).heap.size) := Nat.le_trans HSz3.out hb4.size
            clear hb4
            have hal : acc.length ≤ 1000000 := by omega
            go_wp2_with (at_builtin; refine wpList_plain (by rfl) (fun K hK => ?_); refine wp_app _ _ (by rfl) (p + 1) (.slice fa acc.length fk) acc (by rfl) HO4.out W3.heap.size 1 f (by rfl) HN4.out hal HSz4.out ?_)
            intro vn w6 hown hgr hat
            have hlow := grow_low HO4.out hgr HSz4.out
            have HB6 := Lib.hid (HB4.out.trans (hlow.mono (Nat.le_succ p)))
            have HZ6 : Hid (w6.heap[p]? = some (.cells #[.int .i64 0, .int .i64 0] 30 (0, 0))) := by show _ = _; rw [hlow.block p (Nat.lt_succ_self p)]; exact HZ4.out
            have HSz6 : Hid (p + 1 ≤ w6.heap.size) := Nat.le_trans HSz4.out hlow.size
            have HO6 : Hid (w6.ownsRow (p + 1) 45 5 vn (acc ++ [f]).length (fcs (acc ++ [f]))) := by
              show World.ownsRow _ _ _ _ _ _ _
              rw [List.length_append]
              exact hown
            refine hK _ _ ?_
            clear hK hown hgr hat hlow v0 v1 u0 u1 u2 u3 u4 HO4 HZ4 HN4 HB4 HSz4 HZ3 HB3 HO3 HSz3 HZ7 HZ8 HZ2 HB2 HO2 HSz2
            have hal2 : (acc ++ [f]).length ≤ 512 := by rw [List.length_append]; simp; omega
            have HEn : Hid (pRows E (512 - (acc ++ [f]).length) (acc ++ [f]) (r.drop 6) = RES) := by
              show _ = _
              rw [HT6.out, List.length_append, show 512 - (acc.length + [f].length) = f' by simp; omega]
              exact HR.out
            have hld : (r.drop 6).length = r.length - 6 := List.length_drop
            have hLd : Hid (∀ x ∈ r.drop 6, x.1.length ≤ 65536) := fun x hx => HL.out x (List.mem_of_mem_drop hx)
            by_cases hcc : lc = 6
            · have hrl : r.length = 6 := by omega
              have hdn : r.drop 6 = [] := List.drop_eq_nil_of_le (by omega)
              have HWn : Hid (WdsAt All w (.slice (some ⟨b, oo, none⟩) 0 0) (r.drop 6)) := by show WdsAt _ _ _ _; rw [hdn]; exact wds_none _
              obtain ⟨R6, hR6⟩ : ∃ R6, Hid (r.drop 6 = R6) := ⟨_, rfl⟩
              rw [hR6.out] at HWn HEn hLd hld hdn
              have hR0 : R6.length = 0 := by omega
              clear hdn HT6 HR HRT hf' hld
              subst hcc
              have HRL := Lib.hid hrl
              clear hrl
              have hrz : (r.length : Int) = 6 := by have := HRL.out; omega
              go_wp2
              go_roundg (gk - 1)
              case measure => omega
              case rel => exact ⟨R6, acc ++ [f], some ⟨b, oo, none⟩, 0, vn, by rw [hR0], rfl, by omega, by omega, by omega, by omega, hal2, (show WdsAt _ _ _ _ from by rw [hR0]; exact HWn.out), hLd.out, HB6.out, HZ6.out, HSz6.out, HO6.out, HEn.out⟩
            · have hcn : ¬ lc = 6 := hcc
              have hcz : ¬ (lc : Int) = 6 := by omega
              have HWn : Hid (WdsAt All w (.slice (some ⟨b, oo + 12, none⟩) (r.drop 6).length (lc - 6)) (r.drop 6)) := by show WdsAt _ _ _ _; rw [hld]; exact wds_drop HW.out h6
              have HLD := Lib.hid hld
              clear hld HT6 HR HRT hf'
              go_wp2
              go_roundg (gk - 1)
              case measure => omega
              case rel => exact ⟨r.drop 6, acc ++ [f], some ⟨b, oo + 12, none⟩, lc - 6, vn, by rw [HLD.out], rfl, by rw [HLD.out]; omega, by rw [HLD.out]; omega, by rw [HLD.out]; omega, by omega, hal2, HWn.out, hLd.out, HB6.out, HZ6.out, HSz6.out, HO6.out, HEn.out⟩
end Go.Proofs.YtmoldgmfhcmceaaGreatDoor.Fe
end
