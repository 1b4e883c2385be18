/-
  Texts put together (merge.py): BPutM.
-/
import Derived.Test.YtjgceppbhmmbjaaDoorMb14
/-
  What Put answers, as a contract: for all books and claims.
-/
section
set_option linter.unusedSimpArgs false
set_option linter.unusedVariables false
set_option maxRecDepth 100000
namespace Go.Proofs.YtjgceppbhmmbjaaDoor.Bk
open Go.RowKit
open Cm (Ln Cl cl0 LnsAt ClCells lnv clv LnOk ClOk boxc)
open Sh (Ot)

/-- What Put leaves. -/
def PutV (l : List En) (c : Cl) (t most : Int) (w : World) (e : Ending) (w' : World) : Prop :=
  (∃ v L, e = .returned (.tuple #[v, .int .i64 (putA l c most), .int .i64 (admE l c most)]) ∧ L.map (·.e) = putV l c t most ∧ Full w.heap.size w' v L) ∧ Below w.heap.size w w'

set_option maxHeartbeats 8000000 in
theorem put_any (l : List En) (c : Cl) (t most : Int) (v m : Value) (w : World) (h : EnsAt All w v l) (hm : LnsAt All w m c.lines) (hz : ClOk c) (hT : Da.Tab w) (hl : l.length ≤ 100000) (hfl : ∀ x ∈ l, FitE x) (hfc : Fit c) :
    Calls Tryd.prog 11 #[v, clv c m, .int .i64 t, .int .i64 most] w (PutV l c t most w) := by
  have HB0 := Lib.hid (below_alloc w (boxc c m))
  have HC := Lib.hid (admit_any l c most v m (w.alloc (boxc c m)) (h.grw HB0.out) (LnsAt.move hm (Below.moves HB0.out)) hz (Cm.tab_below hT HB0.out))
  have HE : Hid (∀ w', Below (w.alloc (boxc c m)).heap.size (w.alloc (boxc c m)) w' → EnsAt All w' v l ∧ LnsAt All w' m c.lines ∧ Below w.heap.size w w' ∧ Cm.ClBox w' w.heap.size c m) := fun w' hb => ⟨h.grw (below_trans HB0.out hb), LnsAt.move hm (Below.moves (below_trans HB0.out hb)), below_trans HB0.out hb, cl_box w c m hb⟩
  obtain ⟨fa, fk, rfl, hm1, hm2⟩ := h.form
  obtain ⟨ma, mk', rfl, -, -⟩ := Cm.LnsAt.form hm
  clear h hm hT
  by_cases h0 : admE l c most = 0
  case neg =>
    obtain ⟨e1, e2⟩ := put_bad (t := t) h0
    have h0b : (admE l c most != 0) = true := by simp [h0]
    have HP : Hid (∀ w1, Below (w.alloc (boxc c (.slice ma c.lines.length mk'))).heap.size (w.alloc (boxc c (.slice ma c.lines.length mk'))) w1 → PutV l c t most w (.returned (.tuple #[.slice none 0 0, .int .i64 0, .int .i64 (admE l c most)])) w1) := fun w1 hb => by
      refine ⟨⟨.slice none 0 0, [], ?_, ?_, Full.nil _ _⟩, below_trans HB0.out hb⟩
      · rw [e2]
      · rw [e1]; rfl
    clear h0 e1 e2 hz
    go_enter Tryd.func11, Tryd.ntmps11
    go_wp2_with (go_at_call 14; refine (HC.out).mono ?_; rintro e w1 ⟨rfl, hb1⟩; have HB1 := Lib.hid hb1; clear hb1)
    refine bodyPost_ret (v := .tuple #[.slice none 0 0, .int .i64 0, .int .i64 (admE l c most)]) (by simp [results, Tryd.results11, go_sem]) rfl ?_
    exact HP.out _ HB1.out
  rw [h0] at HC
  have HFL := Lib.hid hfl
  have hs0 : (w.alloc (boxc c (.slice ma c.lines.length mk'))).heap.size = w.heap.size + 1 := by simp
  have HPOST : Hid (∀ W v' L, L.map (·.e) = putV l c t most → Full (w.heap.size + 1) W v' L → Below (w.heap.size + 1) (w.alloc (boxc c (.slice ma c.lines.length mk'))) W → PutV l c t most w (.returned (.tuple #[v', .int .i64 (putA l c most), .int .i64 0])) W) := fun W v' L hL hF hb => ⟨⟨v', L, by rw [h0], hL, hF.low (by omega)⟩, below_trans HB0.out (by rw [hs0]; exact hb)⟩
  have HMK : Hid (∀ W, ∃ cs, (Instr.makeSlice 22 (.int .i64 0) (.int .i64 ((l.length : Int) + 1))).run Tryd.prog W = .ok (.slice (some ⟨W.heap.size, 0, none⟩) 0 (l.length + 1)) (W.alloc (.cells cs TE)) ∧ cs.size = (l.length + 1) * 10) := fun W => run_make_ens l.length (by omega) W
  have HK : Hid (∀ w', Below (w.heap.size + 1) (w.alloc (boxc c (.slice ma c.lines.length mk'))) w' → EnsAt All w' (.slice fa l.length fk) l ∧ LnsAt All w' (.slice ma c.lines.length mk') c.lines ∧ Cm.ClBox w' w.heap.size c (.slice ma c.lines.length mk')) := fun w' hb => by
    obtain ⟨q1, q2, -, q4⟩ := HE.out w' (by rw [hs0]; exact hb)
    exact ⟨q1, q2, q4⟩
  have HFR : Hid (∀ W x m mo, Cont All W ⟨x, m, mo⟩ → x ∈ l → Calls Tryd.prog 26 #[env x m mo] W fun e w' => ∃ u uo, e = .returned (env x u uo) ∧ Cont (fun b => W.heap.size ≤ b) w' ⟨x, u, uo⟩ ∧ Below W.heap.size W w') := fun W x m mo hc hx => fresh_any x m mo W hc (hfl x hx)
  have hlz : l.length ≤ 100000 := hl
  rw [hs0] at HC
  clear hfl HE hs0
  go_enter Tryd.func11, Tryd.ntmps11
  go_wp2_with (first | (go_at_call 14; refine (HC.out).mono ?_; rintro e w1 ⟨rfl, hb1⟩; obtain ⟨cs, hmk, hcs⟩ := HMK.out w1; have HF1 : Hid (Full (w.heap.size + 1) (w1.alloc (.cells cs TE)) (.slice (some ⟨w1.heap.size, 0, none⟩) 0 (l.length + 1)) []) := ⟨World.ownsRow_made w1 cs (l.length + 1) (by have := hb1.size; simp at this; omega) (by unfold maxLen; omega) hcs, by simp⟩; have HB1 : Hid (Below (w.heap.size + 1) (w.alloc (boxc c (.slice ma c.lines.length mk'))) (w1.alloc (.cells cs TE))) := hb1.alloc (by have := hb1.size; simp at this; omega) _; clear hb1 hcs))
  go_loopg [12, 31] (l.length) (fun gg s12 s31 wr => ∃ (k : Nat) (L : List Ev), s31 = .int .i64 k ∧ k ≤ l.length ∧ l.length - k ≤ gg ∧ Hid (L.map (·.e) = l.take k) ∧ Hid (Full (w.heap.size + 1) wr s12 L) ∧ Hid (Below (w.heap.size + 1) (w.alloc (boxc c (.slice ma c.lines.length mk'))) wr) ∧ (∃ a n c, s12 = .slice a n c))
  case atStart => exact ⟨0, [], rfl, Nat.zero_le _, by omega, rfl, HF1.out, HB1.out, ⟨_, _, _, rfl⟩⟩
  case round =>
    obtain ⟨k, L, rfl, hk, hgk, HL, HFu, HBn, a0, n0, c0, rfl⟩ := hrel
    by_cases hlt : k < l.length
    · have hltz : (k : Int) < (l.length : Int) := by omega
      obtain ⟨b, o, m2, mo, rfl, -, hx, hcell, hcont⟩ := EnsAt.get (HK.out _ HBn.out).1 k hlt
      have hmem := List.mem_of_getElem? hx
      have HX := Lib.hid hx
      generalize l[k] = x at *
      obtain ⟨x0, x1, x2, x3, x4, x5, x6, x7, x8, x9⟩ := hcell
      have HCO := Lib.hid hcont
      obtain ⟨am, km, e1, -, -⟩ := Cm.LnsAt.form hcont.1
      obtain ⟨ao, ko, e2, -, -⟩ := hcont.2.form
      dsimp only at e1 e2
      subst e1 e2
      have hi1 : k < l.length := hlt
      clear hcont hx
      have HAPP : Hid (∀ w2 u uo, Cont (fun b => (wr.alloc (.cells (enc x (.slice am x.cl.lines.length km) (.slice ao x.outs.length ko)) TE)).heap.size ≤ b) w2 ⟨x, u, uo⟩ → Below (wr.alloc (.cells (enc x (.slice am x.cl.lines.length km) (.slice ao x.outs.length ko)) TE)).heap.size (wr.alloc (.cells (enc x (.slice am x.cl.lines.length km) (.slice ao x.outs.length ko)) TE)) w2 → Full (w.heap.size + 1) (w2.alloc (.cells (enc x u uo) TE)) (.slice a0 n0 c0) L ∧ Cont (fun b => (Value.slice a0 n0 c0).ownBlock ≠ some b) (w2.alloc (.cells (enc x u uo) TE)) ⟨x, u, uo⟩ ∧ Below (w.heap.size + 1) (w.alloc (boxc c (.slice ma c.lines.length mk'))) (w2.alloc (.cells (enc x u uo) TE)) ∧ w.heap.size + 1 ≤ (w2.alloc (.cells (enc x u uo) TE)).heap.size) := fun w2 u uo hc hb => by
        have e1 : (wr.alloc (.cells (enc x (.slice am x.cl.lines.length km) (.slice ao x.outs.length ko)) TE)).heap.size = wr.heap.size + 1 := by simp
        have b1 := below_trans (below_trans (below_alloc wr (.cells (enc x (.slice am x.cl.lines.length km) (.slice ao x.outs.length ko)) TE)) hb) (below_alloc w2 (.cells (enc x u uo) TE))
        have hsz := HBn.out.size
        simp at hsz
        refine ⟨HFu.out.grw b1, ?_, HBn.out.trans (b1.mono (by omega)), by have := b1.size; omega⟩
        refine hc.move ⟨(below_alloc w2 (.cells (enc x u uo) TE)).size, fun b hb' hk => ⟨fun e => ?_, (below_alloc w2 (.cells (enc x u uo) TE)).block b hb'⟩⟩
        have := (HFu.out.1.lt b e).2
        omega
      have hLl : L.length ≤ 100000 := by
        have := congrArg List.length HL.out
        simp at this
        omega
      have HL2 : Hid ((L.map (·.e)) ++ [x] = l.take (k + 1)) := by rw [List.take_add_one, HX.out, HL.out]; rfl
      go_wp2_with (first | (go_at_call 26; refine (HFR.out _ x _ _ (HCO.out.grw (below_alloc wr _)) hmem).mono ?_; rintro e w2 ⟨u, uo, rfl, hc2, hb2⟩; obtain ⟨q1, q2, q3, q4⟩ := HAPP.out _ _ _ hc2 hb2; have Q1 := Lib.hid q1; have Q2 := Lib.hid q2; have Q3 := Lib.hid q3; obtain ⟨ua, uk, e1, -, -⟩ := Cm.LnsAt.form hc2.1; obtain ⟨va, vk, e2, -, -⟩ := hc2.2.form; dsimp only at e1 e2; subst e1 e2; clear hc2 hb2 q1 q2 q3) | (at_builtin; refine wpList_plain (by rfl) (fun K hK => ?_); refine wp_app _ _ rfl (w.heap.size + 1) (.slice a0 n0 c0) L rfl Q1.out.1 _ 1 ⟨x, _, _⟩ rfl (alloc_new _ _ _) Q2.out.sl (by omega) q4 (fun v' w' ho hg hat => ?_); refine hK _ _ ?_; have HF4 := Lib.hid (Q1.out.app Q2.out ho hg hat); have HB4 : Hid (Below (w.heap.size + 1) (w.alloc (boxc c (.slice ma c.lines.length mk'))) w') := Q3.out.trans (grow_low Q1.out.1 hg q4); clear ho hg hat hK; obtain ⟨pa, pc, e3, -, -⟩ := HF4.out.form; rw [List.length_append, List.length_singleton] at e3; subst e3))
      go_roundg (l.length - (k + 1))
      case measure => omega
      case rel => exact ⟨k + 1, L ++ [Ev.mk x (.slice ua x.cl.lines.length uk) (.slice va x.outs.length vk)], by first | rfl | go_num | (congr 1; omega), by omega, by omega, (show List.map (fun z => z.e) (L ++ [Ev.mk x (.slice ua x.cl.lines.length uk) (.slice va x.outs.length vk)]) = l.take (k + 1) from List.map_append.trans HL2.out), HF4.out, HB4.out, ⟨_, _, _, rfl⟩⟩
    · have hltz : ¬ (k : Int) < (l.length : Int) := by omega
      have hkk : k = l.length := by omega
      have HLe : Hid (L.map (·.e) = l) := by have := HL.out; rw [hkk, List.take_length] at this; exact this
      have HLL : Hid (L.length = l.length) := (by have := congrArg List.length HLe.out; simpa using this : L.length = l.length)
      obtain ⟨ga, gc, ge, gl, gm⟩ := HFu.out.form
      injection ge with ge1 ge2 ge3
      have ge4 := ge2.trans HLL.out
      subst ge4
      clear ge1 ge2 ge3
      obtain ⟨-, hlm, hbx⟩ := HK.out _ HBn.out
      obtain ⟨b0, b1, b2, b3, b4, b5, b6⟩ := hbx
      have HCP := Lib.hid (Cm.copy_any c (.slice ma c.lines.length mk') wr hlm hfc.1 hfc.2)
      have HU : Hid (∀ w2 u, Cm.NewLns (wr.heap.size + 2) w2 u c.lines → Below wr.heap.size wr w2 → Full (w.heap.size + 1) w2 (.slice a0 l.length c0) L ∧ (∀ t' s', Cont (fun b => (Value.slice a0 l.length c0).ownBlock ≠ some b) w2 ⟨⟨c, t', s', []⟩, u, .slice none 0 0⟩) ∧ Below (w.heap.size + 1) (w.alloc (boxc c (.slice ma c.lines.length mk'))) w2 ∧ w.heap.size + 1 ≤ w2.heap.size ∧ (∀ o, (w2.alloc o).cell? ⟨w.heap.size, 4, none⟩ = some (.int .i64 c.does)) ∧ (∀ o, (w2.alloc o).cell? ⟨w.heap.size, 5, none⟩ = some (.string (mk c.ref)))) := fun w2 u hn hb => by
        have hsz := HBn.out.size
        simp at hsz
        have hB2 : Below (w.heap.size + 1) (w.alloc (boxc c (.slice ma c.lines.length mk'))) w2 := HBn.out.trans (hb.mono (by omega))
        have hbx := (HK.out _ hB2).2.2
        refine ⟨HFu.out.grw hb, fun t' s' => ⟨LnsAt.move (copy_new hn hfc) (moves_weak w2 fun b _ hk e => ?_), OtsAt.nil _ _⟩, hB2, by have := hb.size; omega, fun o => (hbx.grw (below_alloc w2 o)).2.2.2.2.1, fun o => (hbx.grw (below_alloc w2 o)).2.2.2.2.2.1⟩
        have := (HFu.out.1.lt b e).2
        omega
      have hd := does_in (adm_ok h0).1
      rcases hd with hd | hd | hd
      · have d7 : (c.does == 7) = false := by rw [hd]; rfl
        have d8 : (c.does == 8) = false := by rw [hd]; rfl
        have HV := Lib.hid (put1 (t := t) h0 hd)
        clear hd h0
        go_wp2_with (first | (go_at_call 27; refine (HCP.out).mono ?_; rintro e w2 ⟨⟨u, rfl, hu⟩, hb2⟩; obtain ⟨ua, uk, e1⟩ := Cm.NewLns.form hu; obtain ⟨q1, q2, q3, q4, nd, nr⟩ := HU.out _ _ hu hb2; subst e1; have Q1 := Lib.hid q1; have Q2 := Lib.hid q2; have Q3 := Lib.hid q3; clear hu hb2 q1 q2 q3; have hbA := Lib.hid (below_trans (below_alloc w2 (.cells (enc ⟨c, t, 0, []⟩ (.slice ua c.lines.length uk) (.slice none 0 0)) TE)) (below_alloc _ (.cells (enc ⟨c, t, 0, []⟩ (.slice ua c.lines.length uk) (.slice none 0 0)) TE))); have R1 := Lib.hid (Q1.out.grw hbA.out); have R2 : Hid (Cont (fun b => (Value.slice a0 l.length c0).ownBlock ≠ some b) ((w2.alloc (.cells (enc ⟨c, t, 0, []⟩ (.slice ua c.lines.length uk) (.slice none 0 0)) TE)).alloc (.cells (enc ⟨c, t, 0, []⟩ (.slice ua c.lines.length uk) (.slice none 0 0)) TE)) ⟨⟨c, t, 0, []⟩, .slice ua c.lines.length uk, .slice none 0 0⟩) := (Q2.out t 0).move ⟨hbA.out.size, fun b hb' hk => ⟨hk, hbA.out.block b hb'⟩⟩; have R3 : Hid (((w2.alloc (.cells (enc ⟨c, t, 0, []⟩ (.slice ua c.lines.length uk) (.slice none 0 0)) TE)).alloc (.cells (enc ⟨c, t, 0, []⟩ (.slice ua c.lines.length uk) (.slice none 0 0)) TE)).heap[w2.heap.size + 1]? = some (.cells (enc ⟨c, t, 0, []⟩ (.slice ua c.lines.length uk) (.slice none 0 0)) TE (0, 0))) := (by (have := alloc_new (w2.alloc (.cells (enc ⟨c, t, 0, []⟩ (.slice ua c.lines.length uk) (.slice none 0 0)) TE)) (enc ⟨c, t, 0, []⟩ (.slice ua c.lines.length uk) (.slice none 0 0)) TE; rwa [show (w2.alloc (.cells (enc ⟨c, t, 0, []⟩ (.slice ua c.lines.length uk) (.slice none 0 0)) TE)).heap.size = w2.heap.size + 1 by simp] at this)); have R4 : Hid (Below (w.heap.size + 1) (w.alloc (boxc c (.slice ma c.lines.length mk'))) ((w2.alloc (.cells (enc ⟨c, t, 0, []⟩ (.slice ua c.lines.length uk) (.slice none 0 0)) TE)).alloc (.cells (enc ⟨c, t, 0, []⟩ (.slice ua c.lines.length uk) (.slice none 0 0)) TE))) := Q3.out.trans (hbA.out.mono q4); have r5 : w.heap.size + 1 ≤ ((w2.alloc (.cells (enc ⟨c, t, 0, []⟩ (.slice ua c.lines.length uk) (.slice none 0 0)) TE)).alloc (.cells (enc ⟨c, t, 0, []⟩ (.slice ua c.lines.length uk) (.slice none 0 0)) TE)).heap.size := (by (have := hbA.out.size; omega))) | (at_builtin; refine wpList_plain (by rfl) (fun K hK => ?_); refine wp_app _ _ rfl (w.heap.size + 1) (.slice a0 l.length c0) L rfl R1.out.1 _ 1 (Ev.mk ⟨c, t, 0, []⟩ (.slice ua c.lines.length uk) (.slice none 0 0)) rfl (by first | exact R3.out | exact alloc_new _ _ _) R2.out.sl (by have := HLL.out; omega) r5 (fun v' w' ho hg hat => ?_); refine hK _ _ ?_; have HF4 := Lib.hid (R1.out.app R2.out ho hg hat); have HB4 : Hid (Below (w.heap.size + 1) (w.alloc (boxc c (.slice ma c.lines.length mk'))) w') := R4.out.trans (grow_low R1.out.1 hg r5); clear ho hg hat hK; obtain ⟨pa, pc, e3, -, -⟩ := HF4.out.form; rw [List.length_append, List.length_singleton, HLL.out] at e3; subst e3))
        refine bodyPost_ret (v := .tuple #[.slice pa (l.length + 1) pc, .int .i64 (l.length : Int), .int .i64 0]) (by simp [results, Tryd.results11, go_sem]) rfl ?_
        have := HPOST.out _ _ _ (show List.map (·.e) (L ++ [(Ev.mk ⟨c, t, 0, []⟩ (.slice ua c.lines.length uk) (.slice none 0 0))]) = putV l c t most by rw [HV.out.1, List.map_append, HLe.out]; rfl) HF4.out HB4.out
        rw [HV.out.2] at this
        exact this
      · have d7 : (c.does == 7) = true := by rw [hd]; rfl
        have HV := Lib.hid (put7 (t := t) h0 hd)
        obtain ⟨i, xe, hf, hxe, -⟩ := ref_ok (adm_ok h0).2.2.1 (by omega)
        have hfv := find_id hf
        have hfL : find (L.map (·.e)) c.ref = some i := by rw [HLe.out]; exact hf
        obtain ⟨x, hx, hxe2⟩ : ∃ x, L[i]? = some x ∧ x.e = xe := by
          rw [← HLe.out, List.getElem?_map] at hxe
          obtain ⟨x, h1, h2⟩ := Option.map_eq_some_iff.1 hxe
          exact ⟨x, h1, h2⟩
        have hiL : i < L.length := (List.getElem?_eq_some_iff.1 hx).1
        have hi : i < l.length := by have := HLL.out; omega
        have hxs : (L.set i (goneV 2 x))[i]? = some (goneV 2 x) := by simp [hiL]
        obtain ⟨g, rfl⟩ : ∃ g, a0 = some ⟨g, 0, none⟩ := by
          rcases HFu.out.1.2 with ⟨e, h'⟩ | ⟨g, cap, cur, e, -⟩
          · have := HLL.out; omega
          · injection e with e1 e2 e3
            exact ⟨g, e1⟩
        have HPQ : Hid (∀ u, List.map (·.e) ((L.set i (goneV 2 x)).take (i + 1) ++ (Ev.mk ⟨c, x.e.tb, 0, []⟩ u (.slice none 0 0)) :: (L.set i (goneV 2 x)).drop (i + 1)) = putV l c t most) := by
          intro u
          rw [HV.out.1, putR_at c l i xe hf hxe, ins_map, set_map, HLe.out, ← hxe2]
        have HTK : Hid (∀ W, Full (w.heap.size + 1) W (.slice (some ⟨g, 0, none⟩) l.length c0) L → Calls Tryd.prog 28 #[.slice (some ⟨g, 0, none⟩) l.length c0, .string (mk c.ref), .int .i64 2] W fun e w' => e = .returned (.int .i64 i) ∧ Full (w.heap.size + 1) w' (.slice (some ⟨g, 0, none⟩) l.length c0) (L.set i (goneV 2 x)) ∧ W.grownBy w' (some g)) := fun W hF => take_any L c.ref 2 i x _ _ W hF hfL hx
        have hi0 : (0 : Int) ≤ (i : Int) := by omega
        have hx2 := Lib.hid hx
        have hxs2 := Lib.hid hxs
        have HV2 := Lib.hid (HV.out.2.trans hfv)
        clear hxe2 hd h0 hf hxe hfL hx hxs hfv hiL
        go_wp2_with (first | (go_at_call 27; refine (HCP.out).mono ?_; rintro e w2 ⟨⟨u, rfl, hu⟩, hb2⟩; obtain ⟨ua, uk, e1⟩ := Cm.NewLns.form hu; obtain ⟨q1, q2, q3, q4, nd, nr⟩ := HU.out _ _ hu hb2; subst e1; have Q1 := Lib.hid q1; have Q2 := Lib.hid q2; have Q3 := Lib.hid q3; clear hu hb2 q1 q2 q3) | (go_at_call 28; refine (HTK.out _ (Q1.out.grw (below_alloc w2 _))).mono ?_; rintro e w4 ⟨rfl, h4, hg4⟩; have gP : w4.heap[w2.heap.size]? = some (.cells (enc ⟨c, t, 0, []⟩ (.slice ua c.lines.length uk) (.slice none 0 0)) TE (0, 0)) := (hg4.block w2.heap.size (by simp) (fun e => by (have := (Q1.out.1.lt g rfl).2; injection e; omega))).trans (alloc_new _ _ _); have tb := take_cells h4 hxs2.out; have H4 := Lib.hid h4; have G4 := Lib.hid hg4; obtain ⟨y0, y1, y2, y3, y4, y5, y6, y7, y8, y9⟩ := ten gP; have fP := frzn gP; have AT := Lib.hid (after_take (P := w2.heap.size) (w3 := w2.alloc (.cells (enc ⟨c, t, 0, []⟩ (.slice ua c.lines.length uk) (.slice none 0 0)) TE)) Q1.out (Nat.le_refl _) (below_alloc w2 _) H4.out hx2.out G4.out q4); clear h4 hg4 gP; have tb7 : (goneV 2 x).e.tb = x.e.tb := rfl; rw [tb7] at tb; clear tb7) | (go_at_call 29; have HI := (insert_at (L.set i (goneV 2 x)) (Ev.mk ⟨c, x.e.tb, 0, []⟩ (.slice ua c.lines.length uk) (.slice none 0 0)) i (w.heap.size + 1) (.slice (some ⟨g, 0, none⟩) l.length c0) (w4.setCell ⟨w2.heap.size, 7, none⟩ (.int .i64 x.e.tb)) (AT.out 7 (.int .i64 x.e.tb)).1 ((Q2.out x.e.tb 0).move (AT.out 7 (.int .i64 x.e.tb)).2.1) (by rw [List.length_set]; have := HLL.out; omega) (by rw [List.length_set]; have := HLL.out; omega) (by have := (AT.out 7 (.int .i64 x.e.tb)).2.2.size; omega)); rw [show (w4.setCell ⟨w2.heap.size, 7, none⟩ (.int .i64 x.e.tb)).heap.size = w4.heap.size by simp] at HI; refine HI.mono ?_; clear HI; rintro e w6 ⟨v', rfl, hF6, hb6⟩; have HF6 := Lib.hid hF6; have HB6 : Hid (Below (w.heap.size + 1) (w.alloc (boxc c (.slice ma c.lines.length mk'))) w6) := (Q3.out.trans (AT.out 7 (.int .i64 x.e.tb)).2.2).trans hb6; clear hb6; obtain ⟨pa, pc, e3, -, -⟩ := hF6.form; rw [ins_len _ _ _ (by rw [List.length_set]; have := HLL.out; omega), List.length_set, HLL.out] at e3; subst e3; clear hF6))
        refine bodyPost_ret (v := .tuple #[.slice pa (l.length + 1) pc, .int .i64 (i : Int), .int .i64 0]) (by simp [results, Tryd.results11, go_sem]) rfl ?_
        have := HPOST.out _ _ _ (HPQ.out _) HF6.out HB6.out
        rw [HV2.out] at this
        exact this
      · have d7 : (c.does == 7) = false := by rw [hd]; rfl
        have d8 : (c.does == 8) = true := by rw [hd]; rfl
        have HV := Lib.hid (put8 (t := t) h0 hd)
        obtain ⟨i, xe, hf, hxe, -⟩ := ref_ok (adm_ok h0).2.2.1 (by omega)
        have hfv := find_id hf
        have hfL : find (L.map (·.e)) c.ref = some i := by rw [HLe.out]; exact hf
        obtain ⟨x, hx, hxe2⟩ : ∃ x, L[i]? = some x ∧ x.e = xe := by
          rw [← HLe.out, List.getElem?_map] at hxe
          obtain ⟨x, h1, h2⟩ := Option.map_eq_some_iff.1 hxe
          exact ⟨x, h1, h2⟩
        have hiL : i < L.length := (List.getElem?_eq_some_iff.1 hx).1
        have hi : i < l.length := by have := HLL.out; omega
        have hxs : (L.set i (goneV 1 x))[i]? = some (goneV 1 x) := by simp [hiL]
        obtain ⟨g, rfl⟩ : ∃ g, a0 = some ⟨g, 0, none⟩ := by
          rcases HFu.out.1.2 with ⟨e, h'⟩ | ⟨g, cap, cur, e, -⟩
          · have := HLL.out; omega
          · injection e with e1 e2 e3
            exact ⟨g, e1⟩
        have HPQ : Hid (∀ u, List.map (·.e) (L.set i (goneV 1 x) ++ [(Ev.mk ⟨c, t, 1, []⟩ u (.slice none 0 0))]) = putV l c t most) := by
          intro u
          rw [HV.out.1, putD_at c l i xe hf hxe, List.map_append, set_map, HLe.out, ← hxe2]; rfl
        have HTK : Hid (∀ W, Full (w.heap.size + 1) W (.slice (some ⟨g, 0, none⟩) l.length c0) L → Calls Tryd.prog 28 #[.slice (some ⟨g, 0, none⟩) l.length c0, .string (mk c.ref), .int .i64 1] W fun e w' => e = .returned (.int .i64 i) ∧ Full (w.heap.size + 1) w' (.slice (some ⟨g, 0, none⟩) l.length c0) (L.set i (goneV 1 x)) ∧ W.grownBy w' (some g)) := fun W hF => take_any L c.ref 1 i x _ _ W hF hfL hx
        have hi0 : (0 : Int) ≤ (i : Int) := by omega
        have hx2 := Lib.hid hx
        have hxs2 := Lib.hid hxs
        have HV2 := Lib.hid (HV.out.2.trans hfv)
        clear hxe2 hd h0 hf hxe hfL hx hxs hfv hiL
        go_wp2_with (first | (go_at_call 27; refine (HCP.out).mono ?_; rintro e w2 ⟨⟨u, rfl, hu⟩, hb2⟩; obtain ⟨ua, uk, e1⟩ := Cm.NewLns.form hu; obtain ⟨q1, q2, q3, q4, nd, nr⟩ := HU.out _ _ hu hb2; subst e1; have Q1 := Lib.hid q1; have Q2 := Lib.hid q2; have Q3 := Lib.hid q3; clear hu hb2 q1 q2 q3) | (go_at_call 28; refine (HTK.out _ (Q1.out.grw (below_alloc w2 _))).mono ?_; rintro e w4 ⟨rfl, h4, hg4⟩; have gP : w4.heap[w2.heap.size]? = some (.cells (enc ⟨c, t, 0, []⟩ (.slice ua c.lines.length uk) (.slice none 0 0)) TE (0, 0)) := (hg4.block w2.heap.size (by simp) (fun e => by (have := (Q1.out.1.lt g rfl).2; injection e; omega))).trans (alloc_new _ _ _); have tb := take_cells h4 hxs2.out; have H4 := Lib.hid h4; have G4 := Lib.hid hg4; obtain ⟨y0, y1, y2, y3, y4, y5, y6, y7, y8, y9⟩ := ten gP; have fP := frzn gP; have AT := Lib.hid (after_take (P := w2.heap.size) (w3 := w2.alloc (.cells (enc ⟨c, t, 0, []⟩ (.slice ua c.lines.length uk) (.slice none 0 0)) TE)) Q1.out (Nat.le_refl _) (below_alloc w2 _) H4.out hx2.out G4.out q4); clear h4 hg4 gP) | (at_builtin; refine wpList_plain (by rfl) (fun K hK => ?_); refine wp_app _ _ rfl (w.heap.size + 1) (.slice (some ⟨g, 0, none⟩) l.length c0) (L.set i (goneV 1 x)) rfl ((AT.out 8 (.int .i64 1)).1.grw (below_alloc _ _)).1 _ 1 (Ev.mk ⟨c, t, 1, []⟩ (.slice ua c.lines.length uk) (.slice none 0 0)) rfl (by have := alloc_new (w4.setCell ⟨w2.heap.size, 8, none⟩ (.int .i64 1)) (enc ⟨c, t, 1, []⟩ (.slice ua c.lines.length uk) (.slice none 0 0)) TE; rwa [show (w4.setCell ⟨w2.heap.size, 8, none⟩ (.int .i64 1)).heap.size = w4.heap.size by simp] at this) (Q2.out t 1).sl (by rw [List.length_set]; have := HLL.out; omega) (by have := (AT.out 8 (.int .i64 1)).2.2.size; simp at this; simp; omega) (fun v' w' ho hg hat => ?_); refine hK _ _ ?_; have HF4 := Lib.hid (((AT.out 8 (.int .i64 1)).1.grw (below_alloc _ _)).app (((Q2.out t 1).move (AT.out 8 (.int .i64 1)).2.1).move ⟨(below_alloc _ _).size, fun b hb' hk => ⟨hk, (below_alloc _ _).block b hb'⟩⟩) ho hg hat); have HB4 : Hid (Below (w.heap.size + 1) (w.alloc (boxc c (.slice ma c.lines.length mk'))) w') := ((Q3.out.trans (AT.out 8 (.int .i64 1)).2.2).trans ((below_alloc _ _).mono (by have := (AT.out 8 (.int .i64 1)).2.2.size; omega))).trans (grow_low ((AT.out 8 (.int .i64 1)).1.grw (below_alloc _ _)).1 hg (by have := (AT.out 8 (.int .i64 1)).2.2.size; simp at this; simp; omega)); clear ho hg hat hK; obtain ⟨pa, pc, e3, -, -⟩ := HF4.out.form; rw [List.length_append, List.length_singleton, List.length_set, HLL.out] at e3; subst e3))
        refine bodyPost_ret (v := .tuple #[.slice pa (l.length + 1) pc, .int .i64 (i : Int), .int .i64 0]) (by simp [results, Tryd.results11, go_sem]) rfl ?_
        have := HPOST.out _ _ _ (HPQ.out _) HF4.out HB4.out
        rw [HV2.out] at this
        exact this
end Go.Proofs.YtjgceppbhmmbjaaDoor.Bk
end
