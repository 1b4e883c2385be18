/-
  Texts put together (merge.py): ESvs.
-/
import Derived.Test.YtpmnepihaljamaaGreatDoorM22
/-
  What eight.readServices answers, as a contract. (Written by gen_svs.py.)
-/
section
set_option linter.unusedSimpArgs false
set_option linter.unusedVariables false
set_option maxRecDepth 100000
namespace Go.Proofs.YtpmnepihaljamaaGreatDoor
open Go.RowKit
open Et
open Cm (Ln lnv ln0)

def lenOf : Value → Nat
  | .slice _ n _ => n
  | _ => 0
theorem sg_nil {w : World} {v : Value} (h : SgAt All w v []) : ∃ a c, v = .slice a 0 c := by
  obtain ⟨a, c, rfl, -⟩ := h
  exact ⟨a, c, rfl⟩

set_option maxHeartbeats 8000000 in
theorem esvs_any (K : Nat → Prop) (v : Value) (l : List Sg) (F : Nat) (w : World) (h : SgAt K w v l) (hn : Nm l) (hs : Sh l) (hq : Qs l) (hT : Tab w) (hl : l.length ≤ 100000) (hF : l.length ≤ F) :
    Calls Tryz.prog 103 #[v] w fun e w' => (∃ m u, e = .returned (.tuple #[m, u, .int .i64 (svsA F [] l).1]) ∧ SrvAt w.heap.size w' m (svsA F [] l).2.1 ∧ SgAt K w' u (svsA F [] l).2.2) ∧ Below w.heap.size w w' := by
  have HS0 := Lib.hid (SgAt.move (K' := fun b => K b ∧ b < w.heap.size) h ⟨Nat.le_refl _, fun b hb hk => ⟨⟨hk, hb⟩, rfl⟩⟩)
  have HQ0 := Lib.hid (And.intro hn (And.intro hs hq))
  obtain ⟨va, vc, rfl, h1, h2, -⟩ := h
  have HTb := Lib.hid hT
  clear hT hn hs hq
  go_enter Tryz.func103, Tryz.ntmps103
  go_wp2
  refine scope_passes 0 (fun a' w' => ∃ (acc : List Ln) (l' : List Sg) (la sa : Option Addr) (n lc k sc f : Nat) (u1 u2 u3 u4 u6 u7 u8 u9 u10 u11 u12 u13 u14 u15 u16 u17 u18 u19 u20 u21 u22 u23 u24 u25 u26 u27 u28 u29 u30 u31 u32 u33 u34 u35 u36 u37 u38 u39 u40 u41 : Value), a' = { tmps := #[.slice la n lc, u1, u2, u3, u4, .slice sa k sc, u6, u7, u8, u9, u10, u11, u12, u13, u14, u15, u16, u17, u18, u19, u20, u21, u22, u23, u24, u25, u26, u27, u28, u29, u30, u31, u32, u33, u34, u35, u36, u37, u38, u39, u40, u41], defers := [] } ∧ k ≤ 100000 ∧ Hid (k = acc.length ∧ n = l'.length ∧ acc.length + l'.length ≤ l.length) ∧ Hid (SgAt (fun b => K b ∧ b < w.heap.size) w' (.slice la n lc) l') ∧ Hid (Nm l' ∧ Sh l' ∧ Qs l') ∧ Hid (SrvAt w.heap.size w' (.slice sa k sc) acc) ∧ Hid (Below w.heap.size w w') ∧ Hid (l'.length ≤ f ∧ svsA f acc l' = svsA F [] l)) (fun a' _ => lenOf (a'.tmps.getD 0 undef)) rfl ?pass ?first
  case first =>
    intro hp
    go_wp2
    go_step3
    rename_i hK
    refine hK _ _ (hp _ _ ⟨[], l, va, none, l.length, vc, 0, 0, F, _, _, _, _, _, _, _, _, _, _, _, _, _, _, _, _, _, _, _, _, _, _, _, _, _, _, _, _, _, _, _, _, _, _, _, _, _, _, _, _, rfl, by omega, ⟨rfl, rfl, by simp⟩, HS0.out, HQ0.out, SrvAt.nil _ _, Below.refl _ _, hF, rfl⟩)
  case pass =>
    rintro a' wr ⟨acc, l', la, sa, n, lc, k, sc, f, u1, u2, u3, u4, u6, u7, u8, u9, u10, u11, u12, u13, u14, u15, u16, u17, u18, u19, u20, u21, u22, u23, u24, u25, u26, u27, u28, u29, u30, u31, u32, u33, u34, u35, u36, u37, u38, u39, u40, u41, rfl, hk, HN, HSg, HQ, HSv, HB, HF⟩
    clear HS0 HQ0 h1 h2
    cases l' with
    | nil =>
      have hn0 : n = 0 := HN.out.2.1
      subst hn0
      have HX := Lib.hid (HF.out.2.symm.trans (svs_stop (f := f) (acc := acc) (l := []) rfl))
      clear HN
      go_wp2
      simp only [Exit.jump]
      refine bodyPost_ret (v := .tuple #[.slice sa k sc, .slice la 0 lc, .int .i64 0]) (by simp [results, Tryz.results103, go_sem]) rfl ?_
      exact ⟨⟨_, _, by rw [HX.out], by rw [HX.out]; exact HSv.out, by rw [HX.out]; exact SgAt.move HSg.out (moves_weak _ fun _ _ hk => hk.1)⟩, HB.out⟩
    | cons g r =>
    have HSA := Lib.hid (SgAt.move HSg.out (moves_weak (K' := All) _ fun _ _ _ => trivial))
    obtain ⟨b, o, c, u, ev, p1, p2, hc, hel⟩ := sg_open HSA.out
    simp only [Value.slice.injEq] at ev
    obtain ⟨rfl, rfl, rfl⟩ := ev
    have HNm := Lib.hid (name_any u g wr hel (HQ.out.1 g (by simp)))
    have hlx : isLX (g :: r) = decide ((g.headD []).headD [] = tLX) := by
      obtain ⟨t, r2, rfl⟩ := named_form (HQ.out.1 g (by simp))
      rfl
    have hq := mk_lit ((g.headD []).headD []) tLX
    obtain ⟨nm, hnm⟩ : ∃ nm, mk ((g.headD []).headD []) = nm := ⟨_, rfl⟩
    rw [hnm] at HNm hq
    rw [← hlx] at hq
    have hkn := HN.out.1
    have hac := HN.out.2.2
    simp only [List.length_cons] at hac
    clear hnm hlx hel
    cases hx : isLX (g :: r)
    · rw [hx] at hq
      have hq' : (nm.toList == [76, 88]) = false := hq
      have HX := Lib.hid (HF.out.2.symm.trans (svs_stop (f := f) (acc := acc) hx))
      clear HN hkn hac hx hq
      go_wp2_with (go_at_call 126; refine HNm.out.mono ?_; rintro e w1 ⟨rfl, hb⟩; have HB1 := Lib.hid hb; clear hb)
      simp only [Exit.jump]
      refine bodyPost_ret (v := .tuple #[.slice sa k sc, .slice (some ⟨b, o, none⟩) (r.length + 1) lc, .int .i64 0]) (by simp [results, Tryz.results103, go_sem]) rfl ?_
      exact ⟨⟨_, _, by rw [HX.out], by rw [HX.out]; exact HSv.out.grw HB1.out, by rw [HX.out]; exact SgAt.move HSg.out ((Below.movesK _ HB1.out).trans (moves_weak _ fun _ _ hk => hk.1))⟩, below_trans HB.out HB1.out⟩
    rw [hx] at hq
    have hq' : (nm.toList == [76, 88]) = true := hq
    have HP : Hid (∀ W, Below wr.heap.size wr W → Calls Tryz.prog 101 #[.slice (some ⟨b, o, none⟩) (r.length + 1) lc, .string ⟨#[76, 88]⟩, .int .i64 ((k : Int) + 1)] W fun e w' => e = .returned (.bool (plB (g :: r) tLX (acc.length + 1))) ∧ Below W.heap.size W w') := fun W hW => by
      have := eplaced_any _ (g :: r) tLX (acc.length + 1) W (SgAt.move HSA.out (Below.moves hW)) HQ.out.1 (tab_grw HTb.out (below_trans HB.out hW)) (by omega)
      rw [show ((acc.length + 1 : Nat) : Int) = (k : Int) + 1 by omega] at this
      exact this
    cases hp : plB (g :: r) tLX (acc.length + 1)
    · rw [hp] at HP
      have HX := Lib.hid (HF.out.2.symm.trans (svs_order HF.out.1 hx hp))
      clear HN hkn hac hx hq hp
      go_wp2_with (first | (go_at_call 126; refine HNm.out.mono ?_; rintro e w1 ⟨rfl, hb⟩; have HB1 := Lib.hid hb; clear hb) | (go_at_call 101; refine (HP.out _ HB1.out).mono ?_; rintro e w2 ⟨rfl, hb⟩; have HB2 := Lib.hid (below_trans HB1.out hb); clear hb))
      simp only [Exit.jump]
      refine bodyPost_ret (v := .tuple #[.slice none 0 0, .slice none 0 0, .int .i64 11]) (by simp [results, Tryz.results103, go_sem]) rfl ?_
      exact ⟨⟨_, _, by rw [HX.out], by rw [HX.out]; exact SrvAt.nil _ _, by rw [HX.out]; exact SgAt.nil _ _⟩, below_trans HB.out HB2.out⟩
    rw [hp] at HP
    by_cases he : svE r = 0
    case neg =>
      have HX := Lib.hid (HF.out.2.symm.trans (svs_fault HF.out.1 hx hp (show svE (g :: r).tail ≠ 0 from he)))
      rw [List.tail_cons] at HX
      have hne : (svE r != 0) = true := by simpa using he
      by_cases hc1 : lc = 1
      · have hr0 : r.length = 0 := by omega
        have HV : Hid (∀ W, Below wr.heap.size wr W → Calls Tryz.prog 128 #[.slice (some ⟨b, o, none⟩) 0 0] W fun e w' => (∃ m u, e = .returned (.tuple #[lnv (svV r) m, u, .int .i64 (svE r)]) ∧ TxAt (fun b => W.heap.size < b) w' m (svV r).mods ∧ SgAt (fun b => K b ∧ b < w.heap.size) w' u (svR r)) ∧ Below W.heap.size W w') := fun W hW => esv_any _ _ r W (by rw [List.length_eq_zero_iff.1 hr0]; exact RowAt.nil_of (by simp [maxLen])) HQ.out.1.tail HQ.out.2.1.tail HQ.out.2.2.tail
        subst hc1
        generalize svE r = E at *
        generalize svV r = X at *
        generalize svR r = R at *
        clear HN hkn hac hx hq hp he HSg HSA HQ
        rw [hr0] at *
        go_wp2_with (first | (go_at_call 126; refine HNm.out.mono ?_; rintro e w1 ⟨rfl, hb⟩; have HB1 := Lib.hid hb; clear hb) | (go_at_call 101; refine (HP.out _ HB1.out).mono ?_; rintro e w2 ⟨rfl, hb⟩; have HB2 := Lib.hid (below_trans HB1.out hb); clear hb) | (go_at_call 128; refine (HV.out _ HB2.out).mono ?_; rintro e w3 ⟨⟨m, u3, rfl, ht, hu⟩, hb⟩; have HB3 := Lib.hid (below_trans HB2.out hb); obtain ⟨ma, mc, rfl, -, -⟩ := Cm.TxAt.form ht; obtain ⟨ra, rc, rfl, -, -, -⟩ := hu; clear hb ht))
        simp only [Exit.jump]
        refine bodyPost_ret (v := .tuple #[.slice none 0 0, .slice none 0 0, .int .i64 E]) (by simp [results, Tryz.results103, go_sem]) rfl ?_
        exact ⟨⟨_, _, by rw [HX.out], by rw [HX.out]; exact SrvAt.nil _ _, by rw [HX.out]; exact SgAt.nil _ _⟩, below_trans HB.out (below_trans HB3.out (below_alloc _ _))⟩
      · have HV : Hid (∀ W, Below wr.heap.size wr W → Calls Tryz.prog 128 #[.slice (some ⟨b, o + 1, none⟩) r.length (lc - 1)] W fun e w' => (∃ m u, e = .returned (.tuple #[lnv (svV r) m, u, .int .i64 (svE r)]) ∧ TxAt (fun b => W.heap.size < b) w' m (svV r).mods ∧ SgAt (fun b => K b ∧ b < w.heap.size) w' u (svR r)) ∧ Below W.heap.size W w') := fun W hW => esv_any _ _ r W (RowAt.tail (SgAt.move HSg.out (Below.movesK _ hW))) HQ.out.1.tail HQ.out.2.1.tail HQ.out.2.2.tail
        generalize svE r = E at *
        generalize svV r = X at *
        generalize svR r = R at *
        clear HN hkn hac hx hq hp he HSg HSA HQ
        go_wp2_with (first | (go_at_call 126; refine HNm.out.mono ?_; rintro e w1 ⟨rfl, hb⟩; have HB1 := Lib.hid hb; clear hb) | (go_at_call 101; refine (HP.out _ HB1.out).mono ?_; rintro e w2 ⟨rfl, hb⟩; have HB2 := Lib.hid (below_trans HB1.out hb); clear hb) | (go_at_call 128; refine (HV.out _ HB2.out).mono ?_; rintro e w3 ⟨⟨m, u3, rfl, ht, hu⟩, hb⟩; have HB3 := Lib.hid (below_trans HB2.out hb); obtain ⟨ma, mc, rfl, -, -⟩ := Cm.TxAt.form ht; obtain ⟨ra, rc, rfl, -, -, -⟩ := hu; clear hb ht))
        simp only [Exit.jump]
        refine bodyPost_ret (v := .tuple #[.slice none 0 0, .slice none 0 0, .int .i64 E]) (by simp [results, Tryz.results103, go_sem]) rfl ?_
        exact ⟨⟨_, _, by rw [HX.out], by rw [HX.out]; exact SrvAt.nil _ _, by rw [HX.out]; exact SgAt.nil _ _⟩, below_trans HB.out (below_trans HB3.out (below_alloc _ _))⟩
    obtain ⟨f', ff1, ff2⟩ := svs_more HF.out.1 hx hp (show svE (g :: r).tail = 0 from he)
    rw [List.tail_cons] at ff1 ff2
    have HF2 := Lib.hid (And.intro ff1 (ff2.symm.trans HF.out.2))
    have hc1 : ¬ lc = 1 := by
      intro e
      obtain ⟨-, -, rfl⟩ : True ∧ True ∧ r = [] := ⟨trivial, trivial, List.length_eq_zero_iff.1 (by omega)⟩
      exact absurd he (by decide)
    have hVX : svV r = svX r := by unfold svV; rw [if_pos he]
    have hRN : svR r = svN r := by unfold svR; rw [if_pos he]
    have hrl := svN_len r
    have HV : Hid (∀ W, Below wr.heap.size wr W → Calls Tryz.prog 128 #[.slice (some ⟨b, o + 1, none⟩) r.length (lc - 1)] W fun e w' => (∃ m u, e = .returned (.tuple #[lnv (svX r) m, u, .int .i64 0]) ∧ TxAt (fun b => W.heap.size < b) w' m (svX r).mods ∧ SgAt (fun b => K b ∧ b < w.heap.size) w' u (svN r)) ∧ Below W.heap.size W w') := fun W hW => by
      have := esv_any _ _ r W (RowAt.tail (SgAt.move HSg.out (Below.movesK _ hW))) HQ.out.1.tail HQ.out.2.1.tail HQ.out.2.2.tail
      rw [he, hVX, hRN] at this
      exact this
    have HQ2 : Hid (Nm (svN r) ∧ Sh (svN r) ∧ Qs (svN r)) := ⟨Nm.svN HQ.out.1.tail, Sh.svN HQ.out.2.1.tail, Qs.svN HQ.out.2.2.tail⟩
    have HRL : Hid ((svN r).length ≤ r.length) := hrl
    generalize svX r = X at *
    generalize svN r = R at *
    obtain ⟨ms, y1, y2, y3⟩ := HSv.out
    obtain ⟨il, j1, j2, j3, j4⟩ := infoL
    have HY := Lib.hid (And.intro y1 (And.intro y2 y3))
    have HK := Lib.hid (And.intro hkn hac)
    clear HN hkn hac hx hq hp he HSg HSA HQ ff1 ff2 hVX hRN hrl y1 y2 y3
    go_upto_region 9 with (first | (go_at_call 126; refine HNm.out.mono ?_; rintro e w1 ⟨rfl, hb⟩; have HB1 := Lib.hid hb; clear hb) | (go_at_call 101; refine (HP.out _ HB1.out).mono ?_; rintro e w2 ⟨rfl, hb⟩; have HB2 := Lib.hid (below_trans HB1.out hb); clear hb) | (go_at_call 128; refine (HV.out _ HB2.out).mono ?_; rintro e w3 ⟨⟨m, u3, rfl, ht, hu⟩, hb⟩; have HW3 := Lib.hid hb; have HB3 := Lib.hid (below_trans HB2.out hb); have HT3 := Lib.hid ht; have HU3 := Lib.hid hu; obtain ⟨ma, mc, rfl, -, -⟩ := Cm.TxAt.form ht; obtain ⟨ra, rc, rfl, -, -, -⟩ := hu; clear hb ht))
    have hb4 := below_alloc w3 (.cells #[.string (mk X.proc), .slice ma X.mods.length mc, .int .i64 X.date, .int .i64 X.units, .int .i64 X.billed, .int .i64 X.prior] 47)
    have HB4 := Lib.hid (below_trans HB3.out hb4)
    obtain ⟨d0, d1, d2, d3, d4, d5⟩ := line_cells (heap_alloc_new w3 (.cells #[.string (mk X.proc), .slice ma X.mods.length mc, .int .i64 X.date, .int .i64 X.units, .int .i64 X.billed, .int .i64 X.prior] 47))
    have HT4 := Lib.hid (TxAt.move HT3.out (Below.movesK _ hb4))
    have HU4 := Lib.hid (SgAt.move HU3.out (Below.movesK _ hb4))
    have hsz3 := HB2.out.size
    have hsz32 := HW3.out.size
    clear HT3 HU3 hb4 HNm HP HV HB1 HB3
    generalize w3.alloc (.cells #[.string (mk X.proc), .slice ma X.mods.length mc, .int .i64 X.date, .int .i64 X.units, .int .i64 X.billed, .int .i64 X.prior] 47) = w4 at *
    have hb5 := below_alloc w4 (.cells #[.string (mk X.proc), .slice ma X.mods.length mc, .int .i64 X.date, .int .i64 X.units, .int .i64 X.billed, .int .i64 X.prior] 47)
    have HB5 := Lib.hid (below_trans HB4.out hb5)
    have HBB := Lib.hid (below_trans HB.out HB5.out)
    have HO5 := Lib.hid (own_grw HY.out.2.1 HB5.out)
    have HT5 := Lib.hid (TxAt.move HT4.out (Below.movesK _ hb5))
    have HU5 := Lib.hid (SgAt.move HU4.out (Below.movesK _ hb5))
    have HNw := Lib.hid (World.news_of_block (heap_alloc_new w4 (.cells #[.string (mk X.proc), .slice ma X.mods.length mc, .int .i64 X.date, .int .i64 X.units, .int .i64 X.billed, .int .i64 X.prior] 47)))
    have HON : Hid (∀ z ∈ [Value.string (mk X.proc), .slice ma X.mods.length mc, .int .i64 X.date, .int .i64 X.units, .int .i64 X.billed, .int .i64 X.prior], z.oneCell' = true) := fun z hz => by simp at hz; rcases hz with rfl | rfl | rfl | rfl | rfl | rfl <;> rfl
    have HLN : Hid (acc.length + 1 ≤ maxLen) := by show _ ≤ _; have := HK.out.2; simp only [maxLen]; omega
    have HLB : Hid ((acc.length + 1) * 72 ≤ 140737488355328) := by show _ ≤ _; have := HK.out.2; omega
    have hka := HK.out.1
    rw [← hka] at HO5 HLN HLB
    clear hb5 HT4 HU4 hka
    go_wp2_with (at_builtin; refine wpList_append_own_at _ (by rfl) _ _ 41 (by rfl) w.heap.size 47 il (.agg #[.string ByteArray.empty, .slice none 0 0, .int .i64 0, .int .i64 0, .int .i64 0, .int .i64 0]) 6 72 Tryz.underlying41 j1 j2 j3 j4 (by rfl) (by omega) (.slice sa k sc) k (lcs acc ms) (by rfl) HO5.out ⟨w4.heap.size, 0, none⟩ 1 1 [.string (mk X.proc), .slice ma X.mods.length mc, .int .i64 X.date, .int .i64 X.units, .int .i64 X.billed, .int .i64 X.prior] (by rfl) (by rfl) HNw.out HON.out HLN.out HLB.out HBB.out.size ?_)
    intro v6 w6 hown hgrow hnil hat
    have HB6 := Lib.hid (HBB.out.grown hgrow HBB.out.size fun q hq => (HO5.out.lt q hq).1)
    have HS6 : Hid (SrvAt w.heap.size w6 v6 (acc ++ [X])) := by
      have hka := HK.out.1
      subst hka
      have hlow : ∀ q, (Value.slice sa acc.length sc).ownBlock = some q → q < wr.heap.size := fun q hq => (HY.out.2.1.lt q hq).2
      refine SrvAt.app HY.out.1 HO5.out (fun j x m hx hm => TxAt.move (HY.out.2.2 j x m hx hm) (Below.movesK _ HB5.out)) (TxAt.move HT5.out (moves_weak _ fun q _ hk => ⟨?_, ?_⟩)) hown hgrow (by simpa using hat)
      · have := HB.out.size; omega
      · intro he; have := hlow q he; omega
    have HU6 : Hid (SgAt (fun b => K b ∧ b < w.heap.size) w6 (.slice ra R.length rc) R) := SgAt.move HU5.out (moves_grown hgrow fun q hq hk => ⟨hk, fun he => by have := (HO5.out.lt q he.symm).1; omega⟩)
    obtain ⟨sa2, sc2, rfl⟩ : ∃ sa2 sc2, v6 = .slice sa2 (k + 1) sc2 := by
      obtain ⟨a, c, e⟩ := HS6.out.form
      exact ⟨a, c, by rw [e, List.length_append, ← HK.out.1]; rfl⟩
    clear hown hgrow hnil hat HNw HON HLN HLB HU5 HT5 HO5 HBB HB5
    go_wp2
    go_step3
    refine ⟨rfl, ⟨acc ++ [X], R, ra, sa2, R.length, rc, k + 1, sc2, f', _, _, _, _, _, _, _, _, _, _, _, _, _, _, _, _, _, _, _, _, _, _, _, _, _, _, _, _, _, _, _, _, _, _, _, _, _, _, _, _, rfl, ?_, ⟨?_, rfl, ?_⟩, HU6.out, HQ2.out, HS6.out, HB6.out, HF2.out⟩, ?_⟩
    · have := HK.out; omega
    · rw [List.length_append, ← HK.out.1]; rfl
    · have := HK.out; have := HRL.out; rw [List.length_append]; simp; omega
    · show R.length < r.length + 1
      have := HRL.out; omega
end Go.Proofs.YtpmnepihaljamaaGreatDoor
end
