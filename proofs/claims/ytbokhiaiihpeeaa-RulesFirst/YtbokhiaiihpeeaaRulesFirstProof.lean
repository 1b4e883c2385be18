/-
  RulesFirst holds for every plan, service, number and set: a rule above all others, that applies, says what it sets; all else stays as it was.
-/
import Derived.Test.YtbokhiaiihpeeaaRows
import Derived.WalkKit
import Derived.ProofKit
import Derived.OpenShut
import Derived.ShutString
import Derived.Below
import Derived.Carry
import Derived.Laws.Cover2
import Derived.HandedShaped
import Derived.Test.YtbokhiaiihpeeaaUFirst
import Derived.Test.YtbokhiaiihpeeaaPOpen
import Derived.Test.YtbokhiaiihpeeaaULine
namespace Go.Proofs.Ytbokhiaiihpeeaa.rulesFirst
open Go.ChangeShapes Go.WideShapes Go.ChangeAt Go.RowKit
open Pl (Cd St Ru Pn KsAt StsAt RusAt RuIn Ok1 cdv stv ruv pnv below_alloc below_trans bfive bsix beight below_tr)
open Wo (box_cell box_two keepB heap_far)
open Cm (Ln)
open Ul
set_option linter.unusedVariables false
set_option linter.unusedSimpArgs false
set_option maxRecDepth 100000

theorem own : ownKnob Try.prog.godebug = none := by kernel_rfl

/-! ### the walk: the law returns true -/
set_option maxHeartbeats 16000000 in
theorem walk (w : World) (x0 : Pn) (m0 : Value) (h0 : RusAt All w m0 x0.rules) (z0 : Pl.PnOk x0) (x1 : Ln) (m1 : Value) (h1 : TxAt All w m1 x1.mods) (a2 : Int) (z2 : Cm.I64 a2) (x3 : St) (z3 : Cm.I64 x3.what ∧ Cm.I64 x3.n) :
    Calls Try.prog 7 #[pnv x0 m0, lnv x1 m1, .int .i64 a2, stv x3] w fun e w' => e = .returned (.bool true) ∧ Below w.heap.size w w' := by
  obtain ⟨wh, sn⟩ := x3
  have HZ3 : Hid (Cm.I64 wh ∧ Cm.I64 sn) := z3
  obtain ⟨hb, hz1, hz2, hz3⟩ := box_pls w x0 m0 x1 m1 (.int .i64 wh) (.int .i64 sn)
  have HB := Lib.hid hb
  have HX := Lib.hid hz1
  have HL := Lib.hid hz2
  have HS := Lib.hid hz3
  have HRu := Lib.hid (h0.grw hb)
  have HM := Lib.hid (tx_grw h1 hb)
  have HLt := Lib.hid (light_any x0 m0 x1 m1 _ (h0.grw hb) (tx_grw h1 hb))
  obtain ⟨ma, mc, rfl, hm1, hm2, hm3⟩ := h0.form
  have hm3 : x0.rules.length ≤ 281474976710656 := hm3
  obtain ⟨la, lk, rfl, hl1, hl2⟩ := tx_form h1
  show Calls _ _ #[_, _, _, .agg #[.int .i64 wh, .int .i64 sn]] _ _
  clear h0 h1 hb hz1 hz2 hz3 z3
  go_enter Try.func7, Try.ntmps7
  go_upto_region 1 with fail
  generalize ((w.alloc (.cells #[.int .i64 x0.mode, .int .i64 x0.indDed, .int .i64 x0.famDed, .int .i64 x0.indOop, .int .i64 x0.famOop, .slice ma x0.rules.length mc] 34)).alloc (.cells #[.string (mk x1.proc), .slice la x1.mods.length lk, .int .i64 x1.date, .int .i64 x1.units, .int .i64 x1.billed, .int .i64 x1.prior] 30)).alloc (.cells #[.int .i64 wh, .int .i64 sn] 45) = W at *
  generalize hp : w.heap.size = p0 at *
  obtain ⟨q1, hq1⟩ : ∃ q1, q1 = p0 + 1 := ⟨_, rfl⟩
  rw [← hq1] at HL HS ⊢
  obtain ⟨s1, hs1⟩ : ∃ s1, s1 = q1 + 1 := ⟨_, rfl⟩
  rw [← hs1] at HS ⊢
  clear hq1 hs1
  obtain ⟨x0', x1', x2', x3', x4', x5'⟩ := bsix HX.out
  obtain ⟨y0', y1', y2', y3', y4', y5'⟩ := bsix HL.out
  go_wp2_with fail
  go_at_call 9
  refine HLt.out.mono ?_
  rintro e w1 ⟨⟨bl, rfl, hbl⟩, hb1⟩
  have HB1 := Lib.hid (below_tr hp HB.out hb1)
  have HX1 := Lib.hid (keepB HX.out hb1)
  have HL1 := Lib.hid (keepB HL.out hb1)
  have HS1 := Lib.hid (keepB HS.out hb1)
  have HRu1 := Lib.hid (HRu.out.grw hb1)
  have HM1 := Lib.hid (tx_grw HM.out hb1)
  clear hb1 HB HX HL HS HRu HM HLt x0' x1' x2' x3' x4' x5' y0' y1' y2' y3' y4' y5'
  obtain ⟨x0', x1', x2', x3', x4', x5'⟩ := bsix HX1.out
  obtain ⟨y0', y1', y2', y3', y4', y5'⟩ := bsix HL1.out
  obtain ⟨t0, t1, -, -⟩ := box_two HS1.out
  generalize hnn : x0.rules.length = n at *
  have HN := Lib.hid hnn
  clear hnn
  cases bl
  · clear hbl
    go_wp2_with (go_at_call 10; refine (works_any _).mono ?_; rintro e w9 ⟨rfl, hb9⟩; have HB9 := Lib.hid (below_tr hp HB1.out hb9); clear hb9)
    go_ret
    exact ⟨rfl, by first | exact HB9.out | (rw [hp]; exact HB9.out)⟩
  have hlen := hbl rfl
  clear hbl
  by_cases hw1 : wh < 1
  · skip
    go_wp2_with (go_at_call 10; refine (works_any _).mono ?_; rintro e w9 ⟨rfl, hb9⟩; have HB9 := Lib.hid (below_tr hp HB1.out hb9); clear hb9)
    go_ret
    exact ⟨rfl, by first | exact HB9.out | (rw [hp]; exact HB9.out)⟩
  by_cases hw4 : 4 < wh
  · skip
    go_wp2_with (go_at_call 10; refine (works_any _).mono ?_; rintro e w9 ⟨rfl, hb9⟩; have HB9 := Lib.hid (below_tr hp HB1.out hb9); clear hb9)
    go_ret
    exact ⟨rfl, by first | exact HB9.out | (rw [hp]; exact HB9.out)⟩
  go_wp2
  go_loopg [9] (n) (fun g z wr => ∃ i : Nat, i ≤ n ∧ g = n - i ∧ z = .int .i64 i ∧ wr = w1 ∧ Hid (∀ c, c < i → rankL x0.rules c < 9999))
  case atStart => exact ⟨0, Nat.zero_le _, rfl, rfl, rfl, fun c h => by omega⟩
  case round =>
    obtain ⟨i, hi, hgk, rfl, hwr, HRk⟩ := hrel
    rw [hwr]
    clear hwr
    by_cases hlt : i < n
    case pos =>
      obtain ⟨b, o, kv, uv, sv, rfl, -, -, -, -⟩ := RusAt.get HRu1.out i (by rw [HN.out]; exact hlt)
      have hrk := rank_at HRu1.out i (by rw [HN.out]; exact hlt)
      have hlt' : (i : Int) < (n : Int) := by omega
      by_cases hge : 9999 ≤ rankL x0.rules i
      · generalize rankL x0.rules i = RI at *
        go_wp2_with (go_at_call 10; refine (works_any _).mono ?_; rintro e w9 ⟨rfl, hb9⟩; have HB9 := Lib.hid (below_tr hp HB1.out hb9); clear hb9)
        go_ret
        exact ⟨rfl, by first | exact HB9.out | (rw [hp]; exact HB9.out)⟩
      · have HRn : Hid (∀ c, c < i + 1 → rankL x0.rules c < 9999) := fun c hc => by
          rcases Nat.lt_or_ge c i with h | h
          · exact HRk.out c h
          · obtain rfl : c = i := by omega
            omega
        clear HRk
        generalize rankL x0.rules i = RI at *
        go_wp2
        go_roundg (n - (i + 1))
        case rel => exact ⟨i + 1, by omega, rfl, by go_num, rfl, HRn.out⟩
        case measure => omega
    have hin2 : n = i := by omega
    subst hin2
    obtain ⟨L, hL1, hL2, hL3⟩ := rows_any HRu1.out
    have HLk : Hid (L.length = n) := by show _ = _; rw [← HN.out, ← hL1]; simp
    have HLs := Lib.hid (And.intro hL1 (And.intro hL2 hL3))
    have hbz := below_alloc w1 (.cells #[.int .i64 x0.mode, .int .i64 x0.indDed, .int .i64 x0.famDed, .int .i64 x0.indOop, .int .i64 x0.famOop, .slice none 0 0] 34)
    have HZ := Lib.hid (heap_alloc_new w1 (.cells #[.int .i64 x0.mode, .int .i64 x0.indDed, .int .i64 x0.famDed, .int .i64 x0.indOop, .int .i64 x0.famOop, .slice none 0 0] 34))
    have HT := Lib.hid fun W' (hW : Below w1.heap.size (w1.alloc (.cells #[.int .i64 x0.mode, .int .i64 x0.indDed, .int .i64 x0.famDed, .int .i64 x0.indOop, .int .i64 x0.famOop, .slice none 0 0] 34)) W') => hbz.trans hW
    have HIN := Lib.hid fun W' (hW : Below w1.heap.size (w1.alloc (.cells #[.int .i64 x0.mode, .int .i64 x0.indDed, .int .i64 x0.famDed, .int .i64 x0.indOop, .int .i64 x0.famOop, .slice none 0 0] 34)) W') (t : Rr.Rw) (ht : t ∈ L) => ru_lo (q := w1.heap.size) (hL3 t ht) (HT.out W' hW) (Nat.le_refl _)
    have HTX := Lib.hid fun W' (hW : Below w1.heap.size (w1.alloc (.cells #[.int .i64 x0.mode, .int .i64 x0.indDed, .int .i64 x0.famDed, .int .i64 x0.indOop, .int .i64 x0.famOop, .slice none 0 0] 34)) W') => tx_grw HM1.out (HT.out W' hW)
    have HRP := Lib.hid fun W' (hW : Below w1.heap.size (w1.alloc (.cells #[.int .i64 x0.mode, .int .i64 x0.indDed, .int .i64 x0.famDed, .int .i64 x0.indOop, .int .i64 x0.famOop, .slice none 0 0] 34)) W') => HRu1.out.grw (HT.out W' hW)
    have HXQ := Lib.hid fun W' (hW : Below w1.heap.size (w1.alloc (.cells #[.int .i64 x0.mode, .int .i64 x0.indDed, .int .i64 x0.famDed, .int .i64 x0.indOop, .int .i64 x0.famOop, .slice none 0 0] 34)) W') => And.intro (bsix (keepB HX1.out (HT.out W' hW))) (And.intro (bsix (keepB HL1.out (HT.out W' hW))) (box_two (keepB HS1.out (HT.out W' hW))))
    have HCL : Hid (n = 0 ∨ ∃ b o, ma = some ⟨b, o, none⟩ ∧ ∀ j u, (Rr.rcs L)[j]? = some u → (w1.alloc (.cells #[.int .i64 x0.mode, .int .i64 x0.indDed, .int .i64 x0.famDed, .int .i64 x0.indOop, .int .i64 x0.famOop, .slice none 0 0] 34)).cell? ⟨b, o + j, none⟩ = some u) := hL2.imp id (by
      rintro ⟨b, o, e, hb, hc⟩
      exact ⟨b, o, e, fun j u h => by rw [World.cell?_of_block (w := w1) (hbz.block b hb)]; exact hc j u h⟩)
    have HB5 := Lib.hid (below_tr hp HB1.out hbz)
    have HPQ : Hid (p0 ≤ w1.heap.size) := by
      have h1 := HB1.out.size
      rw [hp] at h1
      exact h1
    have HQW : Hid (w1.heap.size < (w1.alloc (.cells #[.int .i64 x0.mode, .int .i64 x0.indDed, .int .i64 x0.famDed, .int .i64 x0.indOop, .int .i64 x0.famOop, .slice none 0 0] 34)).heap.size) := by show _ < _; simp
    clear hbz hL1 hL2 hL3
    go_upto_region 10 with fail
    clear x0' x1' x2' x3' x4' x5' y0' y1' y2' y3' y4' y5' t0 t1 HT
    generalize w1.alloc (.cells #[.int .i64 x0.mode, .int .i64 x0.indDed, .int .i64 x0.famDed, .int .i64 x0.indOop, .int .i64 x0.famOop, .slice none 0 0] 34) = W5 at *
    generalize w1.heap.size = qb at *
    have HQ5 := Lib.hid (Below.refl qb W5)
    obtain ⟨⟨x0', x1', x2', x3', x4', x5'⟩, -, t0, t1, -, -⟩ := HXQ.out _ HQ5.out
    obtain ⟨c0, c1, c2, c3, c4, c5⟩ := bsix HZ.out
    have HNil : Hid (W5.ownsRow (qb + 1) 27 8 (.slice none 0 0) (([] : List Rr.Rw)).length (Rr.rcs (([] : List Rr.Rw)))) := World.ownsRow_nil _ _ _ _
    have HLB : Hid (([] : List Rr.Rw).length + L.length ≤ 1000) := by show _ ≤ _; have := HLk.out; simp; omega
    have HONE := Lib.hid (Rr.rcs_one (K := fun b => b < qb) (w := W5) L (fun t ht => HIN.out W5 HQ5.out t ht))
    have HQ1 : Hid (qb + 1 ≤ W5.heap.size) := HQW.out
    go_wp2_with (at_builtin; refine wpList_plain (by rfl) (fun K hK => ?_); refine Rr.wp_app _ _ (by rfl) (qb + 1) (.slice none 0 0) [] (by rfl) HNil.out ma n mc L (by rfl) HLk.out.symm HCL.out HONE.out HLB.out HQ1.out ?_)
    intro vn w6 hown hgr hat
    have HBQ := Lib.hid (grow_below (B := qb) hgr (Nat.le_of_lt HQW.out) (fun b hb => by cases hb))
    have HBX := Lib.hid (grow_box hgr HNil.out (Nat.lt_succ_self qb) HZ.out)
    obtain ⟨fa, fn, fc, rfl⟩ := own_form hown
    have HOW : Hid (w6.ownsRow (qb + 1) 27 8 (.slice fa fn fc) (L).length (Rr.rcs (L))) := hown
    refine hK _ _ ?_
    clear hK hown hgr hat HNil HLB HONE HZ HQ1 HCL c0 c1 c2 c3 c4 c5 x0' x1' x2' x3' x4' x5' t0 t1
    obtain ⟨c0, c1, c2, c3, c4, c5⟩ := bsix HBX.out
    have fz := bsix_soft HBX.out 5
    have HS6 := Lib.hid (set5 HBX.out (.slice fa fn fc))
    have HOS := Lib.hid (own_set HOW.out (Nat.lt_succ_self qb) 5 (.slice fa fn fc))
    have HBS := Lib.hid (HBQ.out.setCell (p := ⟨qb, 5, none⟩) (Nat.le_refl _) (.slice fa fn fc))
    go_upto_region 11 with fail
    clear HBX HOW HBQ c0 c1 c2 c3 c4 c5 fz
    generalize w6.setCell ⟨qb, 5, none⟩ (.slice fa fn fc) = w7 at *
    have HQ7 : Hid (qb < w7.heap.size) := (Array.getElem?_eq_some_iff.1 HS6.out).1
    obtain ⟨-, -, t0, t1, -, -⟩ := HXQ.out _ HBS.out
    obtain ⟨c0, c1, c2, c3, c4, c5⟩ := bsix HS6.out
    have ba := below_alloc w7 (.cells #[.int .i64 wh, .int .i64 sn] 45)
    have bb := below_alloc (w7.alloc (.cells #[.int .i64 wh, .int .i64 sn] 45)) (.cells #[.int .i64 9999, .int .i64 0, .string ⟨#[]⟩, .string ⟨#[]⟩, .int .i64 0, .slice none 0 0, .slice none 0 0, .slice (some ⟨w7.heap.size, 0, none⟩) 1 1] 27)
    have za := keepB (heap_alloc_new w7 (.cells #[.int .i64 wh, .int .i64 sn] 45)) bb
    have zb := heap_alloc_new (w7.alloc (.cells #[.int .i64 wh, .int .i64 sn] 45)) (.cells #[.int .i64 9999, .int .i64 0, .string ⟨#[]⟩, .string ⟨#[]⟩, .int .i64 0, .slice none 0 0, .slice none 0 0, .slice (some ⟨w7.heap.size, 0, none⟩) 1 1] 27)
    rw [show (w7.alloc (.cells #[.int .i64 wh, .int .i64 sn] 45)).heap.size = w7.heap.size + 1 by simp] at zb
    have hb8 := below_trans ba bb
    have HOW8 := Lib.hid (own_far HOS.out hb8)
    have HBX8 := Lib.hid (keepB HS6.out hb8)
    have HBq8 := Lib.hid (HBS.out.trans (hb8.mono (Nat.le_of_lt HQ7.out)))
    have HQ8 : Hid (qb + 1 ≤ ((w7.alloc (.cells #[.int .i64 wh, .int .i64 sn] 45)).alloc (.cells #[.int .i64 9999, .int .i64 0, .string ⟨#[]⟩, .string ⟨#[]⟩, .int .i64 0, .slice none 0 0, .slice none 0 0, .slice (some ⟨w7.heap.size, 0, none⟩) 1 1] 27)).heap.size) := Nat.lt_of_lt_of_le HQ7.out hb8.size
    have HZa := Lib.hid za
    have HZb := Lib.hid zb
    have HLB : Hid (L.length + [t9 ⟨wh, sn⟩ w7.heap.size].length ≤ 1000) := by show _ ≤ _; rw [HLk.out]; simp; omega
    have HONE := Lib.hid (Rr.rcs_one (K := All) (w := ((w7.alloc (.cells #[.int .i64 wh, .int .i64 sn] 45)).alloc (.cells #[.int .i64 9999, .int .i64 0, .string ⟨#[]⟩, .string ⟨#[]⟩, .int .i64 0, .slice none 0 0, .slice none 0 0, .slice (some ⟨w7.heap.size, 0, none⟩) 1 1] 27))) [t9 ⟨wh, sn⟩ w7.heap.size] (fun t ht => by rcases List.mem_singleton.1 ht with rfl; exact top_in (x := ⟨wh, sn⟩) za HZ3.out))
    have HOLT : Hid (∀ b, (Value.slice fa fn fc).ownBlock = some b → b < w7.heap.size) := fun b hb => own_lt HOS.out b hb
    have HZL : Hid (w7.heap.size < ((w7.alloc (.cells #[.int .i64 wh, .int .i64 sn] 45)).alloc (.cells #[.int .i64 9999, .int .i64 0, .string ⟨#[]⟩, .string ⟨#[]⟩, .int .i64 0, .slice none 0 0, .slice none 0 0, .slice (some ⟨w7.heap.size, 0, none⟩) 1 1] 27)).heap.size) := (Array.getElem?_eq_some_iff.1 za).1
    have HG1 : Hid (qb < w7.heap.size) := HQ7.out
    clear ba bb za zb hb8
    go_wp2_with (at_builtin; refine wpList_plain (by rfl) (fun K hK => ?_); refine Rr.wp_app _ _ (by rfl) (qb + 1) (.slice fa fn fc) L (by rfl) HOW8.out (some ⟨w7.heap.size + 1, 0, none⟩) 1 1 [t9 ⟨wh, sn⟩ w7.heap.size] (by rfl) rfl (Or.inr ⟨w7.heap.size + 1, 0, rfl, fun j u hj => one_cells (t := t9 ⟨wh, sn⟩ w7.heap.size) HZb.out j u hj⟩) HONE.out HLB.out HQ8.out ?_)
    intro vn w9 hown hgr hat
    have HBQ := Lib.hid (HBq8.out.trans (grow_below (B := qb) hgr (Nat.le_of_succ_le HQ8.out) (fun b hb => Nat.le_of_succ_le (own_ge HOW8.out b hb))))
    have HBX := Lib.hid (grow_box hgr HOW8.out (Nat.lt_succ_self qb) HBX8.out)
    have HZ9 : Hid (w9.heap[w7.heap.size]? = some (.cells #[.int .i64 wh, .int .i64 sn] 45 (0, 0))) := by
      show _ = _
      rw [hgr.block _ HZL.out (fun e => by have := HOLT.out _ e.symm; omega)]
      exact HZa.out
    obtain ⟨fa3, fn3, fc3, rfl⟩ := own_form hown
    have HOW := Lib.hid hown
    refine hK _ _ ?_
    clear hK hown hgr hat HLB HONE HOLT HZa HZb HOW8 HBX8 HBq8 c0 c1 c2 c3 c4 c5 t0 t1
    obtain ⟨c0, c1, c2, c3, c4, c5⟩ := bsix HBX.out
    have fz := bsix_soft HBX.out 5
    have HBX3 := Lib.hid (set5 HBX.out (.slice fa3 fn3 fc3))
    have HOW3 := Lib.hid (own_set HOW.out (Nat.lt_succ_self qb) 5 (.slice fa3 fn3 fc3))
    have HBq3 := Lib.hid (HBQ.out.setCell (p := ⟨qb, 5, none⟩) (Nat.le_refl _) (.slice fa3 fn3 fc3))
    have HZ10 := Lib.hid (heap_far (j := 5) (u := .slice fa3 fn3 fc3) HZ9.out (Nat.ne_of_gt HG1.out))
    go_upto_region 12 with fail
    clear HBX HOW HBQ HZ9 c0 c1 c2 c3 c4 c5 fz HOS HS6 HBS
    generalize w9.setCell ⟨qb, 5, none⟩ (.slice fa3 fn3 fc3) = w10 at *
    generalize w7.heap.size = g1 at *
    have HLen : Hid ((L ++ [t9 ⟨wh, sn⟩ g1]).length ≤ 1000) := by show _ ≤ _; rw [List.length_append, HLk.out]; simp; omega
    have HQ10 : Hid (qb < w10.heap.size) := (Array.getElem?_eq_some_iff.1 HBX3.out).1
    have HUP := Lib.hid fun W' (hW : Below w10.heap.size w10 W') => HBq3.out.trans (hW.mono (Nat.le_of_lt HQ10.out))
    have HOW4 : Hid (w10.ownsRow (qb + 1) 27 8 (.slice fa3 fn3 fc3) (L ++ [t9 ⟨wh, sn⟩ g1]).length (Rr.rcs (L ++ [t9 ⟨wh, sn⟩ g1]))) := by
      have h := HOW3.out
      unfold World.ownsRow at h ⊢
      rw [List.length_append]
      exact h
    have HQR := Lib.hid fun W' (hW : Below w10.heap.size w10 W') => Rr.own_rus (K := All) (own_far HOW4.out hW) (fun t ht => by
      rcases List.mem_append.1 ht with h | h
      · exact all_ru (HIN.out W' (HUP.out W' hW) t h) (Below.refl _ _)
      · rcases List.mem_singleton.1 h with rfl
        exact top_in (x := ⟨wh, sn⟩) (keepB HZ10.out hW) HZ3.out) HLen.out
    have HEQ : Hid (benV x1 a2 ((L ++ [t9 ⟨wh, sn⟩ g1]).map (·.1)) = benv (if wh = 1 then sn else valV x1 a2 1 x0.rules) (if wh = 2 then sn else valV x1 a2 2 x0.rules) (if wh = 3 then sn else valV x1 a2 3 x0.rules) (if wh = 4 then sn else valV x1 a2 4 x0.rules)) := by
      show _ = _
      have e1 : (L ++ [t9 ⟨wh, sn⟩ g1]).map (·.1) = x0.rules ++ [top ⟨wh, sn⟩] := by rw [List.map_append, HLs.out.1]; rfl
      rw [e1]
      exact top_vals x1 a2 x0.rules ⟨wh, sn⟩ (fun c hc => HRk.out c (by rw [← HN.out]; exact hc))
    have HRs := Lib.hid fun W' (hW : Below w10.heap.size w10 W') => res_any x0 _ x1 _ a2 W' (HRP.out W' (HUP.out W' hW)) (HTX.out W' (HUP.out W' hW))
    have HRq := Lib.hid fun W' (hW : Below w10.heap.size w10 W') => res_any ⟨x0.mode, x0.indDed, x0.famDed, x0.indOop, x0.famOop, (L ++ [t9 ⟨wh, sn⟩ g1]).map (·.1)⟩ (.slice fa3 fn3 fc3) x1 _ a2 W' (HQR.out W' hW) (HTX.out W' (HUP.out W' hW))
    change Hid (∀ W' (hW : Below w10.heap.size w10 W'), Calls _ _ _ _ fun e w' => e = .returned (benV x1 a2 ((L ++ [t9 ⟨wh, sn⟩ g1]).map (·.1))) ∧ _) at HRq
    rw [HEQ.out] at HRq
    change Hid (∀ W' (hW : Below w10.heap.size w10 W'), Calls _ _ _ _ fun e w' => e = .returned (benv (valV x1 a2 1 x0.rules) (valV x1 a2 2 x0.rules) (valV x1 a2 3 x0.rules) (valV x1 a2 4 x0.rules)) ∧ _) at HRs
    have HXK := Lib.hid fun W' (hW : Below w10.heap.size w10 W') => And.intro (HXQ.out W' (HUP.out W' hW)) (bsix (keepB HBX3.out hW))
    generalize valV x1 a2 1 x0.rules = V1 at *
    generalize valV x1 a2 2 x0.rules = V2 at *
    generalize valV x1 a2 3 x0.rules = V3 at *
    generalize valV x1 a2 4 x0.rules = V4 at *
    obtain ⟨Q1, hQ1⟩ : ∃ z, Hid (z = if wh = 1 then sn else V1) := ⟨_, rfl⟩
    obtain ⟨Q2, hQ2⟩ : ∃ z, Hid (z = if wh = 2 then sn else V2) := ⟨_, rfl⟩
    obtain ⟨Q3, hQ3⟩ : ∃ z, Hid (z = if wh = 3 then sn else V3) := ⟨_, rfl⟩
    obtain ⟨Q4, hQ4⟩ : ∃ z, Hid (z = if wh = 4 then sn else V4) := ⟨_, rfl⟩
    rw [← hQ1.out, ← hQ2.out, ← hQ3.out, ← hQ4.out] at HRq
    have HD := Lib.hid (Below.drew (Below.refl w10.heap.size w10))
    have HBF := Lib.hid (HB5.out.trans (HBq3.out.mono HPQ.out))
    clear HQR HEQ HOW3 HOW4 HIN HRP HTX HZ10 HLs HRk HLen HRu1 HM1 HX1 HL1 HS1
    go_cut [11, 12] (fun s11 s12 wx => ∃ ga gb : Nat, s11 = .pointer (some ⟨ga, 0, none⟩) ∧ s12 = .pointer (some ⟨gb, 0, none⟩) ∧ Hid (ga ≠ gb) ∧ Hid (w10.heap.size ≤ ga) ∧ Hid (wx.heap[ga]? = some (.cells (benC V1 V2 V3 V4) 39 (0, 0))) ∧ Hid (wx.heap[gb]? = some (.cells (benC Q1 Q2 Q3 Q4) 39 (0, 0))) ∧ Hid (Below w10.heap.size w10 wx))
    case first =>
      refine Ri.wp_region_tailX 10 (by kernel_rfl) (by kernel_rfl) (by kernel_rfl) (by decide) (by kernel_rfl) (fun Wx => Below w10.heap.size w10 Wx) (fun kz vs wz => (fun kx vx wx => match kx with | 0 => vx = pnv x0 (.slice ma n mc) | 1 => vx = lnv x1 (.slice la x1.mods.length lk) | 2 => vx = .int .i64 a2 | 3 => vx = benv V1 V2 V3 V4 | 4 => vx = pnv ⟨x0.mode, x0.indDed, x0.famDed, x0.indOop, x0.famOop, (L ++ [t9 ⟨wh, sn⟩ g1]).map (·.1)⟩ (.slice fa3 fn3 fc3) | 5 => vx = lnv x1 (.slice la x1.mods.length lk) | 6 => vx = .int .i64 a2 | 7 => vx = benv Q1 Q2 Q3 Q4 | 8 => (∃ g, vx = .pointer (some ⟨g, 0, none⟩) ∧ w10.heap.size ≤ g ∧ wx.heap[g]? = some (.cells #[.bool false, .bool false, .int .i64 0, .int .i64 0] 39 (0, 0))) | 9 => (∃ g, vx = .pointer (some ⟨g, 0, none⟩) ∧ w10.heap.size ≤ g ∧ wx.heap[g]? = some (.cells #[.bool false, .bool false, .int .i64 0, .int .i64 0] 39 (0, 0))) | _ => True : Nat → Value → World → Prop) kz (vs kz) wz) (fun lst vs => lst 8 = true → lst 9 = true → vs 8 ≠ vs 9) (fun kz => [kz]) (by kernel_rfl) (fun jz vs iz vz wz hiz hz => Ri.loc_own (F := (fun kx vx wx => match kx with | 0 => vx = pnv x0 (.slice ma n mc) | 1 => vx = lnv x1 (.slice la x1.mods.length lk) | 2 => vx = .int .i64 a2 | 3 => vx = benv V1 V2 V3 V4 | 4 => vx = pnv ⟨x0.mode, x0.indDed, x0.famDed, x0.indOop, x0.famOop, (L ++ [t9 ⟨wh, sn⟩ g1]).map (·.1)⟩ (.slice fa3 fn3 fc3) | 5 => vx = lnv x1 (.slice la x1.mods.length lk) | 6 => vx = .int .i64 a2 | 7 => vx = benv Q1 Q2 Q3 Q4 | 8 => (∃ g, vx = .pointer (some ⟨g, 0, none⟩) ∧ w10.heap.size ≤ g ∧ wx.heap[g]? = some (.cells #[.bool false, .bool false, .int .i64 0, .int .i64 0] 39 (0, 0))) | 9 => (∃ g, vx = .pointer (some ⟨g, 0, none⟩) ∧ w10.heap.size ≤ g ∧ wx.heap[g]? = some (.cells #[.bool false, .bool false, .int .i64 0, .int .i64 0] 39 (0, 0))) | _ => True : Nat → Value → World → Prop)) jz vs iz vz wz hiz hz) HD.out ?_ ⟨⟨rfl, ?_⟩, ⟨rfl, ?_⟩, ⟨rfl, ?_⟩, ⟨rfl, ?_⟩, ⟨rfl, ?_⟩, ⟨rfl, ?_⟩, ⟨rfl, ?_⟩, ⟨rfl, ?_⟩, ⟨rfl, ?_⟩, ⟨rfl, ?_⟩, trivial⟩ ?_
      · intro vs hvs
        intro h1
        cases h1
      · intro vs Wx A lst hA hB hls hX hno hpre K hK
        have e4 := (hA 4).trans (show _ = Value.pointer (some ⟨p0, 0, none⟩) by kernel_rfl)
        obtain ⟨⟨⟨x0', x1', x2', x3', x4', x5'⟩, ⟨y0', y1', y2', y3', y4', y5'⟩, t0, t1, -, -⟩, ⟨c0, c1, c2, c3, c4, c5⟩⟩ := HXK.out Wx hB
        clear hA hpre
        go_simp
        first | exact hK _ _ hB rfl (fun _ _ h => h) hX | exact hK _ _ hB trivial (fun _ _ h => h) hX | (rw [if_neg (by omega)]; go_simp; exact hK _ _ hB rfl (fun _ _ h => h) hX)
      · intro vs Wx A lst hA hB hls hX hno hpre K hK
        have e5 := (hA 5).trans (show _ = Value.pointer (some ⟨q1, 0, none⟩) by kernel_rfl)
        obtain ⟨⟨⟨x0', x1', x2', x3', x4', x5'⟩, ⟨y0', y1', y2', y3', y4', y5'⟩, t0, t1, -, -⟩, ⟨c0, c1, c2, c3, c4, c5⟩⟩ := HXK.out Wx hB
        clear hA hpre
        go_simp
        first | exact hK _ _ hB rfl (fun _ _ h => h) hX | exact hK _ _ hB trivial (fun _ _ h => h) hX | (rw [if_neg (by omega)]; go_simp; exact hK _ _ hB rfl (fun _ _ h => h) hX)
      · intro vs Wx A lst hA hB hls hX hno hpre K hK
        have e2 := (hA 2).trans (show _ = Value.int .i64 a2 by kernel_rfl)
        clear hA hpre
        go_simp
        first | exact hK _ _ hB rfl (fun _ _ h => h) hX | exact hK _ _ hB trivial (fun _ _ h => h) hX | (rw [if_neg (by omega)]; go_simp; exact hK _ _ hB rfl (fun _ _ h => h) hX)
      · intro vs Wx A lst hA hB hls hX hno hpre K hK
        have e59 := ((hA 59).trans (show _ = vs 0 by kernel_rfl)).trans (by first | exact hpre.1 rfl | exact hpre.2.1 rfl | exact hpre.2.2.1 rfl | exact hpre.2.2.2.1 rfl | exact hpre.2.2.2.2.1 rfl | exact hpre.2.2.2.2.2.1 rfl | exact hpre.2.2.2.2.2.2.1 rfl | exact hpre.2.2.2.2.2.2.2.1 rfl | exact hpre.2.2.2.2.2.2.2.2.1 rfl | exact hpre.2.2.2.2.2.2.2.2.2.1 rfl)
        have e60 := ((hA 60).trans (show _ = vs 1 by kernel_rfl)).trans (by first | exact hpre.1 rfl | exact hpre.2.1 rfl | exact hpre.2.2.1 rfl | exact hpre.2.2.2.1 rfl | exact hpre.2.2.2.2.1 rfl | exact hpre.2.2.2.2.2.1 rfl | exact hpre.2.2.2.2.2.2.1 rfl | exact hpre.2.2.2.2.2.2.2.1 rfl | exact hpre.2.2.2.2.2.2.2.2.1 rfl | exact hpre.2.2.2.2.2.2.2.2.2.1 rfl)
        have e61 := ((hA 61).trans (show _ = vs 2 by kernel_rfl)).trans (by first | exact hpre.1 rfl | exact hpre.2.1 rfl | exact hpre.2.2.1 rfl | exact hpre.2.2.2.1 rfl | exact hpre.2.2.2.2.1 rfl | exact hpre.2.2.2.2.2.1 rfl | exact hpre.2.2.2.2.2.2.1 rfl | exact hpre.2.2.2.2.2.2.2.1 rfl | exact hpre.2.2.2.2.2.2.2.2.1 rfl | exact hpre.2.2.2.2.2.2.2.2.2.1 rfl)
        clear hA hpre
        go_simp
        go_at_call 15
        refine (HRs.out _ hB).mono ?_
        rintro e w3 ⟨rfl, hb3⟩
        refine hK _ _ (below_trans hB hb3) rfl (fun jz hj hz => ?_) hX
        match jz, hj, hz with
        | 0, _, hz => exact hz
        | 1, _, hz => exact hz
        | 2, _, hz => exact hz
        | 3, _, hz => exact hz
        | 4, _, hz => exact hz
        | 5, _, hz => exact hz
        | 6, _, hz => exact hz
        | 7, _, hz => exact hz
        | 8, _, hz => exact (hz.elim fun g h => ⟨g, h.1, h.2.1, keepB h.2.2 hb3⟩)
        | 9, _, hz => exact (hz.elim fun g h => ⟨g, h.1, h.2.1, keepB h.2.2 hb3⟩)
        | n + 10, _, hz => exact hz
      · intro vs Wx A lst hA hB hls hX hno hpre K hK
        have e10 := (hA 10).trans (show _ = Value.pointer (some ⟨qb, 0, none⟩) by kernel_rfl)
        obtain ⟨⟨⟨x0', x1', x2', x3', x4', x5'⟩, ⟨y0', y1', y2', y3', y4', y5'⟩, t0, t1, -, -⟩, ⟨c0, c1, c2, c3, c4, c5⟩⟩ := HXK.out Wx hB
        clear hA hpre
        go_simp
        first | exact hK _ _ hB rfl (fun _ _ h => h) hX | exact hK _ _ hB trivial (fun _ _ h => h) hX | (rw [if_neg (by omega)]; go_simp; exact hK _ _ hB rfl (fun _ _ h => h) hX)
      · intro vs Wx A lst hA hB hls hX hno hpre K hK
        have e5 := (hA 5).trans (show _ = Value.pointer (some ⟨q1, 0, none⟩) by kernel_rfl)
        obtain ⟨⟨⟨x0', x1', x2', x3', x4', x5'⟩, ⟨y0', y1', y2', y3', y4', y5'⟩, t0, t1, -, -⟩, ⟨c0, c1, c2, c3, c4, c5⟩⟩ := HXK.out Wx hB
        clear hA hpre
        go_simp
        first | exact hK _ _ hB rfl (fun _ _ h => h) hX | exact hK _ _ hB trivial (fun _ _ h => h) hX | (rw [if_neg (by omega)]; go_simp; exact hK _ _ hB rfl (fun _ _ h => h) hX)
      · intro vs Wx A lst hA hB hls hX hno hpre K hK
        have e2 := (hA 2).trans (show _ = Value.int .i64 a2 by kernel_rfl)
        clear hA hpre
        go_simp
        first | exact hK _ _ hB rfl (fun _ _ h => h) hX | exact hK _ _ hB trivial (fun _ _ h => h) hX | (rw [if_neg (by omega)]; go_simp; exact hK _ _ hB rfl (fun _ _ h => h) hX)
      · intro vs Wx A lst hA hB hls hX hno hpre K hK
        have e63 := ((hA 63).trans (show _ = vs 4 by kernel_rfl)).trans (by first | exact hpre.1 rfl | exact hpre.2.1 rfl | exact hpre.2.2.1 rfl | exact hpre.2.2.2.1 rfl | exact hpre.2.2.2.2.1 rfl | exact hpre.2.2.2.2.2.1 rfl | exact hpre.2.2.2.2.2.2.1 rfl | exact hpre.2.2.2.2.2.2.2.1 rfl | exact hpre.2.2.2.2.2.2.2.2.1 rfl | exact hpre.2.2.2.2.2.2.2.2.2.1 rfl)
        have e64 := ((hA 64).trans (show _ = vs 5 by kernel_rfl)).trans (by first | exact hpre.1 rfl | exact hpre.2.1 rfl | exact hpre.2.2.1 rfl | exact hpre.2.2.2.1 rfl | exact hpre.2.2.2.2.1 rfl | exact hpre.2.2.2.2.2.1 rfl | exact hpre.2.2.2.2.2.2.1 rfl | exact hpre.2.2.2.2.2.2.2.1 rfl | exact hpre.2.2.2.2.2.2.2.2.1 rfl | exact hpre.2.2.2.2.2.2.2.2.2.1 rfl)
        have e65 := ((hA 65).trans (show _ = vs 6 by kernel_rfl)).trans (by first | exact hpre.1 rfl | exact hpre.2.1 rfl | exact hpre.2.2.1 rfl | exact hpre.2.2.2.1 rfl | exact hpre.2.2.2.2.1 rfl | exact hpre.2.2.2.2.2.1 rfl | exact hpre.2.2.2.2.2.2.1 rfl | exact hpre.2.2.2.2.2.2.2.1 rfl | exact hpre.2.2.2.2.2.2.2.2.1 rfl | exact hpre.2.2.2.2.2.2.2.2.2.1 rfl)
        clear hA hpre
        go_simp
        go_at_call 15
        refine (HRq.out _ hB).mono ?_
        rintro e w3 ⟨rfl, hb3⟩
        refine hK _ _ (below_trans hB hb3) rfl (fun jz hj hz => ?_) hX
        match jz, hj, hz with
        | 0, _, hz => exact hz
        | 1, _, hz => exact hz
        | 2, _, hz => exact hz
        | 3, _, hz => exact hz
        | 4, _, hz => exact hz
        | 5, _, hz => exact hz
        | 6, _, hz => exact hz
        | 7, _, hz => exact hz
        | 8, _, hz => exact (hz.elim fun g h => ⟨g, h.1, h.2.1, keepB h.2.2 hb3⟩)
        | 9, _, hz => exact (hz.elim fun g h => ⟨g, h.1, h.2.1, keepB h.2.2 hb3⟩)
        | n + 10, _, hz => exact hz
      · intro vs Wx A lst hA hB hls hX hno hpre K hK
        clear hA hpre
        go_simp
        refine hK _ _ (below_trans hB (below_alloc Wx _)) ⟨_, rfl, hB.size, heap_alloc_new Wx _⟩ (fun jz hj hz => ?_) (fun _ hl e => ?_)
        · match jz, hj, hz with
          | 0, _, hz => exact hz
          | 1, _, hz => exact hz
          | 2, _, hz => exact hz
          | 3, _, hz => exact hz
          | 4, _, hz => exact hz
          | 5, _, hz => exact hz
          | 6, _, hz => exact hz
          | 7, _, hz => exact hz
          | 8, hj, _ => exact absurd rfl hj
          | 9, _, hz => exact (hz.elim fun g h => ⟨g, h.1, h.2.1, keepB h.2.2 (below_alloc Wx _)⟩)
          | n + 10, _, hz => exact hz
        · obtain ⟨g, e1, -, h3⟩ := hls 9 hl
          have e2 : Value.pointer (some ⟨Wx.heap.size, 0, none⟩) = vs 9 := e
          rw [e1] at e2
          have e3 : Wx.heap.size = g := by simpa using e2
          have := (Array.getElem?_eq_some_iff.1 h3).1
          omega
      · intro vs Wx A lst hA hB hls hX hno hpre K hK
        clear hA hpre
        go_simp
        refine hK _ _ (below_trans hB (below_alloc Wx _)) ⟨_, rfl, hB.size, heap_alloc_new Wx _⟩ (fun jz hj hz => ?_) (fun hl _ e => ?_)
        · match jz, hj, hz with
          | 0, _, hz => exact hz
          | 1, _, hz => exact hz
          | 2, _, hz => exact hz
          | 3, _, hz => exact hz
          | 4, _, hz => exact hz
          | 5, _, hz => exact hz
          | 6, _, hz => exact hz
          | 7, _, hz => exact hz
          | 8, _, hz => exact (hz.elim fun g h => ⟨g, h.1, h.2.1, keepB h.2.2 (below_alloc Wx _)⟩)
          | 9, hj, _ => exact absurd rfl hj
          | n + 10, _, hz => exact hz
        · obtain ⟨g, e1, -, h3⟩ := hls 8 hl
          have e2 : Value.pointer (some ⟨Wx.heap.size, 0, none⟩) = vs 8 := e.symm
          rw [e1] at e2
          have e3 : Wx.heap.size = g := by simpa using e2
          have := (Array.getElem?_eq_some_iff.1 h3).1
          omega
      · intro vs Wx lst hall hX hB hF
        refine fun A10 hA K10 hK10 => ?_
        have e11 := (hA 11).trans (show _ = vs 8 by kernel_rfl)
        have e62 := ((hA 62).trans (show _ = vs 3 by kernel_rfl)).trans (hF 3 (by decide))
        clear hA
        obtain ⟨ga, ea, hga, hza⟩ := hF 8 (by decide)
        obtain ⟨gb, eb, hgb, hzb⟩ := hF 9 (by decide)
        have hne : ga ≠ gb := fun e => hX (hall 8 (by decide)) (hall 9 (by decide)) (by rw [ea, eb, e])
        rw [ea] at e11
        obtain ⟨⟨m0, m1, m2, m3⟩, f0, f1, f2, f3⟩ := bfour hza
        have HNA := Lib.hid (put4_heap hza (.bool (V1 == 1)) (.bool (V2 == 1)) (.int .i64 V3) (.int .i64 V4))
        have HNB := Lib.hid (put4_far (a := ga) (a0 := .bool (V1 == 1)) (a1 := .bool (V2 == 1)) (a2 := .int .i64 V3) (a3 := .int .i64 V4) hzb (Ne.symm hne))
        have HBP := Lib.hid (put4_below hB ga hga (.bool (V1 == 1)) (.bool (V2 == 1)) (.int .i64 V3) (.int .i64 V4))
        have HNE := Lib.hid hne
        have HGA := Lib.hid (And.intro hga hgb)
        have HEA := Lib.hid (And.intro ea eb)
        clear hga hgb hza hzb hne
        go_simp
        refine hK10 undef _ ?_
        clear m0 m1 m2 m3 f0 f1 f2 f3 e11 e62
        refine fun A11 hA K11 hK11 => ?_
        have e12 := (hA 12).trans (show _ = vs 9 by kernel_rfl)
        have e66 := ((hA 66).trans (show _ = vs 7 by kernel_rfl)).trans (hF 7 (by decide))
        clear hA
        rw [eb] at e12
        unfold put4 at HNA HNB HBP
        generalize (((Wx.setCell ⟨ga, 0, none⟩ (.bool (V1 == 1))).setCell ⟨ga, 1, none⟩ (.bool (V2 == 1))).setCell ⟨ga, 2, none⟩ (.int .i64 V3)).setCell ⟨ga, 3, none⟩ (.int .i64 V4) = Wy at *
        obtain ⟨⟨m0, m1, m2, m3⟩, f0, f1, f2, f3⟩ := bfour HNB.out
        have HMA := Lib.hid (put4_far (a := gb) (a0 := .bool (Q1 == 1)) (a1 := .bool (Q2 == 1)) (a2 := .int .i64 Q3) (a3 := .int .i64 Q4) HNA.out HNE.out)
        have HMB := Lib.hid (put4_heap HNB.out (.bool (Q1 == 1)) (.bool (Q2 == 1)) (.int .i64 Q3) (.int .i64 Q4))
        have HBM := Lib.hid (put4_below HBP.out gb HGA.out.2 (.bool (Q1 == 1)) (.bool (Q2 == 1)) (.int .i64 Q3) (.int .i64 Q4))
        go_simp
        refine hK11 undef _ ?_
        clear m0 m1 m2 m3 f0 f1 f2 f3 e12 e66
        unfold put4 at HMA HMB HBM
        clear hB hX hall hF
        simp only [Ri.Tail, Ri.puts]
        go_simp
        go_wp2_with fail
        go_meet
        exact ⟨ga, gb, by first | exact HEA.out.1 | (go_simp; exact HEA.out.1) | (simpa [Ri.upd] using HEA.out.1), by first | exact HEA.out.2 | (go_simp; exact HEA.out.2) | (simpa [Ri.upd] using HEA.out.2), HNE.out, HGA.out.1, HMA.out, HMB.out, HBM.out⟩
    case rest =>
      obtain ⟨ga, gb, rfl, rfl, HNE, HGA, HMA, HMB, HBM⟩ := hcut
      obtain ⟨w11, hw11⟩ : ∃ x, x = wc := ⟨_, rfl⟩
      subst hw11
      have HBE := Lib.hid (below_tr hp HBF.out HBM.out)
      obtain ⟨⟨-, -, t0, t1, -, -⟩, -⟩ := HXK.out _ HBM.out
      obtain ⟨⟨m0, m1, m2, m3⟩, f0, f1, f2, f3⟩ := bfour HMA.out
      have HPG : Hid (p0 ≤ ga) := by have h1 := HGA.out; have h2 := HQ10.out; have h3 := HPQ.out; show _ ≤ _; omega
      clear HRs HRq HXK HUP HXQ HD HQ10 HBM HGA
      by_cases hk1 : wh = 1
      · subst hk1
        have e1 : Q1 = sn := by rw [hQ1.out]; rw [if_pos rfl]
        have e2 : Q2 = V2 := by rw [hQ2.out]; rw [if_neg (by omega)]
        have e3 : Q3 = V3 := by rw [hQ3.out]; rw [if_neg (by omega)]
        have e4 : Q4 = V4 := by rw [hQ4.out]; rw [if_neg (by omega)]
        rw [e1, e2, e3, e4] at HMB
        clear e1 e2 e3 e4 hQ1 hQ2 hQ3 hQ4
        have HNA : Hid ((w11.setCell ⟨ga, 0, none⟩ (.bool (sn == 1))).heap[ga]? = some (.cells (benC sn V2 V3 V4) 39 (0, 0))) := heap_setCell_same w11 ga 0 _ _ _ HMA.out
        have HNB := Lib.hid (heap_far (j := 0) (u := .bool (sn == 1)) HMB.out (Ne.symm HNE.out))
        have HBN := Lib.hid (HBE.out.setCell (p := ⟨ga, 0, none⟩) HPG.out (.bool (sn == 1)))
        go_upto_region 22 with fail
        clear t0 t1 m0 m1 m2 m3 f0 f1 f2 f3 HMA HMB
        generalize w11.setCell ⟨ga, 0, none⟩ (.bool (sn == 1)) = w12 at *
        obtain ⟨⟨m0, m1, m2, m3⟩, -⟩ := bfour HNA.out
        obtain ⟨⟨n0, n1, n2, n3⟩, -⟩ := bfour HNB.out
        go_wp2_with (go_at_call 10; refine (works_any _).mono ?_; rintro e w9 ⟨rfl, hb9⟩; have HB9 := Lib.hid (below_tr hp HBN.out hb9); clear hb9)
        go_ret
        exact ⟨rfl, by first | exact HB9.out | (rw [hp]; exact HB9.out)⟩
      by_cases hk2 : wh = 2
      · subst hk2
        have e1 : Q1 = V1 := by rw [hQ1.out]; rw [if_neg (by omega)]
        have e2 : Q2 = sn := by rw [hQ2.out]; rw [if_pos rfl]
        have e3 : Q3 = V3 := by rw [hQ3.out]; rw [if_neg (by omega)]
        have e4 : Q4 = V4 := by rw [hQ4.out]; rw [if_neg (by omega)]
        rw [e1, e2, e3, e4] at HMB
        clear e1 e2 e3 e4 hQ1 hQ2 hQ3 hQ4
        have HNA : Hid ((w11.setCell ⟨ga, 1, none⟩ (.bool (sn == 1))).heap[ga]? = some (.cells (benC V1 sn V3 V4) 39 (0, 0))) := heap_setCell_same w11 ga 1 _ _ _ HMA.out
        have HNB := Lib.hid (heap_far (j := 1) (u := .bool (sn == 1)) HMB.out (Ne.symm HNE.out))
        have HBN := Lib.hid (HBE.out.setCell (p := ⟨ga, 1, none⟩) HPG.out (.bool (sn == 1)))
        go_upto_region 22 with fail
        clear t0 t1 m0 m1 m2 m3 f0 f1 f2 f3 HMA HMB
        generalize w11.setCell ⟨ga, 1, none⟩ (.bool (sn == 1)) = w12 at *
        obtain ⟨⟨m0, m1, m2, m3⟩, -⟩ := bfour HNA.out
        obtain ⟨⟨n0, n1, n2, n3⟩, -⟩ := bfour HNB.out
        go_wp2_with (go_at_call 10; refine (works_any _).mono ?_; rintro e w9 ⟨rfl, hb9⟩; have HB9 := Lib.hid (below_tr hp HBN.out hb9); clear hb9)
        go_ret
        exact ⟨rfl, by first | exact HB9.out | (rw [hp]; exact HB9.out)⟩
      by_cases hk3 : wh = 3
      · subst hk3
        have e1 : Q1 = V1 := by rw [hQ1.out]; rw [if_neg (by omega)]
        have e2 : Q2 = V2 := by rw [hQ2.out]; rw [if_neg (by omega)]
        have e3 : Q3 = sn := by rw [hQ3.out]; rw [if_pos rfl]
        have e4 : Q4 = V4 := by rw [hQ4.out]; rw [if_neg (by omega)]
        rw [e1, e2, e3, e4] at HMB
        clear e1 e2 e3 e4 hQ1 hQ2 hQ3 hQ4
        have HNA : Hid ((w11.setCell ⟨ga, 2, none⟩ (.int .i64 sn)).heap[ga]? = some (.cells (benC V1 V2 sn V4) 39 (0, 0))) := heap_setCell_same w11 ga 2 _ _ _ HMA.out
        have HNB := Lib.hid (heap_far (j := 2) (u := .int .i64 sn) HMB.out (Ne.symm HNE.out))
        have HBN := Lib.hid (HBE.out.setCell (p := ⟨ga, 2, none⟩) HPG.out (.int .i64 sn))
        go_upto_region 22 with fail
        clear t0 t1 m0 m1 m2 m3 f0 f1 f2 f3 HMA HMB
        generalize w11.setCell ⟨ga, 2, none⟩ (.int .i64 sn) = w12 at *
        obtain ⟨⟨m0, m1, m2, m3⟩, -⟩ := bfour HNA.out
        obtain ⟨⟨n0, n1, n2, n3⟩, -⟩ := bfour HNB.out
        go_wp2_with (go_at_call 10; refine (works_any _).mono ?_; rintro e w9 ⟨rfl, hb9⟩; have HB9 := Lib.hid (below_tr hp HBN.out hb9); clear hb9)
        go_ret
        exact ⟨rfl, by first | exact HB9.out | (rw [hp]; exact HB9.out)⟩
      by_cases hk4 : wh = 4
      · subst hk4
        have e1 : Q1 = V1 := by rw [hQ1.out]; rw [if_neg (by omega)]
        have e2 : Q2 = V2 := by rw [hQ2.out]; rw [if_neg (by omega)]
        have e3 : Q3 = V3 := by rw [hQ3.out]; rw [if_neg (by omega)]
        have e4 : Q4 = sn := by rw [hQ4.out]; rw [if_pos rfl]
        rw [e1, e2, e3, e4] at HMB
        clear e1 e2 e3 e4 hQ1 hQ2 hQ3 hQ4
        have HNA : Hid ((w11.setCell ⟨ga, 3, none⟩ (.int .i64 sn)).heap[ga]? = some (.cells (benC V1 V2 V3 sn) 39 (0, 0))) := heap_setCell_same w11 ga 3 _ _ _ HMA.out
        have HNB := Lib.hid (heap_far (j := 3) (u := .int .i64 sn) HMB.out (Ne.symm HNE.out))
        have HBN := Lib.hid (HBE.out.setCell (p := ⟨ga, 3, none⟩) HPG.out (.int .i64 sn))
        go_upto_region 22 with fail
        clear t0 t1 m0 m1 m2 m3 f0 f1 f2 f3 HMA HMB
        generalize w11.setCell ⟨ga, 3, none⟩ (.int .i64 sn) = w12 at *
        obtain ⟨⟨m0, m1, m2, m3⟩, -⟩ := bfour HNA.out
        obtain ⟨⟨n0, n1, n2, n3⟩, -⟩ := bfour HNB.out
        go_wp2_with (go_at_call 10; refine (works_any _).mono ?_; rintro e w9 ⟨rfl, hb9⟩; have HB9 := Lib.hid (below_tr hp HBN.out hb9); clear hb9)
        go_ret
        exact ⟨rfl, by first | exact HB9.out | (rw [hp]; exact HB9.out)⟩
      omega

/-! ### the row's step -/
theorem laidOut : laidOutB Try.prog = true := by kernel_rfl
theorem lifted (os : Os) (started : os.Started) (H : Type) (enc : TypeId × Value → H) :
    ReturnsInHanded {} Try.checked os 7 .any (Rows.rulesFirstSpec.pre6 enc Try.prog Try.f7 Rows.rulesFirstRow.domain false) (Rows.rulesFirstSpec.post enc Try.prog Try.f7 false true false false) := by
  refine returnsInHanded_of_change_shaped (C := Try.checked) own started (by kernel_rfl) Try.func7
    (ChangeSpec.witness6 (enc := enc) (C := Try.checked) false ⟨#[], #[.agg #[.int .i64 0, .int .i64 0, .int .i64 0, .int .i64 0, .int .i64 0, .slice none 0 0], .agg #[.string ByteArray.empty, .slice none 0 0, .int .i64 0, .int .i64 0, .int .i64 0, .int .i64 0], .int .i64 0, .agg #[.int .i64 0, .int .i64 0]], []⟩ 8 (by kernel_rfl) (by kernel_rfl) (by kernel_rfl) (by kernel_rfl)) ?_
  intro W base args ds gs before hval0 hW hcnd hwt _ _
  have hval : ∀ (j : Nat) t v, Try.f7.params[j]? = some t → args[j]? = some v → Value.okWide Try.prog W .any base t v := hval0
  have hW' := hW
  obtain ⟨p, q, hA0, hV, rfl, hfz, hnd⟩ := hW
  have hA : DataW.TrodAll enc Try.prog W 0 (fun _ => true) true Try.f7.params.toList args.toList ds p := hA0
  rw [Try.params7] at hA hval hwt
  obtain ⟨v0, vs0, d0, ds0, p0, q0, hargs, rfl, rfl, h0, r0⟩ := trodAll_cons hA
  obtain ⟨v1, vs1, d1, ds1, p1, q1, rfl, rfl, rfl, h1, r1⟩ := trodAll_cons r0
  obtain ⟨v2, vs2, d2, ds2, p2, q2, rfl, rfl, rfl, h2, r2⟩ := trodAll_cons r1
  obtain ⟨v3, vs3, d3, ds3, p3, q3, rfl, rfl, rfl, h3, r3⟩ := trodAll_cons r2
  obtain ⟨rfl, rfl, rfl⟩ := trodAll_nil r3
  obtain rfl : args = #[v0, v1, v2, v3] := by cases args; simp_all
  obtain ⟨rfl, rfl⟩ := trodVars_none hV
  have hwl : ∀ z, (z ∈ d0.weights Try.prog 34 → z ≤ reachBytes) ∧ (z ∈ d1.weights Try.prog 30 → z ≤ reachBytes) ∧ (z ∈ d2.weights Try.prog 3 → z ≤ reachBytes) ∧ (z ∈ d3.weights Try.prog 45 → z ≤ reachBytes) := fun z => by
    have h := List.all_eq_true.1 hwt z
    simp only [decide_eq_true_eq] at h
    refine ⟨fun hz => h ?_, fun hz => h ?_, fun hz => h ?_, fun hz => h ?_⟩
    all_goals
      simp only [List.cons_append, List.nil_append, List.toList_toArray, List.append_nil, DataW.weightsEach, List.mem_append]
      first | exact Or.inl hz | exact Or.inr (Or.inl hz) | exact Or.inr (Or.inr (Or.inl hz)) | exact Or.inr (Or.inr (Or.inr (Or.inl hz))) | simp [hz]
  have k0 := h0
  have lt0 : ∀ x ∈ p0, x.block < W.heap.size := by obtain ⟨m, hm⟩ := k0; exact DataW.trod_lt m _ _ _ hm
  obtain ⟨x0, m0, rfl, g0, z0⟩ := Pl.open_plan (hval 0 34 v0 rfl rfl) h0 (fun z hz => (hwl z).1 hz)
  have k1 := h1
  have lt1 : ∀ x ∈ p1, x.block < W.heap.size := by obtain ⟨m, hm⟩ := k1; exact DataW.trod_lt m _ _ _ hm
  obtain ⟨x1, m1, rfl, g1⟩ := Pl.open_line (hval 1 30 v1 rfl rfl) h1
  have k2 := h2
  have lt2 : ∀ x ∈ p2, x.block < W.heap.size := by obtain ⟨m, hm⟩ := k2; exact DataW.trod_lt m _ _ _ hm
  obtain ⟨a2, rfl, _, _, w2⟩ := open_int Try.underlying3 (hval 2 3 v2 rfl rfl) h2
  have k3 := h3
  have lt3 : ∀ x ∈ p3, x.block < W.heap.size := by obtain ⟨m, hm⟩ := k3; exact DataW.trod_lt m _ _ _ hm
  obtain ⟨x3, rfl, z3⟩ := Pl.open_set (hval 3 45 v3 rfl rfl) h3
  clear hA0 hval0
  refine (walk W x0 m0 g0 z0 x1 m1 g1 a2 (by simpa [Cm.I64, Lit.wf, IntKind.min, IntKind.max, IntKind.signed, IntKind.bits] using w2) x3 z3).mono fun e W' ⟨he, bel⟩ => ?_
  subst he
  exact ⟨_, rfl, _, _, _, [], _, [], hW', (trodAll_cons_mk (shut_bool Try.underlying4 _) trodAll_mk0), (trodAll_cons_mk (Below.trod laidOut (by kernel_rfl) (of_decide_eq_true (by kernel_rfl)) k0 bel lt0) (trodAll_cons_mk (Below.trod laidOut (by kernel_rfl) (of_decide_eq_true (by kernel_rfl)) k1 bel lt1) (trodAll_cons_mk (Below.trod laidOut (by kernel_rfl) (of_decide_eq_true (by kernel_rfl)) k2 bel lt2) (trodAll_cons_mk (Below.trod laidOut (by kernel_rfl) (of_decide_eq_true (by kernel_rfl)) k3 bel lt3) trodAll_mk0)))), rfl, bel.frame _, fun h => by cases h⟩

theorem over : Rows.rulesFirstRow.holds Try.pinned (OpenSpec.ofChange Rows.rulesFirstSpec) :=
  OpenClaim.holds_of_wide 7 Try.f7 rfl rfl rfl rfl rfl rfl rfl ⟨rfl, rfl, rfl, rfl, rfl⟩ rfl rfl rfl rfl rfl (by kernel_rfl) Try.func7 (by kernel_rfl)
    (of_decide_eq_true (by kernel_rfl)) (by unfold Func.isWrapper; first | (rw [if_pos (by decide +kernel)]; kernel_rfl) | (rw [if_neg (by decide +kernel)]; exact ⟨rfl, rfl⟩))
    (fun os started H enc _ => lifted os started H enc)

/-- The statement. -/
theorem proved : Rows.RulesFirstSaid := over
end Go.Proofs.Ytbokhiaiihpeeaa.rulesFirst
namespace Go.Proofs.Ytbokhiaiihpeeaa
theorem rulesFirst_holds : Rows.RulesFirstSaid := rulesFirst.proved
#print axioms rulesFirst_holds
end Go.Proofs.Ytbokhiaiihpeeaa
