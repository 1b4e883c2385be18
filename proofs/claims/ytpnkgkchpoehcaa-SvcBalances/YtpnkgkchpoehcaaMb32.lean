/-
  Texts put together (merge.py): VWorks.
-/
import Derived.Test.YtpnkgkchpoehcaaMb31
import Derived.Test.YtpnkgkchpoehcaaMb22
/-
  What layer 20's works answers, as a contract.
-/
section
set_option linter.unusedSimpArgs false
set_option linter.unusedVariables false
set_option maxRecDepth 100000
namespace Go.Proofs.Ytpnkgkchpoehcaa.Sv
open Go.RowKit
open Sh (Ot)
open Cm (Ln Cl LnsAt clv ClOk LnOk)
open Bk (keepB below_alloc below_trans alloc_new OtsAt)
open Classical

theorem lns_one {w : World} {q : Nat} {l : Ln} {T : TypeId} (hm : l.mods = []) (h : w.heap[q]? = some (.cells #[.string (mk l.proc), .slice none 0 0, .int .i64 l.date, .int .i64 l.units, .int .i64 l.billed, .int .i64 l.prior] T (0, 0))) : LnsAt All w (.slice (some ⟨q, 0, none⟩) 1 1) [l] := by
  refine ⟨_, _, rfl, Nat.le_refl _, by unfold maxLen; omega, Or.inr ⟨q, 0, rfl, trivial, (Array.getElem?_eq_some_iff.1 h).1, fun j x hj => ?_⟩⟩
  have hj0 : j = 0 := by have := (List.getElem?_eq_some_iff.1 hj).1; simpa using this
  subst hj0
  obtain rfl : l = x := by simpa using hj
  refine ⟨.slice none 0 0, ?_, by rw [hm]; exact TxAt.nil _ _⟩
  obtain ⟨h0, h1, h2, h3, h4, h5⟩ := six h
  exact ⟨h0, h1, h2, h3, h4, h5⟩
theorem ots_one {w : World} {q : Nat} {o : Ot} {T : TypeId} (h : w.heap[q]? = some (.cells #[.int .i64 o.al, .int .i64 o.de, .int .i64 o.cp, .int .i64 o.cn, .int .i64 o.plan, .int .i64 o.wr, .int .i64 o.pr, .int .i64 o.deny] T (0, 0))) : OtsAt All w (.slice (some ⟨q, 0, none⟩) 1 1) [o] := by
  refine ⟨_, _, rfl, Nat.le_refl _, by unfold maxLen; omega, Or.inr ⟨q, 0, rfl, trivial, (Array.getElem?_eq_some_iff.1 h).1, fun j x hj => ?_⟩⟩
  have hj0 : j = 0 := by have := (List.getElem?_eq_some_iff.1 hj).1; simpa using this
  subst hj0
  obtain rfl : o = x := by simpa using hj
  obtain ⟨h0, h1, h2, h3, h4, h5, h6, h7⟩ := Sh.eight h
  exact ⟨h0, h1, h2, h3, h4, h5, h6, h7⟩
def wln : Ln := ⟨[57, 57, 50, 49, 51], [], 0, 0, 100, 5⟩
def wcl : Cl := ⟨[67, 49], [], [], 0, 0, [], [wln]⟩
def wot : Ot := ⟨80, 10, 0, 15, 50, 20, 5, 0⟩
def wsr : Sr := ⟨[57, 57, 50, 49, 51], 100, 50, [⟨gCO, 45, 20⟩, ⟨gPR, 1, 10⟩, ⟨gPR, 2, 15⟩, ⟨gOA, 23, 5⟩]⟩
def wcp : Cp := ⟨[67, 49], 1, 100, 50, 25, [wsr]⟩
def wcb : Cp := ⟨[67, 49], 22, -100, -50, -25, [⟨[57, 57, 50, 49, 51], -100, -50, [⟨gCO, 45, -20⟩, ⟨gPR, 1, -10⟩, ⟨gPR, 2, -15⟩, ⟨gOA, 23, -5⟩]⟩]⟩
theorem wcl_ok : ClOk wcl := ⟨⟨by decide, by decide⟩, ⟨by decide, by decide⟩, by decide, by decide, by decide, by decide, by decide, fun x hx => by
  obtain rfl := List.mem_singleton.1 hx
  exact ⟨⟨by decide, by decide⟩, ⟨by decide, by decide⟩, ⟨by decide, by decide⟩, ⟨by decide, by decide⟩, by decide, by decide, fun t ht => by simp [wln] at ht⟩⟩
theorem w_sm : Sm wcl [wot] := ⟨fun l hl => by obtain rfl := List.mem_singleton.1 hl; exact ⟨by decide, by decide⟩, fun o ho => by obtain rfl := List.mem_singleton.1 ho; exact ⟨⟨by decide, by decide⟩, ⟨by decide, by decide⟩, ⟨by decide, by decide⟩, ⟨by decide, by decide⟩, ⟨by decide, by decide⟩, ⟨by decide, by decide⟩⟩⟩
theorem w_e : ofE wcl [wot] = 0 := by kernel_rfl
theorem w_v : ofV wcl [wot] = wcp := by kernel_rfl
theorem w_b : backO wcp = wcb := by kernel_rfl
theorem w_c : checkE wcp = 0 := by kernel_rfl
theorem w_cb : checkE wcb = 0 := by kernel_rfl
theorem w_c0 : checkE cp0 = 9 := by kernel_rfl
theorem w_ne : decide (wcp = wcb) = false := by
  rw [decide_eq_false_iff_not]
  intro h
  have := congrArg Cp.st h
  exact absurd this (by decide)
theorem i64_of' {n : Int} (h : -100 ≤ n ∧ n ≤ 100) : I64 n := by unfold I64; omega
theorem wcp_ok : CpOk wcp := ⟨i64_of' (by decide), i64_of' (by decide), i64_of' (by decide), i64_of' (by decide), by decide, by decide, fun s hs => by
  obtain rfl := List.mem_singleton.1 hs
  refine ⟨i64_of' (by decide), i64_of' (by decide), fun c hc => ?_, by decide⟩
  simp only [wsr, List.mem_cons, List.not_mem_nil, or_false] at hc
  rcases hc with rfl | rfl | rfl | rfl <;> exact i64_of' (by decide)⟩
theorem wcb_ok : CpOk wcb := ⟨i64_of' (by decide), i64_of' (by decide), i64_of' (by decide), i64_of' (by decide), by decide, by decide, fun s hs => by
  obtain rfl := List.mem_singleton.1 hs
  refine ⟨i64_of' (by decide), i64_of' (by decide), fun c hc => ?_, by decide⟩
  simp only [List.mem_cons, List.not_mem_nil, or_false] at hc
  rcases hc with rfl | rfl | rfl | rfl <;> exact i64_of' (by decide)⟩
theorem cp0_ok : CpOk cp0 := ⟨i64_of' (by decide), i64_of' (by decide), i64_of' (by decide), i64_of' (by decide), by decide, by decide, fun s hs => by cases hs⟩
theorem wk_of (W : World) (m mo : Value) (hm : LnsAt All W m [wln]) (ho : OtsAt All W mo [wot]) : Calls Try.prog 10 #[clv wcl m, mo] W fun e w' => (∃ a c, e = .returned (.tuple #[cpv wcp (.slice a 1 c), .int .i64 0]) ∧ SvsAt All w' (.slice a 1 c) [wsr]) ∧ Below W.heap.size W w' := by
  refine (of_any wcl m [wot] mo W hm ho wcl_ok w_sm).mono ?_
  rintro e w' ⟨⟨u, rfl, hs⟩, hb⟩
  rw [w_v] at hs ⊢
  rw [w_e]
  have hs2 : SvsAt All w' u [wsr] := hs.all
  obtain ⟨a, c, rfl, -, -⟩ := hs2.form
  exact ⟨⟨a, c, rfl, hs2⟩, hb⟩
theorem wk_back (W : World) (m : Value) (hm : SvsAt All W m [wsr]) : Calls Try.prog 20 #[cpv wcp m] W fun e w' => (∃ a c, e = .returned (cpv wcb (.slice a 1 c)) ∧ SvsAt All w' (.slice a 1 c) wcb.svs) ∧ Below W.heap.size W w' := by
  refine (back_any wcp m W hm wcp_ok (by decide) (fun s hs => by obtain rfl := List.mem_singleton.1 hs; decide)).mono ?_
  rintro e w' ⟨⟨u, rfl, hs⟩, hb⟩
  rw [w_b] at hs ⊢
  have hs2 : SvsAt All w' u wcb.svs := hs.all
  obtain ⟨a, c, rfl, -, -⟩ := hs2.form
  exact ⟨⟨a, c, rfl, hs2⟩, hb⟩
abbrev wlc : Array Value := #[.string { data := #[57, 57, 50, 49, 51] }, .slice none 0 0, .int .i64 0, .int .i64 0, .int .i64 100, .int .i64 5]
abbrev woc : Array Value := #[.int .i64 80, .int .i64 10, .int .i64 0, .int .i64 15, .int .i64 50, .int .i64 20, .int .i64 5, .int .i64 0]
set_option maxHeartbeats 8000000 in
theorem works_any (w : World) : Calls Try.prog 9 #[] w fun e w' => e = .returned (.bool true) ∧ Below w.heap.size w w' := by
  have HOF : Hid (∀ W q r, W.heap[q]? = some (.cells wlc 43 (0, 0)) → W.heap[r]? = some (.cells woc 40 (0, 0)) → Calls Try.prog 10 #[.agg #[.string { data := #[67, 49] }, .string { data := #[] }, .string { data := #[] }, .int .i64 0, .int .i64 0, .string { data := #[] }, .slice (some ⟨q, 0, none⟩) 1 1], .slice (some ⟨r, 0, none⟩) 1 1] W fun e w' => (∃ a c, e = .returned (.tuple #[cpv wcp (.slice a 1 c), .int .i64 0]) ∧ SvsAt All w' (.slice a 1 c) [wsr]) ∧ Below W.heap.size W w') := fun W q r h1 h2 => wk_of W _ _ (lns_one (l := wln) rfl h1) (ots_one (o := wot) h2)
  have HW3 : Hid (∀ o1, (((w.alloc (.cells wlc 43)).alloc o1).alloc (.cells woc 40)).heap[w.heap.size]? = some (.cells wlc 43 (0, 0)) ∧ (((w.alloc (.cells wlc 43)).alloc o1).alloc (.cells woc 40)).heap[w.heap.size + 1 + 1]? = some (.cells woc 40 (0, 0)) ∧ Below w.heap.size w (((w.alloc (.cells wlc 43)).alloc o1).alloc (.cells woc 40))) := fun o1 => by
    refine ⟨keepB (keepB (alloc_new w _ _) (below_alloc _ _)) (below_alloc _ _), ?_, below_trans (below_trans (below_alloc _ _) (below_alloc _ _)) (below_alloc _ _)⟩
    have := alloc_new ((w.alloc (.cells wlc 43)).alloc o1) woc 40
    rwa [show ((w.alloc (.cells wlc 43)).alloc o1).heap.size = w.heap.size + 1 + 1 by simp] at this
  go_enter Try.func9, Try.ntmps9
  go_wp2_with fail
  refine (HOF.out _ _ _ (HW3.out _).1 (HW3.out _).2.1).mono ?_
  rintro e w1 ⟨⟨ua, uc, rfl, hs1⟩, hb1⟩
  have HB1 := Lib.hid (below_trans (HW3.out _).2.2 hb1)
  have HU1 := Lib.hid hs1
  clear HOF HW3 hs1 hb1
  have HN1 : Hid (SvsAt All (w1.alloc (.cells (cpe wcp (.slice ua 1 uc)) 30)) (.slice ua 1 uc) [wsr]) := HU1.out.grw (below_alloc w1 _)
  go_wp2_with fail
  try (go_at_call 20)
  refine (wk_back _ _ HN1.out).mono ?_
  rintro e w2 ⟨⟨va, vc, rfl, hs2⟩, hb2⟩
  have HX2 := Lib.hid (keepB (alloc_new w1 (cpe wcp (.slice ua 1 uc)) 30) hb2)
  have HB2 := Lib.hid (below_trans HB1.out (below_trans (below_alloc w1 (.cells (cpe wcp (.slice ua 1 uc)) 30)) hb2))
  have HU2 := Lib.hid (HN1.out.grw hb2)
  have HV2 := Lib.hid hs2
  clear hb2 hs2 HN1 HU1 HB1
  go_upto_region 4 with fail
  obtain ⟨bb, ob, mm, rfl, -, -, hxs, hcl, hcas⟩ := SvsAt.get HU2.out 0 (by decide)
  have hcas2 : CasAt All w2 mm wsr.cas := hcas
  obtain ⟨ma, mc, rfl, -, -⟩ := hcas2.form
  have hz3 := hcl.2.2.2
  rw [Nat.zero_mul, Nat.add_zero] at hz3
  generalize hp1 : w1.heap.size = p1 at *
  generalize hp2 : w2.heap.size = p2 at *
  obtain ⟨W4, hW4⟩ : ∃ z, z = w2.alloc (.cells (cpe wcb (.slice va 1 vc)) 30) := ⟨_, rfl⟩
  have HK : Hid (∀ W', Below W4.heap.size W4 W' → W'.heap[p1]? = some (.cells (cpe wcp (.slice (some ⟨bb, ob, none⟩) 1 uc)) 30 (0, 0)) ∧ W'.heap[p2]? = some (.cells (cpe wcb (.slice va 1 vc)) 30 (0, 0)) ∧ SvsAt All W' (.slice (some ⟨bb, ob, none⟩) 1 uc) wcp.svs ∧ SvsAt All W' (.slice va 1 vc) wcb.svs ∧ W'.cell? ⟨bb, ob + 3, none⟩ = some (.slice ma 4 mc) ∧ Below w.heap.size w W') := fun W' hW => by
    have h1 : Below w2.heap.size w2 W4 := by rw [hW4]; exact below_alloc w2 _
    have h2 := below_trans h1 hW
    refine ⟨keepB HX2.out h2, ?_, HU2.out.grw h2, HV2.out.grw h2, ?_, below_trans HB2.out h2⟩
    · refine keepB ?_ hW
      rw [hW4, ← hp2]
      exact alloc_new w2 _ _
    · rw [h2.cell (World.block_lt_of_cell? w2 _ hz3)]
      exact hz3
  rw [← hW4]
  clear hW4 hz3 hcas2 hcl hcas hxs HX2 HB2 HU2 HV2
  have HQ4 := Lib.hid (Below.refl W4.heap.size W4)
  obtain ⟨hx, hy, hu, hv, z3, -⟩ := HK.out W4 HQ4.out
  have HU4 := Lib.hid hu
  have HV4 := Lib.hid hv
  obtain ⟨x0, x1, x2, x3, x4, x5⟩ := six hx
  obtain ⟨b0, b1, b2, b3, b4, b5⟩ := six hy
  clear hx hy hu hv
  go_wp2_with fail
  try (go_at_call 14)
  refine (check_any wcp _ W4 HU4.out wcp_ok).mono ?_
  rintro e w5 ⟨rfl, hb5⟩
  have HQ5 : Hid (Below W4.heap.size W4 w5) := hb5
  obtain ⟨hx, hy, hu, hv, hm, hbw⟩ := HK.out w5 HQ5.out
  clear x0 x1 x2 x3 x4 x5 b0 b1 b2 b3 b4 b5 z3
  obtain ⟨x0, x1, x2, x3, x4, x5⟩ := six hx
  obtain ⟨b0, b1, b2, b3, b4, b5⟩ := six hy
  have z3 := hm
  have HU5 := Lib.hid hu
  have HV5 := Lib.hid hv
  have HBW5 := Lib.hid hbw
  clear hx hy hu hv hm hbw hb5
  rw [w_c]
  go_wp2_with fail
  try (go_at_call 14)
  refine (check_any wcb _ w5 HV5.out wcb_ok).mono ?_
  rintro e w6 ⟨rfl, hb6⟩
  have HQ6 : Hid (Below W4.heap.size W4 w6) := HQ5.out.trans (hb6.mono HQ5.out.size)
  obtain ⟨hx, hy, hu, hv, hm, hbw⟩ := HK.out w6 HQ6.out
  clear x0 x1 x2 x3 x4 x5 b0 b1 b2 b3 b4 b5 z3
  obtain ⟨x0, x1, x2, x3, x4, x5⟩ := six hx
  obtain ⟨b0, b1, b2, b3, b4, b5⟩ := six hy
  have z3 := hm
  have HU6 := Lib.hid hu
  have HV6 := Lib.hid hv
  have HBW6 := Lib.hid hbw
  clear hx hy hu hv hm hbw hb6
  rw [w_cb]
  go_wp2_with fail
  try (go_at_call 16)
  refine (same_any wcp wcp _ _ w6 HU6.out HU6.out).mono ?_
  rintro e w7 ⟨rfl, hb7⟩
  have HQ7 : Hid (Below W4.heap.size W4 w7) := HQ6.out.trans (hb7.mono HQ6.out.size)
  obtain ⟨hx, hy, hu, hv, hm, hbw⟩ := HK.out w7 HQ7.out
  clear x0 x1 x2 x3 x4 x5 b0 b1 b2 b3 b4 b5 z3
  obtain ⟨x0, x1, x2, x3, x4, x5⟩ := six hx
  obtain ⟨b0, b1, b2, b3, b4, b5⟩ := six hy
  have z3 := hm
  have HU7 := Lib.hid hu
  have HV7 := Lib.hid hv
  have HBW7 := Lib.hid hbw
  clear hx hy hu hv hm hbw hb7
  rw [show decide (wcp = wcp) = true by simp]
  go_wp2_with fail
  try (go_at_call 16)
  refine (same_any wcp wcb _ _ w7 HU7.out HV7.out).mono ?_
  rintro e w8 ⟨rfl, hb8⟩
  have HQ8 : Hid (Below W4.heap.size W4 w8) := HQ7.out.trans (hb8.mono HQ7.out.size)
  obtain ⟨hx, hy, hu, hv, hm, hbw⟩ := HK.out w8 HQ8.out
  clear x0 x1 x2 x3 x4 x5 b0 b1 b2 b3 b4 b5 z3
  obtain ⟨x0, x1, x2, x3, x4, x5⟩ := six hx
  obtain ⟨b0, b1, b2, b3, b4, b5⟩ := six hy
  have z3 := hm
  have HU8 := Lib.hid hu
  have HV8 := Lib.hid hv
  have HBW8 := Lib.hid hbw
  clear hx hy hu hv hm hbw hb8
  rw [w_ne]
  go_wp2_with fail
  try (go_at_call 14)
  refine (check_any cp0 (.slice none 0 0) w8 (SvsAt.nil _ _) cp0_ok).mono ?_
  rintro e w9 ⟨rfl, hb9⟩
  have HQ9 : Hid (Below W4.heap.size W4 w9) := HQ8.out.trans (hb9.mono HQ8.out.size)
  obtain ⟨hx, hy, hu, hv, hm, hbw⟩ := HK.out w9 HQ9.out
  clear x0 x1 x2 x3 x4 x5 b0 b1 b2 b3 b4 b5 z3
  obtain ⟨x0, x1, x2, x3, x4, x5⟩ := six hx
  obtain ⟨b0, b1, b2, b3, b4, b5⟩ := six hy
  have z3 := hm
  have HU9 := Lib.hid hu
  have HV9 := Lib.hid hv
  have HBW9 := Lib.hid hbw
  clear hx hy hu hv hm hbw hb9
  rw [w_c0]
  go_wp2
  go_ret
  exact ⟨rfl, HBW9.out⟩
end Go.Proofs.Ytpnkgkchpoehcaa.Sv
end
