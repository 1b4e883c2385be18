/-
  The statement SvcBalances (20.6): a claim whose services each go somewhere, all of it, is one that balances; for all claims and outcomes.
-/
import Derived.WalkKit
import Derived.ProofKit
import Derived.OpenShut
import Derived.ShutString
import Derived.Below
import Derived.Carry
import Derived.Laws.Cover2
import Derived.HandedShaped
import Derived.Test.YtpnkgkchpoehcaaRows
import Derived.Test.YtpnkgkchpoehcaaMb1
import Derived.Test.YtpnkgkchpoehcaaMb2
import Derived.Test.YtpnkgkchpoehcaaMb3
import Derived.Test.YtpnkgkchpoehcaaMb4
import Derived.Test.YtpnkgkchpoehcaaMb5
import Derived.Test.YtpnkgkchpoehcaaMb6
import Derived.Test.YtpnkgkchpoehcaaMb7
import Derived.Test.YtpnkgkchpoehcaaMb8
import Derived.Test.YtpnkgkchpoehcaaMb9
import Derived.Test.YtpnkgkchpoehcaaMb10
import Derived.Test.YtpnkgkchpoehcaaMb11
import Derived.Test.YtpnkgkchpoehcaaMb12
import Derived.Test.YtpnkgkchpoehcaaMb13
import Derived.Test.YtpnkgkchpoehcaaMb14
import Derived.Test.YtpnkgkchpoehcaaMb15
import Derived.Test.YtpnkgkchpoehcaaMb16
import Derived.Test.YtpnkgkchpoehcaaMb17
import Derived.Test.YtpnkgkchpoehcaaMb18
import Derived.Test.YtpnkgkchpoehcaaMb19
import Derived.Test.YtpnkgkchpoehcaaMb20
import Derived.Test.YtpnkgkchpoehcaaMb21
import Derived.Test.YtpnkgkchpoehcaaMb22
import Derived.Test.YtpnkgkchpoehcaaMb23
import Derived.Test.YtpnkgkchpoehcaaMb24
import Derived.Test.YtpnkgkchpoehcaaMb25
import Derived.Test.YtpnkgkchpoehcaaMb26
import Derived.Test.YtpnkgkchpoehcaaMb27
import Derived.Test.YtpnkgkchpoehcaaMb28
import Derived.Test.YtpnkgkchpoehcaaMb29
import Derived.Test.YtpnkgkchpoehcaaMb30
import Derived.Test.YtpnkgkchpoehcaaMb31
import Derived.Test.YtpnkgkchpoehcaaMb32
import Derived.Test.YtpnkgkchpoehcaaMb33
import Derived.Test.YtpnkgkchpoehcaaMb34
import Derived.Test.YtpnkgkchpoehcaaMb35
import Derived.Test.YtpnkgkchpoehcaaMb36
import Derived.Test.YtpnkgkchpoehcaaMb37
import Derived.Test.YtpnkgkchpoehcaaMb38
import Derived.Test.YtpnkgkchpoehcaaMb39
import Derived.Test.YtpnkgkchpoehcaaMb40
import Derived.Test.YtpnkgkchpoehcaaMb41
import Derived.Test.YtpnkgkchpoehcaaMb42
namespace Go.Proofs.Ytpnkgkchpoehcaa.svcBalances
open Go.ChangeShapes Go.WideShapes Go.ChangeAt Go.RowKit
open Sv
open Bk (keepB below_alloc below_trans alloc_new)
open Go.ChangeMaps (open_string)
set_option linter.unusedVariables false
set_option linter.unusedSimpArgs false
set_option maxRecDepth 100000

theorem own : ownKnob Try.prog.godebug = none := by kernel_rfl

/-! ### the walk: the law returns true -/
set_option maxHeartbeats 16000000 in
theorem walk (w : World) (x0 : Cm.Cl) (m0 : Value) (h0 : Cm.LnsAt All w m0 x0.lines) (z0 : Cm.ClOk x0) (v1 : Value) (l1 : List Sh.Ot) (h1 : Bk.OtsAt All w v1 l1) (z1 : l1.length ≤ 281474976710656) :
    Calls Try.prog 5 #[Cm.clv x0 m0, v1] w fun e w' => e = .returned (.bool true) ∧ Below w.heap.size w w' := by
  have HW := Lib.hid works_any
  obtain ⟨al, cl, rfl, f1, f2⟩ := Cm.LnsAt.form h0
  obtain ⟨ao, co, rfl, f3, f4⟩ := h1.form
  have hb0 := below_alloc w (.cells #[.string (mk x0.id), .string (mk x0.mem), .string (mk x0.fam), .int .i64 x0.net, .int .i64 x0.does, .string (mk x0.ref), (.slice al x0.lines.length cl)] 24)
  have HB := Lib.hid hb0
  have HX := Lib.hid (alloc_new w #[.string (mk x0.id), .string (mk x0.mem), .string (mk x0.fam), .int .i64 x0.net, .int .i64 x0.does, .string (mk x0.ref), (.slice al x0.lines.length cl)] 24)
  have HL : Hid (∀ W, Below w.heap.size w W → Cm.LnsAt All W (.slice al x0.lines.length cl) x0.lines) := fun W hW => Cm.LnsAt.move h0 (Below.moves hW)
  have HO : Hid (∀ W, Below w.heap.size w W → Bk.OtsAt All W (.slice ao l1.length co) l1) := fun W hW => h1.grw hW
  have HZ := Lib.hid z0
  have HZ1 := Lib.hid z1
  clear h0 h1 hb0 z0 z1
  go_enter Try.func5, Try.ntmps5
  go_upto_region 1 with fail
  generalize w.alloc (.cells #[.string (mk x0.id), .string (mk x0.mem), .string (mk x0.fam), .int .i64 x0.net, .int .i64 x0.does, .string (mk x0.ref), (.slice al x0.lines.length cl)] 24) = W at *
  generalize hp : w.heap.size = p at *
  have HPW : Hid (p ≤ W.heap.size) := by have := HB.out.size; rw [hp] at this; exact this
  obtain ⟨y0, y1, y2, y3, y4, y5, y6⟩ := seven HX.out
  have HSM := Lib.hid (small_anyL x0 _ l1 _ W (HL.out W HB.out) (HO.out W HB.out) HZ.out HZ1.out)
  go_wp2_with fail
  (try (go_at_call 8))
  refine HSM.out.mono ?_
  rintro e w1 ⟨⟨b, rfl, hbt⟩, hb1⟩
  have HB1 : Hid (Below W.heap.size W w1) := hb1
  have HBw1 : Hid (Below p w w1) := HB.out.trans (hb1.mono HPW.out)
  have HPS : Hid (p ≤ w1.heap.size) := Nat.le_trans HPW.out hb1.size
  have HXF := Lib.hid (keepB HX.out HB1.out)
  clear HSM hb1 y0 y1 y2 y3 y4 y5 y6
  obtain ⟨y0, y1, y2, y3, y4, y5, y6⟩ := seven HXF.out
  cases b with
  | false =>
    go_wp2_with (first | (go_at_call 9; refine (HW.out _).mono ?_; rintro e w9 ⟨rfl, hb⟩; have HB2 : Hid (Below p w w9) := HBw1.out.trans (hb.mono HPS.out); clear hb))
    go_ret
    exact ⟨rfl, by first | exact HB2.out | (rw [hp]; exact HB2.out)⟩
  | true =>
    obtain ⟨hs, h300, hll⟩ := hbt rfl
    have HSm := Lib.hid hs
    have H300 := Lib.hid h300
    clear hs h300 hbt
    have HK := Lib.hid (rc_any x0 _ w1 (HL.out w1 HBw1.out) HZ.out hll)
    clear hll
    by_cases hE : Cm.checkE x0 = 0
    case neg =>
      have hbe : (Cm.checkE x0 != 0) = true := by simpa using hE
      clear hE
      generalize Cm.checkE x0 = E at *
      go_wp2_with (first | (go_at_call 17; refine HK.out.mono ?_; rintro e w2 ⟨rfl, hb⟩; have HBc : Hid (Below p w w2) := HBw1.out.trans (hb.mono HPS.out); have HPc : Hid (p ≤ w2.heap.size) := Nat.le_trans HPS.out hb.size; obtain ⟨y0, y1, y2, y3, y4, y5, y6⟩ := seven (keepB HXF.out hb); have HXC := Lib.hid (keepB HXF.out hb); clear hb) | (go_at_call 9; refine (HW.out _).mono ?_; rintro e w9 ⟨rfl, hb⟩; have HB2 : Hid (Below p w w9) := HBc.out.trans (hb.mono HPc.out); clear hb))
      go_ret
      exact ⟨rfl, by first | exact HB2.out | (rw [hp]; exact HB2.out)⟩
    rw [hE] at HK
    have HCE := Lib.hid hE
    clear hE
    by_cases hll : l1.length = x0.lines.length
    case neg =>
      have hne : ((l1.length : Int) != (x0.lines.length : Int)) = true := by simp; omega
      clear hll
      go_wp2_with (first | (go_at_call 17; refine HK.out.mono ?_; rintro e w2 ⟨rfl, hb⟩; have HBc : Hid (Below p w w2) := HBw1.out.trans (hb.mono HPS.out); have HPc : Hid (p ≤ w2.heap.size) := Nat.le_trans HPS.out hb.size; obtain ⟨y0, y1, y2, y3, y4, y5, y6⟩ := seven (keepB HXF.out hb); have HXC := Lib.hid (keepB HXF.out hb); clear hb) | (go_at_call 9; refine (HW.out _).mono ?_; rintro e w9 ⟨rfl, hb⟩; have HB2 : Hid (Below p w w9) := HBc.out.trans (hb.mono HPc.out); clear hb))
      go_ret
      exact ⟨rfl, by first | exact HB2.out | (rw [hp]; exact HB2.out)⟩
    have hle : ((l1.length : Int) != (x0.lines.length : Int)) = false := by simp; omega
    have HLL := Lib.hid hll
    clear hll
    by_cases hn0 : l1.length = 0
    case pos =>
      have hne : ((l1.length : Int) == 0) = true := by rw [beq_iff_eq]; omega
      clear hn0
      go_wp2_with (first | (go_at_call 17; refine HK.out.mono ?_; rintro e w2 ⟨rfl, hb⟩; have HBc : Hid (Below p w w2) := HBw1.out.trans (hb.mono HPS.out); have HPc : Hid (p ≤ w2.heap.size) := Nat.le_trans HPS.out hb.size; obtain ⟨y0, y1, y2, y3, y4, y5, y6⟩ := seven (keepB HXF.out hb); have HXC := Lib.hid (keepB HXF.out hb); clear hb) | (go_at_call 9; refine (HW.out _).mono ?_; rintro e w9 ⟨rfl, hb⟩; have HB2 : Hid (Below p w w9) := HBc.out.trans (hb.mono HPc.out); clear hb))
      go_ret
      exact ⟨rfl, by first | exact HB2.out | (rw [hp]; exact HB2.out)⟩
    have hne : ((l1.length : Int) == 0) = false := by rw [beq_eq_false_iff_ne]; omega
    have HN0 := Lib.hid hn0
    clear hn0
    go_upto_region 3 with (first | (go_at_call 17; refine HK.out.mono ?_; rintro e w2 ⟨rfl, hb⟩; have HBc : Hid (Below p w w2) := HBw1.out.trans (hb.mono HPS.out); have HPc : Hid (p ≤ w2.heap.size) := Nat.le_trans HPS.out hb.size; obtain ⟨y0, y1, y2, y3, y4, y5, y6⟩ := seven (keepB HXF.out hb); have HXC := Lib.hid (keepB HXF.out hb); clear hb))
    have HBC : Hid (Below p w w2) := HBc.out
    have hll := HLL.out
    have hn0 := HN0.out
    obtain ⟨bl, ol, rfl⟩ : ∃ b o, al = some ⟨b, o, none⟩ := lns_some (HL.out w2 HBC.out) (by omega)
    obtain ⟨bo, oo, rfl⟩ : ∃ b o, ao = some ⟨b, o, none⟩ := ots_some (HO.out w2 HBC.out) (by omega)
    clear hll hn0 y0 y1 y2 y3 y4 y5 y6
    go_wp2
    go_loopg [5, 6] (l1.length) (fun gg t5 t6 wr => ∃ (k : Nat) (b : Bool), k ≤ l1.length ∧ gg = l1.length - k ∧ t5 = .bool b ∧ t6 = .int .i64 k ∧ Hid (b = true → ∀ (j : Nat) (l : Cm.Ln) (o : Sh.Ot), j < k → x0.lines[j]? = some l → l1[j]? = some o → Sh.balB l.billed { o with al := l.billed } = true ∧ 0 ≤ o.deny ∧ o.deny ≤ 999) ∧ Hid (Below w2.heap.size w2 wr))
    case atStart => exact ⟨0, true, Nat.zero_le _, rfl, rfl, rfl, fun _ j l o h => absurd h (Nat.not_lt_zero j), Below.refl _ _⟩
    case round =>
      obtain ⟨k, b, hk, hgk, rfl, rfl, HPB, HBr⟩ := hrel
      have HBp : Hid (Below p w wr) := HBC.out.trans (HBr.out.mono HPc.out)
      have HPr : Hid (p ≤ wr.heap.size) := Nat.le_trans HPc.out HBr.out.size
      obtain ⟨y0, y1, y2, y3, y4, y5, y6⟩ := seven (keepB HXC.out HBr.out)
      by_cases hlt : k < l1.length
      · have hltz : (k : Int) < (l1.length : Int) := by omega
        have hlx : k < x0.lines.length := by have := HLL.out; omega
        obtain ⟨b1, o1, m1, hq1, hxl, hxc, hxm⟩ := Cm.LnsAt.get (HL.out wr HBp.out) k hlx
        simp only [Option.some.injEq, Addr.mk.injEq, and_true] at hq1
        obtain ⟨rfl, rfl⟩ := hq1
        obtain ⟨b2, o2, hq2, hob, hol, hoc⟩ := Bk.OtsAt.get (HO.out wr HBp.out) k hlt
        simp only [Option.some.injEq, Addr.mk.injEq, and_true] at hq2
        obtain ⟨rfl, rfl⟩ := hq2
        have HBD := Lib.hid (HSm.out.2 _ (List.mem_of_getElem? hol))
        have HGD := Lib.hid (((Ce.good_iff _).1 ((claim_of HCE.out).2.2.1 _ (List.mem_of_getElem? hxl)).2).2)
        have HXL := Lib.hid hxl
        have HOL := Lib.hid hol
        have hi1 : k < x0.lines.length := hlx
        have hi2 : k < l1.length := hlt
        generalize x0.lines[k] = l at *
        generalize l1[k] = o at *
        have HPN : Hid (b = true → Sh.balB l.billed { o with al := l.billed } = true → 0 ≤ o.deny → o.deny ≤ 999 → ∀ (j : Nat) (l : Cm.Ln) (o : Sh.Ot), j < k + 1 → x0.lines[j]? = some l → l1[j]? = some o → Sh.balB l.billed { o with al := l.billed } = true ∧ 0 ≤ o.deny ∧ o.deny ≤ 999) := fun e1 e2 e3 e4 j l' o' hj hj1 hj2 => by
          rcases Nat.lt_succ_iff_lt_or_eq.1 hj with h | rfl
          · exact HPB.out e1 j l' o' h hj1 hj2
          · rw [HXL.out] at hj1
            rw [HOL.out] at hj2
            obtain rfl := Option.some.inj hj1
            obtain rfl := Option.some.inj hj2
            exact ⟨e2, e3, e4⟩
        have HXO := Lib.hid hoc
        have HXN := Lib.hid hxc
        obtain ⟨u0, u1, u2, u3, u4, u5, u6, u7⟩ := hoc
        clear hxl hxm hol hxc
        go_upto_region 8 with fail
        have HA7 := Lib.hid (alloc_new wr (otv o) 40)
        have HB7 := Lib.hid (below_alloc wr (.cells (otv o) 40))
        have HA9 : Hid (((wr.alloc (.cells (otv o) 40)).setCell ⟨wr.heap.size, 0, none⟩ (.int .i64 l.billed)).heap[wr.heap.size]? = some (.cells (otv { o with al := l.billed }) 40 (0, 0))) := (Bk.heap_set (alloc_new wr (otv o) 40) 0 (.int .i64 l.billed)).trans (by rfl)
        have HB9 : Hid (Below wr.heap.size wr ((wr.alloc (.cells (otv o) 40)).setCell ⟨wr.heap.size, 0, none⟩ (.int .i64 l.billed))) := (below_alloc wr (.cells (otv o) 40)).setCell (p := ⟨wr.heap.size, 0, none⟩) (Nat.le_refl _) _
        have HW9 : Hid (∀ W', Below wr.heap.size wr W' → (W'.cell? ⟨p, 0, none⟩ = some (.string (mk x0.id)) ∧ W'.cell? ⟨p, 1, none⟩ = some (.string (mk x0.mem)) ∧ W'.cell? ⟨p, 2, none⟩ = some (.string (mk x0.fam)) ∧ W'.cell? ⟨p, 3, none⟩ = some (.int .i64 x0.net) ∧ W'.cell? ⟨p, 4, none⟩ = some (.int .i64 x0.does) ∧ W'.cell? ⟨p, 5, none⟩ = some (.string (mk x0.ref)) ∧ W'.cell? ⟨p, 6, none⟩ = some ((.slice (some ⟨bl, ol, none⟩) x0.lines.length cl))) ∧ W'.cell? ⟨bl, ol + k * 6 + 4, none⟩ = some (.int .i64 l.billed) ∧ W'.cell? ⟨bo, oo + k * 8 + 7, none⟩ = some (.int .i64 o.deny)) := fun W' hw =>
          ⟨seven (keepB (keepB HXC.out HBr.out) hw), ln_billed (HXN.out.of (hw.block bl (World.block_lt_of_cell? wr _ HXN.out.1))), ot_cell (HXO.out.of (hw.block bo hob))⟩
        obtain ⟨W7, hW7⟩ : ∃ z, z = wr.alloc (.cells (otv o) 40) := ⟨_, rfl⟩
        rw [← hW7] at HA7 HB7 HA9 HB9 ⊢
        clear hW7 y0 y1 y2 y3 y4 y5 y6 u0 u1 u2 u3 u4 u5 u6 u7
        obtain ⟨q, hq⟩ : ∃ q, q = wr.heap.size := ⟨_, rfl⟩
        rw [← hq] at HA7 HA9 ⊢
        have HQ := Lib.hid hq
        clear hq
        obtain ⟨⟨y0, y1, y2, y3, y4, y5, y6⟩, hln, -⟩ := HW9.out W7 HB7.out
        obtain ⟨g0, g1, g2, g3, g4, g5, g6, g7⟩ := Sh.eight HA7.out
        have fz := (frz7 HA7.out).1
        go_upto_region 9 with fail
        obtain ⟨W9, hW9⟩ : ∃ z, z = W7.setCell ⟨q, 0, none⟩ (.int .i64 l.billed) := ⟨_, rfl⟩
        rw [show W7.setCell ⟨wr.heap.size, 0, none⟩ (.int .i64 l.billed) = W7.setCell ⟨q, 0, none⟩ (.int .i64 l.billed) by rw [HQ.out]] at HB9
        rw [← hW9] at HA9 HB9 ⊢
        clear hW9 y0 y1 y2 y3 y4 y5 y6 g0 g1 g2 g3 g4 g5 g6 g7 fz hln HA7 HB7
        have HYK : Hid (∀ W', Below W9.heap.size W9 W' → (W'.cell? ⟨p, 0, none⟩ = some (.string (mk x0.id)) ∧ W'.cell? ⟨p, 1, none⟩ = some (.string (mk x0.mem)) ∧ W'.cell? ⟨p, 2, none⟩ = some (.string (mk x0.fam)) ∧ W'.cell? ⟨p, 3, none⟩ = some (.int .i64 x0.net) ∧ W'.cell? ⟨p, 4, none⟩ = some (.int .i64 x0.does) ∧ W'.cell? ⟨p, 5, none⟩ = some (.string (mk x0.ref)) ∧ W'.cell? ⟨p, 6, none⟩ = some ((.slice (some ⟨bl, ol, none⟩) x0.lines.length cl))) ∧ W'.cell? ⟨bl, ol + k * 6 + 4, none⟩ = some (.int .i64 l.billed) ∧ W'.cell? ⟨bo, oo + k * 8 + 7, none⟩ = some (.int .i64 o.deny) ∧ (W'.cell? ⟨q, 0, none⟩ = some (.int .i64 l.billed) ∧ W'.cell? ⟨q, 1, none⟩ = some (.int .i64 o.de) ∧ W'.cell? ⟨q, 2, none⟩ = some (.int .i64 o.cp) ∧ W'.cell? ⟨q, 3, none⟩ = some (.int .i64 o.cn) ∧ W'.cell? ⟨q, 4, none⟩ = some (.int .i64 o.plan) ∧ W'.cell? ⟨q, 5, none⟩ = some (.int .i64 o.wr) ∧ W'.cell? ⟨q, 6, none⟩ = some (.int .i64 o.pr) ∧ W'.cell? ⟨q, 7, none⟩ = some (.int .i64 o.deny))) := fun W' hW => by
          have hw := below_trans HB9.out hW
          exact ⟨(HW9.out W' hw).1, (HW9.out W' hw).2.1, (HW9.out W' hw).2.2, Sh.eight (keepB HA9.out hW)⟩
        have HBN : Hid (∀ W', Below W9.heap.size W9 W' → Below w2.heap.size w2 W') := fun W' hW => HBr.out.trans ((below_trans HB9.out hW).mono HBr.out.size)
        have HBL := Lib.hid fun W => bal_any l.billed { o with al := l.billed } W HBD.out HGD.out
        have HD := Lib.hid (Below.drew (Below.refl W9.heap.size W9))
        cases b with
        | false =>
          refine Ri.wp_region_tailG 27 (by kernel_rfl) (by kernel_rfl) (by kernel_rfl) (by decide) (by kernel_rfl) (fun Wx => Below W9.heap.size W9 Wx) (fun kz vs wz => (fun kx vx wx => match kx with | 0 => vx = .bool false | 1 => vx = .bool false | 2 => True | 3 => True | 4 => True | 5 => True | 6 => True | 7 => True | 8 => True | 9 => True | 10 => vx = .bool false | 11 => vx = .bool false | 12 => True | 13 => True | 14 => True | 15 => True | 16 => True | 17 => True | 18 => vx = .bool false | 19 => vx = .bool false | 20 => True | 21 => True | 22 => True | 23 => True | 24 => True | 25 => True | 26 => vx = .bool false | _ => True : Nat → Value → World → Prop) kz (vs kz) wz) (fun lst vs => lst 27 = false → vs 27 = .bool false) (fun kz => [kz]) (by kernel_rfl) (fun jz vs iz vz wz hiz hz => Ri.loc_own (F := (fun kx vx wx => match kx with | 0 => vx = .bool false | 1 => vx = .bool false | 2 => True | 3 => True | 4 => True | 5 => True | 6 => True | 7 => True | 8 => True | 9 => True | 10 => vx = .bool false | 11 => vx = .bool false | 12 => True | 13 => True | 14 => True | 15 => True | 16 => True | 17 => True | 18 => vx = .bool false | 19 => vx = .bool false | 20 => True | 21 => True | 22 => True | 23 => True | 24 => True | 25 => True | 26 => vx = .bool false | _ => True : Nat → Value → World → Prop)) jz vs iz vz wz hiz hz) HD.out ?_ ⟨Or.inl ⟨rfl, ?_⟩, Or.inl ⟨rfl, ?_⟩, Or.inr ⟨1, true, 51, rfl, rfl, ?_⟩, Or.inr ⟨1, true, 51, rfl, rfl, ?_⟩, Or.inr ⟨1, true, 51, rfl, rfl, ?_⟩, Or.inr ⟨1, true, 51, rfl, rfl, ?_⟩, Or.inr ⟨1, true, 51, rfl, rfl, ?_⟩, Or.inr ⟨1, true, 51, rfl, rfl, ?_⟩, Or.inr ⟨1, true, 51, rfl, rfl, ?_⟩, Or.inr ⟨1, true, 51, rfl, rfl, ?_⟩, Or.inl ⟨rfl, ?_⟩, Or.inl ⟨rfl, ?_⟩, Or.inr ⟨11, true, 61, rfl, rfl, ?_⟩, Or.inr ⟨11, true, 61, rfl, rfl, ?_⟩, Or.inr ⟨11, true, 61, rfl, rfl, ?_⟩, Or.inr ⟨11, true, 61, rfl, rfl, ?_⟩, Or.inr ⟨11, true, 61, rfl, rfl, ?_⟩, Or.inr ⟨11, true, 61, rfl, rfl, ?_⟩, Or.inl ⟨rfl, ?_⟩, Or.inl ⟨rfl, ?_⟩, Or.inr ⟨19, true, 69, rfl, rfl, ?_⟩, Or.inr ⟨19, true, 69, rfl, rfl, ?_⟩, Or.inr ⟨19, true, 69, rfl, rfl, ?_⟩, Or.inr ⟨19, true, 69, rfl, rfl, ?_⟩, Or.inr ⟨19, true, 69, rfl, rfl, ?_⟩, Or.inr ⟨19, true, 69, rfl, rfl, ?_⟩, Or.inl ⟨rfl, ?_⟩, trivial⟩ ?_
          · intro vs hvs
            intro _
            have h1 := congrArg (fun a => a.tmps[5]?.getD undef) hvs
            exact (show vs 27 = _ by kernel_rfl).trans (h1.trans (show _ = Value.bool false by kernel_rfl))
          · intro vs Wx A lst hA hB hls hX hno hpre K hK
            have e5 := ((hA 5).trans (show _ = vs 27 by kernel_rfl)).trans (hX (hno 27 (by decide)))
            clear hA hpre
            go_simp
            first | exact hK _ _ hB rfl (fun _ _ h => h) hX | exact hK _ _ hB trivial (fun _ _ h => h) hX | (rw [if_neg (by omega)]; go_simp; exact hK _ _ hB rfl (fun _ _ h => h) hX)
          · intro vs Wx A lst hA hB hls hX hno hpre K hK
            have e50 := ((hA 50).trans (show _ = vs 0 by kernel_rfl)).trans (by first | exact hpre.1 rfl | exact hpre.2.1 rfl | exact hpre.2.2.1 rfl | exact hpre.2.2.2.1 rfl | exact hpre.2.2.2.2.1 rfl | exact hpre.2.2.2.2.2.1 rfl | exact hpre.2.2.2.2.2.2.1 rfl | exact hpre.2.2.2.2.2.2.2.1 rfl | exact hpre.2.2.2.2.2.2.2.2.1 rfl | exact hpre.2.2.2.2.2.2.2.2.2.1 rfl)
            clear hA hpre
            go_simp
            first | exact hK _ _ hB rfl (fun _ _ h => h) hX | exact hK _ _ hB trivial (fun _ _ h => h) hX | (rw [if_neg (by omega)]; go_simp; exact hK _ _ hB rfl (fun _ _ h => h) hX)
          · intro vs Wx A lst hA hB hls hX hno hpre
            have eg := ((hA 51).trans (show _ = vs 1 by kernel_rfl)).trans (by first | exact hpre.1 rfl | exact hpre.2.1 rfl | exact hpre.2.2.1 rfl | exact hpre.2.2.2.1 rfl | exact hpre.2.2.2.2.1 rfl | exact hpre.2.2.2.2.2.1 rfl | exact hpre.2.2.2.2.2.2.1 rfl | exact hpre.2.2.2.2.2.2.2.1 rfl | exact hpre.2.2.2.2.2.2.2.2.1 rfl | exact hpre.2.2.2.2.2.2.2.2.2.1 rfl)
            exact ⟨false, eg, fun h => (by cases h), fun _ => ⟨trivial, hX⟩⟩
          · intro vs Wx A lst hA hB hls hX hno hpre
            have eg := ((hA 51).trans (show _ = vs 1 by kernel_rfl)).trans (by first | exact hpre.1 rfl | exact hpre.2.1 rfl | exact hpre.2.2.1 rfl | exact hpre.2.2.2.1 rfl | exact hpre.2.2.2.2.1 rfl | exact hpre.2.2.2.2.2.1 rfl | exact hpre.2.2.2.2.2.2.1 rfl | exact hpre.2.2.2.2.2.2.2.1 rfl | exact hpre.2.2.2.2.2.2.2.2.1 rfl | exact hpre.2.2.2.2.2.2.2.2.2.1 rfl)
            exact ⟨false, eg, fun h => (by cases h), fun _ => ⟨trivial, hX⟩⟩
          · intro vs Wx A lst hA hB hls hX hno hpre
            have eg := ((hA 51).trans (show _ = vs 1 by kernel_rfl)).trans (by first | exact hpre.1 rfl | exact hpre.2.1 rfl | exact hpre.2.2.1 rfl | exact hpre.2.2.2.1 rfl | exact hpre.2.2.2.2.1 rfl | exact hpre.2.2.2.2.2.1 rfl | exact hpre.2.2.2.2.2.2.1 rfl | exact hpre.2.2.2.2.2.2.2.1 rfl | exact hpre.2.2.2.2.2.2.2.2.1 rfl | exact hpre.2.2.2.2.2.2.2.2.2.1 rfl)
            exact ⟨false, eg, fun h => (by cases h), fun _ => ⟨trivial, hX⟩⟩
          · intro vs Wx A lst hA hB hls hX hno hpre
            have eg := ((hA 51).trans (show _ = vs 1 by kernel_rfl)).trans (by first | exact hpre.1 rfl | exact hpre.2.1 rfl | exact hpre.2.2.1 rfl | exact hpre.2.2.2.1 rfl | exact hpre.2.2.2.2.1 rfl | exact hpre.2.2.2.2.2.1 rfl | exact hpre.2.2.2.2.2.2.1 rfl | exact hpre.2.2.2.2.2.2.2.1 rfl | exact hpre.2.2.2.2.2.2.2.2.1 rfl | exact hpre.2.2.2.2.2.2.2.2.2.1 rfl)
            exact ⟨false, eg, fun h => (by cases h), fun _ => ⟨trivial, hX⟩⟩
          · intro vs Wx A lst hA hB hls hX hno hpre
            have eg := ((hA 51).trans (show _ = vs 1 by kernel_rfl)).trans (by first | exact hpre.1 rfl | exact hpre.2.1 rfl | exact hpre.2.2.1 rfl | exact hpre.2.2.2.1 rfl | exact hpre.2.2.2.2.1 rfl | exact hpre.2.2.2.2.2.1 rfl | exact hpre.2.2.2.2.2.2.1 rfl | exact hpre.2.2.2.2.2.2.2.1 rfl | exact hpre.2.2.2.2.2.2.2.2.1 rfl | exact hpre.2.2.2.2.2.2.2.2.2.1 rfl)
            exact ⟨false, eg, fun h => (by cases h), fun _ => ⟨trivial, hX⟩⟩
          · intro vs Wx A lst hA hB hls hX hno hpre
            have eg := ((hA 51).trans (show _ = vs 1 by kernel_rfl)).trans (by first | exact hpre.1 rfl | exact hpre.2.1 rfl | exact hpre.2.2.1 rfl | exact hpre.2.2.2.1 rfl | exact hpre.2.2.2.2.1 rfl | exact hpre.2.2.2.2.2.1 rfl | exact hpre.2.2.2.2.2.2.1 rfl | exact hpre.2.2.2.2.2.2.2.1 rfl | exact hpre.2.2.2.2.2.2.2.2.1 rfl | exact hpre.2.2.2.2.2.2.2.2.2.1 rfl)
            exact ⟨false, eg, fun h => (by cases h), fun _ => ⟨trivial, hX⟩⟩
          · intro vs Wx A lst hA hB hls hX hno hpre
            have eg := ((hA 51).trans (show _ = vs 1 by kernel_rfl)).trans (by first | exact hpre.1 rfl | exact hpre.2.1 rfl | exact hpre.2.2.1 rfl | exact hpre.2.2.2.1 rfl | exact hpre.2.2.2.2.1 rfl | exact hpre.2.2.2.2.2.1 rfl | exact hpre.2.2.2.2.2.2.1 rfl | exact hpre.2.2.2.2.2.2.2.1 rfl | exact hpre.2.2.2.2.2.2.2.2.1 rfl | exact hpre.2.2.2.2.2.2.2.2.2.1 rfl)
            exact ⟨false, eg, fun h => (by cases h), fun _ => ⟨trivial, hX⟩⟩
          · intro vs Wx A lst hA hB hls hX hno hpre
            have eg := ((hA 51).trans (show _ = vs 1 by kernel_rfl)).trans (by first | exact hpre.1 rfl | exact hpre.2.1 rfl | exact hpre.2.2.1 rfl | exact hpre.2.2.2.1 rfl | exact hpre.2.2.2.2.1 rfl | exact hpre.2.2.2.2.2.1 rfl | exact hpre.2.2.2.2.2.2.1 rfl | exact hpre.2.2.2.2.2.2.2.1 rfl | exact hpre.2.2.2.2.2.2.2.2.1 rfl | exact hpre.2.2.2.2.2.2.2.2.2.1 rfl)
            exact ⟨false, eg, fun h => (by cases h), fun _ => ⟨trivial, hX⟩⟩
          · intro vs Wx A lst hA hB hls hX hno hpre K hK
            have e51 := ((hA 51).trans (show _ = vs 1 by kernel_rfl)).trans (by first | exact hpre.1 rfl | exact hpre.2.1 rfl | exact hpre.2.2.1 rfl | exact hpre.2.2.2.1 rfl | exact hpre.2.2.2.2.1 rfl | exact hpre.2.2.2.2.2.1 rfl | exact hpre.2.2.2.2.2.2.1 rfl | exact hpre.2.2.2.2.2.2.2.1 rfl | exact hpre.2.2.2.2.2.2.2.2.1 rfl | exact hpre.2.2.2.2.2.2.2.2.2.1 rfl)
            clear hA hpre
            go_simp
            first | exact hK _ _ hB rfl (fun _ _ h => h) hX | exact hK _ _ hB trivial (fun _ _ h => h) hX | (rw [if_neg (by omega)]; go_simp; exact hK _ _ hB rfl (fun _ _ h => h) hX)
          · intro vs Wx A lst hA hB hls hX hno hpre K hK
            have e60 := ((hA 60).trans (show _ = vs 10 by kernel_rfl)).trans (by first | exact hpre.1 rfl | exact hpre.2.1 rfl | exact hpre.2.2.1 rfl | exact hpre.2.2.2.1 rfl | exact hpre.2.2.2.2.1 rfl | exact hpre.2.2.2.2.2.1 rfl | exact hpre.2.2.2.2.2.2.1 rfl | exact hpre.2.2.2.2.2.2.2.1 rfl | exact hpre.2.2.2.2.2.2.2.2.1 rfl | exact hpre.2.2.2.2.2.2.2.2.2.1 rfl)
            clear hA hpre
            go_simp
            first | exact hK _ _ hB rfl (fun _ _ h => h) hX | exact hK _ _ hB trivial (fun _ _ h => h) hX | (rw [if_neg (by omega)]; go_simp; exact hK _ _ hB rfl (fun _ _ h => h) hX)
          · intro vs Wx A lst hA hB hls hX hno hpre
            have eg := ((hA 61).trans (show _ = vs 11 by kernel_rfl)).trans (by first | exact hpre.1 rfl | exact hpre.2.1 rfl | exact hpre.2.2.1 rfl | exact hpre.2.2.2.1 rfl | exact hpre.2.2.2.2.1 rfl | exact hpre.2.2.2.2.2.1 rfl | exact hpre.2.2.2.2.2.2.1 rfl | exact hpre.2.2.2.2.2.2.2.1 rfl | exact hpre.2.2.2.2.2.2.2.2.1 rfl | exact hpre.2.2.2.2.2.2.2.2.2.1 rfl)
            exact ⟨false, eg, fun h => (by cases h), fun _ => ⟨trivial, hX⟩⟩
          · intro vs Wx A lst hA hB hls hX hno hpre
            have eg := ((hA 61).trans (show _ = vs 11 by kernel_rfl)).trans (by first | exact hpre.1 rfl | exact hpre.2.1 rfl | exact hpre.2.2.1 rfl | exact hpre.2.2.2.1 rfl | exact hpre.2.2.2.2.1 rfl | exact hpre.2.2.2.2.2.1 rfl | exact hpre.2.2.2.2.2.2.1 rfl | exact hpre.2.2.2.2.2.2.2.1 rfl | exact hpre.2.2.2.2.2.2.2.2.1 rfl | exact hpre.2.2.2.2.2.2.2.2.2.1 rfl)
            exact ⟨false, eg, fun h => (by cases h), fun _ => ⟨trivial, hX⟩⟩
          · intro vs Wx A lst hA hB hls hX hno hpre
            have eg := ((hA 61).trans (show _ = vs 11 by kernel_rfl)).trans (by first | exact hpre.1 rfl | exact hpre.2.1 rfl | exact hpre.2.2.1 rfl | exact hpre.2.2.2.1 rfl | exact hpre.2.2.2.2.1 rfl | exact hpre.2.2.2.2.2.1 rfl | exact hpre.2.2.2.2.2.2.1 rfl | exact hpre.2.2.2.2.2.2.2.1 rfl | exact hpre.2.2.2.2.2.2.2.2.1 rfl | exact hpre.2.2.2.2.2.2.2.2.2.1 rfl)
            exact ⟨false, eg, fun h => (by cases h), fun _ => ⟨trivial, hX⟩⟩
          · intro vs Wx A lst hA hB hls hX hno hpre
            have eg := ((hA 61).trans (show _ = vs 11 by kernel_rfl)).trans (by first | exact hpre.1 rfl | exact hpre.2.1 rfl | exact hpre.2.2.1 rfl | exact hpre.2.2.2.1 rfl | exact hpre.2.2.2.2.1 rfl | exact hpre.2.2.2.2.2.1 rfl | exact hpre.2.2.2.2.2.2.1 rfl | exact hpre.2.2.2.2.2.2.2.1 rfl | exact hpre.2.2.2.2.2.2.2.2.1 rfl | exact hpre.2.2.2.2.2.2.2.2.2.1 rfl)
            exact ⟨false, eg, fun h => (by cases h), fun _ => ⟨trivial, hX⟩⟩
          · intro vs Wx A lst hA hB hls hX hno hpre
            have eg := ((hA 61).trans (show _ = vs 11 by kernel_rfl)).trans (by first | exact hpre.1 rfl | exact hpre.2.1 rfl | exact hpre.2.2.1 rfl | exact hpre.2.2.2.1 rfl | exact hpre.2.2.2.2.1 rfl | exact hpre.2.2.2.2.2.1 rfl | exact hpre.2.2.2.2.2.2.1 rfl | exact hpre.2.2.2.2.2.2.2.1 rfl | exact hpre.2.2.2.2.2.2.2.2.1 rfl | exact hpre.2.2.2.2.2.2.2.2.2.1 rfl)
            exact ⟨false, eg, fun h => (by cases h), fun _ => ⟨trivial, hX⟩⟩
          · intro vs Wx A lst hA hB hls hX hno hpre
            have eg := ((hA 61).trans (show _ = vs 11 by kernel_rfl)).trans (by first | exact hpre.1 rfl | exact hpre.2.1 rfl | exact hpre.2.2.1 rfl | exact hpre.2.2.2.1 rfl | exact hpre.2.2.2.2.1 rfl | exact hpre.2.2.2.2.2.1 rfl | exact hpre.2.2.2.2.2.2.1 rfl | exact hpre.2.2.2.2.2.2.2.1 rfl | exact hpre.2.2.2.2.2.2.2.2.1 rfl | exact hpre.2.2.2.2.2.2.2.2.2.1 rfl)
            exact ⟨false, eg, fun h => (by cases h), fun _ => ⟨trivial, hX⟩⟩
          · intro vs Wx A lst hA hB hls hX hno hpre K hK
            have e61 := ((hA 61).trans (show _ = vs 11 by kernel_rfl)).trans (by first | exact hpre.1 rfl | exact hpre.2.1 rfl | exact hpre.2.2.1 rfl | exact hpre.2.2.2.1 rfl | exact hpre.2.2.2.2.1 rfl | exact hpre.2.2.2.2.2.1 rfl | exact hpre.2.2.2.2.2.2.1 rfl | exact hpre.2.2.2.2.2.2.2.1 rfl | exact hpre.2.2.2.2.2.2.2.2.1 rfl | exact hpre.2.2.2.2.2.2.2.2.2.1 rfl)
            clear hA hpre
            go_simp
            first | exact hK _ _ hB rfl (fun _ _ h => h) hX | exact hK _ _ hB trivial (fun _ _ h => h) hX | (rw [if_neg (by omega)]; go_simp; exact hK _ _ hB rfl (fun _ _ h => h) hX)
          · intro vs Wx A lst hA hB hls hX hno hpre K hK
            have e68 := ((hA 68).trans (show _ = vs 18 by kernel_rfl)).trans (by first | exact hpre.1 rfl | exact hpre.2.1 rfl | exact hpre.2.2.1 rfl | exact hpre.2.2.2.1 rfl | exact hpre.2.2.2.2.1 rfl | exact hpre.2.2.2.2.2.1 rfl | exact hpre.2.2.2.2.2.2.1 rfl | exact hpre.2.2.2.2.2.2.2.1 rfl | exact hpre.2.2.2.2.2.2.2.2.1 rfl | exact hpre.2.2.2.2.2.2.2.2.2.1 rfl)
            clear hA hpre
            go_simp
            first | exact hK _ _ hB rfl (fun _ _ h => h) hX | exact hK _ _ hB trivial (fun _ _ h => h) hX | (rw [if_neg (by omega)]; go_simp; exact hK _ _ hB rfl (fun _ _ h => h) hX)
          · intro vs Wx A lst hA hB hls hX hno hpre
            have eg := ((hA 69).trans (show _ = vs 19 by kernel_rfl)).trans (by first | exact hpre.1 rfl | exact hpre.2.1 rfl | exact hpre.2.2.1 rfl | exact hpre.2.2.2.1 rfl | exact hpre.2.2.2.2.1 rfl | exact hpre.2.2.2.2.2.1 rfl | exact hpre.2.2.2.2.2.2.1 rfl | exact hpre.2.2.2.2.2.2.2.1 rfl | exact hpre.2.2.2.2.2.2.2.2.1 rfl | exact hpre.2.2.2.2.2.2.2.2.2.1 rfl)
            exact ⟨false, eg, fun h => (by cases h), fun _ => ⟨trivial, hX⟩⟩
          · intro vs Wx A lst hA hB hls hX hno hpre
            have eg := ((hA 69).trans (show _ = vs 19 by kernel_rfl)).trans (by first | exact hpre.1 rfl | exact hpre.2.1 rfl | exact hpre.2.2.1 rfl | exact hpre.2.2.2.1 rfl | exact hpre.2.2.2.2.1 rfl | exact hpre.2.2.2.2.2.1 rfl | exact hpre.2.2.2.2.2.2.1 rfl | exact hpre.2.2.2.2.2.2.2.1 rfl | exact hpre.2.2.2.2.2.2.2.2.1 rfl | exact hpre.2.2.2.2.2.2.2.2.2.1 rfl)
            exact ⟨false, eg, fun h => (by cases h), fun _ => ⟨trivial, hX⟩⟩
          · intro vs Wx A lst hA hB hls hX hno hpre
            have eg := ((hA 69).trans (show _ = vs 19 by kernel_rfl)).trans (by first | exact hpre.1 rfl | exact hpre.2.1 rfl | exact hpre.2.2.1 rfl | exact hpre.2.2.2.1 rfl | exact hpre.2.2.2.2.1 rfl | exact hpre.2.2.2.2.2.1 rfl | exact hpre.2.2.2.2.2.2.1 rfl | exact hpre.2.2.2.2.2.2.2.1 rfl | exact hpre.2.2.2.2.2.2.2.2.1 rfl | exact hpre.2.2.2.2.2.2.2.2.2.1 rfl)
            exact ⟨false, eg, fun h => (by cases h), fun _ => ⟨trivial, hX⟩⟩
          · intro vs Wx A lst hA hB hls hX hno hpre
            have eg := ((hA 69).trans (show _ = vs 19 by kernel_rfl)).trans (by first | exact hpre.1 rfl | exact hpre.2.1 rfl | exact hpre.2.2.1 rfl | exact hpre.2.2.2.1 rfl | exact hpre.2.2.2.2.1 rfl | exact hpre.2.2.2.2.2.1 rfl | exact hpre.2.2.2.2.2.2.1 rfl | exact hpre.2.2.2.2.2.2.2.1 rfl | exact hpre.2.2.2.2.2.2.2.2.1 rfl | exact hpre.2.2.2.2.2.2.2.2.2.1 rfl)
            exact ⟨false, eg, fun h => (by cases h), fun _ => ⟨trivial, hX⟩⟩
          · intro vs Wx A lst hA hB hls hX hno hpre
            have eg := ((hA 69).trans (show _ = vs 19 by kernel_rfl)).trans (by first | exact hpre.1 rfl | exact hpre.2.1 rfl | exact hpre.2.2.1 rfl | exact hpre.2.2.2.1 rfl | exact hpre.2.2.2.2.1 rfl | exact hpre.2.2.2.2.2.1 rfl | exact hpre.2.2.2.2.2.2.1 rfl | exact hpre.2.2.2.2.2.2.2.1 rfl | exact hpre.2.2.2.2.2.2.2.2.1 rfl | exact hpre.2.2.2.2.2.2.2.2.2.1 rfl)
            exact ⟨false, eg, fun h => (by cases h), fun _ => ⟨trivial, hX⟩⟩
          · intro vs Wx A lst hA hB hls hX hno hpre
            have eg := ((hA 69).trans (show _ = vs 19 by kernel_rfl)).trans (by first | exact hpre.1 rfl | exact hpre.2.1 rfl | exact hpre.2.2.1 rfl | exact hpre.2.2.2.1 rfl | exact hpre.2.2.2.2.1 rfl | exact hpre.2.2.2.2.2.1 rfl | exact hpre.2.2.2.2.2.2.1 rfl | exact hpre.2.2.2.2.2.2.2.1 rfl | exact hpre.2.2.2.2.2.2.2.2.1 rfl | exact hpre.2.2.2.2.2.2.2.2.2.1 rfl)
            exact ⟨false, eg, fun h => (by cases h), fun _ => ⟨trivial, hX⟩⟩
          · intro vs Wx A lst hA hB hls hX hno hpre K hK
            have e69 := ((hA 69).trans (show _ = vs 19 by kernel_rfl)).trans (by first | exact hpre.1 rfl | exact hpre.2.1 rfl | exact hpre.2.2.1 rfl | exact hpre.2.2.2.1 rfl | exact hpre.2.2.2.2.1 rfl | exact hpre.2.2.2.2.2.1 rfl | exact hpre.2.2.2.2.2.2.1 rfl | exact hpre.2.2.2.2.2.2.2.1 rfl | exact hpre.2.2.2.2.2.2.2.2.1 rfl | exact hpre.2.2.2.2.2.2.2.2.2.1 rfl)
            clear hA hpre
            go_simp
            first | exact hK _ _ hB rfl (fun _ _ h => h) hX | exact hK _ _ hB trivial (fun _ _ h => h) hX | (rw [if_neg (by omega)]; go_simp; exact hK _ _ hB rfl (fun _ _ h => h) hX)
          · intro vs Wx lst hall hX hB hF
            refine fun A27 hA K27 hK27 => ?_
            have e76 := ((hA 76).trans (show _ = vs 26 by kernel_rfl)).trans (hF 26 (by decide))
            clear hA
            clear hF
            go_simp
            refine hK27 _ _ ?_
            have HBW := Lib.hid hB
            clear hB hX hall
            simp only [Ri.Tail, Ri.puts]
            go_simp
            go_wp2_with fail
            go_roundg (l1.length - (k + 1))
            case measure => omega
            case rel => exact ⟨k + 1, false, by omega, rfl, by first | rfl | (go_simp; done) | simp [Ri.upd], by first | rfl | go_num, (fun h => by cases h), HBN.out Wx HBW.out⟩
        | true =>
          cases hbb : Sh.balB l.billed { o with al := l.billed } with
          | false =>
            refine Ri.wp_region_tailG 27 (by kernel_rfl) (by kernel_rfl) (by kernel_rfl) (by decide) (by kernel_rfl) (fun Wx => Below W9.heap.size W9 Wx) (fun kz vs wz => (fun kx vx wx => match kx with | 0 => vx = .bool true | 1 => vx = .bool true | 2 => vx = .pointer (some ⟨p, 6, none⟩) | 3 => vx = (.slice (some ⟨bl, ol, none⟩) x0.lines.length cl) | 4 => vx = .int .i64 k | 5 => vx = .pointer (some ⟨bl, ol + k * 6, none⟩) | 6 => vx = .pointer (some ⟨bl, ol + k * 6 + 4, none⟩) | 7 => vx = .int .i64 l.billed | 8 => vx = .agg (otv { o with al := l.billed }) | 9 => vx = .bool false | 10 => vx = .bool false | 11 => vx = .bool false | 12 => True | 13 => True | 14 => True | 15 => True | 16 => True | 17 => True | 18 => vx = .bool false | 19 => vx = .bool false | 20 => True | 21 => True | 22 => True | 23 => True | 24 => True | 25 => True | 26 => vx = .bool false | _ => True : Nat → Value → World → Prop) kz (vs kz) wz) (fun lst vs => lst 27 = false → vs 27 = .bool true) (fun kz => [kz]) (by kernel_rfl) (fun jz vs iz vz wz hiz hz => Ri.loc_own (F := (fun kx vx wx => match kx with | 0 => vx = .bool true | 1 => vx = .bool true | 2 => vx = .pointer (some ⟨p, 6, none⟩) | 3 => vx = (.slice (some ⟨bl, ol, none⟩) x0.lines.length cl) | 4 => vx = .int .i64 k | 5 => vx = .pointer (some ⟨bl, ol + k * 6, none⟩) | 6 => vx = .pointer (some ⟨bl, ol + k * 6 + 4, none⟩) | 7 => vx = .int .i64 l.billed | 8 => vx = .agg (otv { o with al := l.billed }) | 9 => vx = .bool false | 10 => vx = .bool false | 11 => vx = .bool false | 12 => True | 13 => True | 14 => True | 15 => True | 16 => True | 17 => True | 18 => vx = .bool false | 19 => vx = .bool false | 20 => True | 21 => True | 22 => True | 23 => True | 24 => True | 25 => True | 26 => vx = .bool false | _ => True : Nat → Value → World → Prop)) jz vs iz vz wz hiz hz) HD.out ?_ ⟨Or.inl ⟨rfl, ?_⟩, Or.inl ⟨rfl, ?_⟩, Or.inr ⟨1, true, 51, rfl, rfl, ?_⟩, Or.inr ⟨1, true, 51, rfl, rfl, ?_⟩, Or.inr ⟨1, true, 51, rfl, rfl, ?_⟩, Or.inr ⟨1, true, 51, rfl, rfl, ?_⟩, Or.inr ⟨1, true, 51, rfl, rfl, ?_⟩, Or.inr ⟨1, true, 51, rfl, rfl, ?_⟩, Or.inr ⟨1, true, 51, rfl, rfl, ?_⟩, Or.inr ⟨1, true, 51, rfl, rfl, ?_⟩, Or.inl ⟨rfl, ?_⟩, Or.inl ⟨rfl, ?_⟩, Or.inr ⟨11, true, 61, rfl, rfl, ?_⟩, Or.inr ⟨11, true, 61, rfl, rfl, ?_⟩, Or.inr ⟨11, true, 61, rfl, rfl, ?_⟩, Or.inr ⟨11, true, 61, rfl, rfl, ?_⟩, Or.inr ⟨11, true, 61, rfl, rfl, ?_⟩, Or.inr ⟨11, true, 61, rfl, rfl, ?_⟩, Or.inl ⟨rfl, ?_⟩, Or.inl ⟨rfl, ?_⟩, Or.inr ⟨19, true, 69, rfl, rfl, ?_⟩, Or.inr ⟨19, true, 69, rfl, rfl, ?_⟩, Or.inr ⟨19, true, 69, rfl, rfl, ?_⟩, Or.inr ⟨19, true, 69, rfl, rfl, ?_⟩, Or.inr ⟨19, true, 69, rfl, rfl, ?_⟩, Or.inr ⟨19, true, 69, rfl, rfl, ?_⟩, Or.inl ⟨rfl, ?_⟩, trivial⟩ ?_
            · intro vs hvs
              intro _
              have h1 := congrArg (fun a => a.tmps[5]?.getD undef) hvs
              exact (show vs 27 = _ by kernel_rfl).trans (h1.trans (show _ = Value.bool true by kernel_rfl))
            · intro vs Wx A lst hA hB hls hX hno hpre K hK
              have e5 := ((hA 5).trans (show _ = vs 27 by kernel_rfl)).trans (hX (hno 27 (by decide)))
              clear hA hpre
              go_simp
              first | exact hK _ _ hB rfl (fun _ _ h => h) hX | exact hK _ _ hB trivial (fun _ _ h => h) hX | (rw [if_neg (by omega)]; go_simp; exact hK _ _ hB rfl (fun _ _ h => h) hX)
            · intro vs Wx A lst hA hB hls hX hno hpre K hK
              have e50 := ((hA 50).trans (show _ = vs 0 by kernel_rfl)).trans (by first | exact hpre.1 rfl | exact hpre.2.1 rfl | exact hpre.2.2.1 rfl | exact hpre.2.2.2.1 rfl | exact hpre.2.2.2.2.1 rfl | exact hpre.2.2.2.2.2.1 rfl | exact hpre.2.2.2.2.2.2.1 rfl | exact hpre.2.2.2.2.2.2.2.1 rfl | exact hpre.2.2.2.2.2.2.2.2.1 rfl | exact hpre.2.2.2.2.2.2.2.2.2.1 rfl)
              clear hA hpre
              go_simp
              first | exact hK _ _ hB rfl (fun _ _ h => h) hX | exact hK _ _ hB trivial (fun _ _ h => h) hX | (rw [if_neg (by omega)]; go_simp; exact hK _ _ hB rfl (fun _ _ h => h) hX)
            · intro vs Wx A lst hA hB hls hX hno hpre
              have eg := ((hA 51).trans (show _ = vs 1 by kernel_rfl)).trans (by first | exact hpre.1 rfl | exact hpre.2.1 rfl | exact hpre.2.2.1 rfl | exact hpre.2.2.2.1 rfl | exact hpre.2.2.2.2.1 rfl | exact hpre.2.2.2.2.2.1 rfl | exact hpre.2.2.2.2.2.2.1 rfl | exact hpre.2.2.2.2.2.2.2.1 rfl | exact hpre.2.2.2.2.2.2.2.2.1 rfl | exact hpre.2.2.2.2.2.2.2.2.2.1 rfl)
              refine ⟨true, eg, fun _ K hK => ?_, fun h => absurd rfl h⟩
              have e2 := (hA 2).trans (show _ = Value.pointer (some ⟨p, 0, none⟩) by kernel_rfl)
              clear hA hpre
              go_simp
              first | exact hK _ _ hB rfl (fun _ _ h => h) hX | exact hK _ _ hB trivial (fun _ _ h => h) hX | (rw [if_neg (by omega)]; go_simp; exact hK _ _ hB rfl (fun _ _ h => h) hX)
            · intro vs Wx A lst hA hB hls hX hno hpre
              have eg := ((hA 51).trans (show _ = vs 1 by kernel_rfl)).trans (by first | exact hpre.1 rfl | exact hpre.2.1 rfl | exact hpre.2.2.1 rfl | exact hpre.2.2.2.1 rfl | exact hpre.2.2.2.2.1 rfl | exact hpre.2.2.2.2.2.1 rfl | exact hpre.2.2.2.2.2.2.1 rfl | exact hpre.2.2.2.2.2.2.2.1 rfl | exact hpre.2.2.2.2.2.2.2.2.1 rfl | exact hpre.2.2.2.2.2.2.2.2.2.1 rfl)
              refine ⟨true, eg, fun _ K hK => ?_, fun h => absurd rfl h⟩
              have e52 := ((hA 52).trans (show _ = vs 2 by kernel_rfl)).trans (by first | exact hpre.1 rfl | exact hpre.2.1 rfl | exact hpre.2.2.1 rfl | exact hpre.2.2.2.1 rfl | exact hpre.2.2.2.2.1 rfl | exact hpre.2.2.2.2.2.1 rfl | exact hpre.2.2.2.2.2.2.1 rfl | exact hpre.2.2.2.2.2.2.2.1 rfl | exact hpre.2.2.2.2.2.2.2.2.1 rfl | exact hpre.2.2.2.2.2.2.2.2.2.1 rfl)
              obtain ⟨⟨y0, y1, y2, y3, y4, y5, y6⟩, hl4, hd7, ⟨g0, g1, g2, g3, g4, g5, g6, g7⟩⟩ := HYK.out Wx hB
              clear hA hpre
              go_simp
              first | exact hK _ _ hB rfl (fun _ _ h => h) hX | exact hK _ _ hB trivial (fun _ _ h => h) hX | (rw [if_neg (by omega)]; go_simp; exact hK _ _ hB rfl (fun _ _ h => h) hX)
            · intro vs Wx A lst hA hB hls hX hno hpre
              have eg := ((hA 51).trans (show _ = vs 1 by kernel_rfl)).trans (by first | exact hpre.1 rfl | exact hpre.2.1 rfl | exact hpre.2.2.1 rfl | exact hpre.2.2.2.1 rfl | exact hpre.2.2.2.2.1 rfl | exact hpre.2.2.2.2.2.1 rfl | exact hpre.2.2.2.2.2.2.1 rfl | exact hpre.2.2.2.2.2.2.2.1 rfl | exact hpre.2.2.2.2.2.2.2.2.1 rfl | exact hpre.2.2.2.2.2.2.2.2.2.1 rfl)
              refine ⟨true, eg, fun _ K hK => ?_, fun h => absurd rfl h⟩
              have e6 := (hA 6).trans (show _ = Value.int .i64 (k : Int) by kernel_rfl)
              clear hA hpre
              go_simp
              first | exact hK _ _ hB rfl (fun _ _ h => h) hX | exact hK _ _ hB trivial (fun _ _ h => h) hX | (rw [if_neg (by omega)]; go_simp; exact hK _ _ hB rfl (fun _ _ h => h) hX)
            · intro vs Wx A lst hA hB hls hX hno hpre
              have eg := ((hA 51).trans (show _ = vs 1 by kernel_rfl)).trans (by first | exact hpre.1 rfl | exact hpre.2.1 rfl | exact hpre.2.2.1 rfl | exact hpre.2.2.2.1 rfl | exact hpre.2.2.2.2.1 rfl | exact hpre.2.2.2.2.2.1 rfl | exact hpre.2.2.2.2.2.2.1 rfl | exact hpre.2.2.2.2.2.2.2.1 rfl | exact hpre.2.2.2.2.2.2.2.2.1 rfl | exact hpre.2.2.2.2.2.2.2.2.2.1 rfl)
              refine ⟨true, eg, fun _ K hK => ?_, fun h => absurd rfl h⟩
              have e53 := ((hA 53).trans (show _ = vs 3 by kernel_rfl)).trans (by first | exact hpre.1 rfl | exact hpre.2.1 rfl | exact hpre.2.2.1 rfl | exact hpre.2.2.2.1 rfl | exact hpre.2.2.2.2.1 rfl | exact hpre.2.2.2.2.2.1 rfl | exact hpre.2.2.2.2.2.2.1 rfl | exact hpre.2.2.2.2.2.2.2.1 rfl | exact hpre.2.2.2.2.2.2.2.2.1 rfl | exact hpre.2.2.2.2.2.2.2.2.2.1 rfl)
              have e54 := ((hA 54).trans (show _ = vs 4 by kernel_rfl)).trans (by first | exact hpre.1 rfl | exact hpre.2.1 rfl | exact hpre.2.2.1 rfl | exact hpre.2.2.2.1 rfl | exact hpre.2.2.2.2.1 rfl | exact hpre.2.2.2.2.2.1 rfl | exact hpre.2.2.2.2.2.2.1 rfl | exact hpre.2.2.2.2.2.2.2.1 rfl | exact hpre.2.2.2.2.2.2.2.2.1 rfl | exact hpre.2.2.2.2.2.2.2.2.2.1 rfl)
              clear hA hpre
              go_simp
              first | exact hK _ _ hB rfl (fun _ _ h => h) hX | exact hK _ _ hB trivial (fun _ _ h => h) hX | (rw [if_neg (by omega)]; go_simp; exact hK _ _ hB rfl (fun _ _ h => h) hX)
            · intro vs Wx A lst hA hB hls hX hno hpre
              have eg := ((hA 51).trans (show _ = vs 1 by kernel_rfl)).trans (by first | exact hpre.1 rfl | exact hpre.2.1 rfl | exact hpre.2.2.1 rfl | exact hpre.2.2.2.1 rfl | exact hpre.2.2.2.2.1 rfl | exact hpre.2.2.2.2.2.1 rfl | exact hpre.2.2.2.2.2.2.1 rfl | exact hpre.2.2.2.2.2.2.2.1 rfl | exact hpre.2.2.2.2.2.2.2.2.1 rfl | exact hpre.2.2.2.2.2.2.2.2.2.1 rfl)
              refine ⟨true, eg, fun _ K hK => ?_, fun h => absurd rfl h⟩
              have e55 := ((hA 55).trans (show _ = vs 5 by kernel_rfl)).trans (by first | exact hpre.1 rfl | exact hpre.2.1 rfl | exact hpre.2.2.1 rfl | exact hpre.2.2.2.1 rfl | exact hpre.2.2.2.2.1 rfl | exact hpre.2.2.2.2.2.1 rfl | exact hpre.2.2.2.2.2.2.1 rfl | exact hpre.2.2.2.2.2.2.2.1 rfl | exact hpre.2.2.2.2.2.2.2.2.1 rfl | exact hpre.2.2.2.2.2.2.2.2.2.1 rfl)
              clear hA hpre
              go_simp
              first | exact hK _ _ hB rfl (fun _ _ h => h) hX | exact hK _ _ hB trivial (fun _ _ h => h) hX | (rw [if_neg (by omega)]; go_simp; exact hK _ _ hB rfl (fun _ _ h => h) hX)
            · intro vs Wx A lst hA hB hls hX hno hpre
              have eg := ((hA 51).trans (show _ = vs 1 by kernel_rfl)).trans (by first | exact hpre.1 rfl | exact hpre.2.1 rfl | exact hpre.2.2.1 rfl | exact hpre.2.2.2.1 rfl | exact hpre.2.2.2.2.1 rfl | exact hpre.2.2.2.2.2.1 rfl | exact hpre.2.2.2.2.2.2.1 rfl | exact hpre.2.2.2.2.2.2.2.1 rfl | exact hpre.2.2.2.2.2.2.2.2.1 rfl | exact hpre.2.2.2.2.2.2.2.2.2.1 rfl)
              refine ⟨true, eg, fun _ K hK => ?_, fun h => absurd rfl h⟩
              have e56 := ((hA 56).trans (show _ = vs 6 by kernel_rfl)).trans (by first | exact hpre.1 rfl | exact hpre.2.1 rfl | exact hpre.2.2.1 rfl | exact hpre.2.2.2.1 rfl | exact hpre.2.2.2.2.1 rfl | exact hpre.2.2.2.2.2.1 rfl | exact hpre.2.2.2.2.2.2.1 rfl | exact hpre.2.2.2.2.2.2.2.1 rfl | exact hpre.2.2.2.2.2.2.2.2.1 rfl | exact hpre.2.2.2.2.2.2.2.2.2.1 rfl)
              obtain ⟨⟨y0, y1, y2, y3, y4, y5, y6⟩, hl4, hd7, ⟨g0, g1, g2, g3, g4, g5, g6, g7⟩⟩ := HYK.out Wx hB
              clear hA hpre
              go_simp
              first | exact hK _ _ hB rfl (fun _ _ h => h) hX | exact hK _ _ hB trivial (fun _ _ h => h) hX | (rw [if_neg (by omega)]; go_simp; exact hK _ _ hB rfl (fun _ _ h => h) hX)
            · intro vs Wx A lst hA hB hls hX hno hpre
              have eg := ((hA 51).trans (show _ = vs 1 by kernel_rfl)).trans (by first | exact hpre.1 rfl | exact hpre.2.1 rfl | exact hpre.2.2.1 rfl | exact hpre.2.2.2.1 rfl | exact hpre.2.2.2.2.1 rfl | exact hpre.2.2.2.2.2.1 rfl | exact hpre.2.2.2.2.2.2.1 rfl | exact hpre.2.2.2.2.2.2.2.1 rfl | exact hpre.2.2.2.2.2.2.2.2.1 rfl | exact hpre.2.2.2.2.2.2.2.2.2.1 rfl)
              refine ⟨true, eg, fun _ K hK => ?_, fun h => absurd rfl h⟩
              have e7 := (hA 7).trans (show _ = Value.pointer (some ⟨q, 0, none⟩) by kernel_rfl)
              obtain ⟨⟨y0, y1, y2, y3, y4, y5, y6⟩, hl4, hd7, ⟨g0, g1, g2, g3, g4, g5, g6, g7⟩⟩ := HYK.out Wx hB
              clear hA hpre
              go_simp
              first | exact hK _ _ hB rfl (fun _ _ h => h) hX | exact hK _ _ hB trivial (fun _ _ h => h) hX | (rw [if_neg (by omega)]; go_simp; exact hK _ _ hB rfl (fun _ _ h => h) hX)
            · intro vs Wx A lst hA hB hls hX hno hpre
              have eg := ((hA 51).trans (show _ = vs 1 by kernel_rfl)).trans (by first | exact hpre.1 rfl | exact hpre.2.1 rfl | exact hpre.2.2.1 rfl | exact hpre.2.2.2.1 rfl | exact hpre.2.2.2.2.1 rfl | exact hpre.2.2.2.2.2.1 rfl | exact hpre.2.2.2.2.2.2.1 rfl | exact hpre.2.2.2.2.2.2.2.1 rfl | exact hpre.2.2.2.2.2.2.2.2.1 rfl | exact hpre.2.2.2.2.2.2.2.2.2.1 rfl)
              refine ⟨true, eg, fun _ K hK => ?_, fun h => absurd rfl h⟩
              have e57 := ((hA 57).trans (show _ = vs 7 by kernel_rfl)).trans (by first | exact hpre.1 rfl | exact hpre.2.1 rfl | exact hpre.2.2.1 rfl | exact hpre.2.2.2.1 rfl | exact hpre.2.2.2.2.1 rfl | exact hpre.2.2.2.2.2.1 rfl | exact hpre.2.2.2.2.2.2.1 rfl | exact hpre.2.2.2.2.2.2.2.1 rfl | exact hpre.2.2.2.2.2.2.2.2.1 rfl | exact hpre.2.2.2.2.2.2.2.2.2.1 rfl)
              have e58 := ((hA 58).trans (show _ = vs 8 by kernel_rfl)).trans (by first | exact hpre.1 rfl | exact hpre.2.1 rfl | exact hpre.2.2.1 rfl | exact hpre.2.2.2.1 rfl | exact hpre.2.2.2.2.1 rfl | exact hpre.2.2.2.2.2.1 rfl | exact hpre.2.2.2.2.2.2.1 rfl | exact hpre.2.2.2.2.2.2.2.1 rfl | exact hpre.2.2.2.2.2.2.2.2.1 rfl | exact hpre.2.2.2.2.2.2.2.2.2.1 rfl)
              clear hA hpre
              go_simp
              try (go_at_call 18)
              refine (HBL.out Wx).mono ?_
              rintro e w9 ⟨rfl, hg⟩
              exact hK _ _ (below_trans hB hg) (by first | rfl | (rw [hbb]; rfl)) (fun _ _ h => h) hX
            · intro vs Wx A lst hA hB hls hX hno hpre K hK
              have e51 := ((hA 51).trans (show _ = vs 1 by kernel_rfl)).trans (by first | exact hpre.1 rfl | exact hpre.2.1 rfl | exact hpre.2.2.1 rfl | exact hpre.2.2.2.1 rfl | exact hpre.2.2.2.2.1 rfl | exact hpre.2.2.2.2.2.1 rfl | exact hpre.2.2.2.2.2.2.1 rfl | exact hpre.2.2.2.2.2.2.2.1 rfl | exact hpre.2.2.2.2.2.2.2.2.1 rfl | exact hpre.2.2.2.2.2.2.2.2.2.1 rfl)
              have e59 := ((hA 59).trans (show _ = vs 9 by kernel_rfl)).trans (by first | exact hpre.1 rfl | exact hpre.2.1 rfl | exact hpre.2.2.1 rfl | exact hpre.2.2.2.1 rfl | exact hpre.2.2.2.2.1 rfl | exact hpre.2.2.2.2.2.1 rfl | exact hpre.2.2.2.2.2.2.1 rfl | exact hpre.2.2.2.2.2.2.2.1 rfl | exact hpre.2.2.2.2.2.2.2.2.1 rfl | exact hpre.2.2.2.2.2.2.2.2.2.1 rfl)
              clear hA hpre
              go_simp
              first | exact hK _ _ hB rfl (fun _ _ h => h) hX | exact hK _ _ hB trivial (fun _ _ h => h) hX | (rw [if_neg (by omega)]; go_simp; exact hK _ _ hB rfl (fun _ _ h => h) hX)
            · intro vs Wx A lst hA hB hls hX hno hpre K hK
              have e60 := ((hA 60).trans (show _ = vs 10 by kernel_rfl)).trans (by first | exact hpre.1 rfl | exact hpre.2.1 rfl | exact hpre.2.2.1 rfl | exact hpre.2.2.2.1 rfl | exact hpre.2.2.2.2.1 rfl | exact hpre.2.2.2.2.2.1 rfl | exact hpre.2.2.2.2.2.2.1 rfl | exact hpre.2.2.2.2.2.2.2.1 rfl | exact hpre.2.2.2.2.2.2.2.2.1 rfl | exact hpre.2.2.2.2.2.2.2.2.2.1 rfl)
              clear hA hpre
              go_simp
              first | exact hK _ _ hB rfl (fun _ _ h => h) hX | exact hK _ _ hB trivial (fun _ _ h => h) hX | (rw [if_neg (by omega)]; go_simp; exact hK _ _ hB rfl (fun _ _ h => h) hX)
            · intro vs Wx A lst hA hB hls hX hno hpre
              have eg := ((hA 61).trans (show _ = vs 11 by kernel_rfl)).trans (by first | exact hpre.1 rfl | exact hpre.2.1 rfl | exact hpre.2.2.1 rfl | exact hpre.2.2.2.1 rfl | exact hpre.2.2.2.2.1 rfl | exact hpre.2.2.2.2.2.1 rfl | exact hpre.2.2.2.2.2.2.1 rfl | exact hpre.2.2.2.2.2.2.2.1 rfl | exact hpre.2.2.2.2.2.2.2.2.1 rfl | exact hpre.2.2.2.2.2.2.2.2.2.1 rfl)
              exact ⟨false, eg, fun h => (by cases h), fun _ => ⟨trivial, hX⟩⟩
            · intro vs Wx A lst hA hB hls hX hno hpre
              have eg := ((hA 61).trans (show _ = vs 11 by kernel_rfl)).trans (by first | exact hpre.1 rfl | exact hpre.2.1 rfl | exact hpre.2.2.1 rfl | exact hpre.2.2.2.1 rfl | exact hpre.2.2.2.2.1 rfl | exact hpre.2.2.2.2.2.1 rfl | exact hpre.2.2.2.2.2.2.1 rfl | exact hpre.2.2.2.2.2.2.2.1 rfl | exact hpre.2.2.2.2.2.2.2.2.1 rfl | exact hpre.2.2.2.2.2.2.2.2.2.1 rfl)
              exact ⟨false, eg, fun h => (by cases h), fun _ => ⟨trivial, hX⟩⟩
            · intro vs Wx A lst hA hB hls hX hno hpre
              have eg := ((hA 61).trans (show _ = vs 11 by kernel_rfl)).trans (by first | exact hpre.1 rfl | exact hpre.2.1 rfl | exact hpre.2.2.1 rfl | exact hpre.2.2.2.1 rfl | exact hpre.2.2.2.2.1 rfl | exact hpre.2.2.2.2.2.1 rfl | exact hpre.2.2.2.2.2.2.1 rfl | exact hpre.2.2.2.2.2.2.2.1 rfl | exact hpre.2.2.2.2.2.2.2.2.1 rfl | exact hpre.2.2.2.2.2.2.2.2.2.1 rfl)
              exact ⟨false, eg, fun h => (by cases h), fun _ => ⟨trivial, hX⟩⟩
            · intro vs Wx A lst hA hB hls hX hno hpre
              have eg := ((hA 61).trans (show _ = vs 11 by kernel_rfl)).trans (by first | exact hpre.1 rfl | exact hpre.2.1 rfl | exact hpre.2.2.1 rfl | exact hpre.2.2.2.1 rfl | exact hpre.2.2.2.2.1 rfl | exact hpre.2.2.2.2.2.1 rfl | exact hpre.2.2.2.2.2.2.1 rfl | exact hpre.2.2.2.2.2.2.2.1 rfl | exact hpre.2.2.2.2.2.2.2.2.1 rfl | exact hpre.2.2.2.2.2.2.2.2.2.1 rfl)
              exact ⟨false, eg, fun h => (by cases h), fun _ => ⟨trivial, hX⟩⟩
            · intro vs Wx A lst hA hB hls hX hno hpre
              have eg := ((hA 61).trans (show _ = vs 11 by kernel_rfl)).trans (by first | exact hpre.1 rfl | exact hpre.2.1 rfl | exact hpre.2.2.1 rfl | exact hpre.2.2.2.1 rfl | exact hpre.2.2.2.2.1 rfl | exact hpre.2.2.2.2.2.1 rfl | exact hpre.2.2.2.2.2.2.1 rfl | exact hpre.2.2.2.2.2.2.2.1 rfl | exact hpre.2.2.2.2.2.2.2.2.1 rfl | exact hpre.2.2.2.2.2.2.2.2.2.1 rfl)
              exact ⟨false, eg, fun h => (by cases h), fun _ => ⟨trivial, hX⟩⟩
            · intro vs Wx A lst hA hB hls hX hno hpre
              have eg := ((hA 61).trans (show _ = vs 11 by kernel_rfl)).trans (by first | exact hpre.1 rfl | exact hpre.2.1 rfl | exact hpre.2.2.1 rfl | exact hpre.2.2.2.1 rfl | exact hpre.2.2.2.2.1 rfl | exact hpre.2.2.2.2.2.1 rfl | exact hpre.2.2.2.2.2.2.1 rfl | exact hpre.2.2.2.2.2.2.2.1 rfl | exact hpre.2.2.2.2.2.2.2.2.1 rfl | exact hpre.2.2.2.2.2.2.2.2.2.1 rfl)
              exact ⟨false, eg, fun h => (by cases h), fun _ => ⟨trivial, hX⟩⟩
            · intro vs Wx A lst hA hB hls hX hno hpre K hK
              have e61 := ((hA 61).trans (show _ = vs 11 by kernel_rfl)).trans (by first | exact hpre.1 rfl | exact hpre.2.1 rfl | exact hpre.2.2.1 rfl | exact hpre.2.2.2.1 rfl | exact hpre.2.2.2.2.1 rfl | exact hpre.2.2.2.2.2.1 rfl | exact hpre.2.2.2.2.2.2.1 rfl | exact hpre.2.2.2.2.2.2.2.1 rfl | exact hpre.2.2.2.2.2.2.2.2.1 rfl | exact hpre.2.2.2.2.2.2.2.2.2.1 rfl)
              clear hA hpre
              go_simp
              first | exact hK _ _ hB rfl (fun _ _ h => h) hX | exact hK _ _ hB trivial (fun _ _ h => h) hX | (rw [if_neg (by omega)]; go_simp; exact hK _ _ hB rfl (fun _ _ h => h) hX)
            · intro vs Wx A lst hA hB hls hX hno hpre K hK
              have e68 := ((hA 68).trans (show _ = vs 18 by kernel_rfl)).trans (by first | exact hpre.1 rfl | exact hpre.2.1 rfl | exact hpre.2.2.1 rfl | exact hpre.2.2.2.1 rfl | exact hpre.2.2.2.2.1 rfl | exact hpre.2.2.2.2.2.1 rfl | exact hpre.2.2.2.2.2.2.1 rfl | exact hpre.2.2.2.2.2.2.2.1 rfl | exact hpre.2.2.2.2.2.2.2.2.1 rfl | exact hpre.2.2.2.2.2.2.2.2.2.1 rfl)
              clear hA hpre
              go_simp
              first | exact hK _ _ hB rfl (fun _ _ h => h) hX | exact hK _ _ hB trivial (fun _ _ h => h) hX | (rw [if_neg (by omega)]; go_simp; exact hK _ _ hB rfl (fun _ _ h => h) hX)
            · intro vs Wx A lst hA hB hls hX hno hpre
              have eg := ((hA 69).trans (show _ = vs 19 by kernel_rfl)).trans (by first | exact hpre.1 rfl | exact hpre.2.1 rfl | exact hpre.2.2.1 rfl | exact hpre.2.2.2.1 rfl | exact hpre.2.2.2.2.1 rfl | exact hpre.2.2.2.2.2.1 rfl | exact hpre.2.2.2.2.2.2.1 rfl | exact hpre.2.2.2.2.2.2.2.1 rfl | exact hpre.2.2.2.2.2.2.2.2.1 rfl | exact hpre.2.2.2.2.2.2.2.2.2.1 rfl)
              exact ⟨false, eg, fun h => (by cases h), fun _ => ⟨trivial, hX⟩⟩
            · intro vs Wx A lst hA hB hls hX hno hpre
              have eg := ((hA 69).trans (show _ = vs 19 by kernel_rfl)).trans (by first | exact hpre.1 rfl | exact hpre.2.1 rfl | exact hpre.2.2.1 rfl | exact hpre.2.2.2.1 rfl | exact hpre.2.2.2.2.1 rfl | exact hpre.2.2.2.2.2.1 rfl | exact hpre.2.2.2.2.2.2.1 rfl | exact hpre.2.2.2.2.2.2.2.1 rfl | exact hpre.2.2.2.2.2.2.2.2.1 rfl | exact hpre.2.2.2.2.2.2.2.2.2.1 rfl)
              exact ⟨false, eg, fun h => (by cases h), fun _ => ⟨trivial, hX⟩⟩
            · intro vs Wx A lst hA hB hls hX hno hpre
              have eg := ((hA 69).trans (show _ = vs 19 by kernel_rfl)).trans (by first | exact hpre.1 rfl | exact hpre.2.1 rfl | exact hpre.2.2.1 rfl | exact hpre.2.2.2.1 rfl | exact hpre.2.2.2.2.1 rfl | exact hpre.2.2.2.2.2.1 rfl | exact hpre.2.2.2.2.2.2.1 rfl | exact hpre.2.2.2.2.2.2.2.1 rfl | exact hpre.2.2.2.2.2.2.2.2.1 rfl | exact hpre.2.2.2.2.2.2.2.2.2.1 rfl)
              exact ⟨false, eg, fun h => (by cases h), fun _ => ⟨trivial, hX⟩⟩
            · intro vs Wx A lst hA hB hls hX hno hpre
              have eg := ((hA 69).trans (show _ = vs 19 by kernel_rfl)).trans (by first | exact hpre.1 rfl | exact hpre.2.1 rfl | exact hpre.2.2.1 rfl | exact hpre.2.2.2.1 rfl | exact hpre.2.2.2.2.1 rfl | exact hpre.2.2.2.2.2.1 rfl | exact hpre.2.2.2.2.2.2.1 rfl | exact hpre.2.2.2.2.2.2.2.1 rfl | exact hpre.2.2.2.2.2.2.2.2.1 rfl | exact hpre.2.2.2.2.2.2.2.2.2.1 rfl)
              exact ⟨false, eg, fun h => (by cases h), fun _ => ⟨trivial, hX⟩⟩
            · intro vs Wx A lst hA hB hls hX hno hpre
              have eg := ((hA 69).trans (show _ = vs 19 by kernel_rfl)).trans (by first | exact hpre.1 rfl | exact hpre.2.1 rfl | exact hpre.2.2.1 rfl | exact hpre.2.2.2.1 rfl | exact hpre.2.2.2.2.1 rfl | exact hpre.2.2.2.2.2.1 rfl | exact hpre.2.2.2.2.2.2.1 rfl | exact hpre.2.2.2.2.2.2.2.1 rfl | exact hpre.2.2.2.2.2.2.2.2.1 rfl | exact hpre.2.2.2.2.2.2.2.2.2.1 rfl)
              exact ⟨false, eg, fun h => (by cases h), fun _ => ⟨trivial, hX⟩⟩
            · intro vs Wx A lst hA hB hls hX hno hpre
              have eg := ((hA 69).trans (show _ = vs 19 by kernel_rfl)).trans (by first | exact hpre.1 rfl | exact hpre.2.1 rfl | exact hpre.2.2.1 rfl | exact hpre.2.2.2.1 rfl | exact hpre.2.2.2.2.1 rfl | exact hpre.2.2.2.2.2.1 rfl | exact hpre.2.2.2.2.2.2.1 rfl | exact hpre.2.2.2.2.2.2.2.1 rfl | exact hpre.2.2.2.2.2.2.2.2.1 rfl | exact hpre.2.2.2.2.2.2.2.2.2.1 rfl)
              exact ⟨false, eg, fun h => (by cases h), fun _ => ⟨trivial, hX⟩⟩
            · intro vs Wx A lst hA hB hls hX hno hpre K hK
              have e69 := ((hA 69).trans (show _ = vs 19 by kernel_rfl)).trans (by first | exact hpre.1 rfl | exact hpre.2.1 rfl | exact hpre.2.2.1 rfl | exact hpre.2.2.2.1 rfl | exact hpre.2.2.2.2.1 rfl | exact hpre.2.2.2.2.2.1 rfl | exact hpre.2.2.2.2.2.2.1 rfl | exact hpre.2.2.2.2.2.2.2.1 rfl | exact hpre.2.2.2.2.2.2.2.2.1 rfl | exact hpre.2.2.2.2.2.2.2.2.2.1 rfl)
              clear hA hpre
              go_simp
              first | exact hK _ _ hB rfl (fun _ _ h => h) hX | exact hK _ _ hB trivial (fun _ _ h => h) hX | (rw [if_neg (by omega)]; go_simp; exact hK _ _ hB rfl (fun _ _ h => h) hX)
            · intro vs Wx lst hall hX hB hF
              refine fun A27 hA K27 hK27 => ?_
              have e76 := ((hA 76).trans (show _ = vs 26 by kernel_rfl)).trans (hF 26 (by decide))
              clear hA
              clear hF
              go_simp
              refine hK27 _ _ ?_
              have HBW := Lib.hid hB
              clear hB hX hall
              simp only [Ri.Tail, Ri.puts]
              go_simp
              go_wp2_with fail
              go_roundg (l1.length - (k + 1))
              case measure => omega
              case rel => exact ⟨k + 1, false, by omega, rfl, by first | rfl | (go_simp; done) | simp [Ri.upd], by first | rfl | go_num, (fun h => by cases h), HBN.out Wx HBW.out⟩
          | true =>
            by_cases hd : 0 ≤ o.deny
            · have HHD := Lib.hid hd
              refine Ri.wp_region_tailG 27 (by kernel_rfl) (by kernel_rfl) (by kernel_rfl) (by decide) (by kernel_rfl) (fun Wx => Below W9.heap.size W9 Wx) (fun kz vs wz => (fun kx vx wx => match kx with | 0 => vx = .bool true | 1 => vx = .bool true | 2 => vx = .pointer (some ⟨p, 6, none⟩) | 3 => vx = (.slice (some ⟨bl, ol, none⟩) x0.lines.length cl) | 4 => vx = .int .i64 k | 5 => vx = .pointer (some ⟨bl, ol + k * 6, none⟩) | 6 => vx = .pointer (some ⟨bl, ol + k * 6 + 4, none⟩) | 7 => vx = .int .i64 l.billed | 8 => vx = .agg (otv { o with al := l.billed }) | 9 => vx = .bool true | 10 => vx = .bool true | 11 => vx = .bool true | 12 => vx = (.slice (some ⟨bo, oo, none⟩) l1.length co) | 13 => vx = .int .i64 k | 14 => vx = .pointer (some ⟨bo, oo + k * 8, none⟩) | 15 => vx = .pointer (some ⟨bo, oo + k * 8 + 7, none⟩) | 16 => vx = .int .i64 o.deny | 17 => vx = .bool true | 18 => vx = .bool true | 19 => vx = .bool true | 20 => vx = (.slice (some ⟨bo, oo, none⟩) l1.length co) | 21 => vx = .int .i64 k | 22 => vx = .pointer (some ⟨bo, oo + k * 8, none⟩) | 23 => vx = .pointer (some ⟨bo, oo + k * 8 + 7, none⟩) | 24 => vx = .int .i64 o.deny | 25 => vx = .bool (decide (o.deny ≤ 999)) | 26 => vx = .bool (decide (o.deny ≤ 999)) | _ => True : Nat → Value → World → Prop) kz (vs kz) wz) (fun lst vs => lst 27 = false → vs 27 = .bool true) (fun kz => [kz]) (by kernel_rfl) (fun jz vs iz vz wz hiz hz => Ri.loc_own (F := (fun kx vx wx => match kx with | 0 => vx = .bool true | 1 => vx = .bool true | 2 => vx = .pointer (some ⟨p, 6, none⟩) | 3 => vx = (.slice (some ⟨bl, ol, none⟩) x0.lines.length cl) | 4 => vx = .int .i64 k | 5 => vx = .pointer (some ⟨bl, ol + k * 6, none⟩) | 6 => vx = .pointer (some ⟨bl, ol + k * 6 + 4, none⟩) | 7 => vx = .int .i64 l.billed | 8 => vx = .agg (otv { o with al := l.billed }) | 9 => vx = .bool true | 10 => vx = .bool true | 11 => vx = .bool true | 12 => vx = (.slice (some ⟨bo, oo, none⟩) l1.length co) | 13 => vx = .int .i64 k | 14 => vx = .pointer (some ⟨bo, oo + k * 8, none⟩) | 15 => vx = .pointer (some ⟨bo, oo + k * 8 + 7, none⟩) | 16 => vx = .int .i64 o.deny | 17 => vx = .bool true | 18 => vx = .bool true | 19 => vx = .bool true | 20 => vx = (.slice (some ⟨bo, oo, none⟩) l1.length co) | 21 => vx = .int .i64 k | 22 => vx = .pointer (some ⟨bo, oo + k * 8, none⟩) | 23 => vx = .pointer (some ⟨bo, oo + k * 8 + 7, none⟩) | 24 => vx = .int .i64 o.deny | 25 => vx = .bool (decide (o.deny ≤ 999)) | 26 => vx = .bool (decide (o.deny ≤ 999)) | _ => True : Nat → Value → World → Prop)) jz vs iz vz wz hiz hz) HD.out ?_ ⟨Or.inl ⟨rfl, ?_⟩, Or.inl ⟨rfl, ?_⟩, Or.inr ⟨1, true, 51, rfl, rfl, ?_⟩, Or.inr ⟨1, true, 51, rfl, rfl, ?_⟩, Or.inr ⟨1, true, 51, rfl, rfl, ?_⟩, Or.inr ⟨1, true, 51, rfl, rfl, ?_⟩, Or.inr ⟨1, true, 51, rfl, rfl, ?_⟩, Or.inr ⟨1, true, 51, rfl, rfl, ?_⟩, Or.inr ⟨1, true, 51, rfl, rfl, ?_⟩, Or.inr ⟨1, true, 51, rfl, rfl, ?_⟩, Or.inl ⟨rfl, ?_⟩, Or.inl ⟨rfl, ?_⟩, Or.inr ⟨11, true, 61, rfl, rfl, ?_⟩, Or.inr ⟨11, true, 61, rfl, rfl, ?_⟩, Or.inr ⟨11, true, 61, rfl, rfl, ?_⟩, Or.inr ⟨11, true, 61, rfl, rfl, ?_⟩, Or.inr ⟨11, true, 61, rfl, rfl, ?_⟩, Or.inr ⟨11, true, 61, rfl, rfl, ?_⟩, Or.inl ⟨rfl, ?_⟩, Or.inl ⟨rfl, ?_⟩, Or.inr ⟨19, true, 69, rfl, rfl, ?_⟩, Or.inr ⟨19, true, 69, rfl, rfl, ?_⟩, Or.inr ⟨19, true, 69, rfl, rfl, ?_⟩, Or.inr ⟨19, true, 69, rfl, rfl, ?_⟩, Or.inr ⟨19, true, 69, rfl, rfl, ?_⟩, Or.inr ⟨19, true, 69, rfl, rfl, ?_⟩, Or.inl ⟨rfl, ?_⟩, trivial⟩ ?_
              · intro vs hvs
                intro _
                have h1 := congrArg (fun a => a.tmps[5]?.getD undef) hvs
                exact (show vs 27 = _ by kernel_rfl).trans (h1.trans (show _ = Value.bool true by kernel_rfl))
              · intro vs Wx A lst hA hB hls hX hno hpre K hK
                have e5 := ((hA 5).trans (show _ = vs 27 by kernel_rfl)).trans (hX (hno 27 (by decide)))
                clear hA hpre
                go_simp
                first | exact hK _ _ hB rfl (fun _ _ h => h) hX | exact hK _ _ hB trivial (fun _ _ h => h) hX | (rw [if_neg (by omega)]; go_simp; exact hK _ _ hB rfl (fun _ _ h => h) hX)
              · intro vs Wx A lst hA hB hls hX hno hpre K hK
                have e50 := ((hA 50).trans (show _ = vs 0 by kernel_rfl)).trans (by first | exact hpre.1 rfl | exact hpre.2.1 rfl | exact hpre.2.2.1 rfl | exact hpre.2.2.2.1 rfl | exact hpre.2.2.2.2.1 rfl | exact hpre.2.2.2.2.2.1 rfl | exact hpre.2.2.2.2.2.2.1 rfl | exact hpre.2.2.2.2.2.2.2.1 rfl | exact hpre.2.2.2.2.2.2.2.2.1 rfl | exact hpre.2.2.2.2.2.2.2.2.2.1 rfl)
                clear hA hpre
                go_simp
                first | exact hK _ _ hB rfl (fun _ _ h => h) hX | exact hK _ _ hB trivial (fun _ _ h => h) hX | (rw [if_neg (by omega)]; go_simp; exact hK _ _ hB rfl (fun _ _ h => h) hX)
              · intro vs Wx A lst hA hB hls hX hno hpre
                have eg := ((hA 51).trans (show _ = vs 1 by kernel_rfl)).trans (by first | exact hpre.1 rfl | exact hpre.2.1 rfl | exact hpre.2.2.1 rfl | exact hpre.2.2.2.1 rfl | exact hpre.2.2.2.2.1 rfl | exact hpre.2.2.2.2.2.1 rfl | exact hpre.2.2.2.2.2.2.1 rfl | exact hpre.2.2.2.2.2.2.2.1 rfl | exact hpre.2.2.2.2.2.2.2.2.1 rfl | exact hpre.2.2.2.2.2.2.2.2.2.1 rfl)
                refine ⟨true, eg, fun _ K hK => ?_, fun h => absurd rfl h⟩
                have e2 := (hA 2).trans (show _ = Value.pointer (some ⟨p, 0, none⟩) by kernel_rfl)
                clear hA hpre
                go_simp
                first | exact hK _ _ hB rfl (fun _ _ h => h) hX | exact hK _ _ hB trivial (fun _ _ h => h) hX | (rw [if_neg (by omega)]; go_simp; exact hK _ _ hB rfl (fun _ _ h => h) hX)
              · intro vs Wx A lst hA hB hls hX hno hpre
                have eg := ((hA 51).trans (show _ = vs 1 by kernel_rfl)).trans (by first | exact hpre.1 rfl | exact hpre.2.1 rfl | exact hpre.2.2.1 rfl | exact hpre.2.2.2.1 rfl | exact hpre.2.2.2.2.1 rfl | exact hpre.2.2.2.2.2.1 rfl | exact hpre.2.2.2.2.2.2.1 rfl | exact hpre.2.2.2.2.2.2.2.1 rfl | exact hpre.2.2.2.2.2.2.2.2.1 rfl | exact hpre.2.2.2.2.2.2.2.2.2.1 rfl)
                refine ⟨true, eg, fun _ K hK => ?_, fun h => absurd rfl h⟩
                have e52 := ((hA 52).trans (show _ = vs 2 by kernel_rfl)).trans (by first | exact hpre.1 rfl | exact hpre.2.1 rfl | exact hpre.2.2.1 rfl | exact hpre.2.2.2.1 rfl | exact hpre.2.2.2.2.1 rfl | exact hpre.2.2.2.2.2.1 rfl | exact hpre.2.2.2.2.2.2.1 rfl | exact hpre.2.2.2.2.2.2.2.1 rfl | exact hpre.2.2.2.2.2.2.2.2.1 rfl | exact hpre.2.2.2.2.2.2.2.2.2.1 rfl)
                obtain ⟨⟨y0, y1, y2, y3, y4, y5, y6⟩, hl4, hd7, ⟨g0, g1, g2, g3, g4, g5, g6, g7⟩⟩ := HYK.out Wx hB
                clear hA hpre
                go_simp
                first | exact hK _ _ hB rfl (fun _ _ h => h) hX | exact hK _ _ hB trivial (fun _ _ h => h) hX | (rw [if_neg (by omega)]; go_simp; exact hK _ _ hB rfl (fun _ _ h => h) hX)
              · intro vs Wx A lst hA hB hls hX hno hpre
                have eg := ((hA 51).trans (show _ = vs 1 by kernel_rfl)).trans (by first | exact hpre.1 rfl | exact hpre.2.1 rfl | exact hpre.2.2.1 rfl | exact hpre.2.2.2.1 rfl | exact hpre.2.2.2.2.1 rfl | exact hpre.2.2.2.2.2.1 rfl | exact hpre.2.2.2.2.2.2.1 rfl | exact hpre.2.2.2.2.2.2.2.1 rfl | exact hpre.2.2.2.2.2.2.2.2.1 rfl | exact hpre.2.2.2.2.2.2.2.2.2.1 rfl)
                refine ⟨true, eg, fun _ K hK => ?_, fun h => absurd rfl h⟩
                have e6 := (hA 6).trans (show _ = Value.int .i64 (k : Int) by kernel_rfl)
                clear hA hpre
                go_simp
                first | exact hK _ _ hB rfl (fun _ _ h => h) hX | exact hK _ _ hB trivial (fun _ _ h => h) hX | (rw [if_neg (by omega)]; go_simp; exact hK _ _ hB rfl (fun _ _ h => h) hX)
              · intro vs Wx A lst hA hB hls hX hno hpre
                have eg := ((hA 51).trans (show _ = vs 1 by kernel_rfl)).trans (by first | exact hpre.1 rfl | exact hpre.2.1 rfl | exact hpre.2.2.1 rfl | exact hpre.2.2.2.1 rfl | exact hpre.2.2.2.2.1 rfl | exact hpre.2.2.2.2.2.1 rfl | exact hpre.2.2.2.2.2.2.1 rfl | exact hpre.2.2.2.2.2.2.2.1 rfl | exact hpre.2.2.2.2.2.2.2.2.1 rfl | exact hpre.2.2.2.2.2.2.2.2.2.1 rfl)
                refine ⟨true, eg, fun _ K hK => ?_, fun h => absurd rfl h⟩
                have e53 := ((hA 53).trans (show _ = vs 3 by kernel_rfl)).trans (by first | exact hpre.1 rfl | exact hpre.2.1 rfl | exact hpre.2.2.1 rfl | exact hpre.2.2.2.1 rfl | exact hpre.2.2.2.2.1 rfl | exact hpre.2.2.2.2.2.1 rfl | exact hpre.2.2.2.2.2.2.1 rfl | exact hpre.2.2.2.2.2.2.2.1 rfl | exact hpre.2.2.2.2.2.2.2.2.1 rfl | exact hpre.2.2.2.2.2.2.2.2.2.1 rfl)
                have e54 := ((hA 54).trans (show _ = vs 4 by kernel_rfl)).trans (by first | exact hpre.1 rfl | exact hpre.2.1 rfl | exact hpre.2.2.1 rfl | exact hpre.2.2.2.1 rfl | exact hpre.2.2.2.2.1 rfl | exact hpre.2.2.2.2.2.1 rfl | exact hpre.2.2.2.2.2.2.1 rfl | exact hpre.2.2.2.2.2.2.2.1 rfl | exact hpre.2.2.2.2.2.2.2.2.1 rfl | exact hpre.2.2.2.2.2.2.2.2.2.1 rfl)
                clear hA hpre
                go_simp
                first | exact hK _ _ hB rfl (fun _ _ h => h) hX | exact hK _ _ hB trivial (fun _ _ h => h) hX | (rw [if_neg (by omega)]; go_simp; exact hK _ _ hB rfl (fun _ _ h => h) hX)
              · intro vs Wx A lst hA hB hls hX hno hpre
                have eg := ((hA 51).trans (show _ = vs 1 by kernel_rfl)).trans (by first | exact hpre.1 rfl | exact hpre.2.1 rfl | exact hpre.2.2.1 rfl | exact hpre.2.2.2.1 rfl | exact hpre.2.2.2.2.1 rfl | exact hpre.2.2.2.2.2.1 rfl | exact hpre.2.2.2.2.2.2.1 rfl | exact hpre.2.2.2.2.2.2.2.1 rfl | exact hpre.2.2.2.2.2.2.2.2.1 rfl | exact hpre.2.2.2.2.2.2.2.2.2.1 rfl)
                refine ⟨true, eg, fun _ K hK => ?_, fun h => absurd rfl h⟩
                have e55 := ((hA 55).trans (show _ = vs 5 by kernel_rfl)).trans (by first | exact hpre.1 rfl | exact hpre.2.1 rfl | exact hpre.2.2.1 rfl | exact hpre.2.2.2.1 rfl | exact hpre.2.2.2.2.1 rfl | exact hpre.2.2.2.2.2.1 rfl | exact hpre.2.2.2.2.2.2.1 rfl | exact hpre.2.2.2.2.2.2.2.1 rfl | exact hpre.2.2.2.2.2.2.2.2.1 rfl | exact hpre.2.2.2.2.2.2.2.2.2.1 rfl)
                clear hA hpre
                go_simp
                first | exact hK _ _ hB rfl (fun _ _ h => h) hX | exact hK _ _ hB trivial (fun _ _ h => h) hX | (rw [if_neg (by omega)]; go_simp; exact hK _ _ hB rfl (fun _ _ h => h) hX)
              · intro vs Wx A lst hA hB hls hX hno hpre
                have eg := ((hA 51).trans (show _ = vs 1 by kernel_rfl)).trans (by first | exact hpre.1 rfl | exact hpre.2.1 rfl | exact hpre.2.2.1 rfl | exact hpre.2.2.2.1 rfl | exact hpre.2.2.2.2.1 rfl | exact hpre.2.2.2.2.2.1 rfl | exact hpre.2.2.2.2.2.2.1 rfl | exact hpre.2.2.2.2.2.2.2.1 rfl | exact hpre.2.2.2.2.2.2.2.2.1 rfl | exact hpre.2.2.2.2.2.2.2.2.2.1 rfl)
                refine ⟨true, eg, fun _ K hK => ?_, fun h => absurd rfl h⟩
                have e56 := ((hA 56).trans (show _ = vs 6 by kernel_rfl)).trans (by first | exact hpre.1 rfl | exact hpre.2.1 rfl | exact hpre.2.2.1 rfl | exact hpre.2.2.2.1 rfl | exact hpre.2.2.2.2.1 rfl | exact hpre.2.2.2.2.2.1 rfl | exact hpre.2.2.2.2.2.2.1 rfl | exact hpre.2.2.2.2.2.2.2.1 rfl | exact hpre.2.2.2.2.2.2.2.2.1 rfl | exact hpre.2.2.2.2.2.2.2.2.2.1 rfl)
                obtain ⟨⟨y0, y1, y2, y3, y4, y5, y6⟩, hl4, hd7, ⟨g0, g1, g2, g3, g4, g5, g6, g7⟩⟩ := HYK.out Wx hB
                clear hA hpre
                go_simp
                first | exact hK _ _ hB rfl (fun _ _ h => h) hX | exact hK _ _ hB trivial (fun _ _ h => h) hX | (rw [if_neg (by omega)]; go_simp; exact hK _ _ hB rfl (fun _ _ h => h) hX)
              · intro vs Wx A lst hA hB hls hX hno hpre
                have eg := ((hA 51).trans (show _ = vs 1 by kernel_rfl)).trans (by first | exact hpre.1 rfl | exact hpre.2.1 rfl | exact hpre.2.2.1 rfl | exact hpre.2.2.2.1 rfl | exact hpre.2.2.2.2.1 rfl | exact hpre.2.2.2.2.2.1 rfl | exact hpre.2.2.2.2.2.2.1 rfl | exact hpre.2.2.2.2.2.2.2.1 rfl | exact hpre.2.2.2.2.2.2.2.2.1 rfl | exact hpre.2.2.2.2.2.2.2.2.2.1 rfl)
                refine ⟨true, eg, fun _ K hK => ?_, fun h => absurd rfl h⟩
                have e7 := (hA 7).trans (show _ = Value.pointer (some ⟨q, 0, none⟩) by kernel_rfl)
                obtain ⟨⟨y0, y1, y2, y3, y4, y5, y6⟩, hl4, hd7, ⟨g0, g1, g2, g3, g4, g5, g6, g7⟩⟩ := HYK.out Wx hB
                clear hA hpre
                go_simp
                first | exact hK _ _ hB rfl (fun _ _ h => h) hX | exact hK _ _ hB trivial (fun _ _ h => h) hX | (rw [if_neg (by omega)]; go_simp; exact hK _ _ hB rfl (fun _ _ h => h) hX)
              · intro vs Wx A lst hA hB hls hX hno hpre
                have eg := ((hA 51).trans (show _ = vs 1 by kernel_rfl)).trans (by first | exact hpre.1 rfl | exact hpre.2.1 rfl | exact hpre.2.2.1 rfl | exact hpre.2.2.2.1 rfl | exact hpre.2.2.2.2.1 rfl | exact hpre.2.2.2.2.2.1 rfl | exact hpre.2.2.2.2.2.2.1 rfl | exact hpre.2.2.2.2.2.2.2.1 rfl | exact hpre.2.2.2.2.2.2.2.2.1 rfl | exact hpre.2.2.2.2.2.2.2.2.2.1 rfl)
                refine ⟨true, eg, fun _ K hK => ?_, fun h => absurd rfl h⟩
                have e57 := ((hA 57).trans (show _ = vs 7 by kernel_rfl)).trans (by first | exact hpre.1 rfl | exact hpre.2.1 rfl | exact hpre.2.2.1 rfl | exact hpre.2.2.2.1 rfl | exact hpre.2.2.2.2.1 rfl | exact hpre.2.2.2.2.2.1 rfl | exact hpre.2.2.2.2.2.2.1 rfl | exact hpre.2.2.2.2.2.2.2.1 rfl | exact hpre.2.2.2.2.2.2.2.2.1 rfl | exact hpre.2.2.2.2.2.2.2.2.2.1 rfl)
                have e58 := ((hA 58).trans (show _ = vs 8 by kernel_rfl)).trans (by first | exact hpre.1 rfl | exact hpre.2.1 rfl | exact hpre.2.2.1 rfl | exact hpre.2.2.2.1 rfl | exact hpre.2.2.2.2.1 rfl | exact hpre.2.2.2.2.2.1 rfl | exact hpre.2.2.2.2.2.2.1 rfl | exact hpre.2.2.2.2.2.2.2.1 rfl | exact hpre.2.2.2.2.2.2.2.2.1 rfl | exact hpre.2.2.2.2.2.2.2.2.2.1 rfl)
                clear hA hpre
                go_simp
                try (go_at_call 18)
                refine (HBL.out Wx).mono ?_
                rintro e w9 ⟨rfl, hg⟩
                exact hK _ _ (below_trans hB hg) (by first | rfl | (rw [hbb]; rfl)) (fun _ _ h => h) hX
              · intro vs Wx A lst hA hB hls hX hno hpre K hK
                have e51 := ((hA 51).trans (show _ = vs 1 by kernel_rfl)).trans (by first | exact hpre.1 rfl | exact hpre.2.1 rfl | exact hpre.2.2.1 rfl | exact hpre.2.2.2.1 rfl | exact hpre.2.2.2.2.1 rfl | exact hpre.2.2.2.2.2.1 rfl | exact hpre.2.2.2.2.2.2.1 rfl | exact hpre.2.2.2.2.2.2.2.1 rfl | exact hpre.2.2.2.2.2.2.2.2.1 rfl | exact hpre.2.2.2.2.2.2.2.2.2.1 rfl)
                have e59 := ((hA 59).trans (show _ = vs 9 by kernel_rfl)).trans (by first | exact hpre.1 rfl | exact hpre.2.1 rfl | exact hpre.2.2.1 rfl | exact hpre.2.2.2.1 rfl | exact hpre.2.2.2.2.1 rfl | exact hpre.2.2.2.2.2.1 rfl | exact hpre.2.2.2.2.2.2.1 rfl | exact hpre.2.2.2.2.2.2.2.1 rfl | exact hpre.2.2.2.2.2.2.2.2.1 rfl | exact hpre.2.2.2.2.2.2.2.2.2.1 rfl)
                clear hA hpre
                go_simp
                first | exact hK _ _ hB rfl (fun _ _ h => h) hX | exact hK _ _ hB trivial (fun _ _ h => h) hX | (rw [if_neg (by omega)]; go_simp; exact hK _ _ hB rfl (fun _ _ h => h) hX)
              · intro vs Wx A lst hA hB hls hX hno hpre K hK
                have e60 := ((hA 60).trans (show _ = vs 10 by kernel_rfl)).trans (by first | exact hpre.1 rfl | exact hpre.2.1 rfl | exact hpre.2.2.1 rfl | exact hpre.2.2.2.1 rfl | exact hpre.2.2.2.2.1 rfl | exact hpre.2.2.2.2.2.1 rfl | exact hpre.2.2.2.2.2.2.1 rfl | exact hpre.2.2.2.2.2.2.2.1 rfl | exact hpre.2.2.2.2.2.2.2.2.1 rfl | exact hpre.2.2.2.2.2.2.2.2.2.1 rfl)
                clear hA hpre
                go_simp
                first | exact hK _ _ hB rfl (fun _ _ h => h) hX | exact hK _ _ hB trivial (fun _ _ h => h) hX | (rw [if_neg (by omega)]; go_simp; exact hK _ _ hB rfl (fun _ _ h => h) hX)
              · intro vs Wx A lst hA hB hls hX hno hpre
                have eg := ((hA 61).trans (show _ = vs 11 by kernel_rfl)).trans (by first | exact hpre.1 rfl | exact hpre.2.1 rfl | exact hpre.2.2.1 rfl | exact hpre.2.2.2.1 rfl | exact hpre.2.2.2.2.1 rfl | exact hpre.2.2.2.2.2.1 rfl | exact hpre.2.2.2.2.2.2.1 rfl | exact hpre.2.2.2.2.2.2.2.1 rfl | exact hpre.2.2.2.2.2.2.2.2.1 rfl | exact hpre.2.2.2.2.2.2.2.2.2.1 rfl)
                refine ⟨true, eg, fun _ K hK => ?_, fun h => absurd rfl h⟩
                have e1 := (hA 1).trans (show _ = Value.slice (some ⟨bo, oo, none⟩) l1.length co by kernel_rfl)
                clear hA hpre
                go_simp
                first | exact hK _ _ hB rfl (fun _ _ h => h) hX | exact hK _ _ hB trivial (fun _ _ h => h) hX | (rw [if_neg (by omega)]; go_simp; exact hK _ _ hB rfl (fun _ _ h => h) hX)
              · intro vs Wx A lst hA hB hls hX hno hpre
                have eg := ((hA 61).trans (show _ = vs 11 by kernel_rfl)).trans (by first | exact hpre.1 rfl | exact hpre.2.1 rfl | exact hpre.2.2.1 rfl | exact hpre.2.2.2.1 rfl | exact hpre.2.2.2.2.1 rfl | exact hpre.2.2.2.2.2.1 rfl | exact hpre.2.2.2.2.2.2.1 rfl | exact hpre.2.2.2.2.2.2.2.1 rfl | exact hpre.2.2.2.2.2.2.2.2.1 rfl | exact hpre.2.2.2.2.2.2.2.2.2.1 rfl)
                refine ⟨true, eg, fun _ K hK => ?_, fun h => absurd rfl h⟩
                have e6 := (hA 6).trans (show _ = Value.int .i64 (k : Int) by kernel_rfl)
                clear hA hpre
                go_simp
                first | exact hK _ _ hB rfl (fun _ _ h => h) hX | exact hK _ _ hB trivial (fun _ _ h => h) hX | (rw [if_neg (by omega)]; go_simp; exact hK _ _ hB rfl (fun _ _ h => h) hX)
              · intro vs Wx A lst hA hB hls hX hno hpre
                have eg := ((hA 61).trans (show _ = vs 11 by kernel_rfl)).trans (by first | exact hpre.1 rfl | exact hpre.2.1 rfl | exact hpre.2.2.1 rfl | exact hpre.2.2.2.1 rfl | exact hpre.2.2.2.2.1 rfl | exact hpre.2.2.2.2.2.1 rfl | exact hpre.2.2.2.2.2.2.1 rfl | exact hpre.2.2.2.2.2.2.2.1 rfl | exact hpre.2.2.2.2.2.2.2.2.1 rfl | exact hpre.2.2.2.2.2.2.2.2.2.1 rfl)
                refine ⟨true, eg, fun _ K hK => ?_, fun h => absurd rfl h⟩
                have e62 := ((hA 62).trans (show _ = vs 12 by kernel_rfl)).trans (by first | exact hpre.1 rfl | exact hpre.2.1 rfl | exact hpre.2.2.1 rfl | exact hpre.2.2.2.1 rfl | exact hpre.2.2.2.2.1 rfl | exact hpre.2.2.2.2.2.1 rfl | exact hpre.2.2.2.2.2.2.1 rfl | exact hpre.2.2.2.2.2.2.2.1 rfl | exact hpre.2.2.2.2.2.2.2.2.1 rfl | exact hpre.2.2.2.2.2.2.2.2.2.1 rfl)
                have e63 := ((hA 63).trans (show _ = vs 13 by kernel_rfl)).trans (by first | exact hpre.1 rfl | exact hpre.2.1 rfl | exact hpre.2.2.1 rfl | exact hpre.2.2.2.1 rfl | exact hpre.2.2.2.2.1 rfl | exact hpre.2.2.2.2.2.1 rfl | exact hpre.2.2.2.2.2.2.1 rfl | exact hpre.2.2.2.2.2.2.2.1 rfl | exact hpre.2.2.2.2.2.2.2.2.1 rfl | exact hpre.2.2.2.2.2.2.2.2.2.1 rfl)
                clear hA hpre
                go_simp
                first | exact hK _ _ hB rfl (fun _ _ h => h) hX | exact hK _ _ hB trivial (fun _ _ h => h) hX | (rw [if_neg (by omega)]; go_simp; exact hK _ _ hB rfl (fun _ _ h => h) hX)
              · intro vs Wx A lst hA hB hls hX hno hpre
                have eg := ((hA 61).trans (show _ = vs 11 by kernel_rfl)).trans (by first | exact hpre.1 rfl | exact hpre.2.1 rfl | exact hpre.2.2.1 rfl | exact hpre.2.2.2.1 rfl | exact hpre.2.2.2.2.1 rfl | exact hpre.2.2.2.2.2.1 rfl | exact hpre.2.2.2.2.2.2.1 rfl | exact hpre.2.2.2.2.2.2.2.1 rfl | exact hpre.2.2.2.2.2.2.2.2.1 rfl | exact hpre.2.2.2.2.2.2.2.2.2.1 rfl)
                refine ⟨true, eg, fun _ K hK => ?_, fun h => absurd rfl h⟩
                have e64 := ((hA 64).trans (show _ = vs 14 by kernel_rfl)).trans (by first | exact hpre.1 rfl | exact hpre.2.1 rfl | exact hpre.2.2.1 rfl | exact hpre.2.2.2.1 rfl | exact hpre.2.2.2.2.1 rfl | exact hpre.2.2.2.2.2.1 rfl | exact hpre.2.2.2.2.2.2.1 rfl | exact hpre.2.2.2.2.2.2.2.1 rfl | exact hpre.2.2.2.2.2.2.2.2.1 rfl | exact hpre.2.2.2.2.2.2.2.2.2.1 rfl)
                clear hA hpre
                go_simp
                first | exact hK _ _ hB rfl (fun _ _ h => h) hX | exact hK _ _ hB trivial (fun _ _ h => h) hX | (rw [if_neg (by omega)]; go_simp; exact hK _ _ hB rfl (fun _ _ h => h) hX)
              · intro vs Wx A lst hA hB hls hX hno hpre
                have eg := ((hA 61).trans (show _ = vs 11 by kernel_rfl)).trans (by first | exact hpre.1 rfl | exact hpre.2.1 rfl | exact hpre.2.2.1 rfl | exact hpre.2.2.2.1 rfl | exact hpre.2.2.2.2.1 rfl | exact hpre.2.2.2.2.2.1 rfl | exact hpre.2.2.2.2.2.2.1 rfl | exact hpre.2.2.2.2.2.2.2.1 rfl | exact hpre.2.2.2.2.2.2.2.2.1 rfl | exact hpre.2.2.2.2.2.2.2.2.2.1 rfl)
                refine ⟨true, eg, fun _ K hK => ?_, fun h => absurd rfl h⟩
                have e65 := ((hA 65).trans (show _ = vs 15 by kernel_rfl)).trans (by first | exact hpre.1 rfl | exact hpre.2.1 rfl | exact hpre.2.2.1 rfl | exact hpre.2.2.2.1 rfl | exact hpre.2.2.2.2.1 rfl | exact hpre.2.2.2.2.2.1 rfl | exact hpre.2.2.2.2.2.2.1 rfl | exact hpre.2.2.2.2.2.2.2.1 rfl | exact hpre.2.2.2.2.2.2.2.2.1 rfl | exact hpre.2.2.2.2.2.2.2.2.2.1 rfl)
                obtain ⟨⟨y0, y1, y2, y3, y4, y5, y6⟩, hl4, hd7, ⟨g0, g1, g2, g3, g4, g5, g6, g7⟩⟩ := HYK.out Wx hB
                clear hA hpre
                go_simp
                first | exact hK _ _ hB rfl (fun _ _ h => h) hX | exact hK _ _ hB trivial (fun _ _ h => h) hX | (rw [if_neg (by omega)]; go_simp; exact hK _ _ hB rfl (fun _ _ h => h) hX)
              · intro vs Wx A lst hA hB hls hX hno hpre
                have eg := ((hA 61).trans (show _ = vs 11 by kernel_rfl)).trans (by first | exact hpre.1 rfl | exact hpre.2.1 rfl | exact hpre.2.2.1 rfl | exact hpre.2.2.2.1 rfl | exact hpre.2.2.2.2.1 rfl | exact hpre.2.2.2.2.2.1 rfl | exact hpre.2.2.2.2.2.2.1 rfl | exact hpre.2.2.2.2.2.2.2.1 rfl | exact hpre.2.2.2.2.2.2.2.2.1 rfl | exact hpre.2.2.2.2.2.2.2.2.2.1 rfl)
                refine ⟨true, eg, fun _ K hK => ?_, fun h => absurd rfl h⟩
                have e66 := ((hA 66).trans (show _ = vs 16 by kernel_rfl)).trans (by first | exact hpre.1 rfl | exact hpre.2.1 rfl | exact hpre.2.2.1 rfl | exact hpre.2.2.2.1 rfl | exact hpre.2.2.2.2.1 rfl | exact hpre.2.2.2.2.2.1 rfl | exact hpre.2.2.2.2.2.2.1 rfl | exact hpre.2.2.2.2.2.2.2.1 rfl | exact hpre.2.2.2.2.2.2.2.2.1 rfl | exact hpre.2.2.2.2.2.2.2.2.2.1 rfl)
                clear hA hpre
                go_simp
                first | exact hK _ _ hB rfl (fun _ _ h => h) hX | exact hK _ _ hB trivial (fun _ _ h => h) hX | (rw [if_neg (by omega)]; go_simp; exact hK _ _ hB rfl (fun _ _ h => h) hX)
              · intro vs Wx A lst hA hB hls hX hno hpre K hK
                have e61 := ((hA 61).trans (show _ = vs 11 by kernel_rfl)).trans (by first | exact hpre.1 rfl | exact hpre.2.1 rfl | exact hpre.2.2.1 rfl | exact hpre.2.2.2.1 rfl | exact hpre.2.2.2.2.1 rfl | exact hpre.2.2.2.2.2.1 rfl | exact hpre.2.2.2.2.2.2.1 rfl | exact hpre.2.2.2.2.2.2.2.1 rfl | exact hpre.2.2.2.2.2.2.2.2.1 rfl | exact hpre.2.2.2.2.2.2.2.2.2.1 rfl)
                have e67 := ((hA 67).trans (show _ = vs 17 by kernel_rfl)).trans (by first | exact hpre.1 rfl | exact hpre.2.1 rfl | exact hpre.2.2.1 rfl | exact hpre.2.2.2.1 rfl | exact hpre.2.2.2.2.1 rfl | exact hpre.2.2.2.2.2.1 rfl | exact hpre.2.2.2.2.2.2.1 rfl | exact hpre.2.2.2.2.2.2.2.1 rfl | exact hpre.2.2.2.2.2.2.2.2.1 rfl | exact hpre.2.2.2.2.2.2.2.2.2.1 rfl)
                clear hA hpre
                go_simp
                first | exact hK _ _ hB rfl (fun _ _ h => h) hX | exact hK _ _ hB trivial (fun _ _ h => h) hX | (rw [if_neg (by omega)]; go_simp; exact hK _ _ hB rfl (fun _ _ h => h) hX)
              · intro vs Wx A lst hA hB hls hX hno hpre K hK
                have e68 := ((hA 68).trans (show _ = vs 18 by kernel_rfl)).trans (by first | exact hpre.1 rfl | exact hpre.2.1 rfl | exact hpre.2.2.1 rfl | exact hpre.2.2.2.1 rfl | exact hpre.2.2.2.2.1 rfl | exact hpre.2.2.2.2.2.1 rfl | exact hpre.2.2.2.2.2.2.1 rfl | exact hpre.2.2.2.2.2.2.2.1 rfl | exact hpre.2.2.2.2.2.2.2.2.1 rfl | exact hpre.2.2.2.2.2.2.2.2.2.1 rfl)
                clear hA hpre
                go_simp
                first | exact hK _ _ hB rfl (fun _ _ h => h) hX | exact hK _ _ hB trivial (fun _ _ h => h) hX | (rw [if_neg (by omega)]; go_simp; exact hK _ _ hB rfl (fun _ _ h => h) hX)
              · intro vs Wx A lst hA hB hls hX hno hpre
                have eg := ((hA 69).trans (show _ = vs 19 by kernel_rfl)).trans (by first | exact hpre.1 rfl | exact hpre.2.1 rfl | exact hpre.2.2.1 rfl | exact hpre.2.2.2.1 rfl | exact hpre.2.2.2.2.1 rfl | exact hpre.2.2.2.2.2.1 rfl | exact hpre.2.2.2.2.2.2.1 rfl | exact hpre.2.2.2.2.2.2.2.1 rfl | exact hpre.2.2.2.2.2.2.2.2.1 rfl | exact hpre.2.2.2.2.2.2.2.2.2.1 rfl)
                refine ⟨true, eg, fun _ K hK => ?_, fun h => absurd rfl h⟩
                have e1 := (hA 1).trans (show _ = Value.slice (some ⟨bo, oo, none⟩) l1.length co by kernel_rfl)
                clear hA hpre
                go_simp
                first | exact hK _ _ hB rfl (fun _ _ h => h) hX | exact hK _ _ hB trivial (fun _ _ h => h) hX | (rw [if_neg (by omega)]; go_simp; exact hK _ _ hB rfl (fun _ _ h => h) hX)
              · intro vs Wx A lst hA hB hls hX hno hpre
                have eg := ((hA 69).trans (show _ = vs 19 by kernel_rfl)).trans (by first | exact hpre.1 rfl | exact hpre.2.1 rfl | exact hpre.2.2.1 rfl | exact hpre.2.2.2.1 rfl | exact hpre.2.2.2.2.1 rfl | exact hpre.2.2.2.2.2.1 rfl | exact hpre.2.2.2.2.2.2.1 rfl | exact hpre.2.2.2.2.2.2.2.1 rfl | exact hpre.2.2.2.2.2.2.2.2.1 rfl | exact hpre.2.2.2.2.2.2.2.2.2.1 rfl)
                refine ⟨true, eg, fun _ K hK => ?_, fun h => absurd rfl h⟩
                have e6 := (hA 6).trans (show _ = Value.int .i64 (k : Int) by kernel_rfl)
                clear hA hpre
                go_simp
                first | exact hK _ _ hB rfl (fun _ _ h => h) hX | exact hK _ _ hB trivial (fun _ _ h => h) hX | (rw [if_neg (by omega)]; go_simp; exact hK _ _ hB rfl (fun _ _ h => h) hX)
              · intro vs Wx A lst hA hB hls hX hno hpre
                have eg := ((hA 69).trans (show _ = vs 19 by kernel_rfl)).trans (by first | exact hpre.1 rfl | exact hpre.2.1 rfl | exact hpre.2.2.1 rfl | exact hpre.2.2.2.1 rfl | exact hpre.2.2.2.2.1 rfl | exact hpre.2.2.2.2.2.1 rfl | exact hpre.2.2.2.2.2.2.1 rfl | exact hpre.2.2.2.2.2.2.2.1 rfl | exact hpre.2.2.2.2.2.2.2.2.1 rfl | exact hpre.2.2.2.2.2.2.2.2.2.1 rfl)
                refine ⟨true, eg, fun _ K hK => ?_, fun h => absurd rfl h⟩
                have e70 := ((hA 70).trans (show _ = vs 20 by kernel_rfl)).trans (by first | exact hpre.1 rfl | exact hpre.2.1 rfl | exact hpre.2.2.1 rfl | exact hpre.2.2.2.1 rfl | exact hpre.2.2.2.2.1 rfl | exact hpre.2.2.2.2.2.1 rfl | exact hpre.2.2.2.2.2.2.1 rfl | exact hpre.2.2.2.2.2.2.2.1 rfl | exact hpre.2.2.2.2.2.2.2.2.1 rfl | exact hpre.2.2.2.2.2.2.2.2.2.1 rfl)
                have e71 := ((hA 71).trans (show _ = vs 21 by kernel_rfl)).trans (by first | exact hpre.1 rfl | exact hpre.2.1 rfl | exact hpre.2.2.1 rfl | exact hpre.2.2.2.1 rfl | exact hpre.2.2.2.2.1 rfl | exact hpre.2.2.2.2.2.1 rfl | exact hpre.2.2.2.2.2.2.1 rfl | exact hpre.2.2.2.2.2.2.2.1 rfl | exact hpre.2.2.2.2.2.2.2.2.1 rfl | exact hpre.2.2.2.2.2.2.2.2.2.1 rfl)
                clear hA hpre
                go_simp
                first | exact hK _ _ hB rfl (fun _ _ h => h) hX | exact hK _ _ hB trivial (fun _ _ h => h) hX | (rw [if_neg (by omega)]; go_simp; exact hK _ _ hB rfl (fun _ _ h => h) hX)
              · intro vs Wx A lst hA hB hls hX hno hpre
                have eg := ((hA 69).trans (show _ = vs 19 by kernel_rfl)).trans (by first | exact hpre.1 rfl | exact hpre.2.1 rfl | exact hpre.2.2.1 rfl | exact hpre.2.2.2.1 rfl | exact hpre.2.2.2.2.1 rfl | exact hpre.2.2.2.2.2.1 rfl | exact hpre.2.2.2.2.2.2.1 rfl | exact hpre.2.2.2.2.2.2.2.1 rfl | exact hpre.2.2.2.2.2.2.2.2.1 rfl | exact hpre.2.2.2.2.2.2.2.2.2.1 rfl)
                refine ⟨true, eg, fun _ K hK => ?_, fun h => absurd rfl h⟩
                have e72 := ((hA 72).trans (show _ = vs 22 by kernel_rfl)).trans (by first | exact hpre.1 rfl | exact hpre.2.1 rfl | exact hpre.2.2.1 rfl | exact hpre.2.2.2.1 rfl | exact hpre.2.2.2.2.1 rfl | exact hpre.2.2.2.2.2.1 rfl | exact hpre.2.2.2.2.2.2.1 rfl | exact hpre.2.2.2.2.2.2.2.1 rfl | exact hpre.2.2.2.2.2.2.2.2.1 rfl | exact hpre.2.2.2.2.2.2.2.2.2.1 rfl)
                clear hA hpre
                go_simp
                first | exact hK _ _ hB rfl (fun _ _ h => h) hX | exact hK _ _ hB trivial (fun _ _ h => h) hX | (rw [if_neg (by omega)]; go_simp; exact hK _ _ hB rfl (fun _ _ h => h) hX)
              · intro vs Wx A lst hA hB hls hX hno hpre
                have eg := ((hA 69).trans (show _ = vs 19 by kernel_rfl)).trans (by first | exact hpre.1 rfl | exact hpre.2.1 rfl | exact hpre.2.2.1 rfl | exact hpre.2.2.2.1 rfl | exact hpre.2.2.2.2.1 rfl | exact hpre.2.2.2.2.2.1 rfl | exact hpre.2.2.2.2.2.2.1 rfl | exact hpre.2.2.2.2.2.2.2.1 rfl | exact hpre.2.2.2.2.2.2.2.2.1 rfl | exact hpre.2.2.2.2.2.2.2.2.2.1 rfl)
                refine ⟨true, eg, fun _ K hK => ?_, fun h => absurd rfl h⟩
                have e73 := ((hA 73).trans (show _ = vs 23 by kernel_rfl)).trans (by first | exact hpre.1 rfl | exact hpre.2.1 rfl | exact hpre.2.2.1 rfl | exact hpre.2.2.2.1 rfl | exact hpre.2.2.2.2.1 rfl | exact hpre.2.2.2.2.2.1 rfl | exact hpre.2.2.2.2.2.2.1 rfl | exact hpre.2.2.2.2.2.2.2.1 rfl | exact hpre.2.2.2.2.2.2.2.2.1 rfl | exact hpre.2.2.2.2.2.2.2.2.2.1 rfl)
                obtain ⟨⟨y0, y1, y2, y3, y4, y5, y6⟩, hl4, hd7, ⟨g0, g1, g2, g3, g4, g5, g6, g7⟩⟩ := HYK.out Wx hB
                clear hA hpre
                go_simp
                first | exact hK _ _ hB rfl (fun _ _ h => h) hX | exact hK _ _ hB trivial (fun _ _ h => h) hX | (rw [if_neg (by omega)]; go_simp; exact hK _ _ hB rfl (fun _ _ h => h) hX)
              · intro vs Wx A lst hA hB hls hX hno hpre
                have eg := ((hA 69).trans (show _ = vs 19 by kernel_rfl)).trans (by first | exact hpre.1 rfl | exact hpre.2.1 rfl | exact hpre.2.2.1 rfl | exact hpre.2.2.2.1 rfl | exact hpre.2.2.2.2.1 rfl | exact hpre.2.2.2.2.2.1 rfl | exact hpre.2.2.2.2.2.2.1 rfl | exact hpre.2.2.2.2.2.2.2.1 rfl | exact hpre.2.2.2.2.2.2.2.2.1 rfl | exact hpre.2.2.2.2.2.2.2.2.2.1 rfl)
                refine ⟨true, eg, fun _ K hK => ?_, fun h => absurd rfl h⟩
                have e74 := ((hA 74).trans (show _ = vs 24 by kernel_rfl)).trans (by first | exact hpre.1 rfl | exact hpre.2.1 rfl | exact hpre.2.2.1 rfl | exact hpre.2.2.2.1 rfl | exact hpre.2.2.2.2.1 rfl | exact hpre.2.2.2.2.2.1 rfl | exact hpre.2.2.2.2.2.2.1 rfl | exact hpre.2.2.2.2.2.2.2.1 rfl | exact hpre.2.2.2.2.2.2.2.2.1 rfl | exact hpre.2.2.2.2.2.2.2.2.2.1 rfl)
                clear hA hpre
                go_simp
                first | exact hK _ _ hB rfl (fun _ _ h => h) hX | exact hK _ _ hB trivial (fun _ _ h => h) hX | (rw [if_neg (by omega)]; go_simp; exact hK _ _ hB rfl (fun _ _ h => h) hX)
              · intro vs Wx A lst hA hB hls hX hno hpre K hK
                have e69 := ((hA 69).trans (show _ = vs 19 by kernel_rfl)).trans (by first | exact hpre.1 rfl | exact hpre.2.1 rfl | exact hpre.2.2.1 rfl | exact hpre.2.2.2.1 rfl | exact hpre.2.2.2.2.1 rfl | exact hpre.2.2.2.2.2.1 rfl | exact hpre.2.2.2.2.2.2.1 rfl | exact hpre.2.2.2.2.2.2.2.1 rfl | exact hpre.2.2.2.2.2.2.2.2.1 rfl | exact hpre.2.2.2.2.2.2.2.2.2.1 rfl)
                have e75 := ((hA 75).trans (show _ = vs 25 by kernel_rfl)).trans (by first | exact hpre.1 rfl | exact hpre.2.1 rfl | exact hpre.2.2.1 rfl | exact hpre.2.2.2.1 rfl | exact hpre.2.2.2.2.1 rfl | exact hpre.2.2.2.2.2.1 rfl | exact hpre.2.2.2.2.2.2.1 rfl | exact hpre.2.2.2.2.2.2.2.1 rfl | exact hpre.2.2.2.2.2.2.2.2.1 rfl | exact hpre.2.2.2.2.2.2.2.2.2.1 rfl)
                clear hA hpre
                go_simp
                first | exact hK _ _ hB rfl (fun _ _ h => h) hX | exact hK _ _ hB trivial (fun _ _ h => h) hX | (rw [if_neg (by omega)]; go_simp; exact hK _ _ hB rfl (fun _ _ h => h) hX)
              · intro vs Wx lst hall hX hB hF
                refine fun A27 hA K27 hK27 => ?_
                have e76 := ((hA 76).trans (show _ = vs 26 by kernel_rfl)).trans (hF 26 (by decide))
                clear hA
                clear hF
                go_simp
                refine hK27 _ _ ?_
                have HBW := Lib.hid hB
                clear hB hX hall
                simp only [Ri.Tail, Ri.puts]
                go_simp
                go_wp2_with fail
                go_roundg (l1.length - (k + 1))
                case measure => omega
                case rel => exact ⟨k + 1, decide (o.deny ≤ 999), by omega, rfl, by first | rfl | (go_simp; done) | simp [Ri.upd], by first | rfl | go_num, fun h => HPN.out (by simp) (by first | exact hbb | simp) HHD.out (of_decide_eq_true h), HBN.out Wx HBW.out⟩
            · have hd' : decide (0 ≤ o.deny) = false := decide_eq_false hd
              refine Ri.wp_region_tailG 27 (by kernel_rfl) (by kernel_rfl) (by kernel_rfl) (by decide) (by kernel_rfl) (fun Wx => Below W9.heap.size W9 Wx) (fun kz vs wz => (fun kx vx wx => match kx with | 0 => vx = .bool true | 1 => vx = .bool true | 2 => vx = .pointer (some ⟨p, 6, none⟩) | 3 => vx = (.slice (some ⟨bl, ol, none⟩) x0.lines.length cl) | 4 => vx = .int .i64 k | 5 => vx = .pointer (some ⟨bl, ol + k * 6, none⟩) | 6 => vx = .pointer (some ⟨bl, ol + k * 6 + 4, none⟩) | 7 => vx = .int .i64 l.billed | 8 => vx = .agg (otv { o with al := l.billed }) | 9 => vx = .bool true | 10 => vx = .bool true | 11 => vx = .bool true | 12 => vx = (.slice (some ⟨bo, oo, none⟩) l1.length co) | 13 => vx = .int .i64 k | 14 => vx = .pointer (some ⟨bo, oo + k * 8, none⟩) | 15 => vx = .pointer (some ⟨bo, oo + k * 8 + 7, none⟩) | 16 => vx = .int .i64 o.deny | 17 => vx = .bool false | 18 => vx = .bool false | 19 => vx = .bool false | 20 => True | 21 => True | 22 => True | 23 => True | 24 => True | 25 => True | 26 => vx = .bool false | _ => True : Nat → Value → World → Prop) kz (vs kz) wz) (fun lst vs => lst 27 = false → vs 27 = .bool true) (fun kz => [kz]) (by kernel_rfl) (fun jz vs iz vz wz hiz hz => Ri.loc_own (F := (fun kx vx wx => match kx with | 0 => vx = .bool true | 1 => vx = .bool true | 2 => vx = .pointer (some ⟨p, 6, none⟩) | 3 => vx = (.slice (some ⟨bl, ol, none⟩) x0.lines.length cl) | 4 => vx = .int .i64 k | 5 => vx = .pointer (some ⟨bl, ol + k * 6, none⟩) | 6 => vx = .pointer (some ⟨bl, ol + k * 6 + 4, none⟩) | 7 => vx = .int .i64 l.billed | 8 => vx = .agg (otv { o with al := l.billed }) | 9 => vx = .bool true | 10 => vx = .bool true | 11 => vx = .bool true | 12 => vx = (.slice (some ⟨bo, oo, none⟩) l1.length co) | 13 => vx = .int .i64 k | 14 => vx = .pointer (some ⟨bo, oo + k * 8, none⟩) | 15 => vx = .pointer (some ⟨bo, oo + k * 8 + 7, none⟩) | 16 => vx = .int .i64 o.deny | 17 => vx = .bool false | 18 => vx = .bool false | 19 => vx = .bool false | 20 => True | 21 => True | 22 => True | 23 => True | 24 => True | 25 => True | 26 => vx = .bool false | _ => True : Nat → Value → World → Prop)) jz vs iz vz wz hiz hz) HD.out ?_ ⟨Or.inl ⟨rfl, ?_⟩, Or.inl ⟨rfl, ?_⟩, Or.inr ⟨1, true, 51, rfl, rfl, ?_⟩, Or.inr ⟨1, true, 51, rfl, rfl, ?_⟩, Or.inr ⟨1, true, 51, rfl, rfl, ?_⟩, Or.inr ⟨1, true, 51, rfl, rfl, ?_⟩, Or.inr ⟨1, true, 51, rfl, rfl, ?_⟩, Or.inr ⟨1, true, 51, rfl, rfl, ?_⟩, Or.inr ⟨1, true, 51, rfl, rfl, ?_⟩, Or.inr ⟨1, true, 51, rfl, rfl, ?_⟩, Or.inl ⟨rfl, ?_⟩, Or.inl ⟨rfl, ?_⟩, Or.inr ⟨11, true, 61, rfl, rfl, ?_⟩, Or.inr ⟨11, true, 61, rfl, rfl, ?_⟩, Or.inr ⟨11, true, 61, rfl, rfl, ?_⟩, Or.inr ⟨11, true, 61, rfl, rfl, ?_⟩, Or.inr ⟨11, true, 61, rfl, rfl, ?_⟩, Or.inr ⟨11, true, 61, rfl, rfl, ?_⟩, Or.inl ⟨rfl, ?_⟩, Or.inl ⟨rfl, ?_⟩, Or.inr ⟨19, true, 69, rfl, rfl, ?_⟩, Or.inr ⟨19, true, 69, rfl, rfl, ?_⟩, Or.inr ⟨19, true, 69, rfl, rfl, ?_⟩, Or.inr ⟨19, true, 69, rfl, rfl, ?_⟩, Or.inr ⟨19, true, 69, rfl, rfl, ?_⟩, Or.inr ⟨19, true, 69, rfl, rfl, ?_⟩, Or.inl ⟨rfl, ?_⟩, trivial⟩ ?_
              · intro vs hvs
                intro _
                have h1 := congrArg (fun a => a.tmps[5]?.getD undef) hvs
                exact (show vs 27 = _ by kernel_rfl).trans (h1.trans (show _ = Value.bool true by kernel_rfl))
              · intro vs Wx A lst hA hB hls hX hno hpre K hK
                have e5 := ((hA 5).trans (show _ = vs 27 by kernel_rfl)).trans (hX (hno 27 (by decide)))
                clear hA hpre
                go_simp
                first | exact hK _ _ hB rfl (fun _ _ h => h) hX | exact hK _ _ hB trivial (fun _ _ h => h) hX | (rw [if_neg (by omega)]; go_simp; exact hK _ _ hB rfl (fun _ _ h => h) hX)
              · intro vs Wx A lst hA hB hls hX hno hpre K hK
                have e50 := ((hA 50).trans (show _ = vs 0 by kernel_rfl)).trans (by first | exact hpre.1 rfl | exact hpre.2.1 rfl | exact hpre.2.2.1 rfl | exact hpre.2.2.2.1 rfl | exact hpre.2.2.2.2.1 rfl | exact hpre.2.2.2.2.2.1 rfl | exact hpre.2.2.2.2.2.2.1 rfl | exact hpre.2.2.2.2.2.2.2.1 rfl | exact hpre.2.2.2.2.2.2.2.2.1 rfl | exact hpre.2.2.2.2.2.2.2.2.2.1 rfl)
                clear hA hpre
                go_simp
                first | exact hK _ _ hB rfl (fun _ _ h => h) hX | exact hK _ _ hB trivial (fun _ _ h => h) hX | (rw [if_neg (by omega)]; go_simp; exact hK _ _ hB rfl (fun _ _ h => h) hX)
              · intro vs Wx A lst hA hB hls hX hno hpre
                have eg := ((hA 51).trans (show _ = vs 1 by kernel_rfl)).trans (by first | exact hpre.1 rfl | exact hpre.2.1 rfl | exact hpre.2.2.1 rfl | exact hpre.2.2.2.1 rfl | exact hpre.2.2.2.2.1 rfl | exact hpre.2.2.2.2.2.1 rfl | exact hpre.2.2.2.2.2.2.1 rfl | exact hpre.2.2.2.2.2.2.2.1 rfl | exact hpre.2.2.2.2.2.2.2.2.1 rfl | exact hpre.2.2.2.2.2.2.2.2.2.1 rfl)
                refine ⟨true, eg, fun _ K hK => ?_, fun h => absurd rfl h⟩
                have e2 := (hA 2).trans (show _ = Value.pointer (some ⟨p, 0, none⟩) by kernel_rfl)
                clear hA hpre
                go_simp
                first | exact hK _ _ hB rfl (fun _ _ h => h) hX | exact hK _ _ hB trivial (fun _ _ h => h) hX | (rw [if_neg (by omega)]; go_simp; exact hK _ _ hB rfl (fun _ _ h => h) hX)
              · intro vs Wx A lst hA hB hls hX hno hpre
                have eg := ((hA 51).trans (show _ = vs 1 by kernel_rfl)).trans (by first | exact hpre.1 rfl | exact hpre.2.1 rfl | exact hpre.2.2.1 rfl | exact hpre.2.2.2.1 rfl | exact hpre.2.2.2.2.1 rfl | exact hpre.2.2.2.2.2.1 rfl | exact hpre.2.2.2.2.2.2.1 rfl | exact hpre.2.2.2.2.2.2.2.1 rfl | exact hpre.2.2.2.2.2.2.2.2.1 rfl | exact hpre.2.2.2.2.2.2.2.2.2.1 rfl)
                refine ⟨true, eg, fun _ K hK => ?_, fun h => absurd rfl h⟩
                have e52 := ((hA 52).trans (show _ = vs 2 by kernel_rfl)).trans (by first | exact hpre.1 rfl | exact hpre.2.1 rfl | exact hpre.2.2.1 rfl | exact hpre.2.2.2.1 rfl | exact hpre.2.2.2.2.1 rfl | exact hpre.2.2.2.2.2.1 rfl | exact hpre.2.2.2.2.2.2.1 rfl | exact hpre.2.2.2.2.2.2.2.1 rfl | exact hpre.2.2.2.2.2.2.2.2.1 rfl | exact hpre.2.2.2.2.2.2.2.2.2.1 rfl)
                obtain ⟨⟨y0, y1, y2, y3, y4, y5, y6⟩, hl4, hd7, ⟨g0, g1, g2, g3, g4, g5, g6, g7⟩⟩ := HYK.out Wx hB
                clear hA hpre
                go_simp
                first | exact hK _ _ hB rfl (fun _ _ h => h) hX | exact hK _ _ hB trivial (fun _ _ h => h) hX | (rw [if_neg (by omega)]; go_simp; exact hK _ _ hB rfl (fun _ _ h => h) hX)
              · intro vs Wx A lst hA hB hls hX hno hpre
                have eg := ((hA 51).trans (show _ = vs 1 by kernel_rfl)).trans (by first | exact hpre.1 rfl | exact hpre.2.1 rfl | exact hpre.2.2.1 rfl | exact hpre.2.2.2.1 rfl | exact hpre.2.2.2.2.1 rfl | exact hpre.2.2.2.2.2.1 rfl | exact hpre.2.2.2.2.2.2.1 rfl | exact hpre.2.2.2.2.2.2.2.1 rfl | exact hpre.2.2.2.2.2.2.2.2.1 rfl | exact hpre.2.2.2.2.2.2.2.2.2.1 rfl)
                refine ⟨true, eg, fun _ K hK => ?_, fun h => absurd rfl h⟩
                have e6 := (hA 6).trans (show _ = Value.int .i64 (k : Int) by kernel_rfl)
                clear hA hpre
                go_simp
                first | exact hK _ _ hB rfl (fun _ _ h => h) hX | exact hK _ _ hB trivial (fun _ _ h => h) hX | (rw [if_neg (by omega)]; go_simp; exact hK _ _ hB rfl (fun _ _ h => h) hX)
              · intro vs Wx A lst hA hB hls hX hno hpre
                have eg := ((hA 51).trans (show _ = vs 1 by kernel_rfl)).trans (by first | exact hpre.1 rfl | exact hpre.2.1 rfl | exact hpre.2.2.1 rfl | exact hpre.2.2.2.1 rfl | exact hpre.2.2.2.2.1 rfl | exact hpre.2.2.2.2.2.1 rfl | exact hpre.2.2.2.2.2.2.1 rfl | exact hpre.2.2.2.2.2.2.2.1 rfl | exact hpre.2.2.2.2.2.2.2.2.1 rfl | exact hpre.2.2.2.2.2.2.2.2.2.1 rfl)
                refine ⟨true, eg, fun _ K hK => ?_, fun h => absurd rfl h⟩
                have e53 := ((hA 53).trans (show _ = vs 3 by kernel_rfl)).trans (by first | exact hpre.1 rfl | exact hpre.2.1 rfl | exact hpre.2.2.1 rfl | exact hpre.2.2.2.1 rfl | exact hpre.2.2.2.2.1 rfl | exact hpre.2.2.2.2.2.1 rfl | exact hpre.2.2.2.2.2.2.1 rfl | exact hpre.2.2.2.2.2.2.2.1 rfl | exact hpre.2.2.2.2.2.2.2.2.1 rfl | exact hpre.2.2.2.2.2.2.2.2.2.1 rfl)
                have e54 := ((hA 54).trans (show _ = vs 4 by kernel_rfl)).trans (by first | exact hpre.1 rfl | exact hpre.2.1 rfl | exact hpre.2.2.1 rfl | exact hpre.2.2.2.1 rfl | exact hpre.2.2.2.2.1 rfl | exact hpre.2.2.2.2.2.1 rfl | exact hpre.2.2.2.2.2.2.1 rfl | exact hpre.2.2.2.2.2.2.2.1 rfl | exact hpre.2.2.2.2.2.2.2.2.1 rfl | exact hpre.2.2.2.2.2.2.2.2.2.1 rfl)
                clear hA hpre
                go_simp
                first | exact hK _ _ hB rfl (fun _ _ h => h) hX | exact hK _ _ hB trivial (fun _ _ h => h) hX | (rw [if_neg (by omega)]; go_simp; exact hK _ _ hB rfl (fun _ _ h => h) hX)
              · intro vs Wx A lst hA hB hls hX hno hpre
                have eg := ((hA 51).trans (show _ = vs 1 by kernel_rfl)).trans (by first | exact hpre.1 rfl | exact hpre.2.1 rfl | exact hpre.2.2.1 rfl | exact hpre.2.2.2.1 rfl | exact hpre.2.2.2.2.1 rfl | exact hpre.2.2.2.2.2.1 rfl | exact hpre.2.2.2.2.2.2.1 rfl | exact hpre.2.2.2.2.2.2.2.1 rfl | exact hpre.2.2.2.2.2.2.2.2.1 rfl | exact hpre.2.2.2.2.2.2.2.2.2.1 rfl)
                refine ⟨true, eg, fun _ K hK => ?_, fun h => absurd rfl h⟩
                have e55 := ((hA 55).trans (show _ = vs 5 by kernel_rfl)).trans (by first | exact hpre.1 rfl | exact hpre.2.1 rfl | exact hpre.2.2.1 rfl | exact hpre.2.2.2.1 rfl | exact hpre.2.2.2.2.1 rfl | exact hpre.2.2.2.2.2.1 rfl | exact hpre.2.2.2.2.2.2.1 rfl | exact hpre.2.2.2.2.2.2.2.1 rfl | exact hpre.2.2.2.2.2.2.2.2.1 rfl | exact hpre.2.2.2.2.2.2.2.2.2.1 rfl)
                clear hA hpre
                go_simp
                first | exact hK _ _ hB rfl (fun _ _ h => h) hX | exact hK _ _ hB trivial (fun _ _ h => h) hX | (rw [if_neg (by omega)]; go_simp; exact hK _ _ hB rfl (fun _ _ h => h) hX)
              · intro vs Wx A lst hA hB hls hX hno hpre
                have eg := ((hA 51).trans (show _ = vs 1 by kernel_rfl)).trans (by first | exact hpre.1 rfl | exact hpre.2.1 rfl | exact hpre.2.2.1 rfl | exact hpre.2.2.2.1 rfl | exact hpre.2.2.2.2.1 rfl | exact hpre.2.2.2.2.2.1 rfl | exact hpre.2.2.2.2.2.2.1 rfl | exact hpre.2.2.2.2.2.2.2.1 rfl | exact hpre.2.2.2.2.2.2.2.2.1 rfl | exact hpre.2.2.2.2.2.2.2.2.2.1 rfl)
                refine ⟨true, eg, fun _ K hK => ?_, fun h => absurd rfl h⟩
                have e56 := ((hA 56).trans (show _ = vs 6 by kernel_rfl)).trans (by first | exact hpre.1 rfl | exact hpre.2.1 rfl | exact hpre.2.2.1 rfl | exact hpre.2.2.2.1 rfl | exact hpre.2.2.2.2.1 rfl | exact hpre.2.2.2.2.2.1 rfl | exact hpre.2.2.2.2.2.2.1 rfl | exact hpre.2.2.2.2.2.2.2.1 rfl | exact hpre.2.2.2.2.2.2.2.2.1 rfl | exact hpre.2.2.2.2.2.2.2.2.2.1 rfl)
                obtain ⟨⟨y0, y1, y2, y3, y4, y5, y6⟩, hl4, hd7, ⟨g0, g1, g2, g3, g4, g5, g6, g7⟩⟩ := HYK.out Wx hB
                clear hA hpre
                go_simp
                first | exact hK _ _ hB rfl (fun _ _ h => h) hX | exact hK _ _ hB trivial (fun _ _ h => h) hX | (rw [if_neg (by omega)]; go_simp; exact hK _ _ hB rfl (fun _ _ h => h) hX)
              · intro vs Wx A lst hA hB hls hX hno hpre
                have eg := ((hA 51).trans (show _ = vs 1 by kernel_rfl)).trans (by first | exact hpre.1 rfl | exact hpre.2.1 rfl | exact hpre.2.2.1 rfl | exact hpre.2.2.2.1 rfl | exact hpre.2.2.2.2.1 rfl | exact hpre.2.2.2.2.2.1 rfl | exact hpre.2.2.2.2.2.2.1 rfl | exact hpre.2.2.2.2.2.2.2.1 rfl | exact hpre.2.2.2.2.2.2.2.2.1 rfl | exact hpre.2.2.2.2.2.2.2.2.2.1 rfl)
                refine ⟨true, eg, fun _ K hK => ?_, fun h => absurd rfl h⟩
                have e7 := (hA 7).trans (show _ = Value.pointer (some ⟨q, 0, none⟩) by kernel_rfl)
                obtain ⟨⟨y0, y1, y2, y3, y4, y5, y6⟩, hl4, hd7, ⟨g0, g1, g2, g3, g4, g5, g6, g7⟩⟩ := HYK.out Wx hB
                clear hA hpre
                go_simp
                first | exact hK _ _ hB rfl (fun _ _ h => h) hX | exact hK _ _ hB trivial (fun _ _ h => h) hX | (rw [if_neg (by omega)]; go_simp; exact hK _ _ hB rfl (fun _ _ h => h) hX)
              · intro vs Wx A lst hA hB hls hX hno hpre
                have eg := ((hA 51).trans (show _ = vs 1 by kernel_rfl)).trans (by first | exact hpre.1 rfl | exact hpre.2.1 rfl | exact hpre.2.2.1 rfl | exact hpre.2.2.2.1 rfl | exact hpre.2.2.2.2.1 rfl | exact hpre.2.2.2.2.2.1 rfl | exact hpre.2.2.2.2.2.2.1 rfl | exact hpre.2.2.2.2.2.2.2.1 rfl | exact hpre.2.2.2.2.2.2.2.2.1 rfl | exact hpre.2.2.2.2.2.2.2.2.2.1 rfl)
                refine ⟨true, eg, fun _ K hK => ?_, fun h => absurd rfl h⟩
                have e57 := ((hA 57).trans (show _ = vs 7 by kernel_rfl)).trans (by first | exact hpre.1 rfl | exact hpre.2.1 rfl | exact hpre.2.2.1 rfl | exact hpre.2.2.2.1 rfl | exact hpre.2.2.2.2.1 rfl | exact hpre.2.2.2.2.2.1 rfl | exact hpre.2.2.2.2.2.2.1 rfl | exact hpre.2.2.2.2.2.2.2.1 rfl | exact hpre.2.2.2.2.2.2.2.2.1 rfl | exact hpre.2.2.2.2.2.2.2.2.2.1 rfl)
                have e58 := ((hA 58).trans (show _ = vs 8 by kernel_rfl)).trans (by first | exact hpre.1 rfl | exact hpre.2.1 rfl | exact hpre.2.2.1 rfl | exact hpre.2.2.2.1 rfl | exact hpre.2.2.2.2.1 rfl | exact hpre.2.2.2.2.2.1 rfl | exact hpre.2.2.2.2.2.2.1 rfl | exact hpre.2.2.2.2.2.2.2.1 rfl | exact hpre.2.2.2.2.2.2.2.2.1 rfl | exact hpre.2.2.2.2.2.2.2.2.2.1 rfl)
                clear hA hpre
                go_simp
                try (go_at_call 18)
                refine (HBL.out Wx).mono ?_
                rintro e w9 ⟨rfl, hg⟩
                exact hK _ _ (below_trans hB hg) (by first | rfl | (rw [hbb]; rfl)) (fun _ _ h => h) hX
              · intro vs Wx A lst hA hB hls hX hno hpre K hK
                have e51 := ((hA 51).trans (show _ = vs 1 by kernel_rfl)).trans (by first | exact hpre.1 rfl | exact hpre.2.1 rfl | exact hpre.2.2.1 rfl | exact hpre.2.2.2.1 rfl | exact hpre.2.2.2.2.1 rfl | exact hpre.2.2.2.2.2.1 rfl | exact hpre.2.2.2.2.2.2.1 rfl | exact hpre.2.2.2.2.2.2.2.1 rfl | exact hpre.2.2.2.2.2.2.2.2.1 rfl | exact hpre.2.2.2.2.2.2.2.2.2.1 rfl)
                have e59 := ((hA 59).trans (show _ = vs 9 by kernel_rfl)).trans (by first | exact hpre.1 rfl | exact hpre.2.1 rfl | exact hpre.2.2.1 rfl | exact hpre.2.2.2.1 rfl | exact hpre.2.2.2.2.1 rfl | exact hpre.2.2.2.2.2.1 rfl | exact hpre.2.2.2.2.2.2.1 rfl | exact hpre.2.2.2.2.2.2.2.1 rfl | exact hpre.2.2.2.2.2.2.2.2.1 rfl | exact hpre.2.2.2.2.2.2.2.2.2.1 rfl)
                clear hA hpre
                go_simp
                first | exact hK _ _ hB rfl (fun _ _ h => h) hX | exact hK _ _ hB trivial (fun _ _ h => h) hX | (rw [if_neg (by omega)]; go_simp; exact hK _ _ hB rfl (fun _ _ h => h) hX)
              · intro vs Wx A lst hA hB hls hX hno hpre K hK
                have e60 := ((hA 60).trans (show _ = vs 10 by kernel_rfl)).trans (by first | exact hpre.1 rfl | exact hpre.2.1 rfl | exact hpre.2.2.1 rfl | exact hpre.2.2.2.1 rfl | exact hpre.2.2.2.2.1 rfl | exact hpre.2.2.2.2.2.1 rfl | exact hpre.2.2.2.2.2.2.1 rfl | exact hpre.2.2.2.2.2.2.2.1 rfl | exact hpre.2.2.2.2.2.2.2.2.1 rfl | exact hpre.2.2.2.2.2.2.2.2.2.1 rfl)
                clear hA hpre
                go_simp
                first | exact hK _ _ hB rfl (fun _ _ h => h) hX | exact hK _ _ hB trivial (fun _ _ h => h) hX | (rw [if_neg (by omega)]; go_simp; exact hK _ _ hB rfl (fun _ _ h => h) hX)
              · intro vs Wx A lst hA hB hls hX hno hpre
                have eg := ((hA 61).trans (show _ = vs 11 by kernel_rfl)).trans (by first | exact hpre.1 rfl | exact hpre.2.1 rfl | exact hpre.2.2.1 rfl | exact hpre.2.2.2.1 rfl | exact hpre.2.2.2.2.1 rfl | exact hpre.2.2.2.2.2.1 rfl | exact hpre.2.2.2.2.2.2.1 rfl | exact hpre.2.2.2.2.2.2.2.1 rfl | exact hpre.2.2.2.2.2.2.2.2.1 rfl | exact hpre.2.2.2.2.2.2.2.2.2.1 rfl)
                refine ⟨true, eg, fun _ K hK => ?_, fun h => absurd rfl h⟩
                have e1 := (hA 1).trans (show _ = Value.slice (some ⟨bo, oo, none⟩) l1.length co by kernel_rfl)
                clear hA hpre
                go_simp
                first | exact hK _ _ hB rfl (fun _ _ h => h) hX | exact hK _ _ hB trivial (fun _ _ h => h) hX | (rw [if_neg (by omega)]; go_simp; exact hK _ _ hB rfl (fun _ _ h => h) hX)
              · intro vs Wx A lst hA hB hls hX hno hpre
                have eg := ((hA 61).trans (show _ = vs 11 by kernel_rfl)).trans (by first | exact hpre.1 rfl | exact hpre.2.1 rfl | exact hpre.2.2.1 rfl | exact hpre.2.2.2.1 rfl | exact hpre.2.2.2.2.1 rfl | exact hpre.2.2.2.2.2.1 rfl | exact hpre.2.2.2.2.2.2.1 rfl | exact hpre.2.2.2.2.2.2.2.1 rfl | exact hpre.2.2.2.2.2.2.2.2.1 rfl | exact hpre.2.2.2.2.2.2.2.2.2.1 rfl)
                refine ⟨true, eg, fun _ K hK => ?_, fun h => absurd rfl h⟩
                have e6 := (hA 6).trans (show _ = Value.int .i64 (k : Int) by kernel_rfl)
                clear hA hpre
                go_simp
                first | exact hK _ _ hB rfl (fun _ _ h => h) hX | exact hK _ _ hB trivial (fun _ _ h => h) hX | (rw [if_neg (by omega)]; go_simp; exact hK _ _ hB rfl (fun _ _ h => h) hX)
              · intro vs Wx A lst hA hB hls hX hno hpre
                have eg := ((hA 61).trans (show _ = vs 11 by kernel_rfl)).trans (by first | exact hpre.1 rfl | exact hpre.2.1 rfl | exact hpre.2.2.1 rfl | exact hpre.2.2.2.1 rfl | exact hpre.2.2.2.2.1 rfl | exact hpre.2.2.2.2.2.1 rfl | exact hpre.2.2.2.2.2.2.1 rfl | exact hpre.2.2.2.2.2.2.2.1 rfl | exact hpre.2.2.2.2.2.2.2.2.1 rfl | exact hpre.2.2.2.2.2.2.2.2.2.1 rfl)
                refine ⟨true, eg, fun _ K hK => ?_, fun h => absurd rfl h⟩
                have e62 := ((hA 62).trans (show _ = vs 12 by kernel_rfl)).trans (by first | exact hpre.1 rfl | exact hpre.2.1 rfl | exact hpre.2.2.1 rfl | exact hpre.2.2.2.1 rfl | exact hpre.2.2.2.2.1 rfl | exact hpre.2.2.2.2.2.1 rfl | exact hpre.2.2.2.2.2.2.1 rfl | exact hpre.2.2.2.2.2.2.2.1 rfl | exact hpre.2.2.2.2.2.2.2.2.1 rfl | exact hpre.2.2.2.2.2.2.2.2.2.1 rfl)
                have e63 := ((hA 63).trans (show _ = vs 13 by kernel_rfl)).trans (by first | exact hpre.1 rfl | exact hpre.2.1 rfl | exact hpre.2.2.1 rfl | exact hpre.2.2.2.1 rfl | exact hpre.2.2.2.2.1 rfl | exact hpre.2.2.2.2.2.1 rfl | exact hpre.2.2.2.2.2.2.1 rfl | exact hpre.2.2.2.2.2.2.2.1 rfl | exact hpre.2.2.2.2.2.2.2.2.1 rfl | exact hpre.2.2.2.2.2.2.2.2.2.1 rfl)
                clear hA hpre
                go_simp
                first | exact hK _ _ hB rfl (fun _ _ h => h) hX | exact hK _ _ hB trivial (fun _ _ h => h) hX | (rw [if_neg (by omega)]; go_simp; exact hK _ _ hB rfl (fun _ _ h => h) hX)
              · intro vs Wx A lst hA hB hls hX hno hpre
                have eg := ((hA 61).trans (show _ = vs 11 by kernel_rfl)).trans (by first | exact hpre.1 rfl | exact hpre.2.1 rfl | exact hpre.2.2.1 rfl | exact hpre.2.2.2.1 rfl | exact hpre.2.2.2.2.1 rfl | exact hpre.2.2.2.2.2.1 rfl | exact hpre.2.2.2.2.2.2.1 rfl | exact hpre.2.2.2.2.2.2.2.1 rfl | exact hpre.2.2.2.2.2.2.2.2.1 rfl | exact hpre.2.2.2.2.2.2.2.2.2.1 rfl)
                refine ⟨true, eg, fun _ K hK => ?_, fun h => absurd rfl h⟩
                have e64 := ((hA 64).trans (show _ = vs 14 by kernel_rfl)).trans (by first | exact hpre.1 rfl | exact hpre.2.1 rfl | exact hpre.2.2.1 rfl | exact hpre.2.2.2.1 rfl | exact hpre.2.2.2.2.1 rfl | exact hpre.2.2.2.2.2.1 rfl | exact hpre.2.2.2.2.2.2.1 rfl | exact hpre.2.2.2.2.2.2.2.1 rfl | exact hpre.2.2.2.2.2.2.2.2.1 rfl | exact hpre.2.2.2.2.2.2.2.2.2.1 rfl)
                clear hA hpre
                go_simp
                first | exact hK _ _ hB rfl (fun _ _ h => h) hX | exact hK _ _ hB trivial (fun _ _ h => h) hX | (rw [if_neg (by omega)]; go_simp; exact hK _ _ hB rfl (fun _ _ h => h) hX)
              · intro vs Wx A lst hA hB hls hX hno hpre
                have eg := ((hA 61).trans (show _ = vs 11 by kernel_rfl)).trans (by first | exact hpre.1 rfl | exact hpre.2.1 rfl | exact hpre.2.2.1 rfl | exact hpre.2.2.2.1 rfl | exact hpre.2.2.2.2.1 rfl | exact hpre.2.2.2.2.2.1 rfl | exact hpre.2.2.2.2.2.2.1 rfl | exact hpre.2.2.2.2.2.2.2.1 rfl | exact hpre.2.2.2.2.2.2.2.2.1 rfl | exact hpre.2.2.2.2.2.2.2.2.2.1 rfl)
                refine ⟨true, eg, fun _ K hK => ?_, fun h => absurd rfl h⟩
                have e65 := ((hA 65).trans (show _ = vs 15 by kernel_rfl)).trans (by first | exact hpre.1 rfl | exact hpre.2.1 rfl | exact hpre.2.2.1 rfl | exact hpre.2.2.2.1 rfl | exact hpre.2.2.2.2.1 rfl | exact hpre.2.2.2.2.2.1 rfl | exact hpre.2.2.2.2.2.2.1 rfl | exact hpre.2.2.2.2.2.2.2.1 rfl | exact hpre.2.2.2.2.2.2.2.2.1 rfl | exact hpre.2.2.2.2.2.2.2.2.2.1 rfl)
                obtain ⟨⟨y0, y1, y2, y3, y4, y5, y6⟩, hl4, hd7, ⟨g0, g1, g2, g3, g4, g5, g6, g7⟩⟩ := HYK.out Wx hB
                clear hA hpre
                go_simp
                first | exact hK _ _ hB rfl (fun _ _ h => h) hX | exact hK _ _ hB trivial (fun _ _ h => h) hX | (rw [if_neg (by omega)]; go_simp; exact hK _ _ hB rfl (fun _ _ h => h) hX)
              · intro vs Wx A lst hA hB hls hX hno hpre
                have eg := ((hA 61).trans (show _ = vs 11 by kernel_rfl)).trans (by first | exact hpre.1 rfl | exact hpre.2.1 rfl | exact hpre.2.2.1 rfl | exact hpre.2.2.2.1 rfl | exact hpre.2.2.2.2.1 rfl | exact hpre.2.2.2.2.2.1 rfl | exact hpre.2.2.2.2.2.2.1 rfl | exact hpre.2.2.2.2.2.2.2.1 rfl | exact hpre.2.2.2.2.2.2.2.2.1 rfl | exact hpre.2.2.2.2.2.2.2.2.2.1 rfl)
                refine ⟨true, eg, fun _ K hK => ?_, fun h => absurd rfl h⟩
                have e66 := ((hA 66).trans (show _ = vs 16 by kernel_rfl)).trans (by first | exact hpre.1 rfl | exact hpre.2.1 rfl | exact hpre.2.2.1 rfl | exact hpre.2.2.2.1 rfl | exact hpre.2.2.2.2.1 rfl | exact hpre.2.2.2.2.2.1 rfl | exact hpre.2.2.2.2.2.2.1 rfl | exact hpre.2.2.2.2.2.2.2.1 rfl | exact hpre.2.2.2.2.2.2.2.2.1 rfl | exact hpre.2.2.2.2.2.2.2.2.2.1 rfl)
                clear hA hpre
                go_simp
                first | exact hK _ _ hB rfl (fun _ _ h => h) hX | exact hK _ _ hB trivial (fun _ _ h => h) hX | (rw [if_neg (by omega)]; go_simp; exact hK _ _ hB rfl (fun _ _ h => h) hX)
              · intro vs Wx A lst hA hB hls hX hno hpre K hK
                have e61 := ((hA 61).trans (show _ = vs 11 by kernel_rfl)).trans (by first | exact hpre.1 rfl | exact hpre.2.1 rfl | exact hpre.2.2.1 rfl | exact hpre.2.2.2.1 rfl | exact hpre.2.2.2.2.1 rfl | exact hpre.2.2.2.2.2.1 rfl | exact hpre.2.2.2.2.2.2.1 rfl | exact hpre.2.2.2.2.2.2.2.1 rfl | exact hpre.2.2.2.2.2.2.2.2.1 rfl | exact hpre.2.2.2.2.2.2.2.2.2.1 rfl)
                have e67 := ((hA 67).trans (show _ = vs 17 by kernel_rfl)).trans (by first | exact hpre.1 rfl | exact hpre.2.1 rfl | exact hpre.2.2.1 rfl | exact hpre.2.2.2.1 rfl | exact hpre.2.2.2.2.1 rfl | exact hpre.2.2.2.2.2.1 rfl | exact hpre.2.2.2.2.2.2.1 rfl | exact hpre.2.2.2.2.2.2.2.1 rfl | exact hpre.2.2.2.2.2.2.2.2.1 rfl | exact hpre.2.2.2.2.2.2.2.2.2.1 rfl)
                clear hA hpre
                go_simp
                first | exact hK _ _ hB rfl (fun _ _ h => h) hX | exact hK _ _ hB trivial (fun _ _ h => h) hX | (rw [if_neg (by omega)]; go_simp; exact hK _ _ hB rfl (fun _ _ h => h) hX)
              · intro vs Wx A lst hA hB hls hX hno hpre K hK
                have e68 := ((hA 68).trans (show _ = vs 18 by kernel_rfl)).trans (by first | exact hpre.1 rfl | exact hpre.2.1 rfl | exact hpre.2.2.1 rfl | exact hpre.2.2.2.1 rfl | exact hpre.2.2.2.2.1 rfl | exact hpre.2.2.2.2.2.1 rfl | exact hpre.2.2.2.2.2.2.1 rfl | exact hpre.2.2.2.2.2.2.2.1 rfl | exact hpre.2.2.2.2.2.2.2.2.1 rfl | exact hpre.2.2.2.2.2.2.2.2.2.1 rfl)
                clear hA hpre
                go_simp
                first | exact hK _ _ hB rfl (fun _ _ h => h) hX | exact hK _ _ hB trivial (fun _ _ h => h) hX | (rw [if_neg (by omega)]; go_simp; exact hK _ _ hB rfl (fun _ _ h => h) hX)
              · intro vs Wx A lst hA hB hls hX hno hpre
                have eg := ((hA 69).trans (show _ = vs 19 by kernel_rfl)).trans (by first | exact hpre.1 rfl | exact hpre.2.1 rfl | exact hpre.2.2.1 rfl | exact hpre.2.2.2.1 rfl | exact hpre.2.2.2.2.1 rfl | exact hpre.2.2.2.2.2.1 rfl | exact hpre.2.2.2.2.2.2.1 rfl | exact hpre.2.2.2.2.2.2.2.1 rfl | exact hpre.2.2.2.2.2.2.2.2.1 rfl | exact hpre.2.2.2.2.2.2.2.2.2.1 rfl)
                exact ⟨false, eg, fun h => (by cases h), fun _ => ⟨trivial, hX⟩⟩
              · intro vs Wx A lst hA hB hls hX hno hpre
                have eg := ((hA 69).trans (show _ = vs 19 by kernel_rfl)).trans (by first | exact hpre.1 rfl | exact hpre.2.1 rfl | exact hpre.2.2.1 rfl | exact hpre.2.2.2.1 rfl | exact hpre.2.2.2.2.1 rfl | exact hpre.2.2.2.2.2.1 rfl | exact hpre.2.2.2.2.2.2.1 rfl | exact hpre.2.2.2.2.2.2.2.1 rfl | exact hpre.2.2.2.2.2.2.2.2.1 rfl | exact hpre.2.2.2.2.2.2.2.2.2.1 rfl)
                exact ⟨false, eg, fun h => (by cases h), fun _ => ⟨trivial, hX⟩⟩
              · intro vs Wx A lst hA hB hls hX hno hpre
                have eg := ((hA 69).trans (show _ = vs 19 by kernel_rfl)).trans (by first | exact hpre.1 rfl | exact hpre.2.1 rfl | exact hpre.2.2.1 rfl | exact hpre.2.2.2.1 rfl | exact hpre.2.2.2.2.1 rfl | exact hpre.2.2.2.2.2.1 rfl | exact hpre.2.2.2.2.2.2.1 rfl | exact hpre.2.2.2.2.2.2.2.1 rfl | exact hpre.2.2.2.2.2.2.2.2.1 rfl | exact hpre.2.2.2.2.2.2.2.2.2.1 rfl)
                exact ⟨false, eg, fun h => (by cases h), fun _ => ⟨trivial, hX⟩⟩
              · intro vs Wx A lst hA hB hls hX hno hpre
                have eg := ((hA 69).trans (show _ = vs 19 by kernel_rfl)).trans (by first | exact hpre.1 rfl | exact hpre.2.1 rfl | exact hpre.2.2.1 rfl | exact hpre.2.2.2.1 rfl | exact hpre.2.2.2.2.1 rfl | exact hpre.2.2.2.2.2.1 rfl | exact hpre.2.2.2.2.2.2.1 rfl | exact hpre.2.2.2.2.2.2.2.1 rfl | exact hpre.2.2.2.2.2.2.2.2.1 rfl | exact hpre.2.2.2.2.2.2.2.2.2.1 rfl)
                exact ⟨false, eg, fun h => (by cases h), fun _ => ⟨trivial, hX⟩⟩
              · intro vs Wx A lst hA hB hls hX hno hpre
                have eg := ((hA 69).trans (show _ = vs 19 by kernel_rfl)).trans (by first | exact hpre.1 rfl | exact hpre.2.1 rfl | exact hpre.2.2.1 rfl | exact hpre.2.2.2.1 rfl | exact hpre.2.2.2.2.1 rfl | exact hpre.2.2.2.2.2.1 rfl | exact hpre.2.2.2.2.2.2.1 rfl | exact hpre.2.2.2.2.2.2.2.1 rfl | exact hpre.2.2.2.2.2.2.2.2.1 rfl | exact hpre.2.2.2.2.2.2.2.2.2.1 rfl)
                exact ⟨false, eg, fun h => (by cases h), fun _ => ⟨trivial, hX⟩⟩
              · intro vs Wx A lst hA hB hls hX hno hpre
                have eg := ((hA 69).trans (show _ = vs 19 by kernel_rfl)).trans (by first | exact hpre.1 rfl | exact hpre.2.1 rfl | exact hpre.2.2.1 rfl | exact hpre.2.2.2.1 rfl | exact hpre.2.2.2.2.1 rfl | exact hpre.2.2.2.2.2.1 rfl | exact hpre.2.2.2.2.2.2.1 rfl | exact hpre.2.2.2.2.2.2.2.1 rfl | exact hpre.2.2.2.2.2.2.2.2.1 rfl | exact hpre.2.2.2.2.2.2.2.2.2.1 rfl)
                exact ⟨false, eg, fun h => (by cases h), fun _ => ⟨trivial, hX⟩⟩
              · intro vs Wx A lst hA hB hls hX hno hpre K hK
                have e69 := ((hA 69).trans (show _ = vs 19 by kernel_rfl)).trans (by first | exact hpre.1 rfl | exact hpre.2.1 rfl | exact hpre.2.2.1 rfl | exact hpre.2.2.2.1 rfl | exact hpre.2.2.2.2.1 rfl | exact hpre.2.2.2.2.2.1 rfl | exact hpre.2.2.2.2.2.2.1 rfl | exact hpre.2.2.2.2.2.2.2.1 rfl | exact hpre.2.2.2.2.2.2.2.2.1 rfl | exact hpre.2.2.2.2.2.2.2.2.2.1 rfl)
                clear hA hpre
                go_simp
                first | exact hK _ _ hB rfl (fun _ _ h => h) hX | exact hK _ _ hB trivial (fun _ _ h => h) hX | (rw [if_neg (by omega)]; go_simp; exact hK _ _ hB rfl (fun _ _ h => h) hX)
              · intro vs Wx lst hall hX hB hF
                refine fun A27 hA K27 hK27 => ?_
                have e76 := ((hA 76).trans (show _ = vs 26 by kernel_rfl)).trans (hF 26 (by decide))
                clear hA
                clear hF
                go_simp
                refine hK27 _ _ ?_
                have HBW := Lib.hid hB
                clear hB hX hall
                simp only [Ri.Tail, Ri.puts]
                go_simp
                go_wp2_with fail
                go_roundg (l1.length - (k + 1))
                case measure => omega
                case rel => exact ⟨k + 1, false, by omega, rfl, by first | rfl | (go_simp; done) | simp [Ri.upd], by first | rfl | go_num, (fun h => by cases h), HBN.out Wx HBW.out⟩
      · have hltz : ¬ (k : Int) < (l1.length : Int) := by omega
        have HBw1 : Hid (Below p w wr) := HBp.out
        cases b with
        | false =>
          have HO1 := Lib.hid (of_any x0 _ l1 _ wr (HL.out wr HBp.out) (HO.out wr HBp.out) HZ.out HSm.out)
          unfold OfV at HO1
          generalize ofV x0 l1 = X at *
          generalize ofE x0 l1 = E at *
          go_wp2_with (first | (go_at_call 10; refine HO1.out.mono ?_; rintro e wa ⟨⟨u, rfl, hu⟩, hb2⟩; obtain ⟨ua, uc, rfl, -, -⟩ := hu.all.form; have hc2 : Below wr.heap.size wr (wa.alloc (.cells (cpe X (.slice ua X.svs.length uc)) 30)) := below_trans hb2 (below_alloc wa _); have HBc : Hid (Below p w (wa.alloc (.cells (cpe X (.slice ua X.svs.length uc)) 30))) := HBp.out.trans (hc2.mono HPr.out); have HPc : Hid (p ≤ (wa.alloc (.cells (cpe X (.slice ua X.svs.length uc)) 30)).heap.size) := Nat.le_trans HPr.out hc2.size; clear hb2 hu hc2) | (go_at_call 9; refine (HW.out _).mono ?_; rintro e w9 ⟨rfl, hb⟩; have HB2 : Hid (Below p w w9) := HBc.out.trans (hb.mono HPc.out); clear hb))
          go_ret
          exact ⟨rfl, by first | exact HB2.out | (rw [hp]; exact HB2.out)⟩
        | true =>
          have HE0 : Hid (ofE x0 l1 = 0) := bal_of x0 l1 HCE.out HLL.out (by have := HN0.out; omega) (fun j l o hj1 hj2 => HPB.out rfl j l o (by have := (List.getElem?_eq_some_iff.1 hj2).1; omega) hj1 hj2)
          have HO1 := Lib.hid (of_flat x0 _ l1 _ wr (HL.out wr HBp.out) (HO.out wr HBp.out) HZ.out HSm.out HE0.out)
          generalize raw x0 l1 = X at *
          go_wp2_with (first | (go_at_call 10; refine HO1.out.mono ?_; rintro e wa ⟨⟨⟨ua, uc⟩, rfl⟩, hb2⟩; have hc2 : Below wr.heap.size wr (wa.alloc (.cells (cpe X (.slice ua X.svs.length uc)) 30)) := below_trans hb2 (below_alloc wa _); have HBc : Hid (Below p w (wa.alloc (.cells (cpe X (.slice ua X.svs.length uc)) 30))) := HBp.out.trans (hc2.mono HPr.out); have HPc : Hid (p ≤ (wa.alloc (.cells (cpe X (.slice ua X.svs.length uc)) 30)).heap.size) := Nat.le_trans HPr.out hc2.size; clear hb2 hc2) | (go_at_call 9; refine (HW.out _).mono ?_; rintro e w9 ⟨rfl, hb⟩; have HB2 : Hid (Below p w w9) := HBc.out.trans (hb.mono HPc.out); clear hb))
          go_ret
          exact ⟨rfl, by first | exact HB2.out | (rw [hp]; exact HB2.out)⟩

/-! ### the row's step -/
theorem laidOut : laidOutB Try.prog = true := by kernel_rfl
theorem lifted (os : Os) (started : os.Started) (H : Type) (enc : TypeId × Value → H) :
    ReturnsInHanded {} Try.checked os 5 .any (Rows.svcBalancesSpec.pre6 enc Try.prog Try.f5 Rows.svcBalancesRow.domain false) (Rows.svcBalancesSpec.post enc Try.prog Try.f5 false true false false) := by
  refine returnsInHanded_of_change_shaped (C := Try.checked) own started (by kernel_rfl) Try.func5
    (ChangeSpec.witness6 (enc := enc) (C := Try.checked) false ⟨#[], #[.agg #[.string ByteArray.empty, .string ByteArray.empty, .string ByteArray.empty, .int .i64 0, .int .i64 0, .string ByteArray.empty, .slice none 0 0], .slice none 0 0], []⟩ 8 (by kernel_rfl) (by kernel_rfl) (by kernel_rfl) (by kernel_rfl)) ?_
  intro W base args ds gs before hval0 hW hcnd hwt _ _
  have hval : ∀ (j : Nat) t v, Try.f5.params[j]? = some t → args[j]? = some v → Value.okWide Try.prog W .any base t v := hval0
  have hW' := hW
  obtain ⟨p, q, hA0, hV, rfl, hfz, hnd⟩ := hW
  have hA : DataW.TrodAll enc Try.prog W 0 (fun _ => true) true Try.f5.params.toList args.toList ds p := hA0
  rw [Try.params5] at hA hval hwt
  obtain ⟨v0, vs0, d0, ds0, p0, q0, hargs, rfl, rfl, h0, r0⟩ := trodAll_cons hA
  obtain ⟨v1, vs1, d1, ds1, p1, q1, rfl, rfl, rfl, h1, r1⟩ := trodAll_cons r0
  obtain ⟨rfl, rfl, rfl⟩ := trodAll_nil r1
  obtain rfl : args = #[v0, v1] := by cases args; simp_all
  obtain ⟨rfl, rfl⟩ := trodVars_none hV
  have hwl : ∀ z, (z ∈ d0.weights Try.prog 24 → z ≤ reachBytes) ∧ (z ∈ d1.weights Try.prog 25 → z ≤ reachBytes) := fun z => by
    have h := List.all_eq_true.1 hwt z
    simp only [decide_eq_true_eq] at h
    refine ⟨fun hz => h ?_, fun hz => h ?_⟩
    all_goals
      simp only [List.cons_append, List.nil_append, List.toList_toArray, List.append_nil, DataW.weightsEach, List.mem_append]
      first | exact Or.inl hz | exact Or.inr (Or.inl hz) | exact Or.inr (Or.inr (Or.inl hz)) | exact Or.inr (Or.inr (Or.inr (Or.inl hz))) | exact Or.inr (Or.inr (Or.inr (Or.inr (Or.inl hz)))) | exact Or.inr (Or.inr (Or.inr (Or.inr (Or.inr (Or.inl hz))))) | exact Or.inr (Or.inr (Or.inr (Or.inr (Or.inr (Or.inr (Or.inl hz)))))) | simp [hz]
  have k0 := h0
  have lt0 : ∀ x ∈ p0, x.block < W.heap.size := by obtain ⟨m, hm⟩ := k0; exact DataW.trod_lt m _ _ _ hm
  obtain ⟨x0, m0, rfl, g0, z0⟩ := So.open_claim (hval 0 24 v0 rfl rfl) h0 (fun z hz => (hwl z).1 hz)
  have k1 := h1
  have lt1 : ∀ x ∈ p1, x.block < W.heap.size := by obtain ⟨m, hm⟩ := k1; exact DataW.trod_lt m _ _ _ hm
  obtain ⟨l1, g1, z1⟩ := So.open_os (okWide_slice Try.underlying25 (hval 1 25 v1 rfl rfl)) h1 (fun z hz => (hwl z).2 hz)
  clear hA0 hval0
  refine (walk W x0 m0 g0 z0 v1 l1 g1 z1).mono fun e W' ⟨he, bel⟩ => ?_
  subst he
  exact ⟨_, rfl, _, _, _, [], _, [], hW', (trodAll_cons_mk (shut_bool Try.underlying4 _) trodAll_mk0), (trodAll_cons_mk (Below.trod laidOut (by kernel_rfl) (of_decide_eq_true (by kernel_rfl)) k0 bel lt0) (trodAll_cons_mk (Below.trod laidOut (by kernel_rfl) (of_decide_eq_true (by kernel_rfl)) k1 bel lt1) trodAll_mk0)), rfl, bel.frame _, fun h => by cases h⟩

theorem over : Rows.svcBalancesRow.holds Try.pinned (OpenSpec.ofChange Rows.svcBalancesSpec) :=
  OpenClaim.holds_of_wide 5 Try.f5 rfl rfl rfl rfl rfl rfl rfl ⟨rfl, rfl, rfl, rfl, rfl⟩ rfl rfl rfl rfl rfl (by kernel_rfl) Try.func5 (by kernel_rfl)
    (of_decide_eq_true (by kernel_rfl)) (by unfold Func.isWrapper; first | (rw [if_pos (by decide +kernel)]; kernel_rfl) | (rw [if_neg (by decide +kernel)]; exact ⟨rfl, rfl⟩))
    (fun os started H enc _ => lifted os started H enc)

/-- The statement. -/
theorem proved : Rows.SvcBalancesSaid := over
end Go.Proofs.Ytpnkgkchpoehcaa.svcBalances
namespace Go.Proofs.Ytpnkgkchpoehcaa
theorem svcBalances_holds : Rows.SvcBalancesSaid := svcBalances.proved
#print axioms svcBalances_holds
end Go.Proofs.Ytpnkgkchpoehcaa
