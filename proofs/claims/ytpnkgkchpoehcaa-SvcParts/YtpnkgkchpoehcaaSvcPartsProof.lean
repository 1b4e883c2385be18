/-
  The statement SvcParts (20.3): a claim cut in two: what became of the parts adds up to what became of the whole; for all claims and outcomes.
-/
import Derived.Test.YtpnkgkchpoehcaaRows
import Derived.WalkKit
import Derived.ProofKit
import Derived.OpenShut
import Derived.ShutString
import Derived.Below
import Derived.Carry
import Derived.Laws.Cover2
import Derived.HandedShaped
import Derived.Test.YtpnkgkchpoehcaaVPart
import Derived.Test.YtpnkgkchpoehcaaRTailW
import Derived.Test.YtpnkgkchpoehcaaVOpen
namespace Go.Proofs.Ytpnkgkchpoehcaa.svcParts
open Go.ChangeShapes Go.WideShapes Go.ChangeAt Go.RowKit
open Sv
open Bk (keepB below_alloc below_trans alloc_new)
open Go.ChangeMaps (open_string)
set_option linter.unusedVariables false
set_option linter.unusedSimpArgs false
set_option maxRecDepth 100000

theorem own : ownKnob Try.prog.godebug = none := by kernel_rfl

/-! ### the walk: the law returns true -/
set_option maxHeartbeats 16000000 in
theorem walk (w : World) (x0 : Cm.Cl) (m0 : Value) (h0 : Cm.LnsAt All w m0 x0.lines) (z0 : Cm.ClOk x0) (v1 : Value) (l1 : List Sh.Ot) (h1 : Bk.OtsAt All w v1 l1) (z1 : l1.length ≤ 281474976710656) (a2 : Int) (z2 : Sv.I64 a2) :
    Calls Try.prog 7 #[Cm.clv x0 m0, v1, .int .i64 a2] w fun e w' => e = .returned (.bool true) ∧ Below w.heap.size w w' := by
  have HW := Lib.hid works_any
  obtain ⟨al, cl, rfl, f1, f2⟩ := Cm.LnsAt.form h0
  obtain ⟨ao, co, rfl, f3, f4⟩ := h1.form
  have hb0 := below_alloc w (.cells #[.string (mk x0.id), .string (mk x0.mem), .string (mk x0.fam), .int .i64 x0.net, .int .i64 x0.does, .string (mk x0.ref), (.slice al x0.lines.length cl)] 24)
  have HB := Lib.hid hb0
  have HX := Lib.hid (alloc_new w #[.string (mk x0.id), .string (mk x0.mem), .string (mk x0.fam), .int .i64 x0.net, .int .i64 x0.does, .string (mk x0.ref), (.slice al x0.lines.length cl)] 24)
  have HL : Hid (∀ W, Below w.heap.size w W → Cm.LnsAt All W (.slice al x0.lines.length cl) x0.lines) := fun W hW => Cm.LnsAt.move h0 (Below.moves hW)
  have HO : Hid (∀ W, Below w.heap.size w W → Bk.OtsAt All W (.slice ao l1.length co) l1) := fun W hW => h1.grw hW
  have HZ := Lib.hid z0
  have HZ1 := Lib.hid z1
  clear h0 h1 hb0 z0 z1
  go_enter Try.func7, Try.ntmps7
  go_upto_region 1 with fail
  generalize w.alloc (.cells #[.string (mk x0.id), .string (mk x0.mem), .string (mk x0.fam), .int .i64 x0.net, .int .i64 x0.does, .string (mk x0.ref), (.slice al x0.lines.length cl)] 24) = W at *
  generalize hp : w.heap.size = p at *
  have HPW : Hid (p ≤ W.heap.size) := by have := HB.out.size; rw [hp] at this; exact this
  obtain ⟨y0, y1, y2, y3, y4, y5, y6⟩ := seven HX.out
  have HSM := Lib.hid (small_any x0 _ l1 _ W (HL.out W HB.out) (HO.out W HB.out) HZ.out HZ1.out)
  have hW : ∀ (w1 : World), Below W.heap.size W w1 → Hid (Below p w w1) ∧ Hid (p ≤ w1.heap.size) := fun w1 hb => ⟨HB.out.trans (hb.mono HPW.out), Nat.le_trans HPW.out hb.size⟩
  have HWB := Lib.hid hW
  clear hW
  go_wp2_with fail
  (try (go_at_call 8))
  refine HSM.out.mono ?_
  rintro e w1 ⟨⟨b, rfl, hbt⟩, hb1⟩
  have HB1 : Hid (Below W.heap.size W w1) := hb1
  obtain ⟨HBw1, HPS⟩ := HWB.out w1 hb1
  clear HSM hb1 y0 y1 y2 y3 y4 y5 y6
  obtain ⟨y0, y1, y2, y3, y4, y5, y6⟩ := seven (keepB HX.out HB1.out)
  cases b with
  | false =>
    go_wp2_with (first | (go_at_call 9; refine (HW.out _).mono ?_; rintro e w2 ⟨rfl, hb⟩; have HB2 : Hid (Below p w w2) := HBw1.out.trans (hb.mono HPS.out); clear hb))
    go_ret
    exact ⟨rfl, by first | exact HB2.out | (rw [hp]; exact HB2.out)⟩
  | true =>
    obtain ⟨hs, h300⟩ := hbt rfl
    have HSm := Lib.hid hs
    have H300 := Lib.hid h300
    clear hs h300 hbt
    by_cases hll : l1.length = x0.lines.length
    case neg =>
      have hne : ((l1.length : Int) != (x0.lines.length : Int)) = true := by simp; omega
      go_wp2_with (first | (go_at_call 9; refine (HW.out _).mono ?_; rintro e w2 ⟨rfl, hb⟩; have HB2 : Hid (Below p w w2) := HBw1.out.trans (hb.mono HPS.out); clear hb))
      go_ret
      exact ⟨rfl, by first | exact HB2.out | (rw [hp]; exact HB2.out)⟩
    by_cases h2 : l1.length < 2
    · have h2z : (l1.length : Int) < 2 := by omega
      go_wp2_with (first | (go_at_call 9; refine (HW.out _).mono ?_; rintro e w2 ⟨rfl, hb⟩; have HB2 : Hid (Below p w w2) := HBw1.out.trans (hb.mono HPS.out); clear hb))
      go_ret
      exact ⟨rfl, by first | exact HB2.out | (rw [hp]; exact HB2.out)⟩
    have h2z : ¬ (l1.length : Int) < 2 := by omega
    have hle : ((l1.length : Int) != (x0.lines.length : Int)) = false := by simp; omega
    have HLL := Lib.hid hll
    have H2 := Lib.hid h2
    clear hll h2
    have HO1 := Lib.hid (of_any x0 _ l1 _ w1 (HL.out w1 HBw1.out) (HO.out w1 HBw1.out) HZ.out HSm.out)
    by_cases hE : ofE x0 l1 = 0
    case neg =>
      unfold OfV at HO1
      have hbe : (ofE x0 l1 != 0) = true := by simpa using hE
      clear hE
      generalize ofV x0 l1 = X at *
      generalize ofE x0 l1 = E at *
      go_wp2_with (first | (go_at_call 10; refine HO1.out.mono ?_; rintro e wa ⟨⟨u, rfl, hu⟩, hb2⟩; obtain ⟨ua, uc, rfl, -, -⟩ := hu.all.form; have hc2 : Below w1.heap.size w1 (wa.alloc (.cells (cpe X (.slice ua X.svs.length uc)) 30)) := below_trans hb2 (below_alloc wa _); have HBx : Hid (Below p w (wa.alloc (.cells (cpe X (.slice ua X.svs.length uc)) 30))) := HBw1.out.trans (hc2.mono HPS.out); have HPx : Hid (p ≤ (wa.alloc (.cells (cpe X (.slice ua X.svs.length uc)) 30)).heap.size) := Nat.le_trans HPS.out hc2.size; clear hb2 hu hc2) | (go_at_call 9; refine (HW.out _).mono ?_; rintro e w2 ⟨rfl, hb⟩; have HB2 : Hid (Below p w w2) := HBx.out.trans (hb.mono HPx.out); clear hb))
      go_ret
      exact ⟨rfl, by first | exact HB2.out | (rw [hp]; exact HB2.out)⟩
    have HOF := Lib.hid (of_flat x0 _ l1 _ w1 (HL.out w1 HBw1.out) (HO.out w1 HBw1.out) HZ.out HSm.out hE)
    have HHE := Lib.hid hE
    have HRK := Lib.hid (raw_ok HSm.out HZ.out HLL.out (by have := H300.out; omega))
    obtain ⟨R, hR⟩ : ∃ z, z = raw x0 l1 := ⟨_, rfl⟩
    rw [← hR] at HOF HRK
    have HR := Lib.hid hR
    clear hE HO1 hR
    have HXF := Lib.hid (keepB HX.out HB1.out)
    go_upto_region 4 with (first | (go_at_call 10; refine HOF.out.mono ?_; rintro e wa ⟨⟨⟨ua, uc⟩, rfl⟩, hb2⟩; have hc2 : Below w1.heap.size w1 (wa.alloc (.cells (cpe R (.slice ua R.svs.length uc)) 30)) := below_trans hb2 (below_alloc wa _); have HBx : Hid (Below p w (wa.alloc (.cells (cpe R (.slice ua R.svs.length uc)) 30))) := HBw1.out.trans (hc2.mono HPS.out); have HPx : Hid (p ≤ (wa.alloc (.cells (cpe R (.slice ua R.svs.length uc)) 30)).heap.size) := Nat.le_trans HPS.out hc2.size; have HCx := Lib.hid hc2; clear hb2 hc2))
    have HX2 : Hid ((wa.alloc (.cells (cpe R (.slice ua R.svs.length uc)) 30)).heap[p]? = some (.cells #[.string (mk x0.id), .string (mk x0.mem), .string (mk x0.fam), .int .i64 x0.net, .int .i64 x0.does, .string (mk x0.ref), (.slice al x0.lines.length cl)] 24 (0, 0))) := keepB HXF.out HCx.out
    have HA2 := Lib.hid (alloc_new wa (cpe R (.slice ua R.svs.length uc)) 30)
    obtain ⟨W2, hW2⟩ : ∃ z, z = wa.alloc (.cells (cpe R (.slice ua R.svs.length uc)) 30) := ⟨_, rfl⟩
    rw [← hW2] at HX2 HA2 HBx HPx ⊢
    clear hW2 HCx HOF
    generalize wa.heap.size = q2 at *
    have hll := HLL.out
    have h2 := H2.out
    have HL2 := Lib.hid (HL.out W2 HBx.out)
    have HO2 := Lib.hid (HO.out W2 HBx.out)
    obtain ⟨bl, ol, rfl⟩ : ∃ b o, al = some ⟨b, o, none⟩ := lns_some HL2.out (by omega)
    obtain ⟨bo, oo, rfl⟩ : ∃ b o, ao = some ⟨b, o, none⟩ := ots_some HO2.out (by omega)
    obtain ⟨k, hk, hk1, hk2⟩ : ∃ k : Nat, (IntKind.u64.wrap a2).tmod ((l1.length : Int) - 1) = (k : Int) - 1 ∧ 1 ≤ k ∧ k < l1.length := by
      obtain ⟨K, h, hl⟩ := wrap_mod a2 (l1.length - 1) (by omega)
      rw [show ((l1.length - 1 : Nat) : Int) = (l1.length : Int) - 1 by omega] at h
      exact ⟨1 + K, by rw [h]; omega, by omega, by omega⟩
    have HKK := Lib.hid hk
    have HMP := Lib.hid (of_parts x0 l1 k HHE.out hk1 hk2)
    obtain ⟨⟨n1, n2⟩, n3, n4⟩ := cut_ok HZ.out HSm.out k
    have HN1 := Lib.hid n1
    have HN2 := Lib.hid n2
    have HN3 := Lib.hid n3
    have HN4 := Lib.hid n4
    clear n1 n2 n3 n4 hk
    have HBA : Hid (∀ W', Below W2.heap.size W2 W' → Below p w W') := fun W' hW => HBx.out.trans (hW.mono HPx.out)
    have HP1 : Hid (∀ W', Below W2.heap.size W2 W' → Calls Try.prog 10 #[.agg #[.string (mk x0.id), .string (mk x0.mem), .string (mk x0.fam), .int .i64 x0.net, .int .i64 x0.does, .string (mk x0.ref), (.slice (some ⟨bl, ol, none⟩) k cl)], (.slice (some ⟨bo, oo, none⟩) k co)] W' fun e w' => (∃ z : Option Addr × Nat, e = .returned (.tuple #[cpv (raw (cTk x0 k) (l1.take k)) (.slice z.1 (raw (cTk x0 k) (l1.take k)).svs.length z.2), .int .i64 0])) ∧ Below W'.heap.size W' w') := fun W' hW => of_flat (cTk x0 k) (.slice (some ⟨bl, ol, none⟩) k cl) (l1.take k) (.slice (some ⟨bo, oo, none⟩) k co) W' (lns_take (HL2.out.move (Below.moves hW)) (by omega)) (ots_take (HO2.out.grw hW) (by omega)) HN1.out HN2.out HMP.out.1
    have HP2 : Hid (∀ W', Below W2.heap.size W2 W' → Calls Try.prog 10 #[.agg #[.string (mk x0.id), .string (mk x0.mem), .string (mk x0.fam), .int .i64 x0.net, .int .i64 x0.does, .string (mk x0.ref), (.slice (some ⟨bl, ol + k * 6, none⟩) (x0.lines.length - k) (cl - k))], (.slice (some ⟨bo, oo + k * 8, none⟩) (l1.length - k) (co - k))] W' fun e w' => (∃ z : Option Addr × Nat, e = .returned (.tuple #[cpv (raw (cDr x0 k) (l1.drop k)) (.slice z.1 (raw (cDr x0 k) (l1.drop k)).svs.length z.2), .int .i64 0])) ∧ Below W'.heap.size W' w') := fun W' hW => of_flat (cDr x0 k) (.slice (some ⟨bl, ol + k * 6, none⟩) (x0.lines.length - k) (cl - k)) (l1.drop k) (.slice (some ⟨bo, oo + k * 8, none⟩) (l1.length - k) (co - k)) W' (lns_drop (HL2.out.move (Below.moves hW)) (by omega)) (ots_drop (HO2.out.grw hW) (by omega)) HN3.out HN4.out HMP.out.2.1
    have HSS := Lib.hid HMP.out.2.2
    rw [← HR.out] at HSS
    generalize raw (cTk x0 k) (l1.take k) = P1 at *
    generalize raw (cDr x0 k) (l1.drop k) = P2 at *
    have hl3 := H300.out
    clear HMP HN1 HN2 HN3 HN4 HL2 HO2 HR HHE HL HO HSm HZ HZ1 H300
    clear hll h2
    go_upto_region 6 with fail
    go_cut [9] (fun s9 wx => s9 = .int .i64 (k : Int) ∧ wx = W2)
    case first =>
      skip
      go_wp2_with fail
      go_meet
      refine ⟨?_, rfl⟩
      congr 1
      rw [HKK.out]
      unfold wrap64
      omega
    case rest =>
      obtain ⟨rfl, hwc⟩ := hcut
      rw [hwc]
      clear hwc
      have HXK := Lib.hid fun W' (hW : Below W2.heap.size W2 W') => keepB HX2.out hW
      have HD := Lib.hid (Below.drew (Below.refl W2.heap.size W2))
      go_upto_region 7 with fail
      go_cut [10, 11] (fun sa sb wx => ∃ ga gb : Nat, sa = .pointer (some ⟨ga, 0, none⟩) ∧ sb = .pointer (some ⟨gb, 0, none⟩) ∧ Hid (W2.heap.size ≤ ga) ∧ Hid (W2.heap.size ≤ gb) ∧ Hid (ga ≠ gb) ∧ Hid (wx.heap[ga]? = some (.cells #[.string (mk x0.id), .string (mk x0.mem), .string (mk x0.fam), .int .i64 x0.net, .int .i64 x0.does, .string (mk x0.ref), (.slice (some ⟨bl, ol, none⟩) x0.lines.length cl)] 24 (0, 0))) ∧ Hid (wx.heap[gb]? = some (.cells #[.string (mk x0.id), .string (mk x0.mem), .string (mk x0.fam), .int .i64 x0.net, .int .i64 x0.does, .string (mk x0.ref), (.slice (some ⟨bl, ol, none⟩) x0.lines.length cl)] 24 (0, 0))) ∧ Hid (Below W2.heap.size W2 wx))
      case first =>
        refine Ri.wp_region_tailW 5 (by kernel_rfl) (by kernel_rfl) (by kernel_rfl) (by decide) (by kernel_rfl) (fun Wx => Below W2.heap.size W2 Wx) (fun kz vs wz => (fun kx vx wx => match kx with | 0 => vx = .agg #[.string (mk x0.id), .string (mk x0.mem), .string (mk x0.fam), .int .i64 x0.net, .int .i64 x0.does, .string (mk x0.ref), (.slice (some ⟨bl, ol, none⟩) x0.lines.length cl)] | 1 => vx = .agg #[.string (mk x0.id), .string (mk x0.mem), .string (mk x0.fam), .int .i64 x0.net, .int .i64 x0.does, .string (mk x0.ref), (.slice (some ⟨bl, ol, none⟩) x0.lines.length cl)] | 2 => (∃ g, vx = .pointer (some ⟨g, 0, none⟩) ∧ W2.heap.size ≤ g ∧ ∃ cs : Array Value, wx.heap[g]? = some (.cells cs 24 (0, 0)) ∧ cs.size = 7) | 3 => (∃ g, vx = .pointer (some ⟨g, 0, none⟩) ∧ W2.heap.size ≤ g ∧ ∃ cs : Array Value, wx.heap[g]? = some (.cells cs 24 (0, 0)) ∧ cs.size = 7) | 4 => True | _ => True : Nat → Value → World → Prop) kz (vs kz) wz) (fun lst vs Wx => (lst 2 = true → lst 3 = true → vs 2 ≠ vs 3) ∧ (lst 4 = true → ∃ g, vs 2 = .pointer (some ⟨g, 0, none⟩) ∧ W2.heap.size ≤ g ∧ Wx.heap[g]? = some (.cells #[.string (mk x0.id), .string (mk x0.mem), .string (mk x0.fam), .int .i64 x0.net, .int .i64 x0.does, .string (mk x0.ref), (.slice (some ⟨bl, ol, none⟩) x0.lines.length cl)] 24 (0, 0)))) (fun kz => [kz]) (by kernel_rfl) (fun jz vs iz vz wz hiz hz => Ri.loc_own (F := (fun kx vx wx => match kx with | 0 => vx = .agg #[.string (mk x0.id), .string (mk x0.mem), .string (mk x0.fam), .int .i64 x0.net, .int .i64 x0.does, .string (mk x0.ref), (.slice (some ⟨bl, ol, none⟩) x0.lines.length cl)] | 1 => vx = .agg #[.string (mk x0.id), .string (mk x0.mem), .string (mk x0.fam), .int .i64 x0.net, .int .i64 x0.does, .string (mk x0.ref), (.slice (some ⟨bl, ol, none⟩) x0.lines.length cl)] | 2 => (∃ g, vx = .pointer (some ⟨g, 0, none⟩) ∧ W2.heap.size ≤ g ∧ ∃ cs : Array Value, wx.heap[g]? = some (.cells cs 24 (0, 0)) ∧ cs.size = 7) | 3 => (∃ g, vx = .pointer (some ⟨g, 0, none⟩) ∧ W2.heap.size ≤ g ∧ ∃ cs : Array Value, wx.heap[g]? = some (.cells cs 24 (0, 0)) ∧ cs.size = 7) | 4 => True | _ => True : Nat → Value → World → Prop)) jz vs iz vz wz hiz hz) HD.out ?_ ⟨⟨rfl, ?_⟩, ⟨rfl, ?_⟩, ⟨rfl, ?_⟩, ⟨rfl, ?_⟩, ⟨rfl, ?_⟩, trivial⟩ ?_
        · intro vs hvs
          exact ⟨fun h => (by cases h), fun h => (by cases h)⟩
        · intro vs Wx A lst hA hB hls hX hno hpre K hK
          have e3 := (hA 3).trans (show _ = Value.pointer (some ⟨p, 0, none⟩) by kernel_rfl)
          obtain ⟨y0, y1, y2, y3, y4, y5, y6⟩ := seven (HXK.out Wx hB)
          clear hA hpre
          go_simp
          first | exact hK _ _ hB rfl (fun _ _ h => h) hX | exact hK _ _ hB trivial (fun _ _ h => h) hX | (rw [if_neg (by omega)]; go_simp; exact hK _ _ hB rfl (fun _ _ h => h) hX)
        · intro vs Wx A lst hA hB hls hX hno hpre K hK
          have e3 := (hA 3).trans (show _ = Value.pointer (some ⟨p, 0, none⟩) by kernel_rfl)
          obtain ⟨y0, y1, y2, y3, y4, y5, y6⟩ := seven (HXK.out Wx hB)
          clear hA hpre
          go_simp
          first | exact hK _ _ hB rfl (fun _ _ h => h) hX | exact hK _ _ hB trivial (fun _ _ h => h) hX | (rw [if_neg (by omega)]; go_simp; exact hK _ _ hB rfl (fun _ _ h => h) hX)
        · intro vs Wx A lst hA hB hls hX hno hpre K hK
          clear hA hpre
          go_simp
          refine hK _ _ (below_trans hB (below_alloc Wx _)) ⟨_, rfl, hB.size, _, alloc_new Wx _ _, rfl⟩ (fun jz hj hz => ?_) ⟨fun _ hl e => ?_, fun h => ?_⟩
          · match jz, hj, hz with
            | 0, _, hz => exact hz
            | 1, _, hz => exact hz
            | 2, hj, _ => exact absurd rfl hj
            | 3, _, hz => exact (hz.elim fun g h => ⟨g, h.1, h.2.1, h.2.2.elim fun cs h2 => ⟨cs, keepB h2.1 (below_alloc Wx _), h2.2⟩⟩)
            | 4, _, hz => exact hz
            | n + 5, _, hz => exact hz
          · obtain ⟨g, e1, -, cs, h3, -⟩ := hls 3 hl
            have e2 : Value.pointer (some ⟨Wx.heap.size, 0, none⟩) = vs 3 := e
            rw [e1] at e2
            have e3 : Wx.heap.size = g := by simpa using e2
            have := (Array.getElem?_eq_some_iff.1 h3).1
            omega
          · have h4 : lst 4 = true := h
            rw [hno 4 (Or.inr (by kernel_rfl))] at h4
            cases h4
        · intro vs Wx A lst hA hB hls hX hno hpre K hK
          clear hA hpre
          go_simp
          refine hK _ _ (below_trans hB (below_alloc Wx _)) ⟨_, rfl, hB.size, _, alloc_new Wx _ _, rfl⟩ (fun jz hj hz => ?_) ⟨fun hl _ e => ?_, fun h => ?_⟩
          · match jz, hj, hz with
            | 0, _, hz => exact hz
            | 1, _, hz => exact hz
            | 2, _, hz => exact (hz.elim fun g h => ⟨g, h.1, h.2.1, h.2.2.elim fun cs h2 => ⟨cs, keepB h2.1 (below_alloc Wx _), h2.2⟩⟩)
            | 3, hj, _ => exact absurd rfl hj
            | 4, _, hz => exact hz
            | n + 5, _, hz => exact hz
          · obtain ⟨g, e1, -, cs, h3, -⟩ := hls 2 hl
            have e2 : Value.pointer (some ⟨Wx.heap.size, 0, none⟩) = vs 2 := e.symm
            rw [e1] at e2
            have e3 : Wx.heap.size = g := by simpa using e2
            have := (Array.getElem?_eq_some_iff.1 h3).1
            omega
          · have h4 : lst 4 = true := h
            rw [hno 4 (Or.inr (by kernel_rfl))] at h4
            cases h4
        · intro vs Wx A lst hA hB hls hX hno hpre K hK
          have hx2 : (∃ g, (vs 2) = .pointer (some ⟨g, 0, none⟩) ∧ W2.heap.size ≤ g ∧ ∃ cs : Array Value, Wx.heap[g]? = some (.cells cs 24 (0, 0)) ∧ cs.size = 7) := by first | exact hpre.1 rfl | exact hpre.2.1 rfl | exact hpre.2.2.1 rfl | exact hpre.2.2.2.1 rfl | exact hpre.2.2.2.2.1 rfl | exact hpre.2.2.2.2.2.1 rfl | exact hpre.2.2.2.2.2.2.1 rfl | exact hpre.2.2.2.2.2.2.2.1 rfl | exact hpre.2.2.2.2.2.2.2.2.1 rfl | exact hpre.2.2.2.2.2.2.2.2.2.1 rfl
          obtain ⟨gx2, hv2, hh2⟩ := hx2
          have e10 := ((hA 10).trans (show _ = vs 2 by kernel_rfl)).trans hv2
          have e52 := ((hA 52).trans (show _ = vs 0 by kernel_rfl)).trans (by first | exact hpre.1 rfl | exact hpre.2.1 rfl | exact hpre.2.2.1 rfl | exact hpre.2.2.2.1 rfl | exact hpre.2.2.2.2.1 rfl | exact hpre.2.2.2.2.2.1 rfl | exact hpre.2.2.2.2.2.2.1 rfl | exact hpre.2.2.2.2.2.2.2.1 rfl | exact hpre.2.2.2.2.2.2.2.2.1 rfl | exact hpre.2.2.2.2.2.2.2.2.2.1 rfl)
          obtain ⟨hg2, cs2, hc2, hs2⟩ := hh2
          obtain ⟨c0, c1, c2, c3, c4, c5, c6, rfl⟩ := arr7 hs2
          obtain ⟨m0, m1, m2, m3, m4, m5, m6⟩ := seven hc2
          obtain ⟨f0, f1, f2, f3, f4, f5, f6⟩ := frz7 hc2
          clear hA hpre
          go_simp
          refine hK undef _ (put7_below hB gx2 hg2 (.string (mk x0.id)) (.string (mk x0.mem)) (.string (mk x0.fam)) (.int .i64 x0.net) (.int .i64 x0.does) (.string (mk x0.ref)) (.slice (some ⟨bl, ol, none⟩) x0.lines.length cl)) trivial (fun jz hj hz => ?_) ⟨hX.1, fun _ => ⟨gx2, hv2, hg2, put7_heap hc2 (.string (mk x0.id)) (.string (mk x0.mem)) (.string (mk x0.fam)) (.int .i64 x0.net) (.int .i64 x0.does) (.string (mk x0.ref)) (.slice (some ⟨bl, ol, none⟩) x0.lines.length cl)⟩⟩
          match jz, hj, hz with
          | 0, _, hz => exact hz
          | 1, _, hz => exact hz
          | 2, _, hz => exact ⟨gx2, hv2, hg2, _, put7_heap hc2 (.string (mk x0.id)) (.string (mk x0.mem)) (.string (mk x0.fam)) (.int .i64 x0.net) (.int .i64 x0.does) (.string (mk x0.ref)) (.slice (some ⟨bl, ol, none⟩) x0.lines.length cl), rfl⟩
          | 3, _, hz => exact (hz.elim fun g h => ⟨g, h.1, h.2.1, h.2.2.elim fun cs h2 => (put7_any h2.1 h2.2 hc2 (.string (mk x0.id)) (.string (mk x0.mem)) (.string (mk x0.fam)) (.int .i64 x0.net) (.int .i64 x0.does) (.string (mk x0.ref)) (.slice (some ⟨bl, ol, none⟩) x0.lines.length cl)).elim fun ds h3 => ⟨ds, h3.2, h3.1⟩⟩)
          | 4, hj, _ => exact absurd rfl hj
          | n + 5, _, hz => exact hz
        · intro vs Wx lst hall hX hB hF
          refine fun A5 hA K5 hK5 => ?_
          have e11 := (hA 11).trans (show _ = vs 3 by kernel_rfl)
          have e53 := ((hA 53).trans (show _ = vs 1 by kernel_rfl)).trans (hF 1 (by decide))
          clear hA
          obtain ⟨ga, ea, hga, hca⟩ := hX.2 (hall 4 (by decide))
          obtain ⟨gb, eb, hgb, csb, hcb, hsb⟩ := hF 3 (by decide)
          have hne : ga ≠ gb := fun e => hX.1 (hall 2 (by decide)) (hall 3 (by decide)) (by rw [ea, eb, e])
          rw [eb] at e11
          obtain ⟨c0, c1, c2, c3, c4, c5, c6, rfl⟩ := arr7 hsb
          obtain ⟨m0, m1, m2, m3, m4, m5, m6⟩ := seven hcb
          obtain ⟨f0, f1, f2, f3, f4, f5, f6⟩ := frz7 hcb
          have HNA := Lib.hid ((put7_keep hne (.string (mk x0.id)) (.string (mk x0.mem)) (.string (mk x0.fam)) (.int .i64 x0.net) (.int .i64 x0.does) (.string (mk x0.ref)) (.slice (some ⟨bl, ol, none⟩) x0.lines.length cl)).trans hca)
          have HNB := Lib.hid (put7_heap hcb (.string (mk x0.id)) (.string (mk x0.mem)) (.string (mk x0.fam)) (.int .i64 x0.net) (.int .i64 x0.does) (.string (mk x0.ref)) (.slice (some ⟨bl, ol, none⟩) x0.lines.length cl))
          have HBP := Lib.hid (put7_below hB gb hgb (.string (mk x0.id)) (.string (mk x0.mem)) (.string (mk x0.fam)) (.int .i64 x0.net) (.int .i64 x0.does) (.string (mk x0.ref)) (.slice (some ⟨bl, ol, none⟩) x0.lines.length cl))
          have HGA := Lib.hid hga
          have HGB := Lib.hid hgb
          have HNE := Lib.hid hne
          have HEA := Lib.hid ea
          have HEB := Lib.hid eb
          clear hga hgb hca hcb hne
          go_simp
          refine hK5 undef _ ?_
          clear m0 m1 m2 m3 m4 m5 m6 f0 f1 f2 f3 f4 f5 f6 e11 e53
          clear hB hX hall hF
          simp only [Ri.Tail, Ri.puts]
          go_simp
          go_wp2_with fail
          go_meet
          exact ⟨ga, gb, by first | exact HEA.out | (go_simp; exact HEA.out) | (simpa [Ri.upd] using HEA.out), by first | exact HEB.out | (go_simp; exact HEB.out) | (simpa [Ri.upd] using HEB.out), HGA.out, HGB.out, HNE.out, HNA.out, HNB.out, HBP.out⟩
      case rest =>
        obtain ⟨ga, gb, rfl, rfl, HGA, HGB, HNE, HAA, HBB, HBM⟩ := hcut
        clear HD
        go_upto_region 8 with fail
        go_cut [10, 11] (fun sa sb wx => sa = .pointer (some ⟨ga, 0, none⟩) ∧ sb = .pointer (some ⟨gb, 0, none⟩) ∧ Hid (wx.heap[ga]? = some (.cells #[.string (mk x0.id), .string (mk x0.mem), .string (mk x0.fam), .int .i64 x0.net, .int .i64 x0.does, .string (mk x0.ref), (.slice (some ⟨bl, ol, none⟩) k cl)] 24 (0, 0))) ∧ Hid (wx.heap[gb]? = some (.cells #[.string (mk x0.id), .string (mk x0.mem), .string (mk x0.fam), .int .i64 x0.net, .int .i64 x0.does, .string (mk x0.ref), (.slice (some ⟨bl, ol + k * 6, none⟩) (x0.lines.length - k) (cl - k))] 24 (0, 0))) ∧ Hid (Below W2.heap.size W2 wx))
        case first =>
          refine Ri.wp_region_tailW 10 (by kernel_rfl) (by kernel_rfl) (by kernel_rfl) (by decide) (by kernel_rfl) (fun Wx => Below W2.heap.size W2 Wx ∧ Wx.heap[gb]? = some (.cells #[.string (mk x0.id), .string (mk x0.mem), .string (mk x0.fam), .int .i64 x0.net, .int .i64 x0.does, .string (mk x0.ref), (.slice (some ⟨bl, ol, none⟩) x0.lines.length cl)] 24 (0, 0))) (fun kz vs wz => (fun kx vx wx => match kx with | 0 => vx = .pointer (some ⟨p, 6, none⟩) | 1 => vx = (.slice (some ⟨bl, ol, none⟩) x0.lines.length cl) | 2 => vx = .int .i64 k | 3 => vx = (.slice (some ⟨bl, ol, none⟩) k cl) | 4 => vx = .pointer (some ⟨p, 6, none⟩) | 5 => vx = (.slice (some ⟨bl, ol, none⟩) x0.lines.length cl) | 6 => vx = .int .i64 k | 7 => vx = (.slice (some ⟨bl, ol + k * 6, none⟩) (x0.lines.length - k) (cl - k)) | 8 => vx = .pointer (some ⟨ga, 6, none⟩) | 9 => True | _ => True : Nat → Value → World → Prop) kz (vs kz) wz) (fun lst vs Wx => (lst 9 = false → Wx.heap[ga]? = some (.cells #[.string (mk x0.id), .string (mk x0.mem), .string (mk x0.fam), .int .i64 x0.net, .int .i64 x0.does, .string (mk x0.ref), (.slice (some ⟨bl, ol, none⟩) x0.lines.length cl)] 24 (0, 0))) ∧ (lst 9 = true → Wx.heap[ga]? = some (.cells #[.string (mk x0.id), .string (mk x0.mem), .string (mk x0.fam), .int .i64 x0.net, .int .i64 x0.does, .string (mk x0.ref), (.slice (some ⟨bl, ol, none⟩) k cl)] 24 (0, 0)))) (fun kz => [kz]) (by kernel_rfl) (fun jz vs iz vz wz hiz hz => Ri.loc_own (F := (fun kx vx wx => match kx with | 0 => vx = .pointer (some ⟨p, 6, none⟩) | 1 => vx = (.slice (some ⟨bl, ol, none⟩) x0.lines.length cl) | 2 => vx = .int .i64 k | 3 => vx = (.slice (some ⟨bl, ol, none⟩) k cl) | 4 => vx = .pointer (some ⟨p, 6, none⟩) | 5 => vx = (.slice (some ⟨bl, ol, none⟩) x0.lines.length cl) | 6 => vx = .int .i64 k | 7 => vx = (.slice (some ⟨bl, ol + k * 6, none⟩) (x0.lines.length - k) (cl - k)) | 8 => vx = .pointer (some ⟨ga, 6, none⟩) | 9 => True | _ => True : Nat → Value → World → Prop)) jz vs iz vz wz hiz hz) ⟨HBM.out.trans ⟨rfl, rfl, rfl, Nat.le_refl _, fun _ _ => rfl⟩, HBB.out⟩ ?_ ⟨⟨rfl, ?_⟩, ⟨rfl, ?_⟩, ⟨rfl, ?_⟩, ⟨rfl, ?_⟩, ⟨rfl, ?_⟩, ⟨rfl, ?_⟩, ⟨rfl, ?_⟩, ⟨rfl, ?_⟩, ⟨rfl, ?_⟩, ⟨rfl, ?_⟩, trivial⟩ ?_
          · intro vs hvs
            exact ⟨fun _ => HAA.out, fun h => (by cases h)⟩
          · intro vs Wx A lst hA hB hls hX hno hpre K hK
            have e3 := (hA 3).trans (show _ = Value.pointer (some ⟨p, 0, none⟩) by kernel_rfl)
            clear hA hpre
            go_simp
            first | exact hK _ _ hB rfl (fun _ _ h => h) hX | exact hK _ _ hB trivial (fun _ _ h => h) hX | (rw [if_neg (by omega)]; go_simp; exact hK _ _ hB rfl (fun _ _ h => h) hX)
          · intro vs Wx A lst hA hB hls hX hno hpre K hK
            have e54 := ((hA 54).trans (show _ = vs 0 by kernel_rfl)).trans (by first | exact hpre.1 rfl | exact hpre.2.1 rfl | exact hpre.2.2.1 rfl | exact hpre.2.2.2.1 rfl | exact hpre.2.2.2.2.1 rfl | exact hpre.2.2.2.2.2.1 rfl | exact hpre.2.2.2.2.2.2.1 rfl | exact hpre.2.2.2.2.2.2.2.1 rfl | exact hpre.2.2.2.2.2.2.2.2.1 rfl | exact hpre.2.2.2.2.2.2.2.2.2.1 rfl)
            obtain ⟨y0, y1, y2, y3, y4, y5, y6⟩ := seven (HXK.out Wx hB.1)
            clear hA hpre
            go_simp
            first | exact hK _ _ hB rfl (fun _ _ h => h) hX | exact hK _ _ hB trivial (fun _ _ h => h) hX | (rw [if_neg (by omega)]; go_simp; exact hK _ _ hB rfl (fun _ _ h => h) hX)
          · intro vs Wx A lst hA hB hls hX hno hpre K hK
            have e9 := (hA 9).trans (show _ = Value.int .i64 (k : Int) by kernel_rfl)
            clear hA hpre
            go_simp
            first | exact hK _ _ hB rfl (fun _ _ h => h) hX | exact hK _ _ hB trivial (fun _ _ h => h) hX | (rw [if_neg (by omega)]; go_simp; exact hK _ _ hB rfl (fun _ _ h => h) hX)
          · intro vs Wx A lst hA hB hls hX hno hpre K hK
            have e55 := ((hA 55).trans (show _ = vs 1 by kernel_rfl)).trans (by first | exact hpre.1 rfl | exact hpre.2.1 rfl | exact hpre.2.2.1 rfl | exact hpre.2.2.2.1 rfl | exact hpre.2.2.2.2.1 rfl | exact hpre.2.2.2.2.2.1 rfl | exact hpre.2.2.2.2.2.2.1 rfl | exact hpre.2.2.2.2.2.2.2.1 rfl | exact hpre.2.2.2.2.2.2.2.2.1 rfl | exact hpre.2.2.2.2.2.2.2.2.2.1 rfl)
            have e56 := ((hA 56).trans (show _ = vs 2 by kernel_rfl)).trans (by first | exact hpre.1 rfl | exact hpre.2.1 rfl | exact hpre.2.2.1 rfl | exact hpre.2.2.2.1 rfl | exact hpre.2.2.2.2.1 rfl | exact hpre.2.2.2.2.2.1 rfl | exact hpre.2.2.2.2.2.2.1 rfl | exact hpre.2.2.2.2.2.2.2.1 rfl | exact hpre.2.2.2.2.2.2.2.2.1 rfl | exact hpre.2.2.2.2.2.2.2.2.2.1 rfl)
            clear hA hpre
            go_simp
            have hll := HLL.out
            rw [if_pos (show k ≤ cl by omega)]
            go_simp
            exact hK _ _ hB rfl (fun _ _ h => h) hX
          · intro vs Wx A lst hA hB hls hX hno hpre K hK
            have e3 := (hA 3).trans (show _ = Value.pointer (some ⟨p, 0, none⟩) by kernel_rfl)
            clear hA hpre
            go_simp
            first | exact hK _ _ hB rfl (fun _ _ h => h) hX | exact hK _ _ hB trivial (fun _ _ h => h) hX | (rw [if_neg (by omega)]; go_simp; exact hK _ _ hB rfl (fun _ _ h => h) hX)
          · intro vs Wx A lst hA hB hls hX hno hpre K hK
            have e58 := ((hA 58).trans (show _ = vs 4 by kernel_rfl)).trans (by first | exact hpre.1 rfl | exact hpre.2.1 rfl | exact hpre.2.2.1 rfl | exact hpre.2.2.2.1 rfl | exact hpre.2.2.2.2.1 rfl | exact hpre.2.2.2.2.2.1 rfl | exact hpre.2.2.2.2.2.2.1 rfl | exact hpre.2.2.2.2.2.2.2.1 rfl | exact hpre.2.2.2.2.2.2.2.2.1 rfl | exact hpre.2.2.2.2.2.2.2.2.2.1 rfl)
            obtain ⟨y0, y1, y2, y3, y4, y5, y6⟩ := seven (HXK.out Wx hB.1)
            clear hA hpre
            go_simp
            first | exact hK _ _ hB rfl (fun _ _ h => h) hX | exact hK _ _ hB trivial (fun _ _ h => h) hX | (rw [if_neg (by omega)]; go_simp; exact hK _ _ hB rfl (fun _ _ h => h) hX)
          · intro vs Wx A lst hA hB hls hX hno hpre K hK
            have e9 := (hA 9).trans (show _ = Value.int .i64 (k : Int) by kernel_rfl)
            clear hA hpre
            go_simp
            first | exact hK _ _ hB rfl (fun _ _ h => h) hX | exact hK _ _ hB trivial (fun _ _ h => h) hX | (rw [if_neg (by omega)]; go_simp; exact hK _ _ hB rfl (fun _ _ h => h) hX)
          · intro vs Wx A lst hA hB hls hX hno hpre K hK
            have e59 := ((hA 59).trans (show _ = vs 5 by kernel_rfl)).trans (by first | exact hpre.1 rfl | exact hpre.2.1 rfl | exact hpre.2.2.1 rfl | exact hpre.2.2.2.1 rfl | exact hpre.2.2.2.2.1 rfl | exact hpre.2.2.2.2.2.1 rfl | exact hpre.2.2.2.2.2.2.1 rfl | exact hpre.2.2.2.2.2.2.2.1 rfl | exact hpre.2.2.2.2.2.2.2.2.1 rfl | exact hpre.2.2.2.2.2.2.2.2.2.1 rfl)
            have e60 := ((hA 60).trans (show _ = vs 6 by kernel_rfl)).trans (by first | exact hpre.1 rfl | exact hpre.2.1 rfl | exact hpre.2.2.1 rfl | exact hpre.2.2.2.1 rfl | exact hpre.2.2.2.2.1 rfl | exact hpre.2.2.2.2.2.1 rfl | exact hpre.2.2.2.2.2.2.1 rfl | exact hpre.2.2.2.2.2.2.2.1 rfl | exact hpre.2.2.2.2.2.2.2.2.1 rfl | exact hpre.2.2.2.2.2.2.2.2.2.1 rfl)
            clear hA hpre
            go_simp
            have hll := HLL.out
            rw [if_pos (show k ≤ x0.lines.length by omega), if_neg (show ¬ cl = k by omega)]
            go_simp
            exact hK _ _ hB rfl (fun _ _ h => h) hX
          · intro vs Wx A lst hA hB hls hX hno hpre K hK
            have e10 := (hA 10).trans (show _ = Value.pointer (some ⟨ga, 0, none⟩) by kernel_rfl)
            clear hA hpre
            go_simp
            first | exact hK _ _ hB rfl (fun _ _ h => h) hX | exact hK _ _ hB trivial (fun _ _ h => h) hX | (rw [if_neg (by omega)]; go_simp; exact hK _ _ hB rfl (fun _ _ h => h) hX)
          · intro vs Wx A lst hA hB hls hX hno hpre K hK
            have e62 := ((hA 62).trans (show _ = vs 8 by kernel_rfl)).trans (by first | exact hpre.1 rfl | exact hpre.2.1 rfl | exact hpre.2.2.1 rfl | exact hpre.2.2.2.1 rfl | exact hpre.2.2.2.2.1 rfl | exact hpre.2.2.2.2.2.1 rfl | exact hpre.2.2.2.2.2.2.1 rfl | exact hpre.2.2.2.2.2.2.2.1 rfl | exact hpre.2.2.2.2.2.2.2.2.1 rfl | exact hpre.2.2.2.2.2.2.2.2.2.1 rfl)
            have e57 := ((hA 57).trans (show _ = vs 3 by kernel_rfl)).trans (by first | exact hpre.1 rfl | exact hpre.2.1 rfl | exact hpre.2.2.1 rfl | exact hpre.2.2.2.1 rfl | exact hpre.2.2.2.2.1 rfl | exact hpre.2.2.2.2.2.1 rfl | exact hpre.2.2.2.2.2.2.1 rfl | exact hpre.2.2.2.2.2.2.2.1 rfl | exact hpre.2.2.2.2.2.2.2.2.1 rfl | exact hpre.2.2.2.2.2.2.2.2.2.1 rfl)
            have hg0 := hX.1 (hno 9 (Or.inl rfl))
            obtain ⟨m0, m1, m2, m3, m4, m5, m6⟩ := seven hg0
            obtain ⟨f0, f1, f2, f3, f4, f5, f6⟩ := frz7 hg0
            clear hA hpre
            go_simp
            refine hK undef _ ⟨hB.1.setCell (p := ⟨ga, 6, none⟩) HGA.out _, Bk.heap_far hB.2 (Ne.symm HNE.out)⟩ trivial (fun _ _ h => h) ⟨fun h => (by simp at h), fun _ => (Bk.heap_set hg0 6 (.slice (some ⟨bl, ol, none⟩) k cl)).trans (by rfl)⟩
          · intro vs Wx lst hall hX hB hF
            refine fun A10 hA K10 hK10 => ?_
            have e11 := (hA 11).trans (show _ = Value.pointer (some ⟨gb, 0, none⟩) by kernel_rfl)
            clear hA
            go_simp
            refine hK10 _ _ ?_
            refine fun A11 hA K11 hK11 => ?_
            have e63 := (hA 63).trans (show _ = Value.pointer (some ⟨gb, 6, none⟩) by kernel_rfl)
            have e61 := ((hA 61).trans (show _ = vs 7 by kernel_rfl)).trans (hF 7 (by decide))
            clear hA
            have hca := hX.2 (hall 9 (by decide))
            have hcb := hB.2
            obtain ⟨m0, m1, m2, m3, m4, m5, m6⟩ := seven hcb
            obtain ⟨f0, f1, f2, f3, f4, f5, f6⟩ := frz7 hcb
            have HNA : Hid ((Wx.setCell ⟨gb, 6, none⟩ (.slice (some ⟨bl, ol + k * 6, none⟩) (x0.lines.length - k) (cl - k))).heap[ga]? = some (.cells #[.string (mk x0.id), .string (mk x0.mem), .string (mk x0.fam), .int .i64 x0.net, .int .i64 x0.does, .string (mk x0.ref), (.slice (some ⟨bl, ol, none⟩) k cl)] 24 (0, 0))) := Bk.heap_far hca HNE.out
            have HNB : Hid ((Wx.setCell ⟨gb, 6, none⟩ (.slice (some ⟨bl, ol + k * 6, none⟩) (x0.lines.length - k) (cl - k))).heap[gb]? = some (.cells #[.string (mk x0.id), .string (mk x0.mem), .string (mk x0.fam), .int .i64 x0.net, .int .i64 x0.does, .string (mk x0.ref), (.slice (some ⟨bl, ol + k * 6, none⟩) (x0.lines.length - k) (cl - k))] 24 (0, 0))) := (Bk.heap_set hcb 6 (.slice (some ⟨bl, ol + k * 6, none⟩) (x0.lines.length - k) (cl - k))).trans (by rfl)
            have HBP : Hid (Below W2.heap.size W2 (Wx.setCell ⟨gb, 6, none⟩ (.slice (some ⟨bl, ol + k * 6, none⟩) (x0.lines.length - k) (cl - k)))) := hB.1.setCell (p := ⟨gb, 6, none⟩) HGB.out _
            clear hca hcb
            go_simp
            refine hK11 undef _ ?_
            clear m0 m1 m2 m3 m4 m5 m6 f0 f1 f2 f3 f4 f5 f6 e63 e61
            clear hB hX hall hF
            simp only [Ri.Tail, Ri.puts]
            go_simp
            go_wp2_with fail
            go_meet
            exact ⟨by first | rfl | (go_simp; done) | simp [Ri.upd], by first | rfl | (go_simp; done) | simp [Ri.upd], HNA.out, HNB.out, HBP.out⟩
        case rest =>
          clear HAA HBB HBM
          obtain ⟨rfl, rfl, HAK, HAD, HBM⟩ := hcut
          obtain ⟨w5, hw5⟩ : ∃ z, z = wc := ⟨_, rfl⟩
          subst hw5
          have HP3 := Lib.hid fun W' (hW : Below w5.heap.size w5 W') => HP1.out W' (HBM.out.trans (hW.mono HBM.out.size))
          have HP4 := Lib.hid fun W' (hW : Below w5.heap.size w5 W') => HP2.out W' (HBM.out.trans (hW.mono HBM.out.size))
          have HA5 := Lib.hid (keepB HA2.out HBM.out)
          have HB5 := Lib.hid (HBA.out w5 HBM.out)
          have HP5 : Hid (p ≤ w5.heap.size) := Nat.le_trans HPx.out HBM.out.size
          clear HP1 HP2 HA2 HBM HXK HX2 HBA
          have HD := Lib.hid (Below.drew (Below.refl w5.heap.size w5))
          have HYK := Lib.hid fun W' (hW : Below w5.heap.size w5 W') => keepB HAK.out hW
          go_upto_region 9 with fail
          go_cut [12, 13] (fun sa sb wx => ∃ (g : Nat) (z : Option Addr × Nat), sa = .pointer (some ⟨g, 0, none⟩) ∧ sb = .int .i64 0 ∧ Hid (wx.heap[g]? = some (.cells (cpe P1 (.slice z.1 P1.svs.length z.2)) 30 (0, 0))) ∧ Hid (Below w5.heap.size w5 wx))
          case first =>
            refine Ri.wp_region_tailW 10 (by kernel_rfl) (by kernel_rfl) (by kernel_rfl) (by decide) (by kernel_rfl) (fun Wx => Below w5.heap.size w5 Wx) (fun kz vs wz => (fun kx vx wx => match kx with | 0 => vx = .agg #[.string (mk x0.id), .string (mk x0.mem), .string (mk x0.fam), .int .i64 x0.net, .int .i64 x0.does, .string (mk x0.ref), (.slice (some ⟨bl, ol, none⟩) k cl)] | 1 => vx = (.slice (some ⟨bo, oo, none⟩) l1.length co) | 2 => vx = .int .i64 k | 3 => vx = (.slice (some ⟨bo, oo, none⟩) k co) | 4 => (∃ z : Option Addr × Nat, vx = .tuple #[(cpv P1 (.slice z.1 P1.svs.length z.2)), .int .i64 0] ∧ True) | 5 => (∃ z : Option Addr × Nat, vx = .tuple #[(cpv P1 (.slice z.1 P1.svs.length z.2)), .int .i64 0] ∧ True) | 6 => (∃ z : Option Addr × Nat, vx = (cpv P1 (.slice z.1 P1.svs.length z.2)) ∧ True) | 7 => vx = .int .i64 0 | 8 => (∃ g, vx = .pointer (some ⟨g, 0, none⟩) ∧ (w5.heap.size ≤ g ∧ ∃ cs : Array Value, wx.heap[g]? = some (.cells cs 30 (0, 0)) ∧ cs.size = 6)) | 9 => True | _ => True : Nat → Value → World → Prop) kz (vs kz) wz) (fun lst vs Wx => lst 9 = true → ∃ (g : Nat) (z : Option Addr × Nat), vs 8 = .pointer (some ⟨g, 0, none⟩) ∧ w5.heap.size ≤ g ∧ Wx.heap[g]? = some (.cells (cpe P1 (.slice z.1 P1.svs.length z.2)) 30 (0, 0))) (fun kz => [kz]) (by kernel_rfl) (fun jz vs iz vz wz hiz hz => Ri.loc_own (F := (fun kx vx wx => match kx with | 0 => vx = .agg #[.string (mk x0.id), .string (mk x0.mem), .string (mk x0.fam), .int .i64 x0.net, .int .i64 x0.does, .string (mk x0.ref), (.slice (some ⟨bl, ol, none⟩) k cl)] | 1 => vx = (.slice (some ⟨bo, oo, none⟩) l1.length co) | 2 => vx = .int .i64 k | 3 => vx = (.slice (some ⟨bo, oo, none⟩) k co) | 4 => (∃ z : Option Addr × Nat, vx = .tuple #[(cpv P1 (.slice z.1 P1.svs.length z.2)), .int .i64 0] ∧ True) | 5 => (∃ z : Option Addr × Nat, vx = .tuple #[(cpv P1 (.slice z.1 P1.svs.length z.2)), .int .i64 0] ∧ True) | 6 => (∃ z : Option Addr × Nat, vx = (cpv P1 (.slice z.1 P1.svs.length z.2)) ∧ True) | 7 => vx = .int .i64 0 | 8 => (∃ g, vx = .pointer (some ⟨g, 0, none⟩) ∧ (w5.heap.size ≤ g ∧ ∃ cs : Array Value, wx.heap[g]? = some (.cells cs 30 (0, 0)) ∧ cs.size = 6)) | 9 => True | _ => True : Nat → Value → World → Prop)) jz vs iz vz wz hiz hz) HD.out ?_ ⟨⟨rfl, ?_⟩, ⟨rfl, ?_⟩, ⟨rfl, ?_⟩, ⟨rfl, ?_⟩, ⟨rfl, ?_⟩, ⟨rfl, ?_⟩, ⟨rfl, ?_⟩, ⟨rfl, ?_⟩, ⟨rfl, ?_⟩, ⟨rfl, ?_⟩, trivial⟩ ?_
            · intro vs hvs
              exact fun h => by cases h
            · intro vs Wx A lst hA hB hls hX hno hpre K hK
              have e10 := (hA 10).trans (show _ = Value.pointer (some ⟨ga, 0, none⟩) by kernel_rfl)
              obtain ⟨y0, y1, y2, y3, y4, y5, y6⟩ := seven (HYK.out Wx hB)
              clear hA hpre
              go_simp
              first | exact hK _ _ hB rfl (fun _ _ h => h) hX | exact hK _ _ hB trivial (fun _ _ h => h) hX | (rw [if_neg (by omega)]; go_simp; exact hK _ _ hB rfl (fun _ _ h => h) hX)
            · intro vs Wx A lst hA hB hls hX hno hpre K hK
              have e1 := (hA 1).trans (show _ = Value.slice (some ⟨bo, oo, none⟩) l1.length co by kernel_rfl)
              clear hA hpre
              go_simp
              first | exact hK _ _ hB rfl (fun _ _ h => h) hX | exact hK _ _ hB trivial (fun _ _ h => h) hX | (rw [if_neg (by omega)]; go_simp; exact hK _ _ hB rfl (fun _ _ h => h) hX)
            · intro vs Wx A lst hA hB hls hX hno hpre K hK
              have e9 := (hA 9).trans (show _ = Value.int .i64 (k : Int) by kernel_rfl)
              clear hA hpre
              go_simp
              first | exact hK _ _ hB rfl (fun _ _ h => h) hX | exact hK _ _ hB trivial (fun _ _ h => h) hX | (rw [if_neg (by omega)]; go_simp; exact hK _ _ hB rfl (fun _ _ h => h) hX)
            · intro vs Wx A lst hA hB hls hX hno hpre K hK
              have e66 := ((hA 66).trans (show _ = vs 1 by kernel_rfl)).trans (by first | exact hpre.1 rfl | exact hpre.2.1 rfl | exact hpre.2.2.1 rfl | exact hpre.2.2.2.1 rfl | exact hpre.2.2.2.2.1 rfl | exact hpre.2.2.2.2.2.1 rfl | exact hpre.2.2.2.2.2.2.1 rfl | exact hpre.2.2.2.2.2.2.2.1 rfl | exact hpre.2.2.2.2.2.2.2.2.1 rfl | exact hpre.2.2.2.2.2.2.2.2.2.1 rfl)
              have e67 := ((hA 67).trans (show _ = vs 2 by kernel_rfl)).trans (by first | exact hpre.1 rfl | exact hpre.2.1 rfl | exact hpre.2.2.1 rfl | exact hpre.2.2.2.1 rfl | exact hpre.2.2.2.2.1 rfl | exact hpre.2.2.2.2.2.1 rfl | exact hpre.2.2.2.2.2.2.1 rfl | exact hpre.2.2.2.2.2.2.2.1 rfl | exact hpre.2.2.2.2.2.2.2.2.1 rfl | exact hpre.2.2.2.2.2.2.2.2.2.1 rfl)
              clear hA hpre
              go_simp
              rw [if_pos (show k ≤ co by omega)]
              go_simp
              exact hK _ _ hB rfl (fun _ _ h => h) hX
            · intro vs Wx A lst hA hB hls hX hno hpre K hK
              have e65 := ((hA 65).trans (show _ = vs 0 by kernel_rfl)).trans (by first | exact hpre.1 rfl | exact hpre.2.1 rfl | exact hpre.2.2.1 rfl | exact hpre.2.2.2.1 rfl | exact hpre.2.2.2.2.1 rfl | exact hpre.2.2.2.2.2.1 rfl | exact hpre.2.2.2.2.2.2.1 rfl | exact hpre.2.2.2.2.2.2.2.1 rfl | exact hpre.2.2.2.2.2.2.2.2.1 rfl | exact hpre.2.2.2.2.2.2.2.2.2.1 rfl)
              have e68 := ((hA 68).trans (show _ = vs 3 by kernel_rfl)).trans (by first | exact hpre.1 rfl | exact hpre.2.1 rfl | exact hpre.2.2.1 rfl | exact hpre.2.2.2.1 rfl | exact hpre.2.2.2.2.1 rfl | exact hpre.2.2.2.2.2.1 rfl | exact hpre.2.2.2.2.2.2.1 rfl | exact hpre.2.2.2.2.2.2.2.1 rfl | exact hpre.2.2.2.2.2.2.2.2.1 rfl | exact hpre.2.2.2.2.2.2.2.2.2.1 rfl)
              clear hA hpre
              go_simp
              try (go_at_call 10)
              refine (HP3.out Wx hB).mono ?_
              rintro e w9 ⟨⟨zz, rfl⟩, hg⟩
              refine hK _ _ (below_trans hB hg) ⟨zz, rfl, trivial⟩ (fun jz hj hz => ?_) (fun h => by have h4 : lst 9 = true := h; rw [hno 9 (Or.inr (by kernel_rfl))] at h4; cases h4)
              match jz, hj, hz with
              | 0, _, hz => exact hz
              | 1, _, hz => exact hz
              | 2, _, hz => exact hz
              | 3, _, hz => exact hz
              | 4, hj, _ => exact absurd rfl hj
              | 5, _, hz => exact hz
              | 6, _, hz => exact hz
              | 7, _, hz => exact hz
              | 8, _, hz => exact (hz.elim fun g h => ⟨g, h.1, h.2.1, h.2.2.elim fun cs h2 => ⟨cs, keepB h2.1 hg, h2.2⟩⟩)
              | 9, _, hz => exact hz
              | n + 10, _, hz => exact hz
            · intro vs Wx A lst hA hB hls hX hno hpre K hK
              have hx4 : (∃ z : Option Addr × Nat, (vs 4) = .tuple #[(cpv P1 (.slice z.1 P1.svs.length z.2)), .int .i64 0] ∧ True) := by first | exact hpre.1 rfl | exact hpre.2.1 rfl | exact hpre.2.2.1 rfl | exact hpre.2.2.2.1 rfl | exact hpre.2.2.2.2.1 rfl | exact hpre.2.2.2.2.2.1 rfl | exact hpre.2.2.2.2.2.2.1 rfl | exact hpre.2.2.2.2.2.2.2.1 rfl | exact hpre.2.2.2.2.2.2.2.2.1 rfl | exact hpre.2.2.2.2.2.2.2.2.2.1 rfl
              obtain ⟨gx4, hv4, hh4⟩ := hx4
              have e69 := ((hA 69).trans (show _ = vs 4 by kernel_rfl)).trans hv4
              clear hA hpre
              go_simp
              exact hK _ _ hB ⟨gx4, rfl, trivial⟩ (fun _ _ h => h) hX
            · intro vs Wx A lst hA hB hls hX hno hpre K hK
              have hx5 : (∃ z : Option Addr × Nat, (vs 5) = .tuple #[(cpv P1 (.slice z.1 P1.svs.length z.2)), .int .i64 0] ∧ True) := by first | exact hpre.1 rfl | exact hpre.2.1 rfl | exact hpre.2.2.1 rfl | exact hpre.2.2.2.1 rfl | exact hpre.2.2.2.2.1 rfl | exact hpre.2.2.2.2.2.1 rfl | exact hpre.2.2.2.2.2.2.1 rfl | exact hpre.2.2.2.2.2.2.2.1 rfl | exact hpre.2.2.2.2.2.2.2.2.1 rfl | exact hpre.2.2.2.2.2.2.2.2.2.1 rfl
              obtain ⟨gx5, hv5, hh5⟩ := hx5
              have e64 := ((hA 64).trans (show _ = vs 5 by kernel_rfl)).trans hv5
              clear hA hpre
              go_simp
              exact hK _ _ hB ⟨gx5, rfl, trivial⟩ (fun _ _ h => h) hX
            · intro vs Wx A lst hA hB hls hX hno hpre K hK
              have hx5 : (∃ z : Option Addr × Nat, (vs 5) = .tuple #[(cpv P1 (.slice z.1 P1.svs.length z.2)), .int .i64 0] ∧ True) := by first | exact hpre.1 rfl | exact hpre.2.1 rfl | exact hpre.2.2.1 rfl | exact hpre.2.2.2.1 rfl | exact hpre.2.2.2.2.1 rfl | exact hpre.2.2.2.2.2.1 rfl | exact hpre.2.2.2.2.2.2.1 rfl | exact hpre.2.2.2.2.2.2.2.1 rfl | exact hpre.2.2.2.2.2.2.2.2.1 rfl | exact hpre.2.2.2.2.2.2.2.2.2.1 rfl
              obtain ⟨gx5, hv5, hh5⟩ := hx5
              have e64 := ((hA 64).trans (show _ = vs 5 by kernel_rfl)).trans hv5
              clear hA hpre
              go_simp
              first | exact hK _ _ hB rfl (fun _ _ h => h) hX | exact hK _ _ hB trivial (fun _ _ h => h) hX | (rw [if_neg (by omega)]; go_simp; exact hK _ _ hB rfl (fun _ _ h => h) hX)
            · intro vs Wx A lst hA hB hls hX hno hpre K hK
              clear hA hpre
              go_simp
              refine hK _ _ (below_trans hB (below_alloc Wx _)) ⟨_, rfl, hB.size, _, alloc_new Wx _ _, rfl⟩ (fun jz hj hz => ?_) (fun h => by have h4 : lst 9 = true := h; rw [hno 9 (Or.inr (by kernel_rfl))] at h4; cases h4)
              match jz, hj, hz with
              | 0, _, hz => exact hz
              | 1, _, hz => exact hz
              | 2, _, hz => exact hz
              | 3, _, hz => exact hz
              | 4, _, hz => exact hz
              | 5, _, hz => exact hz
              | 6, _, hz => exact hz
              | 7, _, hz => exact hz
              | 8, hj, _ => exact absurd rfl hj
              | 9, _, hz => exact hz
              | n + 10, _, hz => exact hz
            · intro vs Wx A lst hA hB hls hX hno hpre K hK
              have hx8 : (∃ g, (vs 8) = .pointer (some ⟨g, 0, none⟩) ∧ (w5.heap.size ≤ g ∧ ∃ cs : Array Value, Wx.heap[g]? = some (.cells cs 30 (0, 0)) ∧ cs.size = 6)) := by first | exact hpre.1 rfl | exact hpre.2.1 rfl | exact hpre.2.2.1 rfl | exact hpre.2.2.2.1 rfl | exact hpre.2.2.2.2.1 rfl | exact hpre.2.2.2.2.2.1 rfl | exact hpre.2.2.2.2.2.2.1 rfl | exact hpre.2.2.2.2.2.2.2.1 rfl | exact hpre.2.2.2.2.2.2.2.2.1 rfl | exact hpre.2.2.2.2.2.2.2.2.2.1 rfl
              obtain ⟨gx8, hv8, hh8⟩ := hx8
              have e12 := ((hA 12).trans (show _ = vs 8 by kernel_rfl)).trans hv8
              have hx6 : (∃ z : Option Addr × Nat, (vs 6) = (cpv P1 (.slice z.1 P1.svs.length z.2)) ∧ True) := by first | exact hpre.1 rfl | exact hpre.2.1 rfl | exact hpre.2.2.1 rfl | exact hpre.2.2.2.1 rfl | exact hpre.2.2.2.2.1 rfl | exact hpre.2.2.2.2.2.1 rfl | exact hpre.2.2.2.2.2.2.1 rfl | exact hpre.2.2.2.2.2.2.2.1 rfl | exact hpre.2.2.2.2.2.2.2.2.1 rfl | exact hpre.2.2.2.2.2.2.2.2.2.1 rfl
              obtain ⟨gx6, hv6, hh6⟩ := hx6
              have e70 := ((hA 70).trans (show _ = vs 6 by kernel_rfl)).trans hv6
              obtain ⟨hg8, cs8, hc8, hs8⟩ := hh8
              obtain ⟨c0, c1, c2, c3, c4, c5, rfl⟩ := arr6 hs8
              obtain ⟨m0, m1, m2, m3, m4, m5⟩ := six hc8
              obtain ⟨f0, f1, f2, f3, f4, f5⟩ := frz6 hc8
              clear hA hpre
              go_simp
              refine hK undef _ (put6_below hB gx8 hg8 (.string (mk P1.id)) (.int .i64 P1.st) (.int .i64 P1.bi) (.int .i64 P1.paid) (.int .i64 P1.mem) (.slice gx6.1 P1.svs.length gx6.2)) trivial (fun jz hj hz => ?_) (fun _ => ⟨gx8, gx6, hv8, hg8, put6_heap hc8 (.string (mk P1.id)) (.int .i64 P1.st) (.int .i64 P1.bi) (.int .i64 P1.paid) (.int .i64 P1.mem) (.slice gx6.1 P1.svs.length gx6.2)⟩)
              match jz, hj, hz with
              | 0, _, hz => exact hz
              | 1, _, hz => exact hz
              | 2, _, hz => exact hz
              | 3, _, hz => exact hz
              | 4, _, hz => exact hz
              | 5, _, hz => exact hz
              | 6, _, hz => exact hz
              | 7, _, hz => exact hz
              | 8, _, hz => exact ⟨gx8, hv8, hg8, _, put6_heap hc8 (.string (mk P1.id)) (.int .i64 P1.st) (.int .i64 P1.bi) (.int .i64 P1.paid) (.int .i64 P1.mem) (.slice gx6.1 P1.svs.length gx6.2), rfl⟩
              | 9, hj, _ => exact absurd rfl hj
              | n + 10, _, hz => exact hz
            · intro vs Wx lst hall hX hB hF
              refine fun A10 hA K10 hK10 => ?_
              have e71 := ((hA 71).trans (show _ = vs 7 by kernel_rfl)).trans (hF 7 (by decide))
              clear hA
              go_simp
              refine hK10 _ _ ?_
              obtain ⟨g, z, e, -, hh⟩ := hX (hall 9 (by decide))
              have HH := Lib.hid hh
              have HE8 := Lib.hid e
              have HBE := Lib.hid hB
              clear hB hX hall hF e hh
              simp only [Ri.Tail, Ri.puts]
              go_simp
              go_wp2_with fail
              go_meet
              exact ⟨g, z, by first | exact HE8.out | (go_simp; exact HE8.out) | (simpa [Ri.upd] using HE8.out), by first | rfl | (go_simp; done) | simp [Ri.upd], HH.out, HBE.out⟩
          case rest =>
            obtain ⟨g1, ⟨z1, u1⟩, rfl, rfl, HG1, HBN⟩ := hcut
            clear HYK HD
            obtain ⟨w6, hw6⟩ : ∃ z, z = wc := ⟨_, rfl⟩
            subst hw6
            have HP6 := Lib.hid fun W' (hW : Below w6.heap.size w6 W') => HP4.out W' (below_trans HBN.out hW)
            have HA6 := Lib.hid (keepB HA5.out HBN.out)
            have HB6 : Hid (Below p w w6) := HB5.out.trans (HBN.out.mono HP5.out)
            have HPw6 : Hid (p ≤ w6.heap.size) := Nat.le_trans HP5.out HBN.out.size
            have HAE := Lib.hid (keepB HAD.out HBN.out)
            clear HP4 HA5 HB5 HP5 HBN HAK HAD HP3
            have HD := Lib.hid (Below.drew (Below.refl w6.heap.size w6))
            have HYK := Lib.hid fun W' (hW : Below w6.heap.size w6 W') => keepB HAE.out hW
            go_upto_region 10 with fail
            go_cut [14, 15] (fun sa sb wx => ∃ (g : Nat) (z : Option Addr × Nat), sa = .pointer (some ⟨g, 0, none⟩) ∧ sb = .int .i64 0 ∧ Hid (wx.heap[g]? = some (.cells (cpe P2 (.slice z.1 P2.svs.length z.2)) 30 (0, 0))) ∧ Hid (Below w6.heap.size w6 wx))
            case first =>
              refine Ri.wp_region_tailW 10 (by kernel_rfl) (by kernel_rfl) (by kernel_rfl) (by decide) (by kernel_rfl) (fun Wx => Below w6.heap.size w6 Wx) (fun kz vs wz => (fun kx vx wx => match kx with | 0 => vx = .agg #[.string (mk x0.id), .string (mk x0.mem), .string (mk x0.fam), .int .i64 x0.net, .int .i64 x0.does, .string (mk x0.ref), (.slice (some ⟨bl, ol + k * 6, none⟩) (x0.lines.length - k) (cl - k))] | 1 => vx = (.slice (some ⟨bo, oo, none⟩) l1.length co) | 2 => vx = .int .i64 k | 3 => vx = (.slice (some ⟨bo, oo + k * 8, none⟩) (l1.length - k) (co - k)) | 4 => (∃ z : Option Addr × Nat, vx = .tuple #[(cpv P2 (.slice z.1 P2.svs.length z.2)), .int .i64 0] ∧ True) | 5 => (∃ z : Option Addr × Nat, vx = .tuple #[(cpv P2 (.slice z.1 P2.svs.length z.2)), .int .i64 0] ∧ True) | 6 => (∃ z : Option Addr × Nat, vx = (cpv P2 (.slice z.1 P2.svs.length z.2)) ∧ True) | 7 => vx = .int .i64 0 | 8 => (∃ g, vx = .pointer (some ⟨g, 0, none⟩) ∧ (w6.heap.size ≤ g ∧ ∃ cs : Array Value, wx.heap[g]? = some (.cells cs 30 (0, 0)) ∧ cs.size = 6)) | 9 => True | _ => True : Nat → Value → World → Prop) kz (vs kz) wz) (fun lst vs Wx => lst 9 = true → ∃ (g : Nat) (z : Option Addr × Nat), vs 8 = .pointer (some ⟨g, 0, none⟩) ∧ w6.heap.size ≤ g ∧ Wx.heap[g]? = some (.cells (cpe P2 (.slice z.1 P2.svs.length z.2)) 30 (0, 0))) (fun kz => [kz]) (by kernel_rfl) (fun jz vs iz vz wz hiz hz => Ri.loc_own (F := (fun kx vx wx => match kx with | 0 => vx = .agg #[.string (mk x0.id), .string (mk x0.mem), .string (mk x0.fam), .int .i64 x0.net, .int .i64 x0.does, .string (mk x0.ref), (.slice (some ⟨bl, ol + k * 6, none⟩) (x0.lines.length - k) (cl - k))] | 1 => vx = (.slice (some ⟨bo, oo, none⟩) l1.length co) | 2 => vx = .int .i64 k | 3 => vx = (.slice (some ⟨bo, oo + k * 8, none⟩) (l1.length - k) (co - k)) | 4 => (∃ z : Option Addr × Nat, vx = .tuple #[(cpv P2 (.slice z.1 P2.svs.length z.2)), .int .i64 0] ∧ True) | 5 => (∃ z : Option Addr × Nat, vx = .tuple #[(cpv P2 (.slice z.1 P2.svs.length z.2)), .int .i64 0] ∧ True) | 6 => (∃ z : Option Addr × Nat, vx = (cpv P2 (.slice z.1 P2.svs.length z.2)) ∧ True) | 7 => vx = .int .i64 0 | 8 => (∃ g, vx = .pointer (some ⟨g, 0, none⟩) ∧ (w6.heap.size ≤ g ∧ ∃ cs : Array Value, wx.heap[g]? = some (.cells cs 30 (0, 0)) ∧ cs.size = 6)) | 9 => True | _ => True : Nat → Value → World → Prop)) jz vs iz vz wz hiz hz) HD.out ?_ ⟨⟨rfl, ?_⟩, ⟨rfl, ?_⟩, ⟨rfl, ?_⟩, ⟨rfl, ?_⟩, ⟨rfl, ?_⟩, ⟨rfl, ?_⟩, ⟨rfl, ?_⟩, ⟨rfl, ?_⟩, ⟨rfl, ?_⟩, ⟨rfl, ?_⟩, trivial⟩ ?_
              · intro vs hvs
                exact fun h => by cases h
              · intro vs Wx A lst hA hB hls hX hno hpre K hK
                have e11 := (hA 11).trans (show _ = Value.pointer (some ⟨gb, 0, none⟩) by kernel_rfl)
                obtain ⟨y0, y1, y2, y3, y4, y5, y6⟩ := seven (HYK.out Wx hB)
                clear hA hpre
                go_simp
                first | exact hK _ _ hB rfl (fun _ _ h => h) hX | exact hK _ _ hB trivial (fun _ _ h => h) hX | (rw [if_neg (by omega)]; go_simp; exact hK _ _ hB rfl (fun _ _ h => h) hX)
              · intro vs Wx A lst hA hB hls hX hno hpre K hK
                have e1 := (hA 1).trans (show _ = Value.slice (some ⟨bo, oo, none⟩) l1.length co by kernel_rfl)
                clear hA hpre
                go_simp
                first | exact hK _ _ hB rfl (fun _ _ h => h) hX | exact hK _ _ hB trivial (fun _ _ h => h) hX | (rw [if_neg (by omega)]; go_simp; exact hK _ _ hB rfl (fun _ _ h => h) hX)
              · intro vs Wx A lst hA hB hls hX hno hpre K hK
                have e9 := (hA 9).trans (show _ = Value.int .i64 (k : Int) by kernel_rfl)
                clear hA hpre
                go_simp
                first | exact hK _ _ hB rfl (fun _ _ h => h) hX | exact hK _ _ hB trivial (fun _ _ h => h) hX | (rw [if_neg (by omega)]; go_simp; exact hK _ _ hB rfl (fun _ _ h => h) hX)
              · intro vs Wx A lst hA hB hls hX hno hpre K hK
                have e74 := ((hA 74).trans (show _ = vs 1 by kernel_rfl)).trans (by first | exact hpre.1 rfl | exact hpre.2.1 rfl | exact hpre.2.2.1 rfl | exact hpre.2.2.2.1 rfl | exact hpre.2.2.2.2.1 rfl | exact hpre.2.2.2.2.2.1 rfl | exact hpre.2.2.2.2.2.2.1 rfl | exact hpre.2.2.2.2.2.2.2.1 rfl | exact hpre.2.2.2.2.2.2.2.2.1 rfl | exact hpre.2.2.2.2.2.2.2.2.2.1 rfl)
                have e75 := ((hA 75).trans (show _ = vs 2 by kernel_rfl)).trans (by first | exact hpre.1 rfl | exact hpre.2.1 rfl | exact hpre.2.2.1 rfl | exact hpre.2.2.2.1 rfl | exact hpre.2.2.2.2.1 rfl | exact hpre.2.2.2.2.2.1 rfl | exact hpre.2.2.2.2.2.2.1 rfl | exact hpre.2.2.2.2.2.2.2.1 rfl | exact hpre.2.2.2.2.2.2.2.2.1 rfl | exact hpre.2.2.2.2.2.2.2.2.2.1 rfl)
                clear hA hpre
                go_simp
                rw [if_pos (show k ≤ l1.length by omega), if_neg (show ¬ co = k by omega)]
                go_simp
                exact hK _ _ hB rfl (fun _ _ h => h) hX
              · intro vs Wx A lst hA hB hls hX hno hpre K hK
                have e73 := ((hA 73).trans (show _ = vs 0 by kernel_rfl)).trans (by first | exact hpre.1 rfl | exact hpre.2.1 rfl | exact hpre.2.2.1 rfl | exact hpre.2.2.2.1 rfl | exact hpre.2.2.2.2.1 rfl | exact hpre.2.2.2.2.2.1 rfl | exact hpre.2.2.2.2.2.2.1 rfl | exact hpre.2.2.2.2.2.2.2.1 rfl | exact hpre.2.2.2.2.2.2.2.2.1 rfl | exact hpre.2.2.2.2.2.2.2.2.2.1 rfl)
                have e76 := ((hA 76).trans (show _ = vs 3 by kernel_rfl)).trans (by first | exact hpre.1 rfl | exact hpre.2.1 rfl | exact hpre.2.2.1 rfl | exact hpre.2.2.2.1 rfl | exact hpre.2.2.2.2.1 rfl | exact hpre.2.2.2.2.2.1 rfl | exact hpre.2.2.2.2.2.2.1 rfl | exact hpre.2.2.2.2.2.2.2.1 rfl | exact hpre.2.2.2.2.2.2.2.2.1 rfl | exact hpre.2.2.2.2.2.2.2.2.2.1 rfl)
                clear hA hpre
                go_simp
                try (go_at_call 10)
                refine (HP6.out Wx hB).mono ?_
                rintro e w9 ⟨⟨zz, rfl⟩, hg⟩
                refine hK _ _ (below_trans hB hg) ⟨zz, rfl, trivial⟩ (fun jz hj hz => ?_) (fun h => by have h4 : lst 9 = true := h; rw [hno 9 (Or.inr (by kernel_rfl))] at h4; cases h4)
                match jz, hj, hz with
                | 0, _, hz => exact hz
                | 1, _, hz => exact hz
                | 2, _, hz => exact hz
                | 3, _, hz => exact hz
                | 4, hj, _ => exact absurd rfl hj
                | 5, _, hz => exact hz
                | 6, _, hz => exact hz
                | 7, _, hz => exact hz
                | 8, _, hz => exact (hz.elim fun g h => ⟨g, h.1, h.2.1, h.2.2.elim fun cs h2 => ⟨cs, keepB h2.1 hg, h2.2⟩⟩)
                | 9, _, hz => exact hz
                | n + 10, _, hz => exact hz
              · intro vs Wx A lst hA hB hls hX hno hpre K hK
                have hx4 : (∃ z : Option Addr × Nat, (vs 4) = .tuple #[(cpv P2 (.slice z.1 P2.svs.length z.2)), .int .i64 0] ∧ True) := by first | exact hpre.1 rfl | exact hpre.2.1 rfl | exact hpre.2.2.1 rfl | exact hpre.2.2.2.1 rfl | exact hpre.2.2.2.2.1 rfl | exact hpre.2.2.2.2.2.1 rfl | exact hpre.2.2.2.2.2.2.1 rfl | exact hpre.2.2.2.2.2.2.2.1 rfl | exact hpre.2.2.2.2.2.2.2.2.1 rfl | exact hpre.2.2.2.2.2.2.2.2.2.1 rfl
                obtain ⟨gx4, hv4, hh4⟩ := hx4
                have e77 := ((hA 77).trans (show _ = vs 4 by kernel_rfl)).trans hv4
                clear hA hpre
                go_simp
                exact hK _ _ hB ⟨gx4, rfl, trivial⟩ (fun _ _ h => h) hX
              · intro vs Wx A lst hA hB hls hX hno hpre K hK
                have hx5 : (∃ z : Option Addr × Nat, (vs 5) = .tuple #[(cpv P2 (.slice z.1 P2.svs.length z.2)), .int .i64 0] ∧ True) := by first | exact hpre.1 rfl | exact hpre.2.1 rfl | exact hpre.2.2.1 rfl | exact hpre.2.2.2.1 rfl | exact hpre.2.2.2.2.1 rfl | exact hpre.2.2.2.2.2.1 rfl | exact hpre.2.2.2.2.2.2.1 rfl | exact hpre.2.2.2.2.2.2.2.1 rfl | exact hpre.2.2.2.2.2.2.2.2.1 rfl | exact hpre.2.2.2.2.2.2.2.2.2.1 rfl
                obtain ⟨gx5, hv5, hh5⟩ := hx5
                have e72 := ((hA 72).trans (show _ = vs 5 by kernel_rfl)).trans hv5
                clear hA hpre
                go_simp
                exact hK _ _ hB ⟨gx5, rfl, trivial⟩ (fun _ _ h => h) hX
              · intro vs Wx A lst hA hB hls hX hno hpre K hK
                have hx5 : (∃ z : Option Addr × Nat, (vs 5) = .tuple #[(cpv P2 (.slice z.1 P2.svs.length z.2)), .int .i64 0] ∧ True) := by first | exact hpre.1 rfl | exact hpre.2.1 rfl | exact hpre.2.2.1 rfl | exact hpre.2.2.2.1 rfl | exact hpre.2.2.2.2.1 rfl | exact hpre.2.2.2.2.2.1 rfl | exact hpre.2.2.2.2.2.2.1 rfl | exact hpre.2.2.2.2.2.2.2.1 rfl | exact hpre.2.2.2.2.2.2.2.2.1 rfl | exact hpre.2.2.2.2.2.2.2.2.2.1 rfl
                obtain ⟨gx5, hv5, hh5⟩ := hx5
                have e72 := ((hA 72).trans (show _ = vs 5 by kernel_rfl)).trans hv5
                clear hA hpre
                go_simp
                first | exact hK _ _ hB rfl (fun _ _ h => h) hX | exact hK _ _ hB trivial (fun _ _ h => h) hX | (rw [if_neg (by omega)]; go_simp; exact hK _ _ hB rfl (fun _ _ h => h) hX)
              · intro vs Wx A lst hA hB hls hX hno hpre K hK
                clear hA hpre
                go_simp
                refine hK _ _ (below_trans hB (below_alloc Wx _)) ⟨_, rfl, hB.size, _, alloc_new Wx _ _, rfl⟩ (fun jz hj hz => ?_) (fun h => by have h4 : lst 9 = true := h; rw [hno 9 (Or.inr (by kernel_rfl))] at h4; cases h4)
                match jz, hj, hz with
                | 0, _, hz => exact hz
                | 1, _, hz => exact hz
                | 2, _, hz => exact hz
                | 3, _, hz => exact hz
                | 4, _, hz => exact hz
                | 5, _, hz => exact hz
                | 6, _, hz => exact hz
                | 7, _, hz => exact hz
                | 8, hj, _ => exact absurd rfl hj
                | 9, _, hz => exact hz
                | n + 10, _, hz => exact hz
              · intro vs Wx A lst hA hB hls hX hno hpre K hK
                have hx8 : (∃ g, (vs 8) = .pointer (some ⟨g, 0, none⟩) ∧ (w6.heap.size ≤ g ∧ ∃ cs : Array Value, Wx.heap[g]? = some (.cells cs 30 (0, 0)) ∧ cs.size = 6)) := by first | exact hpre.1 rfl | exact hpre.2.1 rfl | exact hpre.2.2.1 rfl | exact hpre.2.2.2.1 rfl | exact hpre.2.2.2.2.1 rfl | exact hpre.2.2.2.2.2.1 rfl | exact hpre.2.2.2.2.2.2.1 rfl | exact hpre.2.2.2.2.2.2.2.1 rfl | exact hpre.2.2.2.2.2.2.2.2.1 rfl | exact hpre.2.2.2.2.2.2.2.2.2.1 rfl
                obtain ⟨gx8, hv8, hh8⟩ := hx8
                have e14 := ((hA 14).trans (show _ = vs 8 by kernel_rfl)).trans hv8
                have hx6 : (∃ z : Option Addr × Nat, (vs 6) = (cpv P2 (.slice z.1 P2.svs.length z.2)) ∧ True) := by first | exact hpre.1 rfl | exact hpre.2.1 rfl | exact hpre.2.2.1 rfl | exact hpre.2.2.2.1 rfl | exact hpre.2.2.2.2.1 rfl | exact hpre.2.2.2.2.2.1 rfl | exact hpre.2.2.2.2.2.2.1 rfl | exact hpre.2.2.2.2.2.2.2.1 rfl | exact hpre.2.2.2.2.2.2.2.2.1 rfl | exact hpre.2.2.2.2.2.2.2.2.2.1 rfl
                obtain ⟨gx6, hv6, hh6⟩ := hx6
                have e78 := ((hA 78).trans (show _ = vs 6 by kernel_rfl)).trans hv6
                obtain ⟨hg8, cs8, hc8, hs8⟩ := hh8
                obtain ⟨c0, c1, c2, c3, c4, c5, rfl⟩ := arr6 hs8
                obtain ⟨m0, m1, m2, m3, m4, m5⟩ := six hc8
                obtain ⟨f0, f1, f2, f3, f4, f5⟩ := frz6 hc8
                clear hA hpre
                go_simp
                refine hK undef _ (put6_below hB gx8 hg8 (.string (mk P2.id)) (.int .i64 P2.st) (.int .i64 P2.bi) (.int .i64 P2.paid) (.int .i64 P2.mem) (.slice gx6.1 P2.svs.length gx6.2)) trivial (fun jz hj hz => ?_) (fun _ => ⟨gx8, gx6, hv8, hg8, put6_heap hc8 (.string (mk P2.id)) (.int .i64 P2.st) (.int .i64 P2.bi) (.int .i64 P2.paid) (.int .i64 P2.mem) (.slice gx6.1 P2.svs.length gx6.2)⟩)
                match jz, hj, hz with
                | 0, _, hz => exact hz
                | 1, _, hz => exact hz
                | 2, _, hz => exact hz
                | 3, _, hz => exact hz
                | 4, _, hz => exact hz
                | 5, _, hz => exact hz
                | 6, _, hz => exact hz
                | 7, _, hz => exact hz
                | 8, _, hz => exact ⟨gx8, hv8, hg8, _, put6_heap hc8 (.string (mk P2.id)) (.int .i64 P2.st) (.int .i64 P2.bi) (.int .i64 P2.paid) (.int .i64 P2.mem) (.slice gx6.1 P2.svs.length gx6.2), rfl⟩
                | 9, hj, _ => exact absurd rfl hj
                | n + 10, _, hz => exact hz
              · intro vs Wx lst hall hX hB hF
                refine fun A10 hA K10 hK10 => ?_
                have e79 := ((hA 79).trans (show _ = vs 7 by kernel_rfl)).trans (hF 7 (by decide))
                clear hA
                go_simp
                refine hK10 _ _ ?_
                obtain ⟨g, z, e, -, hh⟩ := hX (hall 9 (by decide))
                have HH := Lib.hid hh
                have HE8 := Lib.hid e
                have HBE := Lib.hid hB
                clear hB hX hall hF e hh
                simp only [Ri.Tail, Ri.puts]
                go_simp
                go_wp2_with fail
                go_meet
                exact ⟨g, z, by first | exact HE8.out | (go_simp; exact HE8.out) | (simpa [Ri.upd] using HE8.out), by first | rfl | (go_simp; done) | simp [Ri.upd], HH.out, HBE.out⟩
            case rest =>
              obtain ⟨g2, ⟨z2, u2⟩, rfl, rfl, HG2, HBN⟩ := hcut
              clear HYK HD
              obtain ⟨w7, hw7⟩ : ∃ z, z = wc := ⟨_, rfl⟩
              subst hw7
              obtain ⟨x1, x2, x3, x4, x5, x6⟩ := six (keepB HA6.out HBN.out)
              obtain ⟨d1, d2, d3, d4, d5, d6⟩ := six (keepB HG1.out HBN.out)
              obtain ⟨e1, e2, e3, e4, e5, e6⟩ := six HG2.out
              have HBw1 : Hid (Below p w w7) := HB6.out.trans (HBN.out.mono HPw6.out)
              have HPS : Hid (p ≤ w7.heap.size) := Nat.le_trans HPw6.out HBN.out.size
              obtain ⟨s1, s2, s3, s4⟩ := HSS.out
              obtain ⟨-, r1, r2, r3, -, r5, -⟩ := HRK.out
              have t1 : wrap64 R.bi = R.bi := by unfold I64 at r1; unfold wrap64; omega
              have t2 : wrap64 R.paid = R.paid := by unfold I64 at r2; unfold wrap64; omega
              have t3 : wrap64 R.mem = R.mem := by unfold I64 at r3; unfold wrap64; omega
              have t4 : (P1.svs.length : Int) + (P2.svs.length : Int) = (R.svs.length : Int) := by omega
              have t5 : wrap64 (R.svs.length : Int) = (R.svs.length : Int) := by unfold wrap64; omega
              clear HRK HSS s4 r1 r2 r3 r5
              skip
              go_wp2_with (first | (go_at_call 9; refine (HW.out _).mono ?_; rintro e w2 ⟨rfl, hb⟩; have HB2 : Hid (Below p w w2) := HBw1.out.trans (hb.mono HPS.out); clear hb))
              go_ret
              exact ⟨rfl, by first | exact HB2.out | (rw [hp]; exact HB2.out)⟩

/-! ### the row's step -/
theorem laidOut : laidOutB Try.prog = true := by kernel_rfl
theorem lifted (os : Os) (started : os.Started) (H : Type) (enc : TypeId × Value → H) :
    ReturnsInHanded {} Try.checked os 7 .any (Rows.svcPartsSpec.pre6 enc Try.prog Try.f7 Rows.svcPartsRow.domain false) (Rows.svcPartsSpec.post enc Try.prog Try.f7 false true false false) := by
  refine returnsInHanded_of_change_shaped (C := Try.checked) own started (by kernel_rfl) Try.func7
    (ChangeSpec.witness6 (enc := enc) (C := Try.checked) false ⟨#[], #[.agg #[.string ByteArray.empty, .string ByteArray.empty, .string ByteArray.empty, .int .i64 0, .int .i64 0, .string ByteArray.empty, .slice none 0 0], .slice none 0 0, .int .i64 0], []⟩ 8 (by kernel_rfl) (by kernel_rfl) (by kernel_rfl) (by kernel_rfl)) ?_
  intro W base args ds gs before hval0 hW hcnd hwt _ _
  have hval : ∀ (j : Nat) t v, Try.f7.params[j]? = some t → args[j]? = some v → Value.okWide Try.prog W .any base t v := hval0
  have hW' := hW
  obtain ⟨p, q, hA0, hV, rfl, hfz, hnd⟩ := hW
  have hA : DataW.TrodAll enc Try.prog W 0 (fun _ => true) true Try.f7.params.toList args.toList ds p := hA0
  rw [Try.params7] at hA hval hwt
  obtain ⟨v0, vs0, d0, ds0, p0, q0, hargs, rfl, rfl, h0, r0⟩ := trodAll_cons hA
  obtain ⟨v1, vs1, d1, ds1, p1, q1, rfl, rfl, rfl, h1, r1⟩ := trodAll_cons r0
  obtain ⟨v2, vs2, d2, ds2, p2, q2, rfl, rfl, rfl, h2, r2⟩ := trodAll_cons r1
  obtain ⟨rfl, rfl, rfl⟩ := trodAll_nil r2
  obtain rfl : args = #[v0, v1, v2] := by cases args; simp_all
  obtain ⟨rfl, rfl⟩ := trodVars_none hV
  have hwl : ∀ z, (z ∈ d0.weights Try.prog 24 → z ≤ reachBytes) ∧ (z ∈ d1.weights Try.prog 25 → z ≤ reachBytes) ∧ (z ∈ d2.weights Try.prog 3 → z ≤ reachBytes) := fun z => by
    have h := List.all_eq_true.1 hwt z
    simp only [decide_eq_true_eq] at h
    refine ⟨fun hz => h ?_, fun hz => h ?_, fun hz => h ?_⟩
    all_goals
      simp only [List.cons_append, List.nil_append, List.toList_toArray, List.append_nil, DataW.weightsEach, List.mem_append]
      first | exact Or.inl hz | exact Or.inr (Or.inl hz) | exact Or.inr (Or.inr (Or.inl hz)) | exact Or.inr (Or.inr (Or.inr (Or.inl hz))) | exact Or.inr (Or.inr (Or.inr (Or.inr (Or.inl hz)))) | exact Or.inr (Or.inr (Or.inr (Or.inr (Or.inr (Or.inl hz))))) | exact Or.inr (Or.inr (Or.inr (Or.inr (Or.inr (Or.inr (Or.inl hz)))))) | simp [hz]
  have k0 := h0
  have lt0 : ∀ x ∈ p0, x.block < W.heap.size := by obtain ⟨m, hm⟩ := k0; exact DataW.trod_lt m _ _ _ hm
  obtain ⟨x0, m0, rfl, g0, z0⟩ := So.open_claim (hval 0 24 v0 rfl rfl) h0 (fun z hz => (hwl z).1 hz)
  have k1 := h1
  have lt1 : ∀ x ∈ p1, x.block < W.heap.size := by obtain ⟨m, hm⟩ := k1; exact DataW.trod_lt m _ _ _ hm
  obtain ⟨l1, g1, z1⟩ := So.open_os (okWide_slice Try.underlying25 (hval 1 25 v1 rfl rfl)) h1 (fun z hz => (hwl z).2.1 hz)
  have k2 := h2
  have lt2 : ∀ x ∈ p2, x.block < W.heap.size := by obtain ⟨m, hm⟩ := k2; exact DataW.trod_lt m _ _ _ hm
  obtain ⟨a2, rfl, _, _, w2⟩ := open_int Try.underlying3 (hval 2 3 v2 rfl rfl) h2
  clear hA0 hval0
  refine (walk W x0 m0 g0 z0 v1 l1 g1 z1 a2 (i64_wf w2)).mono fun e W' ⟨he, bel⟩ => ?_
  subst he
  exact ⟨_, rfl, _, _, _, [], _, [], hW', (trodAll_cons_mk (shut_bool Try.underlying4 _) trodAll_mk0), (trodAll_cons_mk (Below.trod laidOut (by kernel_rfl) (of_decide_eq_true (by kernel_rfl)) k0 bel lt0) (trodAll_cons_mk (Below.trod laidOut (by kernel_rfl) (of_decide_eq_true (by kernel_rfl)) k1 bel lt1) (trodAll_cons_mk (Below.trod laidOut (by kernel_rfl) (of_decide_eq_true (by kernel_rfl)) k2 bel lt2) trodAll_mk0))), rfl, bel.frame _, fun h => by cases h⟩

theorem over : Rows.svcPartsRow.holds Try.pinned (OpenSpec.ofChange Rows.svcPartsSpec) :=
  OpenClaim.holds_of_wide 7 Try.f7 rfl rfl rfl rfl rfl rfl rfl ⟨rfl, rfl, rfl, rfl, rfl⟩ rfl rfl rfl rfl rfl (by kernel_rfl) Try.func7 (by kernel_rfl)
    (of_decide_eq_true (by kernel_rfl)) (by unfold Func.isWrapper; first | (rw [if_pos (by decide +kernel)]; kernel_rfl) | (rw [if_neg (by decide +kernel)]; exact ⟨rfl, rfl⟩))
    (fun os started H enc _ => lifted os started H enc)

/-- The statement. -/
theorem proved : Rows.SvcPartsSaid := over
end Go.Proofs.Ytpnkgkchpoehcaa.svcParts
namespace Go.Proofs.Ytpnkgkchpoehcaa
theorem svcParts_holds : Rows.SvcPartsSaid := svcParts.proved
#print axioms svcParts_holds
end Go.Proofs.Ytpnkgkchpoehcaa
