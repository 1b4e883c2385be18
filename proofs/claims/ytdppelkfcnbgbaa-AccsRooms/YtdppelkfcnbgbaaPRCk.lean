/-
  Whether a condition may be, as the reference says: its kids and Cond, as contracts.
-/
import Derived.Test.YtdppelkfcnbgbaaPChc
import Derived.Test.YtdppelkfcnbgbaaCRefs
import Derived.Deep.CutBlock
set_option linter.unusedSimpArgs false
set_option linter.unusedVariables false
set_option maxRecDepth 100000
namespace Go.Proofs.Ytdppelkfcnbgbaa.Pl
open Go.RowKit
open Wo (Wd WdsAt box_cell box_two keepB heap_far)

theorem emp_lit (x : Tx) : (mk x).toList.isEmpty = decide (x = []) := by rw [← eq_lit]; cases (mk x).toList <;> rfl
theorem rgood_eq (n : Int) (w : World) : Calls Try.prog 28 #[.int .i64 n] w fun e w' => e = .returned (.bool (goodB n)) ∧ w' = w := Ce.rgood_any n w
theorem rkids_any (k : Int) (w : World) :
    Calls Try.prog 52 #[.int .i64 k] w fun e w' => e = .returned (.int .i64 (kidN k : Nat)) ∧ w' = w := by
  by_cases h6 : k = 6
  · subst h6
    go_enter Try.func52, Try.ntmps52
    go_wp2
    go_ret
    exact ⟨rfl, rfl⟩
  by_cases h7 : k = 7
  · subst h7
    go_enter Try.func52, Try.ntmps52
    go_wp2
    go_ret
    exact ⟨rfl, rfl⟩
  by_cases h8 : k = 8
  · subst h8
    go_enter Try.func52, Try.ntmps52
    go_wp2
    go_ret
    exact ⟨rfl, rfl⟩
  have HK : Hid (kidN k = 0) := by show _ = _; unfold kidN; rw [if_neg h6, if_neg (by omega)]
  have b6 : (k == 6) = false := by simpa using h6
  have b7 : (k == 7) = false := by simpa using h7
  have b8 : (k == 8) = false := by simpa using h8
  clear h6 h7 h8
  go_enter Try.func52, Try.ntmps52
  go_wp2
  go_ret
  exact ⟨by rw [HK.out]; rfl, rfl⟩
set_option maxHeartbeats 8000000 in
theorem rck_deep (c : Cd) (m : Value) (w : World) :
    Calls Try.prog 48 #[cdv c m, .int .i64 17] w fun e w' => e = .returned (.bool false) ∧ Below w.heap.size w w' := by
  have hb := below_alloc w (.cells #[.int .i64 c.kind, .string (mk c.lo), .string (mk c.hi), .int .i64 c.n, m] 60)
  have HB := Lib.hid hb
  clear hb
  go_enter Try.func48, Try.ntmps48
  go_wp2_with fail
  go_quiet (fail)
  go_wp2
  go_ret
  exact ⟨rfl, below_dn HB.out nq⟩
set_option maxHeartbeats 16000000 in
theorem rck_step (f : Nat) (d : Int) (hd0 : 1 ≤ d) (hd : d ≤ 16) (IH : ∀ (c : Cd) (m : Value) (w : World), KsAt All w m c.kids → Ok1 c → Calls Try.prog 48 #[cdv c m, .int .i64 (d + 1)] w fun e w' => e = .returned (.bool (condB f c)) ∧ Below w.heap.size w w')
    (c : Cd) (m : Value) (w : World) (hK : KsAt All w m c.kids) (ho : Ok1 c) :
    Calls Try.prog 48 #[cdv c m, .int .i64 d] w fun e w' => e = .returned (.bool (condB (f + 1) c)) ∧ Below w.heap.size w w' := by
  rw [condB_eq]
  have hb := below_alloc w (.cells #[.int .i64 c.kind, .string (mk c.lo), .string (mk c.hi), .int .i64 c.n, m] 60)
  have HB := Lib.hid hb
  have HX := Lib.hid (heap_alloc_new w (.cells #[.int .i64 c.kind, .string (mk c.lo), .string (mk c.hi), .int .i64 c.n, m] 60))
  have HK := Lib.hid (hK.grw hb)
  obtain ⟨a, k, rfl, h1, h2⟩ := hK.form
  have HKD := Lib.hid fun W => rkids_any c.kind W
  obtain ⟨x0, x1, x2, x3, x4⟩ := bfive HX.out
  have hi : ¬ 16 < d := by omega
  have hbig : c.kids.length ≤ 281474976710656 := ho.2.2.2.2
  have hneq : ((c.kids.length : Int) != ((kidN c.kind : Nat) : Int)) = !decide (c.kids.length = kidN c.kind) := by
    by_cases e : c.kids.length = kidN c.kind <;> simp [e] <;> omega
  have hlo9 : c.lo.length ≤ 9223372036854775807 := by have : c.lo.length ≤ 281474976710656 := ho.2.2.1; omega
  have hhi9 : c.hi.length ≤ 9223372036854775807 := by have : c.hi.length ≤ 281474976710656 := ho.2.2.2.1; omega
  clear hK hb
  generalize hgl : decide (c.kids.length = kidN c.kind) = GL at *
  clear hgl
  go_enter Try.func48, Try.ntmps48
  go_upto_region 1 with fail
  generalize w.alloc (.cells #[.int .i64 c.kind, .string (mk c.lo), .string (mk c.hi), .int .i64 c.n, .slice a c.kids.length k] 60) = W at *
  generalize hp : w.heap.size = p at *
  go_cut [19] (fun s19 wx => s19 = .bool (!GL) ∧ Hid (Below W.heap.size W wx))
  case first =>
    go_quiet (first | (go_at_call 52; refine Calls.quiet_of_same (HKD.out _)))
    go_wp2_with fail
    go_meet
    exact ⟨rfl, below_dn (Below.refl _ _) _⟩
  case rest =>
    obtain ⟨rfl, HBx⟩ := hcut
    have hBB : Below p w wc := below_tr hp HB.out HBx.out
    have HBB := Lib.hid hBB
    have HKx := Lib.hid (HK.out.grw HBx.out)
    have HXx := Lib.hid (keepB HX.out HBx.out)
    obtain ⟨x0, x1, x2, x3, x4⟩ := bfive HXx.out
    clear HB HX HK HKD hneq hBB HBx
    cases GL with
    | false =>
      go_wp2
      go_ret
      exact ⟨rfl, by first | exact HBB.out | (rw [hp]; exact HBB.out)⟩
    | true =>
      have HW0 := Lib.hid (Below.refl wc.heap.size wc)
      go_wp2
      go_loopg [5] (c.kids.length) (fun g i wr => ∃ n : Nat, n ≤ c.kids.length ∧ g = c.kids.length - n ∧ i = .int .i64 n ∧ Hid (Below wc.heap.size wc wr) ∧ Hid ((c.kids.take n).all (condB f) = true))
      case atStart => exact ⟨0, Nat.zero_le _, rfl, rfl, HW0.out, rfl⟩
      case round =>
        clear HW0 x0 x1 x2 x3 x4
        obtain ⟨n, hn, hgk, rfl, HBr, HA⟩ := hrel
        obtain ⟨x0, x1, x2, x3, x4⟩ := bfive (keepB HXx.out HBr.out)
        by_cases hlt : n < c.kids.length
        · obtain ⟨b, o, mv, rfl, hbs, hx, hcc, hkk, hok⟩ := KsAt.get (HKx.out.grw HBr.out) n hlt
          obtain ⟨y0, y1, y2, y3, y4⟩ := hcc
          obtain ⟨ma, mc, rfl, -, -⟩ := hkk.form
          have HC := Lib.hid (IH c.kids[n] _ wr hkk hok)
          have HBz := HBr
          have HT := Lib.hid fun h => all_take1 (p := condB f) c.kids n _ hx HA.out h
          have HN := Lib.hid fun h => all_not1 (p := condB f) c.kids n _ hx h
          clear hx hkk hok
          generalize c.kids[n] = kd at *
          cases hq : condB f kd
          · rw [hq] at HC
            have HN2 := Lib.hid (HN.out hq)
            clear hq HT HN
            go_wp2_with (go_at_call 48; refine HC.out.mono ?_; rintro e w3 ⟨rfl, hb3⟩; have HB3 := Lib.hid hb3; clear hb3)
            go_ret
            exact ⟨by rw [HN2.out] <;> rfl, by first | exact below_tr hp HBB.out (below_trans HBz.out HB3.out) | (rw [hp]; exact below_tr hp HBB.out (below_trans HBz.out HB3.out))⟩
          · rw [hq] at HC
            have HT2 := Lib.hid (HT.out hq)
            clear hq HT HN
            go_wp2_with (go_at_call 48; refine HC.out.mono ?_; rintro e w3 ⟨rfl, hb3⟩; have HB3 := Lib.hid hb3; clear hb3)
            go_roundg (c.kids.length - (n + 1))
            case rel => exact ⟨n + 1, by omega, rfl, by go_num, below_trans HBz.out HB3.out, HT2.out⟩
            case measure => omega
        · have hall : c.kids.take n = c.kids := List.take_of_length_le (by omega)
          rw [hall] at HA
          have HAT := HA
          have HBF : Hid (Below p w wr) := below_tr hp HBB.out HBr.out
          have HL1 := Lib.hid fun W f t => Cm.rcode_any c.lo f t W hlo9
          have HL2 := Lib.hid fun W f t => Cm.rcode_any c.hi f t W hhi9
          have HG := Lib.hid fun W => rgood_eq c.n W
          clear hall HBr HBB HXx HKx HA IH hlo9 hhi9 ho
          go_upto_block 2 with fail
          go_cut [6, 7, 8] (fun s6 s7 s8 wx => s6 = .bool (loB c.kind c.lo) ∧ s7 = .bool (hiB c.kind c.hi) ∧ s8 = .bool (nB c.kind c.n) ∧ wx = wr)
          case first =>
            clear HAT HBF
            by_cases k1 : c.kind = 1
            · have E1 : Hid (loB c.kind c.lo = Cm.codeB c.lo 5 5) := by show _ = _; unfold loB; rw [if_pos k1]
              have E2 : Hid (hiB c.kind c.hi = Cm.codeB c.hi 5 5) := by show _ = _; unfold hiB; rw [if_pos k1]
              have E3 : Hid (nB c.kind c.n = (c.n == 0)) := by show _ = _; rw [k1]; rfl
              have b1 : (c.kind == 1) = true := by simp; omega
              clear k1
              go_wp2_with (first | (go_at_call_of 53 (Value.string (mk c.lo)); refine (HL1.out _ 5 5).mono ?_; rintro e w1 ⟨rfl, rfl⟩) | (go_at_call_of 53 (Value.string (mk c.hi)); refine (HL2.out _ 5 5).mono ?_; rintro e w1 ⟨rfl, rfl⟩))
              go_meet
              exact ⟨by rw [E1.out] <;> rfl, by rw [E2.out] <;> rfl, by rw [E3.out] <;> rfl, rfl⟩
            by_cases k2 : c.kind = 2
            · have E1 : Hid (loB c.kind c.lo = Cm.codeB c.lo 2 2) := by show _ = _; rw [k2]; rfl
              have E2 : Hid (hiB c.kind c.hi = (mk c.hi).toList.isEmpty) := by show _ = _; rw [k2, emp_lit]; rfl
              have E3 : Hid (nB c.kind c.n = (c.n == 0)) := by show _ = _; rw [k2]; rfl
              have b1 : (c.kind == 1) = false := by simp; omega
              have b2 : (c.kind == 2) = true := by simp; omega
              clear k1 k2
              go_wp2_with (first | (go_at_call 53; refine (HL1.out _ 2 2).mono ?_; rintro e w1 ⟨rfl, rfl⟩))
              go_meet
              exact ⟨by rw [E1.out] <;> rfl, by rw [E2.out] <;> rfl, by rw [E3.out] <;> rfl, rfl⟩
            have E1 : Hid (loB c.kind c.lo = (mk c.lo).toList.isEmpty) := by show _ = _; rw [emp_lit]; unfold loB; rw [if_neg k1, if_neg k2]
            have E2 : Hid (hiB c.kind c.hi = (mk c.hi).toList.isEmpty) := by show _ = _; rw [emp_lit]; unfold hiB; rw [if_neg k1]
            have b1 : (c.kind == 1) = false := by simp; omega
            have b2 : (c.kind == 2) = false := by simp; omega
            clear k1 k2
            by_cases k3 : c.kind = 3
            · have E3 : Hid (nB c.kind c.n = (decide (0 ≤ c.n) && decide (c.n ≤ 9999))) := by show _ = _; rw [k3]; rfl
              have b3 : (c.kind == 3) = true := by simp; omega
              clear k3
              generalize hn : decide (0 ≤ c.n) = N0 at *
              cases N0
              · go_wp2
                go_meet
                exact ⟨by rw [E1.out] <;> rfl, by rw [E2.out] <;> rfl, by rw [E3.out] <;> rfl, rfl⟩
              · go_wp2
                go_meet
                exact ⟨by rw [E1.out] <;> rfl, by rw [E2.out] <;> rfl, by rw [E3.out] <;> rfl, rfl⟩
            by_cases k4 : c.kind = 4
            · have E3 : Hid (nB c.kind c.n = goodB c.n) := by show _ = _; rw [k4]; rfl
              have b3 : (c.kind == 3) = false := by simp; omega
              have b4 : (c.kind == 4) = true := by simp; omega
              clear k3 k4
              go_wp2_with (first | (go_at_call 28; refine (HG.out _).mono ?_; rintro e w1 ⟨rfl, rfl⟩))
              go_meet
              exact ⟨by rw [E1.out] <;> rfl, by rw [E2.out] <;> rfl, by rw [E3.out] <;> rfl, rfl⟩
            · have E3 : Hid (nB c.kind c.n = (c.n == 0)) := by show _ = _; unfold nB; rw [if_neg k3, if_neg k4]; rfl
              have b3 : (c.kind == 3) = false := by simp; omega
              have b4 : (c.kind == 4) = false := by simp; omega
              clear k3 k4
              go_wp2
              go_meet
              exact ⟨by rw [E1.out] <;> rfl, by rw [E2.out] <;> rfl, by rw [E3.out] <;> rfl, rfl⟩
          case rest =>
            obtain ⟨rfl, rfl, rfl, rfl⟩ := hcut
            clear HL1 HL2 HG
            have HAL : Hid ((true && (c.kids.all (condB f) && leafB c.kind c.lo c.hi c.n)) = ((decide (0 ≤ c.kind) && decide (c.kind ≤ 8)) && (loB c.kind c.lo && (hiB c.kind c.hi && nB c.kind c.n)))) := by
              show _ = _
              rw [HAT.out]
              rfl
            clear HAT
            generalize loB c.kind c.lo = LO at *
            generalize hiB c.kind c.hi = HI at *
            generalize nB c.kind c.n = NB at *
            generalize k0 : decide (0 ≤ c.kind) = K0 at *
            generalize k8 : decide (c.kind ≤ 8) = K8 at *
            cases K0 <;> cases K8 <;> cases LO <;> cases HI
            all_goals
              go_wp2
              go_ret
              exact ⟨by rw [HAL.out] <;> rfl, by first | exact HBF.out | (rw [hp]; exact HBF.out)⟩
/-- Whether a condition may be, so deep. -/
theorem rck_cond : ∀ (f : Nat) (d : Int), d + f = 17 → f ≤ 16 → ∀ (c : Cd) (m : Value) (w : World), KsAt All w m c.kids → Ok1 c →
    Calls Try.prog 48 #[cdv c m, .int .i64 d] w fun e w' => e = .returned (.bool (condB f c)) ∧ Below w.heap.size w w' := by
  intro f
  induction f with
  | zero =>
    intro d hd _ c m w _ _
    obtain rfl : d = 17 := by omega
    exact rck_deep c m w
  | succ f ih => intro d hd hf c m w hK ho; exact rck_step f d (by omega) (by omega) (fun c m w hK ho => ih (d + 1) (by omega) (by omega) c m w hK ho) c m w hK ho
end Go.Proofs.Ytdppelkfcnbgbaa.Pl
