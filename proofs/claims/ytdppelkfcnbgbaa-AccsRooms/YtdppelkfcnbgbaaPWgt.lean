/-
  What the reference's condWeight and Weight answer. (Cut out of plan's text of that name.)
-/
import Derived.Test.YtdppelkfcnbgbaaPChe
import Derived.Test.YtdppelkfcnbgbaaPSize
set_option linter.unusedSimpArgs false
set_option linter.unusedVariables false
set_option maxRecDepth 100000
namespace Go.Proofs.Ytdppelkfcnbgbaa.Pl
open Go.RowKit
open Wo (Wd WdsAt box_cell box_two keepB heap_far)

theorem cnt_eq (f : Nat) (c : Cd) : cntC (f + 1) c = 1 + (c.kids.map (cntC f)).sum := by cases c; rfl
theorem cnt_snoc (f : Nat) (l : List Cd) (k : Nat) (t : Cd) (hx : l[k]? = some t) : ((l.take (k + 1)).map (cntC f)).sum = ((l.take k).map (cntC f)).sum + cntC f t := by
  rw [List.take_add_one, hx]
  simp
theorem cntR_snoc (l : List Ru) (k : Nat) (t : Ru) (hx : l[k]? = some t) : ((l.take (k + 1)).map cntR).sum = ((l.take k).map cntR).sum + cntR t := by
  rw [List.take_add_one, hx]
  simp
theorem below_q {B : Nat} {w W : World} (h : Below B w W) (n : Nat) : Below B w (W.drewN n) := h.trans ⟨rfl, rfl, rfl, Nat.le_refl _, fun _ _ => rfl⟩
/-- What a condition's weight says. -/
def CwV (M : Int) (c : Cd) (n : Int) : Prop := 1 ≤ n ∧ n ≤ M + 562949953421312 ∧ (n ≤ M → ∀ f, (cntC f c : Int) ≤ n)
set_option maxHeartbeats 16000000 in
theorem cw_step (D M : Int) (hD0 : 0 ≤ D) (hD : D ≤ 25) (hM0 : 0 ≤ M) (hM : M ≤ 600)
    (IH : 1 ≤ D → ∀ (N : Int), 0 ≤ N → N ≤ 600 → ∀ (c : Cd) (m : Value) (w : World), KsAt All w m c.kids → Ok1 c → Calls Try.prog 35 #[cdv c m, .int .i64 N, .int .i64 (D - 1)] w fun e w' => (∃ n, e = .returned (.int .i64 n) ∧ CwV N c n) ∧ Below w.heap.size w w')
    (c : Cd) (m : Value) (w : World) (hK : KsAt All w m c.kids) (ho : Ok1 c) :
    Calls Try.prog 35 #[cdv c m, .int .i64 M, .int .i64 D] w fun e w' => (∃ n, e = .returned (.int .i64 n) ∧ CwV M c n) ∧ Below w.heap.size w w' := by
  have hb := below_alloc w (.cells #[.int .i64 c.kind, .string (mk c.lo), .string (mk c.hi), .int .i64 c.n, m] 60)
  have HB := Lib.hid hb
  have HX := Lib.hid (heap_alloc_new w (.cells #[.int .i64 c.kind, .string (mk c.lo), .string (mk c.hi), .int .i64 c.n, m] 60))
  have HK := Lib.hid (hK.grw hb)
  obtain ⟨a, k, rfl, h1, h2⟩ := hK.form
  obtain ⟨x0, x1, x2, x3, x4⟩ := bfive HX.out
  have hbig : c.kids.length ≤ 281474976710656 := ho.2.2.2.2
  have z1 : (mk c.lo).size ≤ 281474976710656 := by rw [mk_size]; exact ho.2.2.1
  have z2 : (mk c.hi).size ≤ 281474976710656 := by rw [mk_size]; exact ho.2.2.2.1
  clear hK hb ho
  go_enter Try.func35, Try.ntmps35
  go_upto_region 1 with fail
  generalize w.alloc (.cells #[.int .i64 c.kind, .string (mk c.lo), .string (mk c.hi), .int .i64 c.n, .slice a c.kids.length k] 60) = W at *
  generalize hp : w.heap.size = p at *
  have HW0 := Lib.hid (Below.refl W.heap.size W)
  go_wp2
  go_loopg [7, 8] (c.kids.length) (fun g q i wr => ∃ (n : Nat) (Q : Int), n ≤ c.kids.length ∧ g = c.kids.length - n ∧ q = .int .i64 Q ∧ i = .int .i64 n ∧ 1 ≤ Q ∧ Q ≤ M + 562949953421312 ∧ Hid (Below W.heap.size W wr) ∧ Hid (Q ≤ M → ∀ f, ((1 + ((c.kids.take n).map (cntC f)).sum : Nat) : Int) ≤ Q))
  case atStart => exact ⟨0, _, Nat.zero_le _, rfl, rfl, rfl, by omega, by omega, HW0.out, fun _ f => by simp; omega⟩
  case round =>
    clear HW0 x0 x1 x2 x3 x4 z1 z2
    obtain ⟨n, Q, hn, hgk, rfl, rfl, hQ1, hQ2, HBr, HA⟩ := hrel
    obtain ⟨x0, x1, x2, x3, x4⟩ := bfive (keepB HX.out HBr.out)
    have HBF : Hid (Below p w wr) := below_tr hp HB.out HBr.out
    by_cases hlt : n < c.kids.length
    case neg =>
      have HRES : Hid (CwV M c Q) := ⟨hQ1, hQ2, fun h f => by
        cases f with
        | zero => show ((0 : Nat) : Int) ≤ Q; omega
        | succ f =>
          have := HA.out h f
          rw [List.take_of_length_le (by omega)] at this
          rw [cnt_eq]
          exact this⟩
      have hlt' : ¬ (n : Int) < (c.kids.length : Int) := by omega
      clear HA
      go_wp2
      go_ret
      exact ⟨⟨Q, rfl, HRES.out⟩, by first | exact HBF.out | (rw [hp]; exact HBF.out)⟩
    by_cases hQM : Q ≤ M
    case neg =>
      have HRES : Hid (CwV M c Q) := ⟨hQ1, hQ2, fun h => absurd h hQM⟩
      have d1 : decide (Q ≤ M) = false := decide_eq_false hQM
      clear HA
      go_wp2
      go_ret
      exact ⟨⟨Q, rfl, HRES.out⟩, by first | exact HBF.out | (rw [hp]; exact HBF.out)⟩
    have d1 : decide (Q ≤ M) = true := decide_eq_true hQM
    by_cases hD1 : D = 0
    · subst hD1
      have HRES : Hid (CwV M c (M + 1)) := ⟨by omega, by omega, fun h => absurd h (by omega)⟩
      clear HA IH
      go_wp2
      go_ret
      exact ⟨⟨M + 1, rfl, HRES.out⟩, by first | exact HBF.out | (rw [hp]; exact HBF.out)⟩
    have bD : (D == 0) = false := by simpa using hD1
    obtain ⟨b, o, mv, rfl, hbs, hx, hcc, hkk, hok⟩ := KsAt.get (HK.out.grw HBr.out) n hlt
    obtain ⟨y0, y1, y2, y3, y4⟩ := hcc
    obtain ⟨ma, mc, rfl, -, -⟩ := hkk.form
    have HC := Lib.hid (IH (by omega) (M - Q) (by omega) (by omega) c.kids[n] _ wr hkk hok)
    have HSN := Lib.hid fun f => cnt_snoc f c.kids n _ hx
    have hD1' : 1 ≤ D := by omega
    clear hx hkk hok IH
    generalize c.kids[n] = kd at *
    go_wp2_with (go_at_call 35; refine HC.out.mono ?_; rintro e w3 ⟨⟨R, rfl, hR⟩, hb3⟩; have HB3 := Lib.hid hb3; have HR3 := Lib.hid hR; obtain ⟨hR1, hR2, -⟩ := hR; clear hb3)
    go_roundg (c.kids.length - (n + 1))
    case rel => exact ⟨n + 1, Q + R, by omega, rfl, by go_num, by go_num, by omega, by omega, below_trans HBr.out HB3.out, fun h f => by
      have h1 := HR3.out.2.2 (by omega) f
      have h2 := HA.out hQM f
      rw [HSN.out f]
      omega⟩
    case measure => omega
/-- A condition's weight. -/
theorem cw_any : ∀ (d : Nat) (D M : Int), D = d → d ≤ 25 → 0 ≤ M → M ≤ 600 → ∀ (c : Cd) (m : Value) (w : World), KsAt All w m c.kids → Ok1 c →
    Calls Try.prog 35 #[cdv c m, .int .i64 M, .int .i64 D] w fun e w' => (∃ n, e = .returned (.int .i64 n) ∧ CwV M c n) ∧ Below w.heap.size w w' := by
  intro d
  induction d with
  | zero => intro D M hD _ h0 h1 c m w hK ho; exact cw_step D M (by omega) (by omega) h0 h1 (fun h => by omega) c m w hK ho
  | succ d ih => intro D M hD hd h0 h1 c m w hK ho; exact cw_step D M (by omega) (by omega) h0 h1 (fun _ N hN0 hN1 c m w hK ho => ih (D - 1) N (by omega) (by omega) hN0 hN1 c m w hK ho) c m w hK ho
theorem wrap3 (Q : Int) (n : Nat) (R : Int) (h0 : 0 ≤ Q) (h1 : Q ≤ 300) (h2 : n ≤ 281474976710656) (h3 : 1 ≤ R) (h4 : R ≤ 300 + 562949953421312) : IntKind.i64.wrap (IntKind.i64.wrap (IntKind.i64.wrap (Q + 1) + (n : Int)) + R) = Q + 1 + (n : Int) + R := by
  have e1 : IntKind.i64.wrap (Q + 1) = Q + 1 := by rw [IntKind.wrap_i64]; omega
  have e2 : IntKind.i64.wrap (Q + 1 + (n : Int)) = Q + 1 + (n : Int) := by rw [IntKind.wrap_i64]; omega
  have e3 : IntKind.i64.wrap (Q + 1 + (n : Int) + R) = Q + 1 + (n : Int) + R := by rw [IntKind.wrap_i64]; omega
  rw [e1, e2, e3]
set_option maxHeartbeats 16000000 in
theorem weight_any (p : Pn) (m : Value) (w : World) (h : RusAt All w m p.rules) :
    Calls Try.prog 22 #[pnv p m, .int .i64 300] w fun e w' => (∃ n : Int, e = .returned (.int .i64 n) ∧ (n ≤ 300 → (cntP p : Int) ≤ n)) ∧ Below w.heap.size w w' := by
  have hb := below_alloc w (.cells #[.int .i64 p.mode, .int .i64 p.indDed, .int .i64 p.famDed, .int .i64 p.indOop, .int .i64 p.famOop, m] 41)
  have HB := Lib.hid hb
  have HX := Lib.hid (heap_alloc_new w (.cells #[.int .i64 p.mode, .int .i64 p.indDed, .int .i64 p.famDed, .int .i64 p.indOop, .int .i64 p.famOop, m] 41))
  have HRu := Lib.hid (h.grw hb)
  obtain ⟨ma, mc, rfl, hm1, hm2, hm3⟩ := h.form
  have hm3 : p.rules.length ≤ 281474976710656 := hm3
  obtain ⟨x0, x1, x2, x3, x4, x5⟩ := bsix HX.out
  have HCP : Hid (cntP p = (p.rules.map cntR).sum) := rfl
  clear hb h
  go_enter Try.func22, Try.ntmps22
  go_upto_region 1 with fail
  generalize w.alloc (.cells #[.int .i64 p.mode, .int .i64 p.indDed, .int .i64 p.famDed, .int .i64 p.indOop, .int .i64 p.famOop, .slice ma p.rules.length mc] 41) = W at *
  generalize hp : w.heap.size = a0 at *
  have HW0 := Lib.hid (Below.refl W.heap.size W)
  go_wp2
  go_loopg [5, 6] (p.rules.length) (fun g q i wr => ∃ (n : Nat) (Q : Int), n ≤ p.rules.length ∧ g = p.rules.length - n ∧ q = .int .i64 Q ∧ i = .int .i64 n ∧ 0 ≤ Q ∧ Q ≤ 4611686018427387904 ∧ Hid (Below W.heap.size W wr) ∧ Hid (Q ≤ 300 → ((((p.rules.take n).map cntR).sum : Nat) : Int) ≤ Q))
  case atStart => exact ⟨0, 0, Nat.zero_le _, rfl, rfl, rfl, by omega, by omega, HW0.out, fun _ => by simp⟩
  case round =>
    clear HW0 x0 x1 x2 x3 x4 x5
    obtain ⟨n, Q, hn, hgk, rfl, rfl, hQ1, hQ2, HBr, HA⟩ := hrel
    obtain ⟨x0, x1, x2, x3, x4, x5⟩ := bsix (keepB HX.out HBr.out)
    have HBF : Hid (Below a0 w wr) := below_tr hp HB.out HBr.out
    by_cases hlt : n < p.rules.length
    case neg =>
      have HRES : Hid (Q ≤ 300 → (cntP p : Int) ≤ Q) := fun h => by
        have := HA.out h
        rw [List.take_of_length_le (by omega)] at this
        rw [HCP.out]
        exact this
      have hlt' : ¬ (n : Int) < (p.rules.length : Int) := by omega
      clear HA
      go_wp2
      go_ret
      exact ⟨⟨Q, rfl, HRES.out⟩, by first | exact HBF.out | (rw [hp]; exact HBF.out)⟩
    by_cases hQM : Q ≤ 300
    case neg =>
      have HRES : Hid (Q ≤ 300 → (cntP p : Int) ≤ Q) := fun h => absurd h hQM
      have d1 : decide (Q ≤ 300) = false := decide_eq_false hQM
      clear HA
      go_wp2
      go_ret
      exact ⟨⟨Q, rfl, HRES.out⟩, by first | exact HBF.out | (rw [hp]; exact HBF.out)⟩
    have d1 : decide (Q ≤ 300) = true := decide_eq_true hQM
    obtain ⟨b, o, kv, uv, sv, rfl, hbs, hx, hcc, hin⟩ := RusAt.get (HRu.out.grw HBr.out) n hlt
    obtain ⟨y0, y1, y2, y3, y4, y5, y6, y7⟩ := hcc
    obtain ⟨-, hok, hul, hk1, hk2, hk3⟩ := hin
    obtain ⟨ka, kc, rfl, -, -⟩ := hk1.form
    obtain ⟨ua, uc, rfl, hu1, hu2⟩ := hk2.form
    obtain ⟨sa, sc, rfl, hs1, hs2, hs3⟩ := hk3.form
    have HSN := Lib.hid (cntR_snoc p.rules n _ hx)
    have HA2 := Lib.hid (HA.out hQM)
    clear hx HA
    generalize p.rules[n] = ru at *
    have hbz := below_alloc wr (.cells #[.int .i64 ru.rank, .int .i64 ru.cif.kind, .string (mk ru.cif.lo), .string (mk ru.cif.hi), .int .i64 ru.cif.n, .slice ka ru.cif.kids.length kc, .slice ua ru.unl.length uc, .slice sa ru.sets.length sc] 63)
    have HZ := Lib.hid (heap_alloc_new wr (.cells #[.int .i64 ru.rank, .int .i64 ru.cif.kind, .string (mk ru.cif.lo), .string (mk ru.cif.hi), .int .i64 ru.cif.n, .slice ka ru.cif.kids.length kc, .slice ua ru.unl.length uc, .slice sa ru.sets.length sc] 63))
    have HBz := Lib.hid hbz
    have HXz := Lib.hid (keepB (keepB HX.out HBr.out) hbz)
    have HC := Lib.hid fun W' (hW : Below (wr.alloc (.cells #[.int .i64 ru.rank, .int .i64 ru.cif.kind, .string (mk ru.cif.lo), .string (mk ru.cif.hi), .int .i64 ru.cif.n, .slice ka ru.cif.kids.length kc, .slice ua ru.unl.length uc, .slice sa ru.sets.length sc] 63)).heap.size (wr.alloc (.cells #[.int .i64 ru.rank, .int .i64 ru.cif.kind, .string (mk ru.cif.lo), .string (mk ru.cif.hi), .int .i64 ru.cif.n, .slice ka ru.cif.kids.length kc, .slice ua ru.unl.length uc, .slice sa ru.sets.length sc] 63)) W') => cw_any 25 25 300 (by decide) (by decide) (by decide) (by decide) ru.cif _ W' (hk1.grw (below_trans hbz hW)) hok
    have HU := Lib.hid (hk2.grw hbz)
    have hul2 : ru.unl.length ≤ 281474976710656 := hul
    have hsl2 : ru.sets.length ≤ 281474976710656 := hs3
    have HCR : Hid (cntR ru = 1 + ru.sets.length + cntC 16 ru.cif + (ru.unl.map (cntC 16)).sum) := rfl
    clear hk1 hk2 hk3 hok hul hs3 hbz
    go_upto_region 6 with fail
    clear y0 y1 y2 y3 y4 y5 y6 y7 x0 x1 x2 x3 x4 x5
    generalize wr.alloc (.cells #[.int .i64 ru.rank, .int .i64 ru.cif.kind, .string (mk ru.cif.lo), .string (mk ru.cif.hi), .int .i64 ru.cif.n, .slice ka ru.cif.kids.length kc, .slice ua ru.unl.length uc, .slice sa ru.sets.length sc] 63) = W1 at *
    generalize hq1 : wr.heap.size = q1 at *
    obtain ⟨x0, x1, x2, x3, x4, x5, x6, x7⟩ := beight_ HZ.out
    have HZK := Lib.hid fun W' (hW : Below W1.heap.size W1 W') => beight_ (keepB HZ.out hW)
    go_cut [5] (fun s5 wx => ∃ R : Int, s5 = .int .i64 (Q + 1 + (ru.sets.length : Nat) + R) ∧ CwV 300 ru.cif R ∧ Hid (Below W1.heap.size W1 wx))
    case first =>
      have HD := Lib.hid (Below.drew (Below.refl W1.heap.size W1))
      first | (go_region_with (first | (go_at_call 35; refine (HC.out _ HD.out).mono ?_; rintro e w3 ⟨⟨R, rfl, hR⟩, hb3⟩; obtain ⟨z0, z1, z2, z3, z4, z5, z6, z7⟩ := HZK.out _ (below_trans HD.out hb3); have HB3 := Lib.hid hb3; have HR3 := Lib.hid hR; obtain ⟨hR1, hR2, -⟩ := hR; clear hb3))) | fail
      all_goals
        go_wp2_with fail
        go_meet
        exact ⟨R, by rw [wrap3 Q ru.sets.length R (by omega) (by omega) (by omega) (by omega) (by omega)], HR3.out, below_trans HD.out HB3.out⟩
    case rest =>
      obtain ⟨R, rfl, hR, HBx⟩ := hcut
      obtain ⟨hR1, hR2, hR3⟩ := hR
      obtain ⟨wa, hwa⟩ : ∃ x, x = wc := ⟨_, rfl⟩
      subst hwa
      have HR3 := Lib.hid hR3
      have HUx := Lib.hid (HU.out.grw HBx.out)
      have HZx := Lib.hid (keepB HZ.out HBx.out)
      have HBa : Hid (Below W.heap.size W wa) := by
        have h := below_tr hq1 HBz.out HBx.out
        rw [← hq1] at h
        exact below_trans HBr.out h
      have HW0 := Lib.hid (Below.refl wa.heap.size wa)
      obtain ⟨x0, x1, x2, x3, x4, x5, x6, x7⟩ := beight_ HZx.out
      clear hR3 HU HZ HC HZK HXz HBx
      go_wp2
      go_loopg [5, 8] (ru.unl.length) (fun g q i wr => ∃ (j : Nat) (V : Int), j ≤ ru.unl.length ∧ g = ru.unl.length - j ∧ q = .int .i64 V ∧ i = .int .i64 j ∧ 0 ≤ V ∧ V ≤ 4611686018427387904 ∧ Hid (Below wa.heap.size wa wr) ∧ Hid (V ≤ 300 → Q + 1 + (ru.sets.length : Nat) + (cntC 16 ru.cif : Nat) + ((((ru.unl.take j).map (cntC 16)).sum : Nat) : Int) ≤ V))
      case atStart => exact ⟨0, _, Nat.zero_le _, rfl, rfl, rfl, by omega, by omega, HW0.out, fun h => by
        have h1 := HR3.out (by omega) 16
        simp
        omega⟩
      case round =>
        clear HW0 x0 x1 x2 x3 x4 x5 x6 x7
        obtain ⟨j, V, hj, hgj, rfl, rfl, hV1, hV2, HBj, HV⟩ := hrel
        obtain ⟨x0, x1, x2, x3, x4, x5, x6, x7⟩ := beight_ (keepB HZx.out HBj.out)
        by_cases hltj : j < ru.unl.length
        case neg =>
          have HRES : Hid (V ≤ 300 → ((((p.rules.take (n + 1)).map cntR).sum : Nat) : Int) ≤ V) := fun h => by
            have h1 := HV.out h
            rw [List.take_of_length_le (by omega)] at h1
            have h2 := HA2.out
            rw [HSN.out, HCR.out]
            omega
          have hlt' : ¬ (j : Int) < (ru.unl.length : Int) := by omega
          clear HV
          go_wp2
          go_roundg (p.rules.length - (n + 1))
          case rel => exact ⟨n + 1, V, by omega, rfl, by go_num, by go_num, hV1, hV2, below_trans HBa.out HBj.out, HRES.out⟩
          case measure => omega
        by_cases hVM : V ≤ 300
        case neg =>
          have d2 : decide (V ≤ 300) = false := decide_eq_false hVM
          clear HV
          go_wp2
          go_roundg (p.rules.length - (n + 1))
          case rel => exact ⟨n + 1, V, by omega, rfl, by go_num, by go_num, hV1, hV2, below_trans HBa.out HBj.out, fun h => absurd h (by omega)⟩
          case measure => omega
        have d2 : decide (V ≤ 300) = true := decide_eq_true hVM
        obtain ⟨b1, o1, mv, rfl, hbs1, hx1, hcc1, hkk, hok⟩ := KsAt.get (HUx.out.grw HBj.out) j hltj
        obtain ⟨y0, y1, y2, y3, y4⟩ := hcc1
        obtain ⟨na, nc, rfl, -, -⟩ := hkk.form
        have HC := Lib.hid (cw_any 25 25 300 (by decide) (by decide) (by decide) (by decide) ru.unl[j] _ _ hkk hok)
        have HS2 := Lib.hid (cnt_snoc 16 ru.unl j _ hx1)
        clear hx1 hkk hok
        generalize ru.unl[j] = kd at *
        go_wp2_with (go_at_call 35; refine HC.out.mono ?_; rintro e w3 ⟨⟨R2, rfl, hR⟩, hb3⟩; have HB3 := Lib.hid hb3; have HR4 := Lib.hid hR; obtain ⟨hT1, hT2, -⟩ := hR; clear hb3)
        go_roundg (ru.unl.length - (j + 1))
        case rel => exact ⟨j + 1, V + R2, by omega, rfl, by go_num, by go_num, by omega, by omega, below_trans HBj.out HB3.out, fun h => by
          have h1 := HR4.out.2.2 (by omega) 16
          have h2 := HV.out hVM
          rw [HS2.out]
          omega⟩
        case measure => omega
end Go.Proofs.Ytdppelkfcnbgbaa.Pl
