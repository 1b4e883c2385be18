/-
  Texts put together (merge.py): PWgt, YPlan, JSpec.
-/
import Derived.Test.YtfoooldkmokjpaaGreatDoorMj17
import Derived.Test.YtfoooldkmokjpaaGreatDoorMj2
import Derived.Test.YtfoooldkmokjpaaGreatDoorMj14
import Derived.Test.YtfoooldkmokjpaaGreatDoorMj3
import Derived.Test.YtfoooldkmokjpaaGreatDoorMj7
import Derived.Test.YtfoooldkmokjpaaGreatDoorMj13
set_option linter.unusedSimpArgs false
set_option linter.unusedVariables false
section
set_option maxRecDepth 100000
namespace Go.Proofs.YtfoooldkmokjpaaGreatDoor.Pl
open Go.RowKit
open Wo (Wd box_cell box_two keepB heap_far)
theorem cnt_eq (f : Nat) (c : Cd) : cntC (f + 1) c = 1 + (c.kids.map (cntC f)).sum := by cases c; rfl
theorem cnt_snoc (f : Nat) (l : List Cd) (k : Nat) (t : Cd) (hx : l[k]? = some t) : ((l.take (k + 1)).map (cntC f)).sum = ((l.take k).map (cntC f)).sum + cntC f t := by
 rw [List.take_add_one, hx]
 simp
theorem cntR_snoc (l : List Ru) (k : Nat) (t : Ru) (hx : l[k]? = some t) : ((l.take (k + 1)).map cntR).sum = ((l.take k).map cntR).sum + cntR t := by
 rw [List.take_add_one, hx]
 simp
def CwV (M : Int) (c : Cd) (n : Int) : Prop := 1 ≤ n ∧ n ≤ M + 562949953421312 ∧ (n ≤ M → ∀ f, (cntC f c : Int) ≤ n)
set_option maxHeartbeats 16000000 in
theorem cw_step (D M : Int) (hD0 : 0 ≤ D) (hD : D ≤ 25) (hM0 : 0 ≤ M) (hM : M ≤ 600)
  (IH : 1 ≤ D → ∀ (N : Int), 0 ≤ N → N ≤ 600 → ∀ (c : Cd) (m : Value) (w : World), KsAt All w m c.kids → Ok1 c → Calls Tryz.prog 41 #[cdv c m, .int .i64 N, .int .i64 (D - 1)] w fun e w' => (∃ n, e = .returned (.int .i64 n) ∧ CwV N c n) ∧ Below w.heap.size w w')
  (c : Cd) (m : Value) (w : World) (hK : KsAt All w m c.kids) (ho : Ok1 c) :
  Calls Tryz.prog 41 #[cdv c m, .int .i64 M, .int .i64 D] w fun e w' => (∃ n, e = .returned (.int .i64 n) ∧ CwV M c n) ∧ Below w.heap.size w w' := by
 have hb := below_alloc w (.cells #[.int .i64 c.kind, .string (mk c.lo), .string (mk c.hi), .int .i64 c.n, m] 82)
 have HB := Lib.hid hb
 have HX := Lib.hid (heap_alloc_new w (.cells #[.int .i64 c.kind, .string (mk c.lo), .string (mk c.hi), .int .i64 c.n, m] 82))
 have HK := Lib.hid (hK.grw hb)
 obtain ⟨a, k, rfl, h1, h2⟩ := hK.form
 obtain ⟨x0, x1, x2, x3, x4⟩ := bfive HX.out
 have hbig : c.kids.length ≤ 281474976710656 := ho.2.2.2.2
 have z1 : (mk c.lo).size ≤ 281474976710656 := by rw [mk_size]; exact ho.2.2.1
 have z2 : (mk c.hi).size ≤ 281474976710656 := by rw [mk_size]; exact ho.2.2.2.1
 clear hK hb ho
 go_enter Tryz.func41, Tryz.ntmps41
 go_upto_region 1 with fail
 generalize w.alloc (.cells #[.int .i64 c.kind, .string (mk c.lo), .string (mk c.hi), .int .i64 c.n, .slice a c.kids.length k] 82) = W at *
 generalize hp : w.heap.size = p at *
 have HW0 := Lib.hid (Below.refl W.heap.size W)
 go_wp2
 go_loopg [7, 8] (c.kids.length) (fun g q i wr => ∃ (n : Nat) (Q : Int), n ≤ c.kids.length ∧ g = c.kids.length - n ∧ q = .int .i64 Q ∧ i = .int .i64 n ∧ 1 ≤ Q ∧ Q ≤ M + 562949953421312 ∧ Hid (Below W.heap.size W wr) ∧ Hid (Q ≤ M → ∀ f, ((1 + ((c.kids.take n).map (cntC f)).sum : Nat) : Int) ≤ Q))
 case atStart => exact ⟨0, _, Nat.zero_le _, rfl, rfl, rfl, by omega, by omega, HW0.out, fun _ f => by simp; omega⟩
 case round =>
  clear HW0 x0 x1 x2 x3 x4 z1 z2
  obtain ⟨n, Q, hn, hgk, rfl, rfl, hQ1, hQ2, HBr, HA⟩ := hrel
  obtain ⟨x0, x1, x2, x3, x4⟩ := bfive (keepB HX.out HBr.out)
  have HBF : Hid (Below p w wr) := below_tr hp HB.out HBr.out
  by_cases hlt : n < c.kids.length
  case neg =>
   have HRES : Hid (CwV M c Q) := ⟨hQ1, hQ2, fun h f => by
    cases f with
    | zero => show ((0 : Nat) : Int) ≤ Q; omega
    | succ f =>
     have := HA.out h f
     rw [List.take_of_length_le (by omega)] at this
     rw [cnt_eq]
     exact this⟩
   have hlt' : ¬ (n : Int) < (c.kids.length : Int) := by omega
   clear HA
   go_wp2
   go_ret
   exact ⟨⟨Q, rfl, HRES.out⟩, by first | exact HBF.out | (rw [hp]; exact HBF.out)⟩
  by_cases hQM : Q ≤ M
  case neg =>
   have HRES : Hid (CwV M c Q) := ⟨hQ1, hQ2, fun h => absurd h hQM⟩
   have d1 : decide (Q ≤ M) = false := decide_eq_false hQM
   clear HA
   go_wp2
   go_ret
   exact ⟨⟨Q, rfl, HRES.out⟩, by first | exact HBF.out | (rw [hp]; exact HBF.out)⟩
  have d1 : decide (Q ≤ M) = true := decide_eq_true hQM
  by_cases hD1 : D = 0
  ·subst hD1
   have HRES : Hid (CwV M c (M + 1)) := ⟨by omega, by omega, fun h => absurd h (by omega)⟩
   clear HA IH
   go_wp2
   go_ret
   exact ⟨⟨M + 1, rfl, HRES.out⟩, by first | exact HBF.out | (rw [hp]; exact HBF.out)⟩
  have bD : (D == 0) = false := by simpa using hD1
  obtain ⟨b, o, mv, rfl, hbs, hx, hcc, hkk, hok⟩ := KsAt.get (HK.out.grw HBr.out) n hlt
  obtain ⟨y0, y1, y2, y3, y4⟩ := hcc
  obtain ⟨ma, mc, rfl, -, -⟩ := hkk.form
  have HC := Lib.hid (IH (by omega) (M - Q) (by omega) (by omega) c.kids[n] _ wr hkk hok)
  have HSN := Lib.hid fun f => cnt_snoc f c.kids n _ hx
  have hD1' : 1 ≤ D := by omega
  clear hx hkk hok IH
  generalize c.kids[n] = kd at *
  go_wp2_with (go_at_call 41; refine HC.out.mono ?_; rintro e w3 ⟨⟨R, rfl, hR⟩, hb3⟩; have HB3 := Lib.hid hb3; have HR3 := Lib.hid hR; obtain ⟨hR1, hR2, -⟩ := hR; clear hb3)
  go_roundg (c.kids.length - (n + 1))
  case rel => exact ⟨n + 1, Q + R, by omega, rfl, by go_num, by go_num, by omega, by omega, below_trans HBr.out HB3.out, fun h f => by
   have h1 := HR3.out.2.2 (by omega) f
   have h2 := HA.out hQM f
   rw [HSN.out f]
   omega⟩
  case measure => omega
theorem cw_any : ∀ (d : Nat) (D M : Int), D = d → d ≤ 25 → 0 ≤ M → M ≤ 600 → ∀ (c : Cd) (m : Value) (w : World), KsAt All w m c.kids → Ok1 c →
  Calls Tryz.prog 41 #[cdv c m, .int .i64 M, .int .i64 D] w fun e w' => (∃ n, e = .returned (.int .i64 n) ∧ CwV M c n) ∧ Below w.heap.size w w' := by
 intro d
 induction d with
 | zero => intro D M hD _ h0 h1 c m w hK ho; exact cw_step D M (by omega) (by omega) h0 h1 (fun h => by omega) c m w hK ho
 | succ d ih => intro D M hD hd h0 h1 c m w hK ho; exact cw_step D M (by omega) (by omega) h0 h1 (fun _ N hN0 hN1 c m w hK ho => ih (D - 1) N (by omega) (by omega) hN0 hN1 c m w hK ho) c m w hK ho
theorem wrap3 (Q : Int) (n : Nat) (R : Int) (h0 : 0 ≤ Q) (h1 : Q ≤ 300) (h2 : n ≤ 281474976710656) (h3 : 1 ≤ R) (h4 : R ≤ 300 + 562949953421312) : IntKind.i64.wrap (IntKind.i64.wrap (IntKind.i64.wrap (Q + 1) + (n : Int)) + R) = Q + 1 + (n : Int) + R := by
 have e1 : IntKind.i64.wrap (Q + 1) = Q + 1 := by rw [IntKind.wrap_i64]; omega
 have e2 : IntKind.i64.wrap (Q + 1 + (n : Int)) = Q + 1 + (n : Int) := by rw [IntKind.wrap_i64]; omega
 have e3 : IntKind.i64.wrap (Q + 1 + (n : Int) + R) = Q + 1 + (n : Int) + R := by rw [IntKind.wrap_i64]; omega
 rw [e1, e2, e3]
set_option maxHeartbeats 16000000 in
theorem weight_any (p : Pn) (m : Value) (w : World) (h : RusAt All w m p.rules) :
  Calls Tryz.prog 20 #[pnv p m, .int .i64 300] w fun e w' => (∃ n : Int, e = .returned (.int .i64 n) ∧ (n ≤ 300 → (cntP p : Int) ≤ n)) ∧ Below w.heap.size w w' := by
 have hb := below_alloc w (.cells #[.int .i64 p.mode, .int .i64 p.indDed, .int .i64 p.famDed, .int .i64 p.indOop, .int .i64 p.famOop, m] 24)
 have HB := Lib.hid hb
 have HX := Lib.hid (heap_alloc_new w (.cells #[.int .i64 p.mode, .int .i64 p.indDed, .int .i64 p.famDed, .int .i64 p.indOop, .int .i64 p.famOop, m] 24))
 have HRu := Lib.hid (h.grw hb)
 obtain ⟨ma, mc, rfl, hm1, hm2, hm3⟩ := h.form
 have hm3 : p.rules.length ≤ 281474976710656 := hm3
 obtain ⟨x0, x1, x2, x3, x4, x5⟩ := bsix HX.out
 have HCP : Hid (cntP p = (p.rules.map cntR).sum) := rfl
 clear hb h
 go_enter Tryz.func20, Tryz.ntmps20
 go_upto_region 1 with fail
 generalize w.alloc (.cells #[.int .i64 p.mode, .int .i64 p.indDed, .int .i64 p.famDed, .int .i64 p.indOop, .int .i64 p.famOop, .slice ma p.rules.length mc] 24) = W at *
 generalize hp : w.heap.size = a0 at *
 have HW0 := Lib.hid (Below.refl W.heap.size W)
 go_wp2
 go_loopg [5, 6] (p.rules.length) (fun g q i wr => ∃ (n : Nat) (Q : Int), n ≤ p.rules.length ∧ g = p.rules.length - n ∧ q = .int .i64 Q ∧ i = .int .i64 n ∧ 0 ≤ Q ∧ Q ≤ 4611686018427387904 ∧ Hid (Below W.heap.size W wr) ∧ Hid (Q ≤ 300 → ((((p.rules.take n).map cntR).sum : Nat) : Int) ≤ Q))
 case atStart => exact ⟨0, 0, Nat.zero_le _, rfl, rfl, rfl, by omega, by omega, HW0.out, fun _ => by simp⟩
 case round =>
  clear HW0 x0 x1 x2 x3 x4 x5
  obtain ⟨n, Q, hn, hgk, rfl, rfl, hQ1, hQ2, HBr, HA⟩ := hrel
  obtain ⟨x0, x1, x2, x3, x4, x5⟩ := bsix (keepB HX.out HBr.out)
  have HBF : Hid (Below a0 w wr) := below_tr hp HB.out HBr.out
  by_cases hlt : n < p.rules.length
  case neg =>
   have HRES : Hid (Q ≤ 300 → (cntP p : Int) ≤ Q) := fun h => by
    have := HA.out h
    rw [List.take_of_length_le (by omega)] at this
    rw [HCP.out]
    exact this
   have hlt' : ¬ (n : Int) < (p.rules.length : Int) := by omega
   clear HA
   go_wp2
   go_ret
   exact ⟨⟨Q, rfl, HRES.out⟩, by first | exact HBF.out | (rw [hp]; exact HBF.out)⟩
  by_cases hQM : Q ≤ 300
  case neg =>
   have HRES : Hid (Q ≤ 300 → (cntP p : Int) ≤ Q) := fun h => absurd h hQM
   have d1 : decide (Q ≤ 300) = false := decide_eq_false hQM
   clear HA
   go_wp2
   go_ret
   exact ⟨⟨Q, rfl, HRES.out⟩, by first | exact HBF.out | (rw [hp]; exact HBF.out)⟩
  have d1 : decide (Q ≤ 300) = true := decide_eq_true hQM
  obtain ⟨b, o, kv, uv, sv, rfl, hbs, hx, hcc, hin⟩ := RusAt.get (HRu.out.grw HBr.out) n hlt
  obtain ⟨y0, y1, y2, y3, y4, y5, y6, y7⟩ := hcc
  obtain ⟨-, hok, hul, hk1, hk2, hk3⟩ := hin
  obtain ⟨ka, kc, rfl, -, -⟩ := hk1.form
  obtain ⟨ua, uc, rfl, hu1, hu2⟩ := hk2.form
  obtain ⟨sa, sc, rfl, hs1, hs2, hs3⟩ := hk3.form
  have HSN := Lib.hid (cntR_snoc p.rules n _ hx)
  have HA2 := Lib.hid (HA.out hQM)
  clear hx HA
  generalize p.rules[n] = ru at *
  have hbz := below_alloc wr (.cells #[.int .i64 ru.rank, .int .i64 ru.cif.kind, .string (mk ru.cif.lo), .string (mk ru.cif.hi), .int .i64 ru.cif.n, .slice ka ru.cif.kids.length kc, .slice ua ru.unl.length uc, .slice sa ru.sets.length sc] 85)
  have HZ := Lib.hid (heap_alloc_new wr (.cells #[.int .i64 ru.rank, .int .i64 ru.cif.kind, .string (mk ru.cif.lo), .string (mk ru.cif.hi), .int .i64 ru.cif.n, .slice ka ru.cif.kids.length kc, .slice ua ru.unl.length uc, .slice sa ru.sets.length sc] 85))
  have HBz := Lib.hid hbz
  have HXz := Lib.hid (keepB (keepB HX.out HBr.out) hbz)
  have HC := Lib.hid fun W' (hW : Below (wr.alloc (.cells #[.int .i64 ru.rank, .int .i64 ru.cif.kind, .string (mk ru.cif.lo), .string (mk ru.cif.hi), .int .i64 ru.cif.n, .slice ka ru.cif.kids.length kc, .slice ua ru.unl.length uc, .slice sa ru.sets.length sc] 85)).heap.size (wr.alloc (.cells #[.int .i64 ru.rank, .int .i64 ru.cif.kind, .string (mk ru.cif.lo), .string (mk ru.cif.hi), .int .i64 ru.cif.n, .slice ka ru.cif.kids.length kc, .slice ua ru.unl.length uc, .slice sa ru.sets.length sc] 85)) W') => cw_any 25 25 300 (by decide) (by decide) (by decide) (by decide) ru.cif _ W' (hk1.grw (below_trans hbz hW)) hok
  have HU := Lib.hid (hk2.grw hbz)
  have hul2 : ru.unl.length ≤ 281474976710656 := hul
  have hsl2 : ru.sets.length ≤ 281474976710656 := hs3
  have HCR : Hid (cntR ru = 1 + ru.sets.length + cntC 16 ru.cif + (ru.unl.map (cntC 16)).sum) := rfl
  clear hk1 hk2 hk3 hok hul hs3 hbz
  go_upto_region 6 with fail
  clear y0 y1 y2 y3 y4 y5 y6 y7 x0 x1 x2 x3 x4 x5
  generalize wr.alloc (.cells #[.int .i64 ru.rank, .int .i64 ru.cif.kind, .string (mk ru.cif.lo), .string (mk ru.cif.hi), .int .i64 ru.cif.n, .slice ka ru.cif.kids.length kc, .slice ua ru.unl.length uc, .slice sa ru.sets.length sc] 85) = W1 at *
  generalize hq1 : wr.heap.size = q1 at *
  obtain ⟨x0, x1, x2, x3, x4, x5, x6, x7⟩ := beight_ HZ.out
  have HZK := Lib.hid fun W' (hW : Below W1.heap.size W1 W') => beight_ (keepB HZ.out hW)
  go_cut [5] (fun s5 wx => ∃ R : Int, s5 = .int .i64 (Q + 1 + (ru.sets.length : Nat) + R) ∧ CwV 300 ru.cif R ∧ Hid (Below W1.heap.size W1 wx))
  case first =>
   have HD := Lib.hid (Below.drew (Below.refl W1.heap.size W1))
   first | (go_region_with (first | (go_at_call 41; refine (HC.out _ HD.out).mono ?_; rintro e w3 ⟨⟨R, rfl, hR⟩, hb3⟩; obtain ⟨z0, z1, z2, z3, z4, z5, z6, z7⟩ := HZK.out _ (below_trans HD.out hb3); have HB3 := Lib.hid hb3; have HR3 := Lib.hid hR; obtain ⟨hR1, hR2, -⟩ := hR; clear hb3))) | fail
   all_goals
    go_wp2_with fail
    go_meet
    exact ⟨R, by rw [wrap3 Q ru.sets.length R (by omega) (by omega) (by omega) (by omega) (by omega)], HR3.out, below_trans HD.out HB3.out⟩
  case rest =>
   obtain ⟨R, rfl, hR, HBx⟩ := hcut
   obtain ⟨hR1, hR2, hR3⟩ := hR
   obtain ⟨wa, hwa⟩ : ∃ x, x = wc := ⟨_, rfl⟩
   subst hwa
   have HR3 := Lib.hid hR3
   have HUx := Lib.hid (HU.out.grw HBx.out)
   have HZx := Lib.hid (keepB HZ.out HBx.out)
   have HBa : Hid (Below W.heap.size W wa) := by
    have h := below_tr hq1 HBz.out HBx.out
    rw [← hq1] at h
    exact below_trans HBr.out h
   have HW0 := Lib.hid (Below.refl wa.heap.size wa)
   obtain ⟨x0, x1, x2, x3, x4, x5, x6, x7⟩ := beight_ HZx.out
   clear hR3 HU HZ HC HZK HXz HBx
   go_wp2
   go_loopg [5, 8] (ru.unl.length) (fun g q i wr => ∃ (j : Nat) (V : Int), j ≤ ru.unl.length ∧ g = ru.unl.length - j ∧ q = .int .i64 V ∧ i = .int .i64 j ∧ 0 ≤ V ∧ V ≤ 4611686018427387904 ∧ Hid (Below wa.heap.size wa wr) ∧ Hid (V ≤ 300 → Q + 1 + (ru.sets.length : Nat) + (cntC 16 ru.cif : Nat) + ((((ru.unl.take j).map (cntC 16)).sum : Nat) : Int) ≤ V))
   case atStart => exact ⟨0, _, Nat.zero_le _, rfl, rfl, rfl, by omega, by omega, HW0.out, fun h => by
    have h1 := HR3.out (by omega) 16
    simp
    omega⟩
   case round =>
    clear HW0 x0 x1 x2 x3 x4 x5 x6 x7
    obtain ⟨j, V, hj, hgj, rfl, rfl, hV1, hV2, HBj, HV⟩ := hrel
    obtain ⟨x0, x1, x2, x3, x4, x5, x6, x7⟩ := beight_ (keepB HZx.out HBj.out)
    by_cases hltj : j < ru.unl.length
    case neg =>
     have HRES : Hid (V ≤ 300 → ((((p.rules.take (n + 1)).map cntR).sum : Nat) : Int) ≤ V) := fun h => by
      have h1 := HV.out h
      rw [List.take_of_length_le (by omega)] at h1
      have h2 := HA2.out
      rw [HSN.out, HCR.out]
      omega
     have hlt' : ¬ (j : Int) < (ru.unl.length : Int) := by omega
     clear HV
     go_wp2
     go_roundg (p.rules.length - (n + 1))
     case rel => exact ⟨n + 1, V, by omega, rfl, by go_num, by go_num, hV1, hV2, below_trans HBa.out HBj.out, HRES.out⟩
     case measure => omega
    by_cases hVM : V ≤ 300
    case neg =>
     have d2 : decide (V ≤ 300) = false := decide_eq_false hVM
     clear HV
     go_wp2
     go_roundg (p.rules.length - (n + 1))
     case rel => exact ⟨n + 1, V, by omega, rfl, by go_num, by go_num, hV1, hV2, below_trans HBa.out HBj.out, fun h => absurd h (by omega)⟩
     case measure => omega
    have d2 : decide (V ≤ 300) = true := decide_eq_true hVM
    obtain ⟨b1, o1, mv, rfl, hbs1, hx1, hcc1, hkk, hok⟩ := KsAt.get (HUx.out.grw HBj.out) j hltj
    obtain ⟨y0, y1, y2, y3, y4⟩ := hcc1
    obtain ⟨na, nc, rfl, -, -⟩ := hkk.form
    have HC := Lib.hid (cw_any 25 25 300 (by decide) (by decide) (by decide) (by decide) ru.unl[j] _ _ hkk hok)
    have HS2 := Lib.hid (cnt_snoc 16 ru.unl j _ hx1)
    clear hx1 hkk hok
    generalize ru.unl[j] = kd at *
    go_wp2_with (go_at_call 41; refine HC.out.mono ?_; rintro e w3 ⟨⟨R2, rfl, hR⟩, hb3⟩; have HB3 := Lib.hid hb3; have HR4 := Lib.hid hR; obtain ⟨hT1, hT2, -⟩ := hR; clear hb3)
    go_roundg (ru.unl.length - (j + 1))
    case rel => exact ⟨j + 1, V + R2, by omega, rfl, by go_num, by go_num, by omega, by omega, below_trans HBj.out HB3.out, fun h => by
     have h1 := HR4.out.2.2 (by omega) 16
     have h2 := HV.out hVM
     rw [HS2.out]
     omega⟩
    case measure => omega
end Go.Proofs.YtfoooldkmokjpaaGreatDoor.Pl
end
section
namespace Go.Proofs.YtfoooldkmokjpaaGreatDoor.Ac
theorem plan_in {p : Pl.Pn} (h : Pl.checkE p = 0) : In p.indDed ∧ In p.famDed ∧ In p.indOop ∧ In p.famOop := by
 unfold Pl.checkE at h
 split at h
 ·next hp =>
  simp only [Pl.planB, Pl.limB, Pl.goodB, Bool.and_eq_true, decide_eq_true_eq] at hp
  obtain ⟨-, -, ⟨⟨a1, a2⟩, ⟨a3, a4⟩, a5, a6, a7, a8⟩, -⟩ := hp
  unfold In
  omega
 ·simp at h
end Go.Proofs.YtfoooldkmokjpaaGreatDoor.Ac
end
section
namespace Go.Proofs.YtfoooldkmokjpaaGreatDoor.Ju
open Ac (Row getV addE addV bothE bothV rowN roomV left)
open Sh (Ot bD bC bK bE setE setV refE refV member balB)
open Cm (Ln Cl)
structure Tb where
 plan : Pl.Pn
 fees : List Fe.Fee
 edits : List Ex.Ed
def orE (a b : Int) : Int := if a = 0 then b else a
theorem orE_z (b : Int) : orE 0 b = b := rfl
theorem orE_nz {a : Int} (b : Int) (h : a ≠ 0) : orE a b = a := if_neg h
theorem orE_zero {a b : Int} (h : orE a b = 0) : a = 0 ∧ b = 0 := by
 unfold orE at h
 split at h
 ·next e => exact ⟨e, h⟩
 ·next e => exact absurd h e
def tabE (t : Tb) : Int := orE (Pl.checkE t.plan) (orE (Fe.checkE t.fees) (Ex.checkE t.edits))
def val (t : Tb) (c : Cl) (x : Ln) (k : Int) : Int := Ul.valV x c.net k t.plan.rules
def whyV (t : Tb) (c : Cl) (k : Nat) (x : Ln) (met : Bool) : Int :=
 if met = true then 18 else if val t c x 1 = 1 then (if Ex.denyV t.edits c.lines k = 0 then (if Fe.priceB t.fees x c.net = true then 0 else 147) else Ex.denyV t.edits c.lines k) else 96
def itV (t : Tb) (c : Cl) (k : Nat) (x : Ln) (met : Bool) : It := ⟨whyV t c k x met, Fe.allowV t.fees x c.net, val t c x 2 == 1, val t c x 3, val t c x 4, Da.yr x.date, x.billed, x.prior⟩
def metB (A : List Ln) (c : Cl) (k : Nat) : Bool := (Tw.marksV A c.lines).getD k false
def its (t : Tb) (c : Cl) (A : List Ln) : List It := c.lines.mapIdx fun k x => itV t c k x (metB A c k)
def cxV (t : Tb) (c : Cl) : Cx := ⟨t.plan.mode, t.plan.indDed, t.plan.famDed, t.plan.indOop, t.plan.famOop, c.mem, c.fam, c.net⟩
def preE (t : Tb) (c : Cl) (r : List Row) : Int := orE (tabE t) (orE (Cm.checkE c) (Ac.checkE r))
def judE (t : Tb) (c : Cl) (r : List Row) (A : List Ln) : Int := if preE t c r = 0 then runE (cxV t c) r (its t c A) else preE t c r
def judO (t : Tb) (c : Cl) (r : List Row) (A : List Ln) : List Ot := if judE t c r A = 0 then runV (cxV t c) r (its t c A) else []
def judR (t : Tb) (c : Cl) (r : List Row) (A : List Ln) : List Row := if judE t c r A = 0 then runR (cxV t c) r (its t c A) else []
theorem its_at (t : Tb) (c : Cl) (A : List Ln) (k : Nat) : (its t c A)[k]? = c.lines[k]?.map fun x => itV t c k x (metB A c k) := by
 unfold its; rw [List.getElem?_mapIdx]
theorem its_len (t : Tb) (c : Cl) (A : List Ln) : (its t c A).length = c.lines.length := by unfold its; rw [List.length_mapIdx]
theorem its_drop (t : Tb) (c : Cl) (A : List Ln) (k : Nat) (x : Ln) (h : c.lines[k]? = some x) : (its t c A).drop k = itV t c k x (metB A c k) :: (its t c A).drop (k + 1) := by
 refine Cm.drop_step _ _ _ ?_
 rw [its_at, h]; rfl
theorem its_mem {t : Tb} {c : Cl} {A : List Ln} {i : It} (h : i ∈ its t c A) : ∃ k x, c.lines[k]? = some x ∧ i = itV t c k x (metB A c k) := by
 obtain ⟨k, hk⟩ := List.getElem?_of_mem h
 rw [its_at] at hk
 cases hx : c.lines[k]? with
 | none => rw [hx] at hk; cases hk
 | some x => rw [hx] at hk; exact ⟨k, x, hx, (Option.some.inj hk).symm⟩
theorem pre_zero {t : Tb} {c : Cl} {r : List Row} (h : preE t c r = 0) : Pl.checkE t.plan = 0 ∧ Fe.checkE t.fees = 0 ∧ Ex.checkE t.edits = 0 ∧ Cm.checkE c = 0 ∧ Ac.checkE r = 0 := by
 obtain ⟨h1, h2⟩ := orE_zero h
 obtain ⟨h3, h4⟩ := orE_zero h1
 obtain ⟨h5, h6⟩ := orE_zero h4
 obtain ⟨h7, h8⟩ := orE_zero h2
 exact ⟨h3, h5, h6, h7, h8⟩
theorem jud_pre {t : Tb} {c : Cl} {r : List Row} {A : List Ln} (h : judE t c r A = 0) : preE t c r = 0 ∧ runE (cxV t c) r (its t c A) = 0 := by
 unfold judE at h
 split at h
 ·next e => exact ⟨e, h⟩
 ·next e => exact absurd h e
theorem up_of {l : List Fe.Fee} (h : Fe.checkE l = 0) : Fe.Up l := by
 unfold Fe.checkE at h
 split at h
 ·simp at h
 ·split at h
  ·exact (Fe.nb_up l).1 h
  ·next e => exact absurd h e
theorem first_each (y : Int) : ∀ (l : List Ln), Cm.firstE y l = 0 → ∀ x ∈ l, Cm.lineE x = 0 ∧ Da.yr x.date = y
 | [], _, x, hx => by simp at hx
 | a :: l, h, x, hx => by
  unfold Cm.firstE at h
  split at h
  ·next h1 =>
   split at h
   ·next h2 =>
    rcases List.mem_cons.1 hx with rfl | hx
    ·exact ⟨h1, h2⟩
    ·exact first_each y l h x hx
   ·simp at h
  ·next h1 => exact absurd h h1
theorem check_rest {c : Cl} (h : Cm.checkE c = 0) : c.lines.length ≤ 999 ∧ (c.net = 0 ∨ c.net = 1) ∧ ∀ x ∈ c.lines, Cm.lineE x = 0 ∧ Da.yr x.date = Da.yr (c.lines.getD 0 Cm.ln0).date := by
 unfold Cm.checkE at h
 split at h
 case isFalse h0 => exact absurd h h0
 case isTrue h0 =>
  have hn : c.net = 0 ∨ c.net = 1 := by
   unfold Cm.headE at h0
   split at h0
   ·split at h0
    ·next hn => simpa [Cm.netB] using hn
    ·simp at h0
   ·simp at h0
  unfold Cm.restE at h
  split at h
  ·next hl =>
   split at h
   ·split at h
    ·next e => exact ⟨hl, hn, first_each _ _ e⟩
    ·next e => exact absurd h e
   ·simp at h
  ·simp at h
theorem line_money {x : Ln} (h : Cm.lineE x = 0) : Da.good x.date = true ∧ x.mods.length ≤ 4 ∧ (1 ≤ x.units ∧ x.units ≤ 9999) ∧ (0 ≤ x.billed ∧ x.billed ≤ 10000000000000) ∧ (0 ≤ x.prior ∧ x.prior ≤ 10000000000000) ∧ x.prior ≤ x.billed := by
 unfold Cm.lineE at h
 split at h
 ·next h1 =>
  split at h
  ·next h2 =>
   split at h
   ·next h3 =>
    split at h
    ·next h4 =>
     simp only [Cm.codesB, Cm.modsB, Bool.and_eq_true, decide_eq_true_eq] at h1
     simp only [Cm.unitsB, Bool.and_eq_true, decide_eq_true_eq] at h3
     simp only [Cm.moneyB, Bool.and_eq_true, decide_eq_true_eq, Ce.good_iff] at h4
     exact ⟨h2, h1.2.1, h3, h4.1.1, h4.1.2, h4.2⟩
    ·simp at h
   ·simp at h
  ·simp at h
 ·simp at h
theorem year_good {x : Ln} (h : Da.good x.date = true) : Da.yearV x.date = Da.yr x.date := by unfold Da.yearV; rw [if_pos h]
theorem lim_ok {t : Tb} (c : Cl) (h : Pl.checkE t.plan = 0) : LimOk (cxV t c) ∧ (cxV t c).fD ≤ 10000000000000 ∧ (cxV t c).fO ≤ 10000000000000 := by
 obtain ⟨h1, h2, h3, h4⟩ := Ac.plan_in h
 exact ⟨⟨h1.1, h2.1, h3.1, h4.1⟩, h2.2, h4.2⟩
theorem its_year {t : Tb} {c : Cl} {A : List Ln} (h : Cm.checkE c = 0) : ∀ i ∈ its t c A, i.yr = Da.yr (c.lines.getD 0 Cm.ln0).date := fun i hi => by
 obtain ⟨k, x, hx, rfl⟩ := its_mem hi
 exact ((check_rest h).2.2 x (List.mem_of_getElem? hx)).2
theorem out_small {x : Cx} {r : List Row} {i : It} (hw : i.why = 0) (h : eS x r i = 0) : Ac.Small (outV x r i) := by
 have e : outV x r i = setV i.bi i.al i.pr (vD x r i) (vC x r i) (vK x r i) := by unfold outV; rw [if_pos hw]
 have hs : setE i.bi i.al i.pr (vD x r i) (vC x r i) (vK x r i) = 0 := h
 have p := Sh.set_parts hs
 have q := Sh.set_ok hs
 rw [e]
 unfold setV Ac.Small
 rw [if_pos hs]
 simp only
 omega
theorem outE_yes {x : Cx} {r : List Row} {i : It} (h : i.why = 0) : outE x r i = if eB x r i = 0 then (if eS x r i = 0 then (if x.net = 0 then bothE r x.mem x.fam i.yr (outV x r i) else 0) else eS x r i) else eB x r i := by
 unfold outE; rw [if_pos h]
theorem outR_yes {x : Cx} {r : List Row} {i : It} (h : i.why = 0) : outR x r i = if x.net = 0 then bothV r x.mem x.fam i.yr (outV x r i) else r := by
 unfold outR
 by_cases hn : x.net = 0
 ·rw [if_pos hn, if_pos ⟨h, hn⟩]
 ·rw [if_neg hn, if_neg (fun e => hn e.2)]
theorem outV_yes {x : Cx} {r : List Row} {i : It} (h : i.why = 0) : outV x r i = setV i.bi i.al i.pr (vD x r i) (vC x r i) (vK x r i) := by
 unfold outV; rw [if_pos h]
theorem outE_no {x : Cx} {r : List Row} {i : It} (h : i.why ≠ 0) : outE x r i = refE i.bi i.pr i.why := by unfold outE; rw [if_neg h]
theorem outR_no {x : Cx} {r : List Row} {i : It} (h : i.why ≠ 0) : outR x r i = r := by unfold outR; rw [if_neg (fun e => h e.1)]
theorem outV_no {x : Cx} {r : List Row} {i : It} (h : i.why ≠ 0) : outV x r i = refV i.bi i.pr i.why := by unfold outV; rw [if_neg h]
theorem both_len (l : List Row) (m f : Tx) (y : Int) (o : Ot) : (bothV l m f y o).length ≤ l.length + 2 := by
 have x1 := Ac.add_len l m false y o.de (member o)
 have x2 := Ac.add_len (addV l m false y o.de (member o)) f true y o.de (member o)
 unfold bothV
 split
 ·omega
 ·simp
theorem outR_len (x : Cx) (r : List Row) (i : It) : (outR x r i).length ≤ r.length + 2 := by
 unfold outR
 split
 ·exact both_len ..
 ·omega
theorem run_bad {x : Cx} {r r0 : List Row} {l l0 : List It} {i : It} {l' : List It} (h : l = i :: l') (e : runE x r l = runE x r0 l0) (h0 : outE x r i ≠ 0) : runE x r0 l0 = outE x r i := by
 rw [← e, h]; unfold runE; rw [if_neg h0]
theorem run_step {x : Cx} {r r0 : List Row} {l l0 : List It} {i : It} {l' : List It} (h : l = i :: l') (e : runE x r l = runE x r0 l0) (h0 : outE x r i = 0) : runE x (outR x r i) l' = runE x r0 l0 := by
 rw [← e, h]; conv => rhs; unfold runE
 rw [if_pos h0]
theorem runV_step {x : Cx} {r r0 : List Row} {l l0 : List It} {i : It} {l' : List It} {O : List Ot} (h : l = i :: l') (e : O ++ runV x r l = runV x r0 l0) : (O ++ [outV x r i]) ++ runV x (outR x r i) l' = runV x r0 l0 := by
 rw [← e, h, List.append_assoc]; rfl
theorem runR_step {x : Cx} {r r0 : List Row} {l l0 : List It} {i : It} {l' : List It} (h : l = i :: l') (e : runR x r l = runR x r0 l0) : runR x (outR x r i) l' = runR x r0 l0 := by
 rw [← e, h]; rfl
theorem deny_take (es : List Ex.Ed) (hb : ∀ e ∈ es, e.kind ≠ 1) (l : List Ln) (k i : Nat) (h : i < k) (a : Ln) : Ex.denyF (l.take k) i a es = Ex.denyF l i a es := by
 have hw : ∀ e ∈ es, Ex.whyV e (l.take k) i a = Ex.whyV e l i a := fun e he => by
  have h1 : e.kind ≠ 1 := hb e he
  have hx : Ex.exB e (l.take k) i a = Ex.exB e l i a := by
   unfold Ex.exB
   rw [List.take_take, Nat.min_eq_left (by omega)]
  rw [Ex.why_form, Ex.why_form, if_neg h1, hx]
  split
  ·rfl
  ·split
   ·rfl
   ·rfl
 clear hb
 induction es with
 | nil => rfl
 | cons e es ih =>
  have h1 := hw e (List.mem_cons_self ..)
  have h2 := ih fun e' he => hw e' (List.mem_cons_of_mem _ he)
  unfold Ex.denyF
  rw [h1, h2]
theorem met_take (A : List Ln) (c : Cl) (k i : Nat) (x : Ln) (hi : i < k) (h : c.lines[i]? = some x) : metB A { c with lines := c.lines.take k } i = metB A c i := by
 unfold metB
 have h1 : (c.lines.take k)[i]? = some x := by rw [List.getElem?_take, if_pos hi]; exact h
 have e1 := Tw.marks_at (c.lines.take k) A i x h1
 have e2 := Tw.marks_at c.lines A i x h
 rw [List.take_take, Nat.min_eq_left (by omega)] at e1
 show (Tw.marksV A (c.lines.take k)).getD i false = _
 rw [List.getD_eq_getElem?_getD, List.getD_eq_getElem?_getD, e1, e2]
theorem its_take (t : Tb) (hb : ∀ e ∈ t.edits, e.kind ≠ 1) (c : Cl) (A : List Ln) (k : Nat) : its t { c with lines := c.lines.take k } A = (its t c A).take k := by
 refine List.ext_getElem? fun i => ?_
 have e1 : (its t { c with lines := c.lines.take k } A)[i]? = ((c.lines.take k)[i]?).map fun x => itV t { c with lines := c.lines.take k } i x (metB A { c with lines := c.lines.take k } i) := its_at t { c with lines := c.lines.take k } A i
 rw [e1, List.getElem?_take, List.getElem?_take]
 by_cases hi : i < k
 ·rw [if_pos hi, if_pos hi, its_at]
  cases hx : c.lines[i]? with
  | none => rfl
  | some x =>
   show some (itV t { c with lines := c.lines.take k } i x (metB A { c with lines := c.lines.take k } i)) = some (itV t c i x (metB A c i))
   rw [met_take A c k i x hi hx]
   have hx' : (c.lines.take k)[i]? = some x := by rw [List.getElem?_take, if_pos hi]; exact hx
   have hd : Ex.denyV t.edits (c.lines.take k) (i : Int) = Ex.denyV t.edits c.lines (i : Int) := by
    unfold Ex.denyV
    rw [if_pos (by omega), if_pos (by omega), show ((i : Int).toNat) = i by omega, hx, hx']
    exact deny_take t.edits hb c.lines k i hi x
   unfold itV whyV val
   simp only [hd]
 ·rw [if_neg hi, if_neg hi]; rfl
end Go.Proofs.YtfoooldkmokjpaaGreatDoor.Ju
end
