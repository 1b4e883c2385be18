/-
  Texts put together (merge.py): CRefs, PRCk, PIs.
-/
import Derived.Deep.CutBlock
import Derived.Test.YtfkhehkfeibdpaaGreatDoorMc17
import Derived.Test.YtfkhehkfeibdpaaGreatDoorMc18
import Derived.Test.YtfkhehkfeibdpaaGreatDoorMc14
/-
  What the reference's Good answers, as contracts: for every int64.
-/
section
namespace Go.Proofs.YtfkhehkfeibdpaaGreatDoor.Ce
open Go.RowKit

theorem rgood_any (a : Int) (w : World) :
    Calls Tryz.prog 18 #[.int .i64 a] w fun e w' => e = .returned (.bool (good a)) ∧ w' = w := by
  by_cases h0 : a < 0
  · have g : good a = false := (good_not a).2 (by omega)
    rw [g]
    go_enter Tryz.func18, Tryz.ntmps18
    go_wp2
    go_ret
    exact ⟨rfl, rfl⟩
  · by_cases h1 : 10000000000000 < a
    · have g : good a = false := (good_not a).2 (by omega)
      rw [g]
      go_enter Tryz.func18, Tryz.ntmps18
      go_wp2
      go_ret
      exact ⟨rfl, rfl⟩
    · have g : good a = true := (good_iff a).2 (by omega)
      rw [g]
      go_enter Tryz.func18, Tryz.ntmps18
      go_wp2
      go_ret
      exact ⟨rfl, rfl⟩

end Go.Proofs.YtfkhehkfeibdpaaGreatDoor.Ce
end

/-
  Whether a condition may be, as the reference says: its kids and Cond, as contracts.
-/
section
set_option linter.unusedSimpArgs false
set_option linter.unusedVariables false
set_option maxRecDepth 100000
namespace Go.Proofs.YtfkhehkfeibdpaaGreatDoor.Pl
open Go.RowKit
open Wo (Wd WdsAt box_cell box_two keepB heap_far)

theorem emp_lit (x : Tx) : (mk x).toList.isEmpty = decide (x = []) := by rw [← eq_lit]; cases (mk x).toList <;> rfl
theorem rgood_eq (n : Int) (w : World) : Calls Tryz.prog 18 #[.int .i64 n] w fun e w' => e = .returned (.bool (goodB n)) ∧ w' = w := Ce.rgood_any n w
theorem rkids_any (k : Int) (w : World) :
    Calls Tryz.prog 59 #[.int .i64 k] w fun e w' => e = .returned (.int .i64 (kidN k : Nat)) ∧ w' = w := by
  by_cases h6 : k = 6
  · subst h6
    go_enter Tryz.func59, Tryz.ntmps59
    go_wp2
    go_ret
    exact ⟨rfl, rfl⟩
  by_cases h7 : k = 7
  · subst h7
    go_enter Tryz.func59, Tryz.ntmps59
    go_wp2
    go_ret
    exact ⟨rfl, rfl⟩
  by_cases h8 : k = 8
  · subst h8
    go_enter Tryz.func59, Tryz.ntmps59
    go_wp2
    go_ret
    exact ⟨rfl, rfl⟩
  have HK : Hid (kidN k = 0) := by show _ = _; unfold kidN; rw [if_neg h6, if_neg (by omega)]
  have b6 : (k == 6) = false := by simpa using h6
  have b7 : (k == 7) = false := by simpa using h7
  have b8 : (k == 8) = false := by simpa using h8
  clear h6 h7 h8
  go_enter Tryz.func59, Tryz.ntmps59
  go_wp2
  go_ret
  exact ⟨by rw [HK.out]; rfl, rfl⟩
set_option maxHeartbeats 8000000 in
theorem rck_deep (c : Cd) (m : Value) (w : World) :
    Calls Tryz.prog 34 #[cdv c m, .int .i64 17] w fun e w' => e = .returned (.bool false) ∧ Below w.heap.size w w' := by
  have hb := below_alloc w (.cells #[.int .i64 c.kind, .string (mk c.lo), .string (mk c.hi), .int .i64 c.n, m] 39)
  have HB := Lib.hid hb
  clear hb
  go_enter Tryz.func34, Tryz.ntmps34
  go_wp2_with fail
  go_quiet (fail)
  go_wp2
  go_ret
  exact ⟨rfl, below_dn HB.out nq⟩
set_option maxHeartbeats 16000000 in
theorem rck_step (f : Nat) (d : Int) (hd0 : 1 ≤ d) (hd : d ≤ 16) (IH : ∀ (c : Cd) (m : Value) (w : World), KsAt All w m c.kids → Ok1 c → Calls Tryz.prog 34 #[cdv c m, .int .i64 (d + 1)] w fun e w' => e = .returned (.bool (condB f c)) ∧ Below w.heap.size w w')
    (c : Cd) (m : Value) (w : World) (hK : KsAt All w m c.kids) (ho : Ok1 c) :
    Calls Tryz.prog 34 #[cdv c m, .int .i64 d] w fun e w' => e = .returned (.bool (condB (f + 1) c)) ∧ Below w.heap.size w w' := by
  rw [condB_eq]
  have hb := below_alloc w (.cells #[.int .i64 c.kind, .string (mk c.lo), .string (mk c.hi), .int .i64 c.n, m] 39)
  have HB := Lib.hid hb
  have HX := Lib.hid (heap_alloc_new w (.cells #[.int .i64 c.kind, .string (mk c.lo), .string (mk c.hi), .int .i64 c.n, m] 39))
  have HK := Lib.hid (hK.grw hb)
  obtain ⟨a, k, rfl, h1, h2⟩ := hK.form
  have HKD := Lib.hid fun W => rkids_any c.kind W
  obtain ⟨x0, x1, x2, x3, x4⟩ := bfive HX.out
  have hi : ¬ 16 < d := by omega
  have hbig : c.kids.length ≤ 281474976710656 := ho.2.2.2.2
  have hneq : ((c.kids.length : Int) != ((kidN c.kind : Nat) : Int)) = !decide (c.kids.length = kidN c.kind) := by
    by_cases e : c.kids.length = kidN c.kind <;> simp [e] <;> omega
  have hlo9 : c.lo.length ≤ 9223372036854775807 := by have : c.lo.length ≤ 281474976710656 := ho.2.2.1; omega
  have hhi9 : c.hi.length ≤ 9223372036854775807 := by have : c.hi.length ≤ 281474976710656 := ho.2.2.2.1; omega
  clear hK hb
  generalize hgl : decide (c.kids.length = kidN c.kind) = GL at *
  clear hgl
  go_enter Tryz.func34, Tryz.ntmps34
  go_upto_region 1 with fail
  generalize w.alloc (.cells #[.int .i64 c.kind, .string (mk c.lo), .string (mk c.hi), .int .i64 c.n, .slice a c.kids.length k] 39) = W at *
  generalize hp : w.heap.size = p at *
  go_cut [19] (fun s19 wx => s19 = .bool (!GL) ∧ Hid (Below W.heap.size W wx))
  case first =>
    go_quiet (first | (go_at_call 59; refine Calls.quiet_of_same (HKD.out _)))
    go_wp2_with fail
    go_meet
    exact ⟨rfl, below_dn (Below.refl _ _) _⟩
  case rest =>
    obtain ⟨rfl, HBx⟩ := hcut
    have hBB : Below p w wc := below_tr hp HB.out HBx.out
    have HBB := Lib.hid hBB
    have HKx := Lib.hid (HK.out.grw HBx.out)
    have HXx := Lib.hid (keepB HX.out HBx.out)
    obtain ⟨x0, x1, x2, x3, x4⟩ := bfive HXx.out
    clear HB HX HK HKD hneq hBB HBx
    cases GL with
    | false =>
      go_wp2
      go_ret
      exact ⟨rfl, by first | exact HBB.out | (rw [hp]; exact HBB.out)⟩
    | true =>
      have HW0 := Lib.hid (Below.refl wc.heap.size wc)
      go_wp2
      go_loopg [5] (c.kids.length) (fun g i wr => ∃ n : Nat, n ≤ c.kids.length ∧ g = c.kids.length - n ∧ i = .int .i64 n ∧ Hid (Below wc.heap.size wc wr) ∧ Hid ((c.kids.take n).all (condB f) = true))
      case atStart => exact ⟨0, Nat.zero_le _, rfl, rfl, HW0.out, rfl⟩
      case round =>
        clear HW0 x0 x1 x2 x3 x4
        obtain ⟨n, hn, hgk, rfl, HBr, HA⟩ := hrel
        obtain ⟨x0, x1, x2, x3, x4⟩ := bfive (keepB HXx.out HBr.out)
        by_cases hlt : n < c.kids.length
        · obtain ⟨b, o, mv, rfl, hbs, hx, hcc, hkk, hok⟩ := KsAt.get (HKx.out.grw HBr.out) n hlt
          obtain ⟨y0, y1, y2, y3, y4⟩ := hcc
          obtain ⟨ma, mc, rfl, -, -⟩ := hkk.form
          have HC := Lib.hid (IH c.kids[n] _ wr hkk hok)
          have HBz := HBr
          have HT := Lib.hid fun h => all_take1 (p := condB f) c.kids n _ hx HA.out h
          have HN := Lib.hid fun h => all_not1 (p := condB f) c.kids n _ hx h
          clear hx hkk hok
          generalize c.kids[n] = kd at *
          cases hq : condB f kd
          · rw [hq] at HC
            have HN2 := Lib.hid (HN.out hq)
            clear hq HT HN
            go_wp2_with (go_at_call 34; refine HC.out.mono ?_; rintro e w3 ⟨rfl, hb3⟩; have HB3 := Lib.hid hb3; clear hb3)
            go_ret
            exact ⟨by rw [HN2.out] <;> rfl, by first | exact below_tr hp HBB.out (below_trans HBz.out HB3.out) | (rw [hp]; exact below_tr hp HBB.out (below_trans HBz.out HB3.out))⟩
          · rw [hq] at HC
            have HT2 := Lib.hid (HT.out hq)
            clear hq HT HN
            go_wp2_with (go_at_call 34; refine HC.out.mono ?_; rintro e w3 ⟨rfl, hb3⟩; have HB3 := Lib.hid hb3; clear hb3)
            go_roundg (c.kids.length - (n + 1))
            case rel => exact ⟨n + 1, by omega, rfl, by go_num, below_trans HBz.out HB3.out, HT2.out⟩
            case measure => omega
        · have hall : c.kids.take n = c.kids := List.take_of_length_le (by omega)
          rw [hall] at HA
          have HAT := HA
          have HBF : Hid (Below p w wr) := below_tr hp HBB.out HBr.out
          have HL1 := Lib.hid fun W f t => Cm.rcode_any c.lo f t W hlo9
          have HL2 := Lib.hid fun W f t => Cm.rcode_any c.hi f t W hhi9
          have HG := Lib.hid fun W => rgood_eq c.n W
          clear hall HBr HBB HXx HKx HA IH hlo9 hhi9 ho
          go_upto_block 2 with fail
          go_cut [6, 7, 8] (fun s6 s7 s8 wx => s6 = .bool (loB c.kind c.lo) ∧ s7 = .bool (hiB c.kind c.hi) ∧ s8 = .bool (nB c.kind c.n) ∧ wx = wr)
          case first =>
            clear HAT HBF
            by_cases k1 : c.kind = 1
            · have E1 : Hid (loB c.kind c.lo = Cm.codeB c.lo 5 5) := by show _ = _; unfold loB; rw [if_pos k1]
              have E2 : Hid (hiB c.kind c.hi = Cm.codeB c.hi 5 5) := by show _ = _; unfold hiB; rw [if_pos k1]
              have E3 : Hid (nB c.kind c.n = (c.n == 0)) := by show _ = _; rw [k1]; rfl
              have b1 : (c.kind == 1) = true := by simp; omega
              clear k1
              go_wp2_with (first | (go_at_call_of 60 (Value.string (mk c.lo)); refine (HL1.out _ 5 5).mono ?_; rintro e w1 ⟨rfl, rfl⟩) | (go_at_call_of 60 (Value.string (mk c.hi)); refine (HL2.out _ 5 5).mono ?_; rintro e w1 ⟨rfl, rfl⟩))
              go_meet
              exact ⟨by rw [E1.out] <;> rfl, by rw [E2.out] <;> rfl, by rw [E3.out] <;> rfl, rfl⟩
            by_cases k2 : c.kind = 2
            · have E1 : Hid (loB c.kind c.lo = Cm.codeB c.lo 2 2) := by show _ = _; rw [k2]; rfl
              have E2 : Hid (hiB c.kind c.hi = (mk c.hi).toList.isEmpty) := by show _ = _; rw [k2, emp_lit]; rfl
              have E3 : Hid (nB c.kind c.n = (c.n == 0)) := by show _ = _; rw [k2]; rfl
              have b1 : (c.kind == 1) = false := by simp; omega
              have b2 : (c.kind == 2) = true := by simp; omega
              clear k1 k2
              go_wp2_with (first | (go_at_call 60; refine (HL1.out _ 2 2).mono ?_; rintro e w1 ⟨rfl, rfl⟩))
              go_meet
              exact ⟨by rw [E1.out] <;> rfl, by rw [E2.out] <;> rfl, by rw [E3.out] <;> rfl, rfl⟩
            have E1 : Hid (loB c.kind c.lo = (mk c.lo).toList.isEmpty) := by show _ = _; rw [emp_lit]; unfold loB; rw [if_neg k1, if_neg k2]
            have E2 : Hid (hiB c.kind c.hi = (mk c.hi).toList.isEmpty) := by show _ = _; rw [emp_lit]; unfold hiB; rw [if_neg k1]
            have b1 : (c.kind == 1) = false := by simp; omega
            have b2 : (c.kind == 2) = false := by simp; omega
            clear k1 k2
            by_cases k3 : c.kind = 3
            · have E3 : Hid (nB c.kind c.n = (decide (0 ≤ c.n) && decide (c.n ≤ 9999))) := by show _ = _; rw [k3]; rfl
              have b3 : (c.kind == 3) = true := by simp; omega
              clear k3
              generalize hn : decide (0 ≤ c.n) = N0 at *
              cases N0
              · go_wp2
                go_meet
                exact ⟨by rw [E1.out] <;> rfl, by rw [E2.out] <;> rfl, by rw [E3.out] <;> rfl, rfl⟩
              · go_wp2
                go_meet
                exact ⟨by rw [E1.out] <;> rfl, by rw [E2.out] <;> rfl, by rw [E3.out] <;> rfl, rfl⟩
            by_cases k4 : c.kind = 4
            · have E3 : Hid (nB c.kind c.n = goodB c.n) := by show _ = _; rw [k4]; rfl
              have b3 : (c.kind == 3) = false := by simp; omega
              have b4 : (c.kind == 4) = true := by simp; omega
              clear k3 k4
              go_wp2_with (first | (go_at_call 18; refine (HG.out _).mono ?_; rintro e w1 ⟨rfl, rfl⟩))
              go_meet
              exact ⟨by rw [E1.out] <;> rfl, by rw [E2.out] <;> rfl, by rw [E3.out] <;> rfl, rfl⟩
            · have E3 : Hid (nB c.kind c.n = (c.n == 0)) := by show _ = _; unfold nB; rw [if_neg k3, if_neg k4]; rfl
              have b3 : (c.kind == 3) = false := by simp; omega
              have b4 : (c.kind == 4) = false := by simp; omega
              clear k3 k4
              go_wp2
              go_meet
              exact ⟨by rw [E1.out] <;> rfl, by rw [E2.out] <;> rfl, by rw [E3.out] <;> rfl, rfl⟩
          case rest =>
            obtain ⟨rfl, rfl, rfl, rfl⟩ := hcut
            clear HL1 HL2 HG
            have HAL : Hid ((true && (c.kids.all (condB f) && leafB c.kind c.lo c.hi c.n)) = ((decide (0 ≤ c.kind) && decide (c.kind ≤ 8)) && (loB c.kind c.lo && (hiB c.kind c.hi && nB c.kind c.n)))) := by
              show _ = _
              rw [HAT.out]
              rfl
            clear HAT
            generalize loB c.kind c.lo = LO at *
            generalize hiB c.kind c.hi = HI at *
            generalize nB c.kind c.n = NB at *
            generalize k0 : decide (0 ≤ c.kind) = K0 at *
            generalize k8 : decide (c.kind ≤ 8) = K8 at *
            cases K0 <;> cases K8 <;> cases LO <;> cases HI
            all_goals
              go_wp2
              go_ret
              exact ⟨by rw [HAL.out] <;> rfl, by first | exact HBF.out | (rw [hp]; exact HBF.out)⟩
/-- Whether a condition may be, so deep. -/
theorem rck_cond : ∀ (f : Nat) (d : Int), d + f = 17 → f ≤ 16 → ∀ (c : Cd) (m : Value) (w : World), KsAt All w m c.kids → Ok1 c →
    Calls Tryz.prog 34 #[cdv c m, .int .i64 d] w fun e w' => e = .returned (.bool (condB f c)) ∧ Below w.heap.size w w' := by
  intro f
  induction f with
  | zero =>
    intro d hd _ c m w _ _
    obtain rfl : d = 17 := by omega
    exact rck_deep c m w
  | succ f ih => intro d hd hf c m w hK ho; exact rck_step f d (by omega) (by omega) (fun c m w hK ho => ih (d + 1) (by omega) (by omega) c m w hK ho) c m w hK ho
end Go.Proofs.YtfkhehkfeibdpaaGreatDoor.Pl
end

/-
  What plan.isSet answers, as a contract: whether one of some sets is of a What.
-/
section
set_option linter.unusedSimpArgs false
set_option linter.unusedVariables false
set_option maxRecDepth 100000
namespace Go.Proofs.YtfkhehkfeibdpaaGreatDoor.Pl
open Go.RowKit
open Wo (Wd WdsAt box_cell box_two keepB heap_far)

theorem isf_any (s : St) (k : Int) (p : Nat) (w : World) (hp : w.heap[p]? = some (.cells #[.int .i64 k] 3 (0, 0))) :
    Calls Tryz.prog 77 #[stv s, .pointer (some ⟨p, 0, none⟩)] w fun e w' => e = .returned (.bool (s.what == k)) ∧ Below w.heap.size w w' := by
  have hb := below_alloc w (.cells #[.int .i64 s.what, .int .i64 s.n] 67)
  obtain ⟨c0, -⟩ := box_cell (keepB hp hb)
  have HB := Lib.hid hb
  clear hb hp
  go_enter Tryz.func77, Tryz.ntmps77
  go_wp2
  go_ret
  exact ⟨rfl, HB.out⟩
set_option maxHeartbeats 4000000 in
theorem idxf_any (v : Value) (ss : List St) (k : Int) (p : Nat) (w : World) (h : StsAt All w v ss) (hp : w.heap[p]? = some (.cells #[.int .i64 k] 3 (0, 0))) :
    Calls Tryz.prog 89 #[v, .func (.func 77) #[] #[.pointer (some ⟨p, 0, none⟩)]] w fun e w' => (∃ n : Int, e = .returned (.int .i64 n) ∧ (decide (0 ≤ n) = decide (k ∈ ss.map (·.what)))) ∧ Below w.heap.size w w' := by
  have HS := Lib.hid h
  have HP := Lib.hid hp
  obtain ⟨a, c, rfl, h1, h2, h4⟩ := h.form
  have HB0 := Lib.hid (Below.refl w.heap.size w)
  clear h hp
  go_enter Tryz.func89, Tryz.ntmps89
  go_wp2
  go_loopg [8] (ss.length) (fun g i wr => ∃ (n : Nat), n ≤ ss.length ∧ g = ss.length - n ∧ i = .int .i64 n ∧ Hid (Below w.heap.size w wr) ∧ Hid (k ∉ (ss.take n).map (·.what)))
  case atStart => exact ⟨0, Nat.zero_le _, rfl, rfl, HB0.out, by show _ ∉ _; simp⟩
  case round =>
    clear HB0
    obtain ⟨n, hk, hg, rfl, HB, HA⟩ := hrel
    by_cases hlt : n < ss.length
    · obtain ⟨b, o, rfl, hbs, hx, hu0, hu1, -, -⟩ := StsAt.get (HS.out.grw HB.out) n hlt
      have HC := Lib.hid fun W (hW : W.heap[p]? = some (.cells #[.int .i64 k] 3 (0, 0))) => isf_any ss[n] k p W hW
      have HP1 := Lib.hid (keepB HP.out HB.out)
      have HH : Hid (ss[n].what = k → k ∈ ss.map (·.what)) := fun e => by rw [← e]; exact List.mem_map_of_mem (List.getElem_mem hlt)
      have HN : Hid (¬ ss[n].what = k → k ∉ (ss.take (n + 1)).map (·.what)) := fun he => by
        show k ∉ (ss.take (n + 1)).map (·.what)
        rw [List.take_add_one, hx]
        simp only [Option.toList_some, List.map_append, List.map_cons, List.map_nil, List.mem_append, List.mem_singleton, not_or]
        exact ⟨HA.out, fun e => he e.symm⟩
      clear hx
      generalize ss[n] = x at *
      by_cases he : x.what = k
      · have hq : (x.what == k) = true := by simpa using he
        have HH2 := Lib.hid (HH.out he)
        rw [hq] at HC
        clear he hq
        go_wp2_with (go_at_call 77; refine (HC.out _ HP1.out).mono ?_; rintro e w1 ⟨rfl, hb1⟩; have HB1 := Lib.hid hb1; clear hb1)
        go_ret
        refine ⟨⟨(n : Nat), rfl, ?_⟩, below_trans HB.out HB1.out⟩
        rw [decide_eq_true HH2.out, decide_eq_true (by omega)]
      · have hq : (x.what == k) = false := by simpa using he
        have HN2 := Lib.hid (HN.out he)
        rw [hq] at HC
        clear he hq
        go_wp2_with (go_at_call 77; refine (HC.out _ HP1.out).mono ?_; rintro e w1 ⟨rfl, hb1⟩; have HB1 := Lib.hid hb1; clear hb1)
        go_roundg (ss.length - (n + 1))
        case rel => exact ⟨n + 1, by omega, rfl, by go_num, below_trans HB.out HB1.out, HN2.out⟩
        case measure => omega
    · have hall : ss.take n = ss := List.take_of_length_le (by omega)
      have HM : Hid (k ∉ ss.map (·.what)) := by show _ ∉ _; rw [← hall]; exact HA.out
      clear hall
      go_wp2
      go_ret
      refine ⟨⟨-1, rfl, ?_⟩, HB.out⟩
      rw [decide_eq_false HM.out, decide_eq_false (by omega)]
set_option maxHeartbeats 4000000 in
theorem contf_any (v : Value) (ss : List St) (k : Int) (p : Nat) (w : World) (h : StsAt All w v ss) (hp : w.heap[p]? = some (.cells #[.int .i64 k] 3 (0, 0))) :
    Calls Tryz.prog 76 #[v, .func (.func 77) #[] #[.pointer (some ⟨p, 0, none⟩)]] w fun e w' => e = .returned (.bool (decide (k ∈ ss.map (·.what)))) ∧ Below w.heap.size w w' := by
  have HC := Lib.hid (idxf_any v ss k p w h hp)
  clear h hp
  go_enter Tryz.func76, Tryz.ntmps76
  go_wp2_with (go_at_call 89; refine HC.out.mono ?_; rintro e w1 ⟨⟨n, rfl, hn⟩, hb1⟩; have HB1 := Lib.hid hb1; have HN := Lib.hid hn; clear hb1 hn)
  go_ret
  exact ⟨by rw [← HN.out]; rfl, HB1.out⟩
set_option maxHeartbeats 4000000 in
theorem isSet_any (v : Value) (ss : List St) (k : Int) (w : World) (h : StsAt All w v ss) :
    Calls Tryz.prog 58 #[v, .int .i64 k] w fun e w' => e = .returned (.bool (decide (k ∈ ss.map (·.what)))) ∧ Below w.heap.size w w' := by
  have hb := below_alloc w (.cells #[.int .i64 k] 3)
  have HC := Lib.hid (contf_any v ss k w.heap.size _ (h.grw hb) (heap_alloc_new w (.cells #[.int .i64 k] 3)))
  have HB := Lib.hid hb
  obtain ⟨a, c, rfl, h1, h2, h4⟩ := h.form
  have hmf : ∀ (fn : Fn) (first cap : Array Value) (w : World), (Instr.makeFunc fn first cap).run Tryz.prog w = .ok (.func fn first cap) w := fun _ _ _ _ => rfl
  clear h hb
  generalize decide (k ∈ ss.map (·.what)) = R at *
  go_enter Tryz.func58, Tryz.ntmps58
  go_wp2_with (go_at_call 76; refine HC.out.mono ?_; rintro e w1 ⟨rfl, hb1⟩; have HB1 := Lib.hid hb1; clear hb1)
  go_ret
  exact ⟨rfl, below_trans HB.out HB1.out⟩
end Go.Proofs.YtfkhehkfeibdpaaGreatDoor.Pl
end
