/-
  Whether a plan may be, as the reference says: Check, as a contract.
-/
import Derived.Test.YtdppelkfcnbgbaaPRRu
import Derived.Test.YtdppelkfcnbgbaaPChe
set_option linter.unusedSimpArgs false
set_option linter.unusedVariables false
set_option maxRecDepth 100000
namespace Go.Proofs.Ytdppelkfcnbgbaa.Pl
open Go.RowKit
open Wo (Wd WdsAt box_cell box_two keepB heap_far)

theorem all_take_eq {p : Ru → Bool} (l : List Ru) (k : Nat) (c : Ru) (h : l[k]? = some c) (hk : (l.take k).all p = true) : (l.take (k + 1)).all p = p c := by
  rw [List.take_add_one, h]; simp_all
theorem all_take_no {p : Ru → Bool} (l : List Ru) (k : Nat) (h : (l.take k).all p = false) : l.all p = false := by
  rw [List.all_eq_false] at h ⊢
  obtain ⟨x, hx, hp⟩ := h
  exact ⟨x, List.mem_of_mem_take hx, hp⟩
set_option maxHeartbeats 16000000 in
theorem rcheck_any (p : Pn) (m : Value) (w : World) (h : RusAt All w m p.rules) :
    Calls Try.prog 23 #[pnv p m] w fun e w' => e = .returned (.int .i64 (checkE p)) ∧ Below w.heap.size w w' := by
  have hb := below_alloc w (.cells #[.int .i64 p.mode, .int .i64 p.indDed, .int .i64 p.famDed, .int .i64 p.indOop, .int .i64 p.famOop, m] 41)
  have HB := Lib.hid hb
  have HX := Lib.hid (heap_alloc_new w (.cells #[.int .i64 p.mode, .int .i64 p.indDed, .int .i64 p.famDed, .int .i64 p.indOop, .int .i64 p.famOop, m] 41))
  have HRu := Lib.hid (h.grw hb)
  have HG1 := Lib.hid fun W => rgood_eq p.indDed W
  have HG4 := Lib.hid fun W => rgood_eq p.famOop W
  obtain ⟨ma, mc, rfl, hm1, hm2, hm3⟩ := h.form
  have hm3 : p.rules.length ≤ 281474976710656 := hm3
  obtain ⟨x0, x1, x2, x3, x4, x5⟩ := bsix HX.out
  obtain ⟨Q1, hQ1⟩ : ∃ Q1, Q1 = (((p.mode == 0) || (p.mode == 1)) && decide (p.rules.length ≤ 64)) := ⟨_, rfl⟩
  obtain ⟨Q2, hQ2⟩ : ∃ Q2, Q2 = ((Q1 && goodB p.indDed) && goodB p.famOop) := ⟨_, rfl⟩
  obtain ⟨Q3, hQ3⟩ : ∃ Q3, Q3 = ((((Q2 && decide (p.indDed ≤ p.famDed)) && decide (p.famDed ≤ p.famOop)) && decide (p.indDed ≤ p.indOop)) && decide (p.indOop ≤ p.famOop)) := ⟨_, rfl⟩
  have HP : Hid (planB p = (Q3 && p.rules.all ruleB)) := by
    show _ = _
    rw [hQ3, hQ2, hQ1, show (p.mode == 0) = decide (p.mode = 0) from rfl, show (p.mode == 1) = decide (p.mode = 1) from rfl]
    unfold planB limB
    simp only [Bool.and_assoc]
  have HE : Hid (checkE p = if planB p = true then 0 else 15) := rfl
  have HQ1 := Lib.hid hQ1
  have HQ2 := Lib.hid hQ2
  have HQ3 := Lib.hid hQ3
  have hl6 : decide ((p.rules.length : Int) ≤ 64) = decide (p.rules.length ≤ 64) := decide_eq_decide.2 (by omega)
  clear hb h hQ1 hQ2 hQ3
  generalize checkE p = R at *
  generalize planB p = PB at *
  go_enter Try.func23, Try.ntmps23
  go_upto_region 1 with fail
  generalize w.alloc (.cells #[.int .i64 p.mode, .int .i64 p.indDed, .int .i64 p.famDed, .int .i64 p.indOop, .int .i64 p.famOop, .slice ma p.rules.length mc] 41) = W0 at *
  generalize hp : w.heap.size = a0 at *
  go_cut [3] (fun s3 wx => s3 = .bool Q1 ∧ wx = W0)
  case first =>
    clear HQ2 HQ3 HP HE HRu HG1 HG4
    have HL := Lib.hid hl6
    clear hl6
    generalize hg6 : decide (p.rules.length ≤ 64) = G6 at *
    generalize hg0 : (p.mode == 0) = M0 at *
    generalize hg1 : (p.mode == 1) = M1 at *
    clear hg6
    have hl6 := HL.out
    clear HL
    cases M0 <;> cases M1 <;> cases G6
    all_goals
      go_wp2
      go_meet
      exact ⟨by rw [HQ1.out] <;> rfl, rfl⟩
  case rest =>
    obtain ⟨rfl, rfl⟩ := hcut
    clear hl6 HQ1
    go_upto_region 2 with fail
    go_cut [3] (fun s3 wx => s3 = .bool Q2 ∧ wx = wc)
    case first =>
      clear HQ3 HP HE HRu
      generalize goodB p.indDed = GA at *
      generalize goodB p.famOop = GB at *
      cases Q1 <;> cases GA <;> cases GB
      all_goals
        go_wp2_with (first | (go_at_call_of 28 (Value.int IntKind.i64 p.indDed); refine (HG1.out _).mono ?_; rintro e w1 ⟨rfl, rfl⟩) | (go_at_call_of 28 (Value.int IntKind.i64 p.famOop); refine (HG4.out _).mono ?_; rintro e w1 ⟨rfl, rfl⟩))
        go_meet
        exact ⟨by rw [HQ2.out] <;> rfl, rfl⟩
    case rest =>
      obtain ⟨rfl, rfl⟩ := hcut
      clear HQ2 HG1 HG4
      go_upto_region 3 with fail
      go_cut [3] (fun s3 wx => s3 = .bool Q3 ∧ wx = wc)
      case first =>
        clear HP HE HRu
        generalize hg1 : decide (p.indDed ≤ p.famDed) = D1 at *
        generalize hg2 : decide (p.famDed ≤ p.famOop) = D2 at *
        generalize hg3 : decide (p.indDed ≤ p.indOop) = D3 at *
        generalize hg4 : decide (p.indOop ≤ p.famOop) = D4 at *
        cases Q2
        · go_wp2
          go_meet
          exact ⟨by rw [HQ3.out] <;> rfl, rfl⟩
        cases D1
        · go_wp2
          go_meet
          exact ⟨by rw [HQ3.out] <;> rfl, rfl⟩
        cases D2
        · go_wp2
          go_meet
          exact ⟨by rw [HQ3.out] <;> rfl, rfl⟩
        cases D3
        · go_wp2
          go_meet
          exact ⟨by rw [HQ3.out] <;> rfl, rfl⟩
        cases D4
        all_goals
          go_wp2
          go_meet
          exact ⟨by rw [HQ3.out] <;> rfl, rfl⟩
      case rest =>
        obtain ⟨rfl, rfl⟩ := hcut
        clear HQ3
        have HW0 := Lib.hid (Below.refl wc.heap.size wc)
        have HQ0 : Hid (Q3 = (Q3 && (p.rules.take 0).all ruleB)) := by show _ = _; simp
        go_wp2
        go_loopg [3, 4] (p.rules.length) (fun g q i wr => ∃ (n : Nat) (Q : Bool), n ≤ p.rules.length ∧ g = p.rules.length - n ∧ q = .bool Q ∧ i = .int .i64 n ∧ Hid (Below wc.heap.size wc wr) ∧ Hid (Q = (Q3 && (p.rules.take n).all ruleB)))
        case atStart => exact ⟨0, Q3, Nat.zero_le _, rfl, rfl, rfl, HW0.out, HQ0.out⟩
        case round =>
          clear HW0 HQ0 x0 x1 x2 x3 x4 x5
          obtain ⟨n, Q, hn, hgk, rfl, rfl, HBr, HA⟩ := hrel
          obtain ⟨x0, x1, x2, x3, x4, x5⟩ := bsix (keepB HX.out HBr.out)
          have HBF : Hid (Below a0 w wr) := below_tr hp HB.out HBr.out
          cases Q with
          | false =>
            have hPB : PB = false := by
              rw [HP.out]
              have h := HA.out
              cases Q3
              · rfl
              · rw [all_take_no p.rules n (by simpa using h.symm)]; rfl
            have HRES : Hid (R = 15) := by show _ = _; rw [HE.out, hPB]; rfl
            clear hPB HA
            by_cases hlt : n < p.rules.length
            · go_wp2
              go_ret
              exact ⟨by rw [HRES.out] <;> rfl, by first | exact HBF.out | (rw [hp]; exact HBF.out)⟩
            · go_wp2
              go_ret
              exact ⟨by rw [HRES.out] <;> rfl, by first | exact HBF.out | (rw [hp]; exact HBF.out)⟩
          | true =>
            have hQ : Q3 = true ∧ (p.rules.take n).all ruleB = true := by
              have h := HA.out.symm
              rwa [Bool.and_eq_true] at h
            obtain ⟨rfl, hta⟩ := hQ
            by_cases hlt : n < p.rules.length
            · obtain ⟨b, o, kv, uv, sv, rfl, hbs, hx, hcc, hin⟩ := RusAt.get (HRu.out.grw HBr.out) n hlt
              obtain ⟨y0, y1, y2, y3, y4, y5, y6, y7⟩ := hcc
              obtain ⟨-, -, -, hk1, hk2, hk3⟩ := id hin
              obtain ⟨ka, kc, rfl, -, -⟩ := hk1.form
              obtain ⟨ua, uc, rfl, -, -⟩ := hk2.form
              obtain ⟨sa, sc, rfl, -, -, -⟩ := hk3.form
              have HC := Lib.hid (rck_rule p.rules[n] _ _ _ _ hin)
              have HT : Hid (ruleB p.rules[n] = (true && (p.rules.take (n + 1)).all ruleB)) := by show _ = _; rw [all_take_eq p.rules n _ hx hta, Bool.true_and]
              clear hx hin hk1 hk2 hk3 hta HA
              generalize p.rules[n] = ru at *
              generalize ruleB ru = RB at *
              go_wp2_with (go_at_call 36; refine HC.out.mono ?_; rintro e w3 ⟨rfl, hb3⟩; have HB3 := Lib.hid hb3; clear hb3)
              go_roundg (p.rules.length - (n + 1))
              case rel => exact ⟨n + 1, RB, by omega, rfl, rfl, by go_num, below_trans HBr.out HB3.out, HT.out⟩
              case measure => omega
            · have hall : p.rules.take n = p.rules := List.take_of_length_le (by omega)
              rw [hall] at hta
              have hPB : PB = true := by rw [HP.out, hta]; rfl
              have HRES : Hid (R = 0) := by show _ = _; rw [HE.out, hPB]; rfl
              clear hPB HA hta hall
              go_wp2
              go_ret
              exact ⟨by rw [HRES.out] <;> rfl, by first | exact HBF.out | (rw [hp]; exact HBF.out)⟩
end Go.Proofs.Ytdppelkfcnbgbaa.Pl
