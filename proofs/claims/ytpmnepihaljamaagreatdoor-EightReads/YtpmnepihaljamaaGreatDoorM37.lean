/-
  Texts put together (merge.py): LRTot, DRefB, LRLine, LRCheck.
-/
import Derived.Maps.AppendAt
import Derived.Below
import Derived.Test.YtpmnepihaljamaaGreatDoorM5
import Derived.Test.YtpmnepihaljamaaGreatDoorM4
/-
  What the reference's Total answers, as a contract.
-/
section
set_option linter.unusedSimpArgs false
namespace Go.Proofs.YtpmnepihaljamaaGreatDoor.Cm
open Go.RowKit

theorem own_form {w : World} {B : Nat} {e : TypeId} {v : Value} {n : Nat} {xs : List Value} (h : w.ownsRow B e 1 v n xs) : ∃ a c, v = .slice a n c := by
  rcases h.2 with ⟨rfl, rfl⟩ | ⟨g, c, cur, rfl, _⟩
  · exact ⟨_, _, rfl⟩
  · exact ⟨_, _, rfl⟩
theorem infoI : ∃ i, Tryz.prog.info? 2 = some i ∧ i.zero = some (.int .i64 0) ∧ i.size = 1 ∧ i.bytes = 8 := by
  have hi := info2
  cases hq : Tryz.prog.info? 2 with
  | none => rw [hq] at hi; cases hi
  | some i =>
    rw [hq] at hi
    simp only [Option.map_some, Option.some.injEq, Prod.mk.injEq] at hi
    exact ⟨i, rfl, hi⟩
def bils (ls : List Ln) (j : Nat) : List Value := (List.range j).map fun q => .int .i64 (bil ls q)
theorem bils_snoc (ls : List Ln) (j : Nat) : bils ls (j + 1) = bils ls j ++ [.int .i64 (bil ls j)] := by unfold bils; rw [List.range_succ, List.map_append]; rfl
theorem own_cells {w : World} {B : Nat} {e : TypeId} {a : Option Addr} {n c : Nat} {ls : List Ln} (h : w.ownsRow B e 1 (.slice a n c) n (bils ls n)) : ∀ i, i < n → ∃ b off, a = some ⟨b, off, none⟩ ∧ w.cell? ⟨b, off + i, none⟩ = some (.int .i64 (bil ls i)) := by
  intro i hi
  rcases h.2 with ⟨_, rfl⟩ | ⟨g, cap, cur, he, _, hg, h1, h2, hs, ht⟩
  · omega
  · injection he with e1 e2 e3
    subst e1
    refine ⟨g, 0, rfl, ?_⟩
    rw [Nat.zero_add, cell_of_row w g i cur e (0, 0) hg]
    have hu : (bils ls n)[i]? = some (.int .i64 (bil ls i)) := by unfold bils; rw [List.getElem?_map, List.getElem?_range hi]; rfl
    rw [← ht, List.getElem?_take] at hu
    split at hu
    · simpa using hu
    · cases hu

set_option maxHeartbeats 2000000 in
theorem rtotal_any (c : Cl) (m : Value) (w : World) (hm : LnsAt All w m c.lines) (hl : c.lines.length ≤ 1000000) :
    Calls Tryz.prog 53 #[clv c m] w fun e w' => e = .returned (.tuple #[.int .i64 (totV c.lines), .int .i64 (totE c.lines)]) ∧ Below w.heap.size w w' := by
  have HM := Lib.hid hm
  have HBX : Hid (∀ w', Below (w.heap.size + 1) (w.alloc (boxc c m)) w' → ClBox w' w.heap.size c m ∧ Below w.heap.size w w') := fun w' hb => by
    have hb' : Below (w.alloc (boxc c m)).heap.size (w.alloc (boxc c m)) w' := by rw [show (w.alloc (boxc c m)).heap.size = w.heap.size + 1 from by simp]; exact hb
    exact ⟨(ClBox.new w c m _).grw hb', below_trans (below_alloc w _) hb'⟩
  obtain ⟨a, k, rfl, h1, h2⟩ := LnsAt.form hm
  obtain ⟨i2, r1, r2, r3, r4⟩ := infoI
  clear hm
  go_enter Tryz.func53, Tryz.ntmps53
  go_wp2
  go_loopg [4, 5] (c.lines.length) (fun g lv i wr => ∃ j : Nat, j ≤ c.lines.length ∧ g = c.lines.length - j ∧ i = .int .i64 j ∧ Hid (Below (w.heap.size + 1) (w.alloc (boxc c (.slice a c.lines.length k))) wr) ∧ Hid (wr.ownsRow (w.heap.size + 1) 2 1 lv j (bils c.lines j)))
  case atStart => exact ⟨0, Nat.zero_le _, rfl, rfl, Below.refl _ _, World.ownsRow_nil _ _ _ _⟩
  case round =>
    obtain ⟨j, hj, hg, rfl, HB, HO⟩ := hrel
    obtain ⟨⟨x0, x1, x2, x3, x4, x5, x6⟩, hbw⟩ := HBX.out _ HB.out
    have HBW := Lib.hid hbw
    obtain ⟨la, lc, rfl⟩ := own_form HO.out
    by_cases hlt : j < c.lines.length
    · have hL := LnsAt.move HM.out (Below.moves hbw)
      obtain ⟨b, o, m, rfl, hx, ⟨c0, c1, c2, c3, c4, c5⟩, hr⟩ := LnsAt.get hL j hlt
      have hbj := bil_at c.lines j _ hx
      rw [← hbj] at c4
      have hsz := HB.out.size
      rw [show (w.alloc (boxc c (.slice (some ⟨b, o, none⟩) c.lines.length k))).heap.size = w.heap.size + 1 from by simp] at hsz
      have HSZ := Lib.hid hsz
      clear hx hr hL hbj hbw hsz
      have HOP : Hid ((wr.alloc (.cells #[.int .i64 (bil c.lines j)] 2)).ownsRow (w.heap.size + 1) 2 1 (.slice la j lc) j (bils c.lines j)) := HO.out.alloc _
      go_wp2_with (at_builtin; refine wpList_append_own_at _ (by rfl) _ _ 100 (by rfl) (w.heap.size + 1) 2 i2 (.int .i64 0) 1 8 Tryz.underlying100 r1 r2 r3 r4 (by rfl) (by omega) (.slice la j lc) j (bils c.lines j) (by rfl) HOP.out ⟨wr.heap.size, 0, none⟩ 1 1 [.int .i64 (bil c.lines j)] (by rfl) (by rfl) (cell_one_new wr _ 2) ?c2 ?c3 ?c4 ?c5 ?_)
      case c2 => intro u hu; simp at hu; subst hu; rfl
      case c3 => simp only [maxLen]; omega
      case c4 => omega
      case c5 => have := HSZ.out; simp; omega
      intro v7 w7 hown hgrow hnil hat
      rw [← bils_snoc] at hown
      have HO7 := Lib.hid hown
      have HB7 : Hid (Below (w.heap.size + 1) (w.alloc (boxc c (.slice (some ⟨b, o, none⟩) c.lines.length k))) w7) := by
        have hs := HSZ.out
        exact (HB.out.alloc hs _).grown hgrow (by simp; omega) fun q hq => (HOP.out.lt q hq).1
      obtain ⟨va, vc, rfl⟩ := own_form hown
      clear hown hgrow hnil hat
      go_wp2
      go_roundg (c.lines.length - (j + 1))
      case rel => exact ⟨j + 1, by omega, rfl, by go_num, HB7.out, HO7.out⟩
      case measure => omega
    · have hjj : j = c.lines.length := by omega
      subst hjj
      have HS := Lib.hid (Ce.rsum_row la c.lines.length lc (bil c.lines) wr (by omega) (own_cells HO.out))
      have HV : Hid (totV c.lines = if Ce.sumE (bil c.lines) c.lines.length = 0 then Ce.sumV (bil c.lines) c.lines.length else 0) := rfl
      have HE : Hid (totE c.lines = if Ce.sumE (bil c.lines) c.lines.length = 0 then 0 else 8) := rfl
      generalize Ce.sumE (bil c.lines) c.lines.length = E at *
      generalize Ce.sumV (bil c.lines) c.lines.length = V at *
      by_cases he : E = 0
      · rw [if_pos he] at HV HE
        obtain rfl := he
        go_wp2_with (go_at_call 89; refine (HS.out).mono ?_; rintro e w' ⟨rfl, rfl⟩)
        go_ret2
        exact ⟨by rw [HV.out, HE.out]; rfl, HBW.out⟩
      · rw [if_neg he] at HV HE
        have hb : (E != 0) = true := by simpa using he
        go_wp2_with (go_at_call 89; refine (HS.out).mono ?_; rintro e w' ⟨rfl, rfl⟩)
        go_ret2
        exact ⟨by rw [HV.out, HE.out]; rfl, HBW.out⟩
end Go.Proofs.YtpmnepihaljamaaGreatDoor.Cm
end

/-
  What the reference's long and Good answer, as contracts over 'Below' (DRef has them over 'Grown').
-/
section
namespace Go.Proofs.YtpmnepihaljamaaGreatDoor.Da
open Go.RowKit

set_option maxHeartbeats 1000000 in
theorem long_b (y m : Int) (w : World) (h : 0 ≤ y) (h1 : 1 ≤ m) (h2 : m ≤ 12) :
    Calls Tryz.prog 146 #[.int .i64 y, .int .i64 m] w fun e w' => e = .returned (.int .i64 (lenM y m)) ∧ Below w.heap.size w w' := by
  rcases month_cases m h1 h2 with rfl | rfl | rfl | rfl | rfl | rfl | rfl | rfl | rfl | rfl | rfl | rfl
  case inr.inl =>
    cases b : leapB y
    · go_enter Tryz.func146, Tryz.ntmps146
      go_wp2_with (go_at_call 159; refine (rleap_any _ _ h).mono ?_; rintro e w' ⟨rfl, rfl⟩)
      go_ret
      exact ⟨by simp [lenM, b, lenT, lens], (Below.refl _ _).alloc (Nat.le_refl _) _⟩
    · go_enter Tryz.func146, Tryz.ntmps146
      go_wp2_with (go_at_call 159; refine (rleap_any _ _ h).mono ?_; rintro e w' ⟨rfl, rfl⟩)
      go_ret
      exact ⟨by simp [lenM, b], (Below.refl _ _).alloc (Nat.le_refl _) _⟩
  all_goals
    go_enter Tryz.func146, Tryz.ntmps146
    go_wp2
    go_ret
    exact ⟨rfl, (Below.refl _ _).alloc (Nat.le_refl _) _⟩

set_option maxHeartbeats 400000 in
theorem rgood_b (n : Int) (w : World) :
    Calls Tryz.prog 129 #[.int .i64 n] w fun e w' => e = .returned (.bool (good n)) ∧ Below w.heap.size w w' := by
  by_cases c1 : n < 10101
  · have g : good n = false := by
      cases g : good n
      · rfl
      · have := good_bd n g; omega
    rw [g]
    go_enter Tryz.func129, Tryz.ntmps129
    go_wp2
    go_ret
    exact ⟨rfl, Below.refl _ _⟩
  by_cases c2 : n > 99991231
  · have g : good n = false := by
      cases g : good n
      · rfl
      · have := good_bd n g; omega
    rw [g]
    go_enter Tryz.func129, Tryz.ntmps129
    go_wp2
    go_ret
    exact ⟨rfl, Below.refl _ _⟩
  have G := good_refn n (by omega) (by omega)
  by_cases c3 : n / 100 % 100 < 1
  · have g : good n = false := G (by omega)
    rw [g]
    clear G
    go_enter Tryz.func129, Tryz.ntmps129
    go_wp2
    go_ret
    exact ⟨rfl, Below.refl _ _⟩
  by_cases c4 : n / 100 % 100 > 12
  · have g : good n = false := G (by omega)
    rw [g]
    clear G
    go_enter Tryz.func129, Tryz.ntmps129
    go_wp2
    go_ret
    exact ⟨rfl, Below.refl _ _⟩
  by_cases c5 : n % 100 ≥ 1
  · by_cases c6 : n % 100 ≤ lenM (n / 10000) (n / 100 % 100)
    · have g : good n = true := (good_ref n (by omega) (by omega)).2 (by omega)
      have d6 : decide (n % 100 ≤ lenM (n / 10000) (n / 100 % 100)) = true := by simpa using c6
      rw [g]
      clear G
      go_enter Tryz.func129, Tryz.ntmps129
      go_wp2_with (go_at_call 146; refine (long_b _ _ _ (by omega) (by omega) (by omega)).mono ?_; rintro e w' ⟨rfl, hg⟩)
      go_ret
      exact ⟨rfl, hg⟩
    · have g : good n = false := G (by omega)
      have d6 : decide (n % 100 ≤ lenM (n / 10000) (n / 100 % 100)) = false := by simpa using c6
      rw [g]
      clear G
      go_enter Tryz.func129, Tryz.ntmps129
      go_wp2_with (go_at_call 146; refine (long_b _ _ _ (by omega) (by omega) (by omega)).mono ?_; rintro e w' ⟨rfl, hg⟩)
      go_ret
      exact ⟨rfl, hg⟩
  · have g : good n = false := G (by omega)
    rw [g]
    clear G
    go_enter Tryz.func129, Tryz.ntmps129
    go_wp2
    go_ret
    exact ⟨rfl, Below.refl _ _⟩

end Go.Proofs.YtpmnepihaljamaaGreatDoor.Da
end

/-
  What the reference's Line answers, as a contract: for every service.
-/
section
set_option linter.unusedSimpArgs false
namespace Go.Proofs.YtpmnepihaljamaaGreatDoor.Cm
open Go.RowKit

theorem bool_eq (b c : Bool) (h : b = true ↔ c = true) : b = c := Bool.eq_iff_iff.2 h
theorem money_ref (x : Ln) : moneyB x = (Ce.good x.billed && (decide (0 ≤ x.prior) && decide (x.prior ≤ x.billed))) := by
  unfold moneyB
  apply bool_eq
  simp only [Bool.and_eq_true, decide_eq_true_eq, Ce.good_iff]
  omega

/-- What is there of the modifiers behind some rounds. -/
def modsK (l : List Tx) (k : Nat) : Bool := (l.take k).all fun x => codeB x 2 2
theorem modsK_step (l : List Tx) (k : Nat) (c : Tx) (h : l[k]? = some c) (hk : modsK l k = true) : modsK l (k + 1) = codeB c 2 2 := by
  unfold modsK at *
  rw [List.take_add_one, h]; simp_all
theorem modsK_all (l : List Tx) (k : Nat) (h : l.length ≤ 4) (hk : l.length ≤ k) : modsB l = modsK l k := by
  unfold modsB modsK; rw [List.take_of_length_le hk, decide_eq_true h]; rfl
theorem modsK_not (l : List Tx) (k : Nat) (hk : modsK l k = false) : modsB l = false := by
  unfold modsK at hk
  have : (l.all fun x => codeB x 2 2) = false := by
    rw [List.all_eq_false] at hk ⊢
    obtain ⟨x, hx, hc⟩ := hk
    exact ⟨x, List.mem_of_mem_take hx, hc⟩
  unfold modsB; rw [this]; simp

set_option maxHeartbeats 2000000 in
theorem rline_any (x : Ln) (m : Value) (w : World) (hm : TxAt All w m x.mods) (hx : LnOk x) :
    Calls Tryz.prog 105 #[lnv x m] w fun e w' => e = .returned (.int .i64 (lineE x)) ∧ Below w.heap.size w w' := by
  obtain ⟨i1, i2, i3, i4, z1, z2, z3⟩ := hx
  have HC := Lib.hid fun w => rcode_any x.proc 5 5 w (by omega)
  have HM := Lib.hid hm
  have HZ := Lib.hid z3
  have HMO := Lib.hid fun o => TxAt.move hm (Below.moves (below_alloc w o))
  have HB := Lib.hid fun o => below_alloc w o
  have H9 := Lib.hid (@line9 x)
  have H7 := Lib.hid (@line7 x)
  have H3 := Lib.hid (@line3 x)
  have H8 := Lib.hid (@line8 x)
  have H0 := Lib.hid (@line0 x)
  obtain ⟨a, c, rfl, f1, f2⟩ := TxAt.form hm
  clear hm i1 i2 i3 i4 z1 z2 z3
  generalize hR : lineE x = R at *
  clear hR
  have HD := Lib.hid fun w => Da.rgood_b x.date w
  cases h1 : codeB x.proc 5 5
  · rw [h1] at HC
    rw [H9.out (by unfold codesB; rw [h1]; rfl)]
    clear h1
    clear H9 H7 H3 H8 H0
    go_enter Tryz.func105, Tryz.ntmps105
    go_wp2_with (go_at_call 72; refine (HC.out _).mono ?_; rintro e w' ⟨rfl, rfl⟩)
    go_loopg [3, 4] 1 (fun g ok i wr => g = 1 ∧ ok = .bool false ∧ i = .int .i64 0 ∧ wr = w.alloc (.cells #[.string (mk x.proc), .slice a x.mods.length c, .int .i64 x.date, .int .i64 x.units, .int .i64 x.billed, .int .i64 x.prior] 47))
    case atStart => exact ⟨rfl, rfl, rfl, rfl⟩
    case round =>
      obtain ⟨_, rfl, rfl, hw⟩ := hrel
      rw [hw]
      clear hw wr
      by_cases hlt : 0 < x.mods.length
      · go_wp2
        go_ret
        exact ⟨rfl, HB.out _⟩
      · have hlt' : ¬ (0 : Int) < (x.mods.length : Int) := by omega
        first
          | (exfalso; omega)
          | (go_wp2
             go_ret
             exact ⟨rfl, HB.out _⟩)

  rw [h1] at HC
  by_cases h4 : x.mods.length ≤ 4
  case neg =>
    have d4 : decide ((x.mods.length : Int) ≤ 4) = false := decide_eq_false (by omega)
    have h4' : ¬ (x.mods.length : Int) ≤ 4 := by omega
    rw [H9.out (by unfold codesB; rw [mods_many _ h4, Bool.and_false])]
    clear h1
    clear H9 H7 H3 H8 H0
    go_enter Tryz.func105, Tryz.ntmps105
    go_wp2_with (go_at_call 72; refine (HC.out _).mono ?_; rintro e w' ⟨rfl, rfl⟩)
    go_loopg [3, 4] 1 (fun g ok i wr => g = 1 ∧ ok = .bool false ∧ i = .int .i64 0 ∧ wr = w.alloc (.cells #[.string (mk x.proc), .slice a x.mods.length c, .int .i64 x.date, .int .i64 x.units, .int .i64 x.billed, .int .i64 x.prior] 47))
    case atStart => exact ⟨rfl, rfl, rfl, rfl⟩
    case round =>
      obtain ⟨_, rfl, rfl, hw⟩ := hrel
      rw [hw]
      clear hw wr
      by_cases hlt : 0 < x.mods.length
      · go_wp2
        go_ret
        exact ⟨rfl, HB.out _⟩
      · have hlt' : ¬ (0 : Int) < (x.mods.length : Int) := by omega
        first
          | (exfalso; omega)
          | (go_wp2
             go_ret
             exact ⟨rfl, HB.out _⟩)

  have d4 : decide ((x.mods.length : Int) ≤ 4) = true := decide_eq_true (by omega)
  have h4' : (x.mods.length : Int) ≤ 4 := by omega
  have HK := Lib.hid (modsK_step x.mods)
  have HA := Lib.hid (fun k => modsK_all x.mods k h4)
  have HN := Lib.hid (modsK_not x.mods)
  have HBX : Hid (∀ w', Below (w.alloc (.cells #[.string (mk x.proc), .slice a x.mods.length c, .int .i64 x.date, .int .i64 x.units, .int .i64 x.billed, .int .i64 x.prior] 47)).heap.size (w.alloc (.cells #[.string (mk x.proc), .slice a x.mods.length c, .int .i64 x.date, .int .i64 x.units, .int .i64 x.billed, .int .i64 x.prior] 47)) w' → LnBox w' w.heap.size x (.slice a x.mods.length c)) := fun w' hb => (LnBox.new w x _ _).grw hb
  unfold codesB at H9 H7 H3 H8 H0
  rw [h1, Bool.true_and] at H9 H7 H3 H8 H0
  clear h1
  go_enter Tryz.func105, Tryz.ntmps105
  go_wp2_with (go_at_call 72; refine (HC.out _).mono ?_; rintro e w' ⟨rfl, rfl⟩)
  go_loopg [3, 4] (x.mods.length + 1) (fun g ok i wr => ∃ k : Nat, ∃ b : Bool, k ≤ x.mods.length ∧ g = x.mods.length + 1 - k ∧ i = .int .i64 k ∧ ok = .bool b ∧ Hid (modsK x.mods k = b) ∧ wr = w.alloc (.cells #[.string (mk x.proc), .slice a x.mods.length c, .int .i64 x.date, .int .i64 x.units, .int .i64 x.billed, .int .i64 x.prior] 47))
  case atStart => exact ⟨0, true, Nat.zero_le _, rfl, rfl, rfl, rfl, rfl⟩
  case round =>
    obtain ⟨k, b, hk, hg, rfl, rfl, HQ, hw⟩ := hrel
    rw [hw]
    clear hw wr
    cases b
    · have HE := Lib.hid (H9.out (HN.out k HQ.out))
      clear H9 H7 H3 H8 H0
      by_cases hlt : k < x.mods.length
      · go_wp2
        go_ret
        exact ⟨by rw [HE.out]; rfl, HB.out _⟩
      · have hlt' : ¬ (k : Int) < (x.mods.length : Int) := by omega
        go_wp2
        go_ret
        exact ⟨by rw [HE.out]; rfl, HB.out _⟩
    by_cases hlt : k < x.mods.length
    · obtain ⟨b, o, rfl, hx, hu⟩ := tx_get (HMO.out (.cells #[.string (mk x.proc), .slice a x.mods.length c, .int .i64 x.date, .int .i64 x.units, .int .i64 x.billed, .int .i64 x.prior] 47)) k hlt
      have hq := HZ.out _ (List.mem_of_getElem? hx)
      have hne : b ≠ w.heap.size := by
        obtain ⟨b', o', e, -, hu'⟩ := tx_get HM.out k hlt
        have hl := World.block_lt_of_cell? w _ hu'
        injection e with e
        injection e with e1 e2
        subst e1
        exact Nat.ne_of_lt hl
      have HC2 := Lib.hid fun w => rcode_any x.mods[k] 2 2 w (by omega)
      have HQ2 := Lib.hid (HK.out k _ hx HQ.out)
      clear hq hx
      obtain ⟨B, hB⟩ : ∃ B, B = codeB x.mods[k] 2 2 := ⟨_, rfl⟩
      rw [← hB] at HC2 HQ2
      clear hB
      go_wp2_with (go_at_call 72; refine (HC2.out _).mono ?_; rintro e w' ⟨rfl, rfl⟩)
      go_roundg (x.mods.length + 1 - (k + 1))
      case rel => exact ⟨k + 1, B, by omega, rfl, by go_num, rfl, HQ2.out, rfl⟩
      case measure => omega
    · have hlt' : ¬ (k : Int) < (x.mods.length : Int) := by omega
      have hcd : modsB x.mods = true := (HA.out k (by omega)).trans HQ.out
      cases h3 : Da.good x.date
      · rw [h3] at HD
        have HE := Lib.hid (H7.out hcd h3)
        clear hcd h3 H9 H7 H3 H8 H0
        go_wp2_with (first | (go_at_call 129; refine (HD.out _).mono ?_; rintro e w1 ⟨rfl, hb⟩; obtain ⟨b0, b1, b2, b3, b4, b5⟩ := HBX.out _ hb; have hb2 := Lib.hid hb; clear hb))
        go_ret
        exact ⟨by rw [HE.out]; rfl, below_trans (HB.out _) hb2.out⟩
      rw [h3] at HD
      by_cases h5 : x.units < 1
      · have d5 : decide (x.units < 1) = true := decide_eq_true h5
        have HE := Lib.hid (H3.out hcd h3 (by unfold unitsB; rw [decide_eq_false (by omega)]; rfl))
        clear hcd h3 H9 H7 H3 H8 H0
        go_wp2_with (first | (go_at_call 129; refine (HD.out _).mono ?_; rintro e w1 ⟨rfl, hb⟩; obtain ⟨b0, b1, b2, b3, b4, b5⟩ := HBX.out _ hb; have hb2 := Lib.hid hb; clear hb))
        go_ret
        exact ⟨by rw [HE.out]; rfl, below_trans (HB.out _) hb2.out⟩
      have d5 : decide (x.units < 1) = false := decide_eq_false h5
      by_cases h6 : 9999 < x.units
      · have d6 : decide (9999 < x.units) = true := decide_eq_true h6
        have HE := Lib.hid (H3.out hcd h3 (by unfold unitsB; rw [decide_eq_false (p := x.units ≤ 9999) (by omega), Bool.and_false]))
        clear hcd h3 H9 H7 H3 H8 H0
        go_wp2_with (first | (go_at_call 129; refine (HD.out _).mono ?_; rintro e w1 ⟨rfl, hb⟩; obtain ⟨b0, b1, b2, b3, b4, b5⟩ := HBX.out _ hb; have hb2 := Lib.hid hb; clear hb))
        go_ret
        exact ⟨by rw [HE.out]; rfl, below_trans (HB.out _) hb2.out⟩
      have d6 : decide (9999 < x.units) = false := decide_eq_false h6
      have hu : unitsB x.units = true := by unfold unitsB; rw [decide_eq_true (by omega), decide_eq_true (by omega)]; rfl
      rw [money_ref] at H8 H0
      cases h7 : Ce.good x.billed
      · have HE := Lib.hid (H8.out hcd h3 hu (by rw [h7]; rfl))
        clear hcd h3 hu H9 H7 H3 H8 H0
        go_wp2_with (first | (go_at_call 129; refine (HD.out _).mono ?_; rintro e w1 ⟨rfl, hb⟩; obtain ⟨b0, b1, b2, b3, b4, b5⟩ := HBX.out _ hb; have hb2 := Lib.hid hb; clear hb) | (go_at_call 118; refine (Ce.rgood_any _ _).mono ?_; rintro e w2 ⟨rfl, rfl⟩))
        go_ret
        exact ⟨by rw [HE.out]; rfl, below_trans (HB.out _) hb2.out⟩
      by_cases h8 : x.prior < 0
      · have d8 : decide (x.prior < 0) = true := decide_eq_true h8
        have HE := Lib.hid (H8.out hcd h3 hu (by rw [h7, decide_eq_false (p := 0 ≤ x.prior) (by omega)]; rfl))
        clear hcd h3 hu H9 H7 H3 H8 H0
        go_wp2_with (first | (go_at_call 129; refine (HD.out _).mono ?_; rintro e w1 ⟨rfl, hb⟩; obtain ⟨b0, b1, b2, b3, b4, b5⟩ := HBX.out _ hb; have hb2 := Lib.hid hb; clear hb) | (go_at_call 118; refine (Ce.rgood_any _ _).mono ?_; rintro e w2 ⟨rfl, rfl⟩))
        go_ret
        exact ⟨by rw [HE.out]; rfl, below_trans (HB.out _) hb2.out⟩
      have d8 : decide (x.prior < 0) = false := decide_eq_false h8
      by_cases h9 : x.billed < x.prior
      · have d9 : decide (x.billed < x.prior) = true := decide_eq_true h9
        have HE := Lib.hid (H8.out hcd h3 hu (by rw [decide_eq_false (p := x.prior ≤ x.billed) (by omega), Bool.and_false, Bool.and_false]))
        clear hcd h3 hu H9 H7 H3 H8 H0
        go_wp2_with (first | (go_at_call 129; refine (HD.out _).mono ?_; rintro e w1 ⟨rfl, hb⟩; obtain ⟨b0, b1, b2, b3, b4, b5⟩ := HBX.out _ hb; have hb2 := Lib.hid hb; clear hb) | (go_at_call 118; refine (Ce.rgood_any _ _).mono ?_; rintro e w2 ⟨rfl, rfl⟩))
        go_ret
        exact ⟨by rw [HE.out]; rfl, below_trans (HB.out _) hb2.out⟩
      have d9 : decide (x.billed < x.prior) = false := decide_eq_false h9
      have HE := Lib.hid (H0.out hcd h3 hu (by rw [h7, decide_eq_true (p := 0 ≤ x.prior) (by omega), decide_eq_true (p := x.prior ≤ x.billed) (by omega)]; rfl))
      clear hcd h3 hu H9 H7 H3 H8 H0
      go_wp2_with (first | (go_at_call 129; refine (HD.out _).mono ?_; rintro e w1 ⟨rfl, hb⟩; obtain ⟨b0, b1, b2, b3, b4, b5⟩ := HBX.out _ hb; have hb2 := Lib.hid hb; clear hb) | (go_at_call 118; refine (Ce.rgood_any _ _).mono ?_; rintro e w2 ⟨rfl, rfl⟩))
      go_ret
      exact ⟨by rw [HE.out]; rfl, below_trans (HB.out _) hb2.out⟩
end Go.Proofs.YtpmnepihaljamaaGreatDoor.Cm
end

/-
  What the reference's lines, Check and Batch answer, as contracts.
-/
section
set_option linter.unusedSimpArgs false
namespace Go.Proofs.YtpmnepihaljamaaGreatDoor.Cm
open Go.RowKit

/-- What the reference's lines answers: the services' error, or Total's. -/
def tailE (ls : List Ln) : Int := if linesE ls = 0 then totE ls else linesE ls
theorem tail_bad {ls : List Ln} (h : linesE ls ≠ 0) : tailE ls = linesE ls := by unfold tailE; rw [if_neg h]
theorem tail_ok {ls : List Ln} (h : linesE ls = 0) : tailE ls = totE ls := by unfold tailE; rw [if_pos h]

set_option maxHeartbeats 2000000 in
theorem rlines_any (c : Cl) (m : Value) (w : World) (hm : LnsAt All w m c.lines) (hz : ∀ x ∈ c.lines, LnOk x) (hl : c.lines.length ≤ 1000000) :
    Calls Tryz.prog 73 #[clv c m] w fun e w' => e = .returned (.int .i64 (tailE c.lines)) ∧ Below w.heap.size w w' := by
  have HV := Lib.hid hm
  have HZ := Lib.hid hz
  have HBX : Hid (∀ w', Below (w.alloc (boxc c m)).heap.size (w.alloc (boxc c m)) w' → ClBox w' w.heap.size c m ∧ Below w.heap.size w w') := fun w' hb => ⟨(ClBox.new w c m _).grw hb, below_trans (below_alloc w _) hb⟩
  have HTT := Lib.hid fun w' (hb : Below w.heap.size w w') => rtotal_any c m w' (LnsAt.move hm (Below.moves hb)) hl
  obtain ⟨a, kc, rfl, h1, h2⟩ := LnsAt.form hm
  clear hm hz hl
  obtain ⟨y, hy⟩ : ∃ y, y = Da.yr (c.lines.getD 0 ln0).date := ⟨_, rfl⟩
  have HBAD : Hid (firstE y c.lines ≠ 0 → tailE c.lines = firstE y c.lines) := fun h => by rw [hy] at h ⊢; exact tail_bad h
  have HOK : Hid (firstE y c.lines = 0 → tailE c.lines = totE c.lines) := fun h => by rw [hy] at h; exact tail_ok h
  have HY := Lib.hid hy
  clear hy
  generalize tailE c.lines = R at *
  generalize totE c.lines = TE at *
  generalize totV c.lines = TV at *
  go_enter Tryz.func73, Tryz.ntmps73
  go_wp2
  go_loopg [3] (c.lines.length) (fun g i wr => ∃ k : Nat, k ≤ c.lines.length ∧ g = c.lines.length - k ∧ i = .int .i64 k ∧ Hid (Below (w.alloc (boxc c (.slice a c.lines.length kc))).heap.size (w.alloc (boxc c (.slice a c.lines.length kc))) wr) ∧ Hid (firstE y (c.lines.drop k) = firstE y c.lines))
  case atStart => exact ⟨0, Nat.zero_le _, rfl, rfl, Below.refl _ _, by rfl⟩
  case round =>
    obtain ⟨k, hk, hg, rfl, HB, HF⟩ := hrel
    obtain ⟨⟨x0, x1, x2, x3, x4, x5, x6⟩, hbw⟩ := HBX.out _ HB.out
    have HBW := Lib.hid hbw
    by_cases hlt : k < c.lines.length
    · have hL := LnsAt.move HV.out (Below.moves hbw)
      have hpos : 0 < c.lines.length := by omega
      obtain ⟨b, o, m, rfl, hx, hc, hr⟩ := LnsAt.get hL k hlt
      obtain ⟨b', o', m0, e0, hx0, hc0, -⟩ := LnsAt.get hL 0 hpos
      injection e0 with e0
      injection e0 with e1 e2
      subst e1 e2
      have hzk := HZ.out _ (List.mem_of_getElem? hx)
      have hz0 := HZ.out _ (List.mem_of_getElem? hx0)
      have HC := Lib.hid (rline_any c.lines[k] m wr hr hzk)
      have HX : Hid (∀ w1, Below wr.heap.size wr w1 → w1.cell? ⟨b, o + k * 6 + 2, none⟩ = some (.int .i64 c.lines[k].date) ∧ w1.cell? ⟨b, o + 2, none⟩ = some (.int .i64 c.lines[0].date) ∧ ClBox w1 w.heap.size c (.slice (some ⟨b, o, none⟩) c.lines.length kc)) := fun w1 hb => by
        have hbl := World.block_lt_of_cell? wr _ hc.1
        refine ⟨(hc.of (hb.block _ hbl)).2.2.1, ?_, (HBX.out _ (below_trans HB.out hb)).1⟩
        have := (hc0.of (hb.block _ hbl)).2.2.1
        simpa using this
      obtain ⟨c0, c1, c2, c3, c4, c5⟩ := hc
      obtain ⟨am, cm, rfl, -, -⟩ := TxAt.form hr
      have HFB := Lib.hid (firstE_bad y c.lines k _ hx HF.out)
      have HYR := Lib.hid (firstE_yr y c.lines k _ hx HF.out)
      have HST := Lib.hid (firstE_step y c.lines k _ hx HF.out)
      by_cases he : lineE c.lines[k] = 0
      · have hy0 : y = Da.yr c.lines[0].date := by rw [HY.out, List.getD_eq_getElem?_getD, hx0]; rfl
        obtain ⟨q1, q2⟩ := Da.quo_bd c.lines[k].date 10000 hzk.1.1 hzk.1.2 (by omega)
        obtain ⟨q3, q4⟩ := Da.quo_bd c.lines[0].date 10000 hz0.1.1 hz0.1.2 (by omega)
        rw [he] at HC
        clear hx hx0 hr hL hzk hz0 hc0 HFB hbw
        by_cases hyy : Da.yr c.lines[k].date = y
        · have HQ := Lib.hid (HST.out he hyy)
          have hbe : (c.lines[k].date.tdiv 10000 != c.lines[0].date.tdiv 10000) = false := by
            rw [hy0] at hyy
            unfold Da.yr at hyy
            rw [hyy]; simp
          clear hyy he hy0
          go_wp2_with (first | (go_at_call 105; refine (HC.out).mono ?_; rintro e w1 ⟨rfl, hb⟩; obtain ⟨n1, n2, g0, g1, g2, g3, g4, g5, g6⟩ := HX.out _ hb; have HB2 := Lib.hid (below_trans HB.out hb); clear hb))
          go_quiet (fail)
          go_wp2
          go_roundg (c.lines.length - (k + 1))
          case rel => exact ⟨k + 1, by omega, rfl, by go_num, below_trans HB2.out (below_drewq ⟨_, rfl⟩), HQ.out⟩
          case measure => omega
        · have HQ := Lib.hid (HYR.out he hyy)
          have HQ2 := Lib.hid (HBAD.out (by rw [HQ.out]; omega))
          have hbe : (c.lines[k].date.tdiv 10000 != c.lines[0].date.tdiv 10000) = true := by
            rw [hy0] at hyy
            unfold Da.yr at hyy
            simpa using hyy
          clear hyy he hy0
          go_wp2_with (first | (go_at_call 105; refine (HC.out).mono ?_; rintro e w1 ⟨rfl, hb⟩; obtain ⟨n1, n2, g0, g1, g2, g3, g4, g5, g6⟩ := HX.out _ hb; have HB2 := Lib.hid (below_trans HBW.out hb); clear hb))
          go_quiet (fail)
          go_wp2
          go_ret
          exact ⟨by rw [HQ2.out, HQ.out]; rfl, below_trans HB2.out (below_drewq ⟨_, rfl⟩)⟩
      · have HQ := Lib.hid (HFB.out he)
        have HQ2 := Lib.hid (HBAD.out (by rw [HQ.out]; exact he))
        have hbe : (lineE c.lines[k] != 0) = true := by simpa using he
        clear hx hx0 hr hL hzk hz0 hc0 HFB he HX hbw
        go_wp2_with (first | (go_at_call 105; refine (HC.out).mono ?_; rintro e w1 ⟨rfl, hb⟩; have HB2 := Lib.hid (below_trans HBW.out hb); clear hb))
        go_ret
        exact ⟨by rw [HQ2.out, HQ.out]; rfl, HB2.out⟩
    · have HQ := Lib.hid (HOK.out (firstE_end y c.lines k (by omega) HF.out))
      clear hbw
      go_wp2_with (first | (go_at_call 53; refine (HTT.out _ HBW.out).mono ?_; rintro e w1 ⟨rfl, hb⟩; have HB2 := Lib.hid (below_trans HBW.out hb); clear hb))
      go_ret
      exact ⟨by rw [HQ.out]; rfl, HB2.out⟩
end Go.Proofs.YtpmnepihaljamaaGreatDoor.Cm
end
