/-
  Texts put together (merge.py): DRef, LLine, LLines, LHead, CSums, LTot, LCheck, LRTot.
-/
import Derived.RowKit3
import Derived.Deep.OwnRows
import Derived.Maps.AppendAt
import Derived.Test.YtpnkgkchpoehcaaMb8
import Derived.Test.YtpnkgkchpoehcaaMb11
import Derived.Test.YtpnkgkchpoehcaaMb1
/-
  What the reference's leap, long and Good answer, as contracts. long lays a new table each time: the world grows.
-/
section
namespace Go.Proofs.Ytpnkgkchpoehcaa.Da
open Go.RowKit

theorem grown_trans {a b c : World} (h : Grown a b) (k : Grown b c) : Grown a c :=
  ⟨World.keptBut_trans h.1 (World.keptBut_mono (fun _ f => f.elim) k.1), fun x => (k.2.1 x).trans (h.2.1 x), Nat.le_trans h.2.2 k.2.2⟩
theorem rleap_any (y : Int) (w : World) (h : 0 ≤ y) :
    Calls Try.prog 50 #[.int .i64 y] w fun e w' => e = .returned (.bool (leapB y)) ∧ w' = w := by
  cases h3 : (y % 400 == 0)
  · cases h2 : (y % 100 == 0)
    · have e : leapB y = (y % 4 == 0) := by simp [leapB, h3, bne, h2]
      go_enter Try.func50, Try.ntmps50
      go_wp2
      go_ret
      exact ⟨by rw [e]; rfl, rfl⟩
    · have e : leapB y = false := by simp [leapB, h3, bne, h2]
      go_enter Try.func50, Try.ntmps50
      go_wp2
      go_ret
      exact ⟨by rw [e]; rfl, rfl⟩
  · have e : leapB y = true := by simp [leapB, h3]
    go_enter Try.func50, Try.ntmps50
    go_wp2
    go_ret
    exact ⟨by rw [e]; rfl, rfl⟩

set_option maxHeartbeats 1000000 in
theorem long_any (y m : Int) (w : World) (h : 0 ≤ y) (h1 : 1 ≤ m) (h2 : m ≤ 12) :
    Calls Try.prog 49 #[.int .i64 y, .int .i64 m] w fun e w' => e = .returned (.int .i64 (lenM y m)) ∧ Grown w w' := by
  rcases month_cases m h1 h2 with rfl | rfl | rfl | rfl | rfl | rfl | rfl | rfl | rfl | rfl | rfl | rfl
  case inr.inl =>
    cases b : leapB y
    · go_enter Try.func49, Try.ntmps49
      go_wp2_with (go_at_call 50; refine (rleap_any _ _ h).mono ?_; rintro e w' ⟨rfl, rfl⟩)
      go_ret
      exact ⟨by simp [lenM, b, lenT, lens], (Grown.refl _).alloc _ _⟩
    · go_enter Try.func49, Try.ntmps49
      go_wp2_with (go_at_call 50; refine (rleap_any _ _ h).mono ?_; rintro e w' ⟨rfl, rfl⟩)
      go_ret
      exact ⟨by simp [lenM, b], (Grown.refl _).alloc _ _⟩
  all_goals
    go_enter Try.func49, Try.ntmps49
    go_wp2
    go_ret
    exact ⟨rfl, (Grown.refl _).alloc _ _⟩

theorem good_ref (n : Int) (h1 : 10101 ≤ n) (h2 : n ≤ 99991231) : good n = true ↔ (1 ≤ n / 100 % 100 ∧ n / 100 % 100 ≤ 12 ∧ 1 ≤ n % 100 ∧ n % 100 ≤ lenM (n / 10000) (n / 100 % 100)) := by
  rw [good_iff, yr_eq n (by omega), mo_eq n (by omega), da_eq n (by omega)]
  constructor
  · exact fun h => h.2.2
  · exact fun h => ⟨by omega, by omega, h⟩
theorem good_refn (n : Int) (h1 : 10101 ≤ n) (h2 : n ≤ 99991231) (h : ¬ (1 ≤ n / 100 % 100 ∧ n / 100 % 100 ≤ 12 ∧ 1 ≤ n % 100 ∧ n % 100 ≤ lenM (n / 10000) (n / 100 % 100))) : good n = false := by
  rw [← good_ref n h1 h2] at h
  simpa using h

set_option maxHeartbeats 400000 in
theorem rgood_any (n : Int) (w : World) :
    Calls Try.prog 47 #[.int .i64 n] w fun e w' => e = .returned (.bool (good n)) ∧ Grown w w' := by
  by_cases c1 : n < 10101
  · have g : good n = false := by
      cases g : good n
      · rfl
      · have := good_bd n g; omega
    rw [g]
    go_enter Try.func47, Try.ntmps47
    go_wp2
    go_ret
    exact ⟨rfl, Grown.refl _⟩
  by_cases c2 : n > 99991231
  · have g : good n = false := by
      cases g : good n
      · rfl
      · have := good_bd n g; omega
    rw [g]
    go_enter Try.func47, Try.ntmps47
    go_wp2
    go_ret
    exact ⟨rfl, Grown.refl _⟩
  have G := good_refn n (by omega) (by omega)
  by_cases c3 : n / 100 % 100 < 1
  · have g : good n = false := G (by omega)
    rw [g]
    clear G
    go_enter Try.func47, Try.ntmps47
    go_wp2
    go_ret
    exact ⟨rfl, Grown.refl _⟩
  by_cases c4 : n / 100 % 100 > 12
  · have g : good n = false := G (by omega)
    rw [g]
    clear G
    go_enter Try.func47, Try.ntmps47
    go_wp2
    go_ret
    exact ⟨rfl, Grown.refl _⟩
  by_cases c5 : n % 100 ≥ 1
  · by_cases c6 : n % 100 ≤ lenM (n / 10000) (n / 100 % 100)
    · have g : good n = true := (good_ref n (by omega) (by omega)).2 (by omega)
      have d6 : decide (n % 100 ≤ lenM (n / 10000) (n / 100 % 100)) = true := by simpa using c6
      rw [g]
      clear G
      go_enter Try.func47, Try.ntmps47
      go_wp2_with (go_at_call 49; refine (long_any _ _ _ (by omega) (by omega) (by omega)).mono ?_; rintro e w' ⟨rfl, hg⟩)
      go_ret
      exact ⟨rfl, hg⟩
    · have g : good n = false := G (by omega)
      have d6 : decide (n % 100 ≤ lenM (n / 10000) (n / 100 % 100)) = false := by simpa using c6
      rw [g]
      clear G
      go_enter Try.func47, Try.ntmps47
      go_wp2_with (go_at_call 49; refine (long_any _ _ _ (by omega) (by omega) (by omega)).mono ?_; rintro e w' ⟨rfl, hg⟩)
      go_ret
      exact ⟨rfl, hg⟩
  · have g : good n = false := G (by omega)
    rw [g]
    clear G
    go_enter Try.func47, Try.ntmps47
    go_wp2
    go_ret
    exact ⟨rfl, Grown.refl _⟩

end Go.Proofs.Ytpnkgkchpoehcaa.Da
end

/-
  What claim.Line and the reference's Line answer, as contracts: for every service.
-/
section
set_option linter.unusedSimpArgs false
namespace Go.Proofs.Ytpnkgkchpoehcaa.Cm
open Go.RowKit

theorem line9 {x : Ln} (h : codesB x = false) : lineE x = 9 := by simp [lineE, h]
theorem line7 {x : Ln} (h : codesB x = true) (h1 : Da.good x.date = false) : lineE x = 7 := by simp [lineE, h, h1]
theorem line3 {x : Ln} (h : codesB x = true) (h1 : Da.good x.date = true) (h2 : unitsB x.units = false) : lineE x = 3 := by simp [lineE, h, h1, h2]
theorem line8 {x : Ln} (h : codesB x = true) (h1 : Da.good x.date = true) (h2 : unitsB x.units = true) (h3 : moneyB x = false) : lineE x = 8 := by simp [lineE, h, h1, h2, h3]
theorem line0 {x : Ln} (h : codesB x = true) (h1 : Da.good x.date = true) (h2 : unitsB x.units = true) (h3 : moneyB x = true) : lineE x = 0 := by simp [lineE, h, h1, h2, h3]

end Go.Proofs.Ytpnkgkchpoehcaa.Cm
end

/-
  What claim.lines answers, as a contract: the first service's error that may not be beside those ahead of it.
-/
section
set_option linter.unusedSimpArgs false
namespace Go.Proofs.Ytpnkgkchpoehcaa.Cm
open Go.RowKit

theorem yearV_good {n : Int} (h : Da.good n = true) : Da.yearV n = Da.yr n := by simp [Da.yearV, h]

end Go.Proofs.Ytpnkgkchpoehcaa.Cm
end

/-
  What claim.ref and head answer, as contracts: for every claim; services are not looked at.
-/
section
set_option linter.unusedSimpArgs false
namespace Go.Proofs.Ytpnkgkchpoehcaa.Cm
open Go.RowKit

theorem mk_empty (s : Tx) : (mk s).toList.isEmpty = decide (s = []) := by
  rw [Lib.toList_data, mk_list]
  rw [Bool.eq_iff_iff]
  simp

theorem head9 {x : Cl} (h : namesB x = false) : headE x = 9 := by simp [headE, h]
theorem head3 {x : Cl} (h : namesB x = true) (h1 : netB x.net = false) : headE x = 3 := by simp [headE, h, h1]
theorem head9' {x : Cl} (h : namesB x = true) (h1 : netB x.net = true) (h2 : refB x = false) : headE x = 9 := by simp [headE, h, h1, h2]
theorem head3' {x : Cl} (h : namesB x = true) (h1 : netB x.net = true) (h2 : refB x = true) (h3 : doesB x.does = false) : headE x = 3 := by simp [headE, h, h1, h2, h3]
theorem head0 {x : Cl} (h : namesB x = true) (h1 : netB x.net = true) (h2 : refB x = true) (h3 : doesB x.does = true) : headE x = 0 := by simp [headE, h, h1, h2, h3]
def ClShort (c : Cl) : Prop := c.id.length ≤ 281474976710656 ∧ c.mem.length ≤ 281474976710656 ∧ c.fam.length ≤ 281474976710656 ∧ c.ref.length ≤ 281474976710656
theorem ClOk.short {c : Cl} (h : ClOk c) : ClShort c := ⟨h.2.2.1, h.2.2.2.1, h.2.2.2.2.1, h.2.2.2.2.2.1⟩

end Go.Proofs.Ytpnkgkchpoehcaa.Cm
end

/-
  What cents.Sum and its reference answer, as contracts: for every list of int64.
-/
section
namespace Go.Proofs.Ytpnkgkchpoehcaa.Ce
open Go.RowKit

set_option maxHeartbeats 400000 in
theorem rsum_row (a : Option Addr) (len cap : Nat) (f : Nat → Int) (w : World) (hm : len ≤ 9223372036854775807) (hc : ∀ i, i < len → ∃ b off, a = some ⟨b, off, none⟩ ∧ w.cell? ⟨b, off + i, none⟩ = some (.int .i64 (f i))) :
    Calls Try.prog 48 #[.slice a len cap] w fun e w' => e = .returned (.tuple #[.int .i64 (sumV f len), .int .i64 (sumE f len)]) ∧ w' = w := by
  go_enter Try.func48, Try.ntmps48
  go_wp2
  go_loop [4] (fun i => ∃ k : Nat, k ≤ len ∧ i = .int .i64 k ∧ Hid (allG f k = true)) (fun i => len - (intOf i).toNat)
  case atStart => exact ⟨0, Nat.zero_le _, rfl, rfl⟩
  case round =>
    obtain ⟨k, hk, rfl, hg⟩ := hrel
    by_cases hlt : k < len
    · obtain ⟨b, off, rfl, hcell⟩ := hc k hlt
      cases gk : good (f k)
      · go_wp2_with (go_at_call 41; refine (rgood_any _ _).mono ?_; rintro e w' ⟨rfl, rfl⟩)
        go_ret2
        have g := allG_not f len k hlt gk
        exact ⟨by rw [(sum_arg f len g).1, (sum_arg f len g).2]; rfl, rfl⟩
      · go_wp2_with (go_at_call 41; refine (rgood_any _ _).mono ?_; rintro e w' ⟨rfl, rfl⟩)
        go_round
        case rel => exact ⟨k + 1, by omega, by go_num, allG_more f k hg.out gk⟩
        case measure => simp [intOf]; omega
    · have : k = len := by omega
      subst this
      have g := hg.out
      clear hg
      go_wp2
      go_loop [5, 6] (fun t i => ∃ j : Nat, j ≤ k ∧ i = .int .i64 j ∧ t = .int .i64 (tot f j) ∧ tot f j ≤ 10000000000000) (fun _ i => k - (intOf i).toNat)
      case atStart => exact ⟨0, Nat.zero_le _, rfl, rfl, by simp [tot]⟩
      case round =>
        obtain ⟨j, hj, rfl, rfl, ht⟩ := hrel
        have t0 := tot_nonneg f k g j hj
        by_cases hlt : j < k
        · obtain ⟨b, off, rfl, hcell⟩ := hc j hlt
          have gk := allG_at f k j hlt g
          obtain ⟨f0, f1⟩ := (good_iff _).1 gk
          by_cases ho : 10000000000000 < tot f j + f j
          · go_wp2
            go_ret2
            exact ⟨by rw [(sum_over f k j g hlt ho).1, (sum_over f k j g hlt ho).2]; rfl, rfl⟩
          · go_wp2
            go_round
            case rel => exact ⟨j + 1, by omega, by go_num, rfl, by simp only [tot]; omega⟩
            case measure => simp [intOf]; omega
        · have : j = k := by omega
          subst this
          go_wp2
          go_ret2
          exact ⟨by rw [(sum_end f j g ht).1, (sum_end f j g ht).2]; rfl, rfl⟩

end Go.Proofs.Ytpnkgkchpoehcaa.Ce
end

/-
  What claim.Total answers, as a contract.
-/
section
set_option linter.unusedSimpArgs false
namespace Go.Proofs.Ytpnkgkchpoehcaa.Cm
open Go.RowKit
theorem info2 : (Try.prog.info? 2).map (fun i => (i.zero, i.size, i.bytes)) = some (some (.int .i64 0), 1, 8) := by kernel_rfl

end Go.Proofs.Ytpnkgkchpoehcaa.Cm
end

/-
  What claim.Check and Batch answer, as contracts.
-/
section
set_option linter.unusedSimpArgs false
namespace Go.Proofs.Ytpnkgkchpoehcaa.Cm
open Go.RowKit

abbrev boxc (c : Cl) (m : Value) : Obj := .cells #[.string (mk c.id), .string (mk c.mem), .string (mk c.fam), .int .i64 c.net, .int .i64 c.does, .string (mk c.ref), m] 24
theorem slice_of {m : Value} {a : Option Addr} {n c : Nat} (h : m = .slice a n c) : ∃ a n k, m = .slice a n k := ⟨a, n, c, h⟩
theorem rest10 {c : Cl} (h : ¬ c.lines.length ≤ 999) : restE c = 10 := by unfold restE; rw [if_neg h]
theorem rest6 {c : Cl} (h : c.lines.length ≤ 999) (h1 : voidB c = false) : restE c = 6 := by unfold restE; rw [if_pos h, h1]; simp
theorem restL {c : Cl} (h : c.lines.length ≤ 999) (h1 : voidB c = true) (h2 : linesE c.lines ≠ 0) : restE c = linesE c.lines := by unfold restE; rw [if_pos h, if_pos h1, if_neg h2]
theorem restT {c : Cl} (h : c.lines.length ≤ 999) (h1 : voidB c = true) (h2 : linesE c.lines = 0) : restE c = totE c.lines := by unfold restE; rw [if_pos h, if_pos h1, if_pos h2]

/-- A batch in a box. -/
def BtBox (w : World) (b : Nat) (n : Int) (m : Value) : Prop := w.cell? ⟨b, 0, none⟩ = some (.int .i64 n) ∧ w.cell? ⟨b, 1, none⟩ = some m
abbrev btv (n : Int) (m : Value) : Value := .agg #[.int .i64 n, m]
end Go.Proofs.Ytpnkgkchpoehcaa.Cm
end

/-
  What the reference's Total answers, as a contract.
-/
section
set_option linter.unusedSimpArgs false
namespace Go.Proofs.Ytpnkgkchpoehcaa.Cm
open Go.RowKit

theorem own_form {w : World} {B : Nat} {e : TypeId} {v : Value} {n : Nat} {xs : List Value} (h : w.ownsRow B e 1 v n xs) : ∃ a c, v = .slice a n c := by
  rcases h.2 with ⟨rfl, rfl⟩ | ⟨g, c, cur, rfl, _⟩
  · exact ⟨_, _, rfl⟩
  · exact ⟨_, _, rfl⟩
theorem infoI : ∃ i, Try.prog.info? 2 = some i ∧ i.zero = some (.int .i64 0) ∧ i.size = 1 ∧ i.bytes = 8 := by
  have hi := info2
  cases hq : Try.prog.info? 2 with
  | none => rw [hq] at hi; cases hi
  | some i =>
    rw [hq] at hi
    simp only [Option.map_some, Option.some.injEq, Prod.mk.injEq] at hi
    exact ⟨i, rfl, hi⟩
def bils (ls : List Ln) (j : Nat) : List Value := (List.range j).map fun q => .int .i64 (bil ls q)
theorem bils_snoc (ls : List Ln) (j : Nat) : bils ls (j + 1) = bils ls j ++ [.int .i64 (bil ls j)] := by unfold bils; rw [List.range_succ, List.map_append]; rfl
theorem own_cells {w : World} {B : Nat} {e : TypeId} {a : Option Addr} {n c : Nat} {ls : List Ln} (h : w.ownsRow B e 1 (.slice a n c) n (bils ls n)) : ∀ i, i < n → ∃ b off, a = some ⟨b, off, none⟩ ∧ w.cell? ⟨b, off + i, none⟩ = some (.int .i64 (bil ls i)) := by
  intro i hi
  rcases h.2 with ⟨_, rfl⟩ | ⟨g, cap, cur, he, _, hg, h1, h2, hs, ht⟩
  · omega
  · injection he with e1 e2 e3
    subst e1
    refine ⟨g, 0, rfl, ?_⟩
    rw [Nat.zero_add, cell_of_row w g i cur e (0, 0) hg]
    have hu : (bils ls n)[i]? = some (.int .i64 (bil ls i)) := by unfold bils; rw [List.getElem?_map, List.getElem?_range hi]; rfl
    rw [← ht, List.getElem?_take] at hu
    split at hu
    · simpa using hu
    · cases hu

set_option maxHeartbeats 2000000 in
theorem rtotal_any (c : Cl) (m : Value) (w : World) (hm : LnsAt All w m c.lines) (hl : c.lines.length ≤ 1000000) :
    Calls Try.prog 44 #[clv c m] w fun e w' => e = .returned (.tuple #[.int .i64 (totV c.lines), .int .i64 (totE c.lines)]) ∧ Below w.heap.size w w' := by
  have HM := Lib.hid hm
  have HBX : Hid (∀ w', Below (w.heap.size + 1) (w.alloc (boxc c m)) w' → ClBox w' w.heap.size c m ∧ Below w.heap.size w w') := fun w' hb => by
    have hb' : Below (w.alloc (boxc c m)).heap.size (w.alloc (boxc c m)) w' := by rw [show (w.alloc (boxc c m)).heap.size = w.heap.size + 1 from by simp]; exact hb
    exact ⟨(ClBox.new w c m _).grw hb', below_trans (below_alloc w _) hb'⟩
  obtain ⟨a, k, rfl, h1, h2⟩ := LnsAt.form hm
  obtain ⟨i2, r1, r2, r3, r4⟩ := infoI
  clear hm
  go_enter Try.func44, Try.ntmps44
  go_wp2
  go_loopg [4, 5] (c.lines.length) (fun g lv i wr => ∃ j : Nat, j ≤ c.lines.length ∧ g = c.lines.length - j ∧ i = .int .i64 j ∧ Hid (Below (w.heap.size + 1) (w.alloc (boxc c (.slice a c.lines.length k))) wr) ∧ Hid (wr.ownsRow (w.heap.size + 1) 2 1 lv j (bils c.lines j)))
  case atStart => exact ⟨0, Nat.zero_le _, rfl, rfl, Below.refl _ _, World.ownsRow_nil _ _ _ _⟩
  case round =>
    obtain ⟨j, hj, hg, rfl, HB, HO⟩ := hrel
    obtain ⟨⟨x0, x1, x2, x3, x4, x5, x6⟩, hbw⟩ := HBX.out _ HB.out
    have HBW := Lib.hid hbw
    obtain ⟨la, lc, rfl⟩ := own_form HO.out
    by_cases hlt : j < c.lines.length
    · have hL := LnsAt.move HM.out (Below.moves hbw)
      obtain ⟨b, o, m, rfl, hx, ⟨c0, c1, c2, c3, c4, c5⟩, hr⟩ := LnsAt.get hL j hlt
      have hbj := bil_at c.lines j _ hx
      rw [← hbj] at c4
      have hsz := HB.out.size
      rw [show (w.alloc (boxc c (.slice (some ⟨b, o, none⟩) c.lines.length k))).heap.size = w.heap.size + 1 from by simp] at hsz
      have HSZ := Lib.hid hsz
      clear hx hr hL hbj hbw hsz
      have HOP : Hid ((wr.alloc (.cells #[.int .i64 (bil c.lines j)] 2)).ownsRow (w.heap.size + 1) 2 1 (.slice la j lc) j (bils c.lines j)) := HO.out.alloc _
      go_wp2_with (at_builtin; refine wpList_append_own_at _ (by rfl) _ _ 55 (by rfl) (w.heap.size + 1) 2 i2 (.int .i64 0) 1 8 Try.underlying55 r1 r2 r3 r4 (by rfl) (by omega) (.slice la j lc) j (bils c.lines j) (by rfl) HOP.out ⟨wr.heap.size, 0, none⟩ 1 1 [.int .i64 (bil c.lines j)] (by rfl) (by rfl) (cell_one_new wr _ 2) ?c2 ?c3 ?c4 ?c5 ?_)
      case c2 => intro u hu; simp at hu; subst hu; rfl
      case c3 => simp only [maxLen]; omega
      case c4 => omega
      case c5 => have := HSZ.out; simp; omega
      intro v7 w7 hown hgrow hnil hat
      rw [← bils_snoc] at hown
      have HO7 := Lib.hid hown
      have HB7 : Hid (Below (w.heap.size + 1) (w.alloc (boxc c (.slice (some ⟨b, o, none⟩) c.lines.length k))) w7) := by
        have hs := HSZ.out
        exact (HB.out.alloc hs _).grown hgrow (by simp; omega) fun q hq => (HOP.out.lt q hq).1
      obtain ⟨va, vc, rfl⟩ := own_form hown
      clear hown hgrow hnil hat
      go_wp2
      go_roundg (c.lines.length - (j + 1))
      case rel => exact ⟨j + 1, by omega, rfl, by go_num, HB7.out, HO7.out⟩
      case measure => omega
    · have hjj : j = c.lines.length := by omega
      subst hjj
      have HS := Lib.hid (Ce.rsum_row la c.lines.length lc (bil c.lines) wr (by omega) (own_cells HO.out))
      have HV : Hid (totV c.lines = if Ce.sumE (bil c.lines) c.lines.length = 0 then Ce.sumV (bil c.lines) c.lines.length else 0) := rfl
      have HE : Hid (totE c.lines = if Ce.sumE (bil c.lines) c.lines.length = 0 then 0 else 8) := rfl
      generalize Ce.sumE (bil c.lines) c.lines.length = E at *
      generalize Ce.sumV (bil c.lines) c.lines.length = V at *
      by_cases he : E = 0
      · rw [if_pos he] at HV HE
        obtain rfl := he
        go_wp2_with (go_at_call 48; refine (HS.out).mono ?_; rintro e w' ⟨rfl, rfl⟩)
        go_ret2
        exact ⟨by rw [HV.out, HE.out]; rfl, HBW.out⟩
      · rw [if_neg he] at HV HE
        have hb : (E != 0) = true := by simpa using he
        go_wp2_with (go_at_call 48; refine (HS.out).mono ?_; rintro e w' ⟨rfl, rfl⟩)
        go_ret2
        exact ⟨by rw [HV.out, HE.out]; rfl, HBW.out⟩
end Go.Proofs.Ytpnkgkchpoehcaa.Cm
end
