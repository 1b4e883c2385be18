/-
  What the reference's Total answers, as a contract.
-/
import Derived.Test.YtpnkgkchpoehcaaLCheck
import Derived.Maps.AppendAt
set_option linter.unusedSimpArgs false
namespace Go.Proofs.Ytpnkgkchpoehcaa.Cm
open Go.RowKit

theorem own_form {w : World} {B : Nat} {e : TypeId} {v : Value} {n : Nat} {xs : List Value} (h : w.ownsRow B e 1 v n xs) : ∃ a c, v = .slice a n c := by
  rcases h.2 with ⟨rfl, rfl⟩ | ⟨g, c, cur, rfl, _⟩
  · exact ⟨_, _, rfl⟩
  · exact ⟨_, _, rfl⟩
theorem infoI : ∃ i, Try.prog.info? 2 = some i ∧ i.zero = some (.int .i64 0) ∧ i.size = 1 ∧ i.bytes = 8 := by
  have hi := info2
  cases hq : Try.prog.info? 2 with
  | none => rw [hq] at hi; cases hi
  | some i =>
    rw [hq] at hi
    simp only [Option.map_some, Option.some.injEq, Prod.mk.injEq] at hi
    exact ⟨i, rfl, hi⟩
def bils (ls : List Ln) (j : Nat) : List Value := (List.range j).map fun q => .int .i64 (bil ls q)
theorem bils_snoc (ls : List Ln) (j : Nat) : bils ls (j + 1) = bils ls j ++ [.int .i64 (bil ls j)] := by unfold bils; rw [List.range_succ, List.map_append]; rfl
theorem own_cells {w : World} {B : Nat} {e : TypeId} {a : Option Addr} {n c : Nat} {ls : List Ln} (h : w.ownsRow B e 1 (.slice a n c) n (bils ls n)) : ∀ i, i < n → ∃ b off, a = some ⟨b, off, none⟩ ∧ w.cell? ⟨b, off + i, none⟩ = some (.int .i64 (bil ls i)) := by
  intro i hi
  rcases h.2 with ⟨_, rfl⟩ | ⟨g, cap, cur, he, _, hg, h1, h2, hs, ht⟩
  · omega
  · injection he with e1 e2 e3
    subst e1
    refine ⟨g, 0, rfl, ?_⟩
    rw [Nat.zero_add, cell_of_row w g i cur e (0, 0) hg]
    have hu : (bils ls n)[i]? = some (.int .i64 (bil ls i)) := by unfold bils; rw [List.getElem?_map, List.getElem?_range hi]; rfl
    rw [← ht, List.getElem?_take] at hu
    split at hu
    · simpa using hu
    · cases hu

set_option maxHeartbeats 2000000 in
theorem rtotal_any (c : Cl) (m : Value) (w : World) (hm : LnsAt All w m c.lines) (hl : c.lines.length ≤ 1000000) :
    Calls Try.prog 44 #[clv c m] w fun e w' => e = .returned (.tuple #[.int .i64 (totV c.lines), .int .i64 (totE c.lines)]) ∧ Below w.heap.size w w' := by
  have HM := Lib.hid hm
  have HBX : Hid (∀ w', Below (w.heap.size + 1) (w.alloc (boxc c m)) w' → ClBox w' w.heap.size c m ∧ Below w.heap.size w w') := fun w' hb => by
    have hb' : Below (w.alloc (boxc c m)).heap.size (w.alloc (boxc c m)) w' := by rw [show (w.alloc (boxc c m)).heap.size = w.heap.size + 1 from by simp]; exact hb
    exact ⟨(ClBox.new w c m _).grw hb', below_trans (below_alloc w _) hb'⟩
  obtain ⟨a, k, rfl, h1, h2⟩ := LnsAt.form hm
  obtain ⟨i2, r1, r2, r3, r4⟩ := infoI
  clear hm
  go_enter Try.func44, Try.ntmps44
  go_wp2
  go_loopg [4, 5] (c.lines.length) (fun g lv i wr => ∃ j : Nat, j ≤ c.lines.length ∧ g = c.lines.length - j ∧ i = .int .i64 j ∧ Hid (Below (w.heap.size + 1) (w.alloc (boxc c (.slice a c.lines.length k))) wr) ∧ Hid (wr.ownsRow (w.heap.size + 1) 2 1 lv j (bils c.lines j)))
  case atStart => exact ⟨0, Nat.zero_le _, rfl, rfl, Below.refl _ _, World.ownsRow_nil _ _ _ _⟩
  case round =>
    obtain ⟨j, hj, hg, rfl, HB, HO⟩ := hrel
    obtain ⟨⟨x0, x1, x2, x3, x4, x5, x6⟩, hbw⟩ := HBX.out _ HB.out
    have HBW := Lib.hid hbw
    obtain ⟨la, lc, rfl⟩ := own_form HO.out
    by_cases hlt : j < c.lines.length
    · have hL := LnsAt.move HM.out (Below.moves hbw)
      obtain ⟨b, o, m, rfl, hx, ⟨c0, c1, c2, c3, c4, c5⟩, hr⟩ := LnsAt.get hL j hlt
      have hbj := bil_at c.lines j _ hx
      rw [← hbj] at c4
      have hsz := HB.out.size
      rw [show (w.alloc (boxc c (.slice (some ⟨b, o, none⟩) c.lines.length k))).heap.size = w.heap.size + 1 from by simp] at hsz
      have HSZ := Lib.hid hsz
      clear hx hr hL hbj hbw hsz
      have HOP : Hid ((wr.alloc (.cells #[.int .i64 (bil c.lines j)] 2)).ownsRow (w.heap.size + 1) 2 1 (.slice la j lc) j (bils c.lines j)) := HO.out.alloc _
      go_wp2_with (at_builtin; refine wpList_append_own_at _ (by rfl) _ _ 55 (by rfl) (w.heap.size + 1) 2 i2 (.int .i64 0) 1 8 Try.underlying55 r1 r2 r3 r4 (by rfl) (by omega) (.slice la j lc) j (bils c.lines j) (by rfl) HOP.out ⟨wr.heap.size, 0, none⟩ 1 1 [.int .i64 (bil c.lines j)] (by rfl) (by rfl) (cell_one_new wr _ 2) ?c2 ?c3 ?c4 ?c5 ?_)
      case c2 => intro u hu; simp at hu; subst hu; rfl
      case c3 => simp only [maxLen]; omega
      case c4 => omega
      case c5 => have := HSZ.out; simp; omega
      intro v7 w7 hown hgrow hnil hat
      rw [← bils_snoc] at hown
      have HO7 := Lib.hid hown
      have HB7 : Hid (Below (w.heap.size + 1) (w.alloc (boxc c (.slice (some ⟨b, o, none⟩) c.lines.length k))) w7) := by
        have hs := HSZ.out
        exact (HB.out.alloc hs _).grown hgrow (by simp; omega) fun q hq => (HOP.out.lt q hq).1
      obtain ⟨va, vc, rfl⟩ := own_form hown
      clear hown hgrow hnil hat
      go_wp2
      go_roundg (c.lines.length - (j + 1))
      case rel => exact ⟨j + 1, by omega, rfl, by go_num, HB7.out, HO7.out⟩
      case measure => omega
    · have hjj : j = c.lines.length := by omega
      subst hjj
      have HS := Lib.hid (Ce.rsum_row la c.lines.length lc (bil c.lines) wr (by omega) (own_cells HO.out))
      have HV : Hid (totV c.lines = if Ce.sumE (bil c.lines) c.lines.length = 0 then Ce.sumV (bil c.lines) c.lines.length else 0) := rfl
      have HE : Hid (totE c.lines = if Ce.sumE (bil c.lines) c.lines.length = 0 then 0 else 8) := rfl
      generalize Ce.sumE (bil c.lines) c.lines.length = E at *
      generalize Ce.sumV (bil c.lines) c.lines.length = V at *
      by_cases he : E = 0
      · rw [if_pos he] at HV HE
        obtain rfl := he
        go_wp2_with (go_at_call 48; refine (HS.out).mono ?_; rintro e w' ⟨rfl, rfl⟩)
        go_ret2
        exact ⟨by rw [HV.out, HE.out]; rfl, HBW.out⟩
      · rw [if_neg he] at HV HE
        have hb : (E != 0) = true := by simpa using he
        go_wp2_with (go_at_call 48; refine (HS.out).mono ?_; rintro e w' ⟨rfl, rfl⟩)
        go_ret2
        exact ⟨by rw [HV.out, HE.out]; rfl, HBW.out⟩
end Go.Proofs.Ytpnkgkchpoehcaa.Cm
