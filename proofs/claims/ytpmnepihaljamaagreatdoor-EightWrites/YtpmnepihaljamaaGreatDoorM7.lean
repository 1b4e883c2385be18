/-
  Texts put together (merge.py): LWeightN, LRTot, DRefB.
-/
import Derived.Maps.AppendAt
import Derived.Below
import Derived.Test.YtpmnepihaljamaaGreatDoorM3
import Derived.Test.YtpmnepihaljamaaGreatDoorM6
import Derived.Test.YtpmnepihaljamaaGreatDoorM4
/-
  What the reference's Weight answers at whatever limit (LWeight has it at 3000, with the laws' light), as a contract: where it is true, there is not too much of anything, and no more claims and services than it says.
-/
section
set_option linter.unusedSimpArgs false
set_option maxRecDepth 100000
namespace Go.Proofs.YtpmnepihaljamaaGreatDoor.Cm
open Go.RowKit

/-- Not too much: of services, of their modifiers, of these ones' signs. -/
def LnLight (x : Ln) : Prop := x.mods.length ≤ 20000 ∧ ∀ t ∈ x.mods, t.length ≤ 20000
def ClLight (c : Cl) : Prop := c.lines.length ≤ 3000 ∧ ∀ x ∈ c.lines, LnLight x
theorem tx_snoc (l : List Tx) (k : Nat) (t : Tx) (hx : l[k]? = some t) (h : ∀ t ∈ l.take k, t.length ≤ 20000) (ht : t.length ≤ 20000) : ∀ t ∈ l.take (k + 1), t.length ≤ 20000 := by
  intro s hs
  rw [List.take_add_one, hx] at hs
  rcases List.mem_append.1 hs with h1 | h1
  · exact h s h1
  · simp at h1; rw [h1]; exact ht
theorem ln_snoc (l : List Ln) (k : Nat) (t : Ln) (hx : l[k]? = some t) (h : ∀ t ∈ l.take k, LnLight t) (ht : LnLight t) : ∀ t ∈ l.take (k + 1), LnLight t := by
  intro s hs
  rw [List.take_add_one, hx] at hs
  rcases List.mem_append.1 hs with h1 | h1
  · exact h s h1
  · simp at h1; rw [h1]; exact ht
theorem cl_snoc (l : List Cl) (k : Nat) (t : Cl) (hx : l[k]? = some t) (h : ∀ t ∈ l.take k, ClLight t) (ht : ClLight t) : ∀ t ∈ l.take (k + 1), ClLight t := by
  intro s hs
  rw [List.take_add_one, hx] at hs
  rcases List.mem_append.1 hs with h1 | h1
  · exact h s h1
  · simp at h1; rw [h1]; exact ht

/-- How many claims and services there are. -/
def cnt (l : List Cl) : Nat := (l.map fun c => 1 + c.lines.length).sum
theorem cnt_snoc (l : List Cl) (k : Nat) (t : Cl) (hx : l[k]? = some t) : cnt (l.take (k + 1)) = cnt (l.take k) + (1 + t.lines.length) := by
  unfold cnt
  rw [List.take_add_one, hx]
  simp

set_option maxHeartbeats 4000000 in
theorem weight_any (M : Int) (hM0 : 0 ≤ M) (hM : M ≤ 3000) (v : Value) (l : List Cl) (w : World) (h : ClsAt All w v l) (hz : ∀ c ∈ l, ClOk c) :
    Calls Tryz.prog 19 #[v, .int .i64 M] w fun e w' => (∃ n : Int, e = .returned (.int .i64 n) ∧ (n ≤ M → (∀ c ∈ l, ClLight c) ∧ (cnt l : Int) ≤ n)) ∧ Below w.heap.size w w' := by
  have HV := Lib.hid h
  have HZ := Lib.hid hz
  obtain ⟨a, cap, rfl, h1, h2⟩ := ClsAt.form h
  clear h hz
  go_enter Tryz.func19, Tryz.ntmps19
  go_wp2
  go_loopg [5, 6] (l.length) (fun gg n i wr => ∃ (k : Nat) (m : Int) (q : Nat), k ≤ l.length ∧ gg = l.length - k ∧ i = .int .i64 k ∧ n = .int .i64 m ∧ 0 ≤ m ∧ m ≤ 4611686018427387904 ∧ wr = w.drewN q ∧ Hid (m ≤ M → ∀ c ∈ l.take k, ClLight c) ∧ Hid ((cnt (l.take k) : Int) ≤ m))
  case atStart => exact ⟨0, 0, 0, Nat.zero_le _, rfl, rfl, rfl, by omega, by omega, rfl, fun _ c hc => by simp at hc, by show ((cnt (l.take 0) : Nat) : Int) ≤ 0; simp [cnt]⟩
  case round =>
    obtain ⟨k, m, q, hk, hg, rfl, rfl, hm0, hm1, rfl, HA, HCn⟩ := hrel
    by_cases hm3 : m ≤ M
    case neg =>
      clear HA
      by_cases hlt : k < l.length
      · have d1 : decide (m ≤ M) = false := decide_eq_false hm3
        go_wp2
        go_ret
        exact ⟨⟨m, rfl, fun h => absurd h (by omega)⟩, below_drewq ⟨_, rfl⟩⟩
      · have hlt' : ¬ (k : Int) < (l.length : Int) := by omega
        go_wp2
        go_ret
        exact ⟨⟨m, rfl, fun h => absurd h (by omega)⟩, below_drewq ⟨_, rfl⟩⟩
    by_cases hlt : k < l.length
    case neg =>
      have hall : l.take k = l := List.take_of_length_le (by omega)
      rw [hall] at HA HCn
      clear hall
      have hlt' : ¬ (k : Int) < (l.length : Int) := by omega
      go_wp2
      go_ret
      exact ⟨⟨m, rfl, fun h => ⟨HA.out h, HCn.out⟩⟩, below_drewq ⟨_, rfl⟩⟩
    obtain ⟨b, o, mv, rfl, hx, hc, hr⟩ := ClsAt.get HV.out k hlt
    obtain ⟨z1, z2, z3, z4, z5, z6, z7, z8⟩ := HZ.out _ (List.mem_of_getElem? hx)
    have HZL := Lib.hid z8
    have HRL := Lib.hid hr
    obtain ⟨ar, cr, rfl, g1, g2⟩ := LnsAt.form hr
    have HCs := Lib.hid (cnt_snoc l k _ hx)
    have HS := Lib.hid (cl_snoc l k _ hx (HA.out hm3))
    have HCL : Hid (ClLight l[k] = (l[k].lines.length ≤ 3000 ∧ ∀ x ∈ l[k].lines, LnLight x)) := rfl
    obtain ⟨c0, c1, c2, c3, c4, c5, c6⟩ := hc
    have s0 := mk_size l[k].id
    have s1 := mk_size l[k].mem
    have s2 := mk_size l[k].fam
    have s5 := mk_size l[k].ref
    rw [← s0] at z3
    rw [← s1] at z4
    rw [← s2] at z5
    rw [← s5] at z6
    clear hx hr z1 z2 z8 s0 s1 s2 s5 HA
    have d1 : decide (m ≤ M) = true := decide_eq_true hm3
    go_wp2_with fail
    go_quiet (fail)
    go_wp2
    go_loopg [5, 7] (l[k].lines.length) (fun gg n i wr => ∃ (j : Nat) (m2 : Int) (q2 : Nat), j ≤ l[k].lines.length ∧ gg = l[k].lines.length - j ∧ i = .int .i64 j ∧ n = .int .i64 m2 ∧ 0 ≤ m2 ∧ m2 ≤ 4611686018427387904 ∧ wr = w.drewN q2 ∧ Hid (m2 ≤ M → l[k].lines.length ≤ 3000 ∧ ∀ x ∈ l[k].lines.take j, LnLight x) ∧ m + 1 + (l[k].lines.length : Int) ≤ m2)
    case atStart => exact ⟨0, _, q + nq, Nat.zero_le _, rfl, rfl, rfl, by omega, by omega, by first | rfl | rw [World.drewN_drewN], fun _ => ⟨by omega, fun c hc => by simp at hc⟩, by omega⟩
    case round =>
      obtain ⟨j, m2, q2, hj, hgj, rfl, rfl, hm20, hm21, rfl, HA2, hmm2⟩ := hrel
      by_cases hm23 : m2 ≤ M
      case neg =>
        clear HA2
        by_cases hltj : j < l[k].lines.length
        · have d2 : decide (m2 ≤ M) = false := decide_eq_false hm23
          go_wp2
          go_roundg (l.length - (k + 1))
          case rel => exact ⟨k + 1, m2, q2, by omega, rfl, by go_num, rfl, hm20, hm21, rfl, fun h => absurd h (by omega), by show _ ≤ _; rw [HCs.out]; have := HCn.out; omega⟩
          case measure => omega
        · have hltj' : ¬ (j : Int) < (l[k].lines.length : Int) := by omega
          go_wp2
          go_roundg (l.length - (k + 1))
          case rel => exact ⟨k + 1, m2, q2, by omega, rfl, by go_num, rfl, hm20, hm21, rfl, fun h => absurd h (by omega), by show _ ≤ _; rw [HCs.out]; have := HCn.out; omega⟩
          case measure => omega
      by_cases hltj : j < l[k].lines.length
      case neg =>
        have hall : l[k].lines.take j = l[k].lines := List.take_of_length_le (by omega)
        have HF : Hid (∀ c ∈ l.take (k + 1), ClLight c) := HS.out (by rw [HCL.out]; rw [hall] at HA2; exact HA2.out hm23)
        clear hall
        have hltj' : ¬ (j : Int) < (l[k].lines.length : Int) := by omega
        go_wp2
        go_roundg (l.length - (k + 1))
        case rel => exact ⟨k + 1, m2, q2, by omega, rfl, by go_num, rfl, hm20, hm21, rfl, fun _ => HF.out, by show _ ≤ _; rw [HCs.out]; have := HCn.out; omega⟩
        case measure => omega
      obtain ⟨br, or, mm, rfl, hxj, hcj, hrj⟩ := LnsAt.get HRL.out j hltj
      obtain ⟨y1, y2, y3, y4, y5, y6, y7⟩ := HZL.out _ (List.mem_of_getElem? hxj)
      have HZT := Lib.hid y7
      have HTX := Lib.hid hrj
      obtain ⟨at_, ct, rfl, p1, p2⟩ := TxAt.form hrj
      obtain ⟨hll, hlq⟩ := HA2.out hm23
      have HS2 := Lib.hid (ln_snoc l[k].lines j _ hxj hlq)
      have HLL : Hid (LnLight l[k].lines[j] = (l[k].lines[j].mods.length ≤ 20000 ∧ ∀ t ∈ l[k].lines[j].mods, t.length ≤ 20000)) := rfl
      obtain ⟨e0, e1, e2, e3, e4, e5⟩ := hcj
      have t0 := mk_size l[k].lines[j].proc
      rw [← t0] at y5
      clear hxj hrj y1 y2 y3 y4 y7 t0 HA2 hlq
      have d2 : decide (m2 ≤ M) = true := decide_eq_true hm23
      go_wp2_with fail
      go_quiet (fail)
      go_wp2
      go_loopg [5, 8] (l[k].lines[j].mods.length) (fun gg n i wr => ∃ (i3 : Nat) (m3 : Int) (q3 : Nat), i3 ≤ l[k].lines[j].mods.length ∧ gg = l[k].lines[j].mods.length - i3 ∧ i = .int .i64 i3 ∧ n = .int .i64 m3 ∧ 0 ≤ m3 ∧ m3 ≤ 4611686018427387904 ∧ wr = w.drewN q3 ∧ Hid (m3 ≤ M → l[k].lines[j].mods.length ≤ 20000 ∧ ∀ t ∈ l[k].lines[j].mods.take i3, t.length ≤ 20000) ∧ m + 1 + (l[k].lines.length : Int) ≤ m3)
      case atStart => exact ⟨0, _, q2 + nq, Nat.zero_le _, rfl, rfl, rfl, by omega, by omega, by first | rfl | rw [World.drewN_drewN], fun _ => ⟨by omega, fun c hc => by simp at hc⟩, by omega⟩
      case round =>
        obtain ⟨i3, m3, q3, hi, hgi, rfl, rfl, hm30, hm31, rfl, HA3, hmm3⟩ := hrel
        by_cases hm33 : m3 ≤ M
        case neg =>
          clear HA3
          by_cases hlti : i3 < l[k].lines[j].mods.length
          · have d3 : decide (m3 ≤ M) = false := decide_eq_false hm33
            go_wp2
            go_roundg (l[k].lines.length - (j + 1))
            case rel => exact ⟨j + 1, m3, q3, by omega, rfl, by go_num, rfl, hm30, hm31, rfl, fun h => absurd h (by omega), hmm3⟩
            case measure => omega
          · have hlti' : ¬ (i3 : Int) < (l[k].lines[j].mods.length : Int) := by omega
            go_wp2
            go_roundg (l[k].lines.length - (j + 1))
            case rel => exact ⟨j + 1, m3, q3, by omega, rfl, by go_num, rfl, hm30, hm31, rfl, fun h => absurd h (by omega), hmm3⟩
            case measure => omega
        by_cases hlti : i3 < l[k].lines[j].mods.length
        case neg =>
          have hall : l[k].lines[j].mods.take i3 = l[k].lines[j].mods := List.take_of_length_le (by omega)
          have HF : Hid (∀ x ∈ l[k].lines.take (j + 1), LnLight x) := HS2.out (by rw [HLL.out]; rw [hall] at HA3; exact HA3.out hm33)
          clear hall
          have hlti' : ¬ (i3 : Int) < (l[k].lines[j].mods.length : Int) := by omega
          go_wp2
          go_roundg (l[k].lines.length - (j + 1))
          case rel => exact ⟨j + 1, m3, q3, by omega, rfl, by go_num, rfl, hm30, hm31, rfl, fun _ => ⟨hll, HF.out⟩, hmm3⟩
          case measure => omega
        obtain ⟨bt, ot, rfl, hxt, hct⟩ := tx_get HTX.out i3 hlti
        have ht := HZT.out _ (List.mem_of_getElem? hxt)
        have t1 := mk_size l[k].lines[j].mods[i3]
        rw [← t1] at ht
        obtain ⟨u1, u2⟩ := HA3.out hm33
        have HS3 := Lib.hid (tx_snoc l[k].lines[j].mods i3 _ hxt u2)
        have HT1 := Lib.hid t1
        clear hxt t1 HA3 u2
        have d3 : decide (m3 ≤ M) = true := decide_eq_true hm33
        go_wp2
        go_roundg (l[k].lines[j].mods.length - (i3 + 1))
        case rel => exact ⟨i3 + 1, _, q3, by omega, rfl, by go_num, rfl, by omega, by omega, rfl, fun _ => ⟨u1, HS3.out (by have := HT1.out; omega)⟩, by omega⟩
        case measure => omega

end Go.Proofs.YtpmnepihaljamaaGreatDoor.Cm
end

/-
  What the reference's Total answers, as a contract.
-/
section
set_option linter.unusedSimpArgs false
namespace Go.Proofs.YtpmnepihaljamaaGreatDoor.Cm
open Go.RowKit

theorem own_form {w : World} {B : Nat} {e : TypeId} {v : Value} {n : Nat} {xs : List Value} (h : w.ownsRow B e 1 v n xs) : ∃ a c, v = .slice a n c := by
  rcases h.2 with ⟨rfl, rfl⟩ | ⟨g, c, cur, rfl, _⟩
  · exact ⟨_, _, rfl⟩
  · exact ⟨_, _, rfl⟩
theorem infoI : ∃ i, Tryz.prog.info? 2 = some i ∧ i.zero = some (.int .i64 0) ∧ i.size = 1 ∧ i.bytes = 8 := by
  have hi := info2
  cases hq : Tryz.prog.info? 2 with
  | none => rw [hq] at hi; cases hi
  | some i =>
    rw [hq] at hi
    simp only [Option.map_some, Option.some.injEq, Prod.mk.injEq] at hi
    exact ⟨i, rfl, hi⟩
def bils (ls : List Ln) (j : Nat) : List Value := (List.range j).map fun q => .int .i64 (bil ls q)
theorem bils_snoc (ls : List Ln) (j : Nat) : bils ls (j + 1) = bils ls j ++ [.int .i64 (bil ls j)] := by unfold bils; rw [List.range_succ, List.map_append]; rfl
theorem own_cells {w : World} {B : Nat} {e : TypeId} {a : Option Addr} {n c : Nat} {ls : List Ln} (h : w.ownsRow B e 1 (.slice a n c) n (bils ls n)) : ∀ i, i < n → ∃ b off, a = some ⟨b, off, none⟩ ∧ w.cell? ⟨b, off + i, none⟩ = some (.int .i64 (bil ls i)) := by
  intro i hi
  rcases h.2 with ⟨_, rfl⟩ | ⟨g, cap, cur, he, _, hg, h1, h2, hs, ht⟩
  · omega
  · injection he with e1 e2 e3
    subst e1
    refine ⟨g, 0, rfl, ?_⟩
    rw [Nat.zero_add, cell_of_row w g i cur e (0, 0) hg]
    have hu : (bils ls n)[i]? = some (.int .i64 (bil ls i)) := by unfold bils; rw [List.getElem?_map, List.getElem?_range hi]; rfl
    rw [← ht, List.getElem?_take] at hu
    split at hu
    · simpa using hu
    · cases hu

set_option maxHeartbeats 2000000 in
theorem rtotal_any (c : Cl) (m : Value) (w : World) (hm : LnsAt All w m c.lines) (hl : c.lines.length ≤ 1000000) :
    Calls Tryz.prog 53 #[clv c m] w fun e w' => e = .returned (.tuple #[.int .i64 (totV c.lines), .int .i64 (totE c.lines)]) ∧ Below w.heap.size w w' := by
  have HM := Lib.hid hm
  have HBX : Hid (∀ w', Below (w.heap.size + 1) (w.alloc (boxc c m)) w' → ClBox w' w.heap.size c m ∧ Below w.heap.size w w') := fun w' hb => by
    have hb' : Below (w.alloc (boxc c m)).heap.size (w.alloc (boxc c m)) w' := by rw [show (w.alloc (boxc c m)).heap.size = w.heap.size + 1 from by simp]; exact hb
    exact ⟨(ClBox.new w c m _).grw hb', below_trans (below_alloc w _) hb'⟩
  obtain ⟨a, k, rfl, h1, h2⟩ := LnsAt.form hm
  obtain ⟨i2, r1, r2, r3, r4⟩ := infoI
  clear hm
  go_enter Tryz.func53, Tryz.ntmps53
  go_wp2
  go_loopg [4, 5] (c.lines.length) (fun g lv i wr => ∃ j : Nat, j ≤ c.lines.length ∧ g = c.lines.length - j ∧ i = .int .i64 j ∧ Hid (Below (w.heap.size + 1) (w.alloc (boxc c (.slice a c.lines.length k))) wr) ∧ Hid (wr.ownsRow (w.heap.size + 1) 2 1 lv j (bils c.lines j)))
  case atStart => exact ⟨0, Nat.zero_le _, rfl, rfl, Below.refl _ _, World.ownsRow_nil _ _ _ _⟩
  case round =>
    obtain ⟨j, hj, hg, rfl, HB, HO⟩ := hrel
    obtain ⟨⟨x0, x1, x2, x3, x4, x5, x6⟩, hbw⟩ := HBX.out _ HB.out
    have HBW := Lib.hid hbw
    obtain ⟨la, lc, rfl⟩ := own_form HO.out
    by_cases hlt : j < c.lines.length
    · have hL := LnsAt.move HM.out (Below.moves hbw)
      obtain ⟨b, o, m, rfl, hx, ⟨c0, c1, c2, c3, c4, c5⟩, hr⟩ := LnsAt.get hL j hlt
      have hbj := bil_at c.lines j _ hx
      rw [← hbj] at c4
      have hsz := HB.out.size
      rw [show (w.alloc (boxc c (.slice (some ⟨b, o, none⟩) c.lines.length k))).heap.size = w.heap.size + 1 from by simp] at hsz
      have HSZ := Lib.hid hsz
      clear hx hr hL hbj hbw hsz
      have HOP : Hid ((wr.alloc (.cells #[.int .i64 (bil c.lines j)] 2)).ownsRow (w.heap.size + 1) 2 1 (.slice la j lc) j (bils c.lines j)) := HO.out.alloc _
      go_wp2_with (at_builtin; refine wpList_append_own_at _ (by rfl) _ _ 100 (by rfl) (w.heap.size + 1) 2 i2 (.int .i64 0) 1 8 Tryz.underlying100 r1 r2 r3 r4 (by rfl) (by omega) (.slice la j lc) j (bils c.lines j) (by rfl) HOP.out ⟨wr.heap.size, 0, none⟩ 1 1 [.int .i64 (bil c.lines j)] (by rfl) (by rfl) (cell_one_new wr _ 2) ?c2 ?c3 ?c4 ?c5 ?_)
      case c2 => intro u hu; simp at hu; subst hu; rfl
      case c3 => simp only [maxLen]; omega
      case c4 => omega
      case c5 => have := HSZ.out; simp; omega
      intro v7 w7 hown hgrow hnil hat
      rw [← bils_snoc] at hown
      have HO7 := Lib.hid hown
      have HB7 : Hid (Below (w.heap.size + 1) (w.alloc (boxc c (.slice (some ⟨b, o, none⟩) c.lines.length k))) w7) := by
        have hs := HSZ.out
        exact (HB.out.alloc hs _).grown hgrow (by simp; omega) fun q hq => (HOP.out.lt q hq).1
      obtain ⟨va, vc, rfl⟩ := own_form hown
      clear hown hgrow hnil hat
      go_wp2
      go_roundg (c.lines.length - (j + 1))
      case rel => exact ⟨j + 1, by omega, rfl, by go_num, HB7.out, HO7.out⟩
      case measure => omega
    · have hjj : j = c.lines.length := by omega
      subst hjj
      have HS := Lib.hid (Ce.rsum_row la c.lines.length lc (bil c.lines) wr (by omega) (own_cells HO.out))
      have HV : Hid (totV c.lines = if Ce.sumE (bil c.lines) c.lines.length = 0 then Ce.sumV (bil c.lines) c.lines.length else 0) := rfl
      have HE : Hid (totE c.lines = if Ce.sumE (bil c.lines) c.lines.length = 0 then 0 else 8) := rfl
      generalize Ce.sumE (bil c.lines) c.lines.length = E at *
      generalize Ce.sumV (bil c.lines) c.lines.length = V at *
      by_cases he : E = 0
      · rw [if_pos he] at HV HE
        obtain rfl := he
        go_wp2_with (go_at_call 89; refine (HS.out).mono ?_; rintro e w' ⟨rfl, rfl⟩)
        go_ret2
        exact ⟨by rw [HV.out, HE.out]; rfl, HBW.out⟩
      · rw [if_neg he] at HV HE
        have hb : (E != 0) = true := by simpa using he
        go_wp2_with (go_at_call 89; refine (HS.out).mono ?_; rintro e w' ⟨rfl, rfl⟩)
        go_ret2
        exact ⟨by rw [HV.out, HE.out]; rfl, HBW.out⟩
end Go.Proofs.YtpmnepihaljamaaGreatDoor.Cm
end

/-
  What the reference's long and Good answer, as contracts over 'Below' (DRef has them over 'Grown').
-/
section
namespace Go.Proofs.YtpmnepihaljamaaGreatDoor.Da
open Go.RowKit

set_option maxHeartbeats 1000000 in
theorem long_b (y m : Int) (w : World) (h : 0 ≤ y) (h1 : 1 ≤ m) (h2 : m ≤ 12) :
    Calls Tryz.prog 146 #[.int .i64 y, .int .i64 m] w fun e w' => e = .returned (.int .i64 (lenM y m)) ∧ Below w.heap.size w w' := by
  rcases month_cases m h1 h2 with rfl | rfl | rfl | rfl | rfl | rfl | rfl | rfl | rfl | rfl | rfl | rfl
  case inr.inl =>
    cases b : leapB y
    · go_enter Tryz.func146, Tryz.ntmps146
      go_wp2_with (go_at_call 159; refine (rleap_any _ _ h).mono ?_; rintro e w' ⟨rfl, rfl⟩)
      go_ret
      exact ⟨by simp [lenM, b, lenT, lens], (Below.refl _ _).alloc (Nat.le_refl _) _⟩
    · go_enter Tryz.func146, Tryz.ntmps146
      go_wp2_with (go_at_call 159; refine (rleap_any _ _ h).mono ?_; rintro e w' ⟨rfl, rfl⟩)
      go_ret
      exact ⟨by simp [lenM, b], (Below.refl _ _).alloc (Nat.le_refl _) _⟩
  all_goals
    go_enter Tryz.func146, Tryz.ntmps146
    go_wp2
    go_ret
    exact ⟨rfl, (Below.refl _ _).alloc (Nat.le_refl _) _⟩

set_option maxHeartbeats 400000 in
theorem rgood_b (n : Int) (w : World) :
    Calls Tryz.prog 129 #[.int .i64 n] w fun e w' => e = .returned (.bool (good n)) ∧ Below w.heap.size w w' := by
  by_cases c1 : n < 10101
  · have g : good n = false := by
      cases g : good n
      · rfl
      · have := good_bd n g; omega
    rw [g]
    go_enter Tryz.func129, Tryz.ntmps129
    go_wp2
    go_ret
    exact ⟨rfl, Below.refl _ _⟩
  by_cases c2 : n > 99991231
  · have g : good n = false := by
      cases g : good n
      · rfl
      · have := good_bd n g; omega
    rw [g]
    go_enter Tryz.func129, Tryz.ntmps129
    go_wp2
    go_ret
    exact ⟨rfl, Below.refl _ _⟩
  have G := good_refn n (by omega) (by omega)
  by_cases c3 : n / 100 % 100 < 1
  · have g : good n = false := G (by omega)
    rw [g]
    clear G
    go_enter Tryz.func129, Tryz.ntmps129
    go_wp2
    go_ret
    exact ⟨rfl, Below.refl _ _⟩
  by_cases c4 : n / 100 % 100 > 12
  · have g : good n = false := G (by omega)
    rw [g]
    clear G
    go_enter Tryz.func129, Tryz.ntmps129
    go_wp2
    go_ret
    exact ⟨rfl, Below.refl _ _⟩
  by_cases c5 : n % 100 ≥ 1
  · by_cases c6 : n % 100 ≤ lenM (n / 10000) (n / 100 % 100)
    · have g : good n = true := (good_ref n (by omega) (by omega)).2 (by omega)
      have d6 : decide (n % 100 ≤ lenM (n / 10000) (n / 100 % 100)) = true := by simpa using c6
      rw [g]
      clear G
      go_enter Tryz.func129, Tryz.ntmps129
      go_wp2_with (go_at_call 146; refine (long_b _ _ _ (by omega) (by omega) (by omega)).mono ?_; rintro e w' ⟨rfl, hg⟩)
      go_ret
      exact ⟨rfl, hg⟩
    · have g : good n = false := G (by omega)
      have d6 : decide (n % 100 ≤ lenM (n / 10000) (n / 100 % 100)) = false := by simpa using c6
      rw [g]
      clear G
      go_enter Tryz.func129, Tryz.ntmps129
      go_wp2_with (go_at_call 146; refine (long_b _ _ _ (by omega) (by omega) (by omega)).mono ?_; rintro e w' ⟨rfl, hg⟩)
      go_ret
      exact ⟨rfl, hg⟩
  · have g : good n = false := G (by omega)
    rw [g]
    clear G
    go_enter Tryz.func129, Tryz.ntmps129
    go_wp2
    go_ret
    exact ⟨rfl, Below.refl _ _⟩

end Go.Proofs.YtpmnepihaljamaaGreatDoor.Da
end
