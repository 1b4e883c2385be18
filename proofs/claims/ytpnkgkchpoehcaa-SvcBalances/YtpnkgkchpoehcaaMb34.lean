/-
  Texts put together (merge.py): LWeightM.
-/
import Derived.Test.YtpnkgkchpoehcaaMb8
/-
  What the reference's Weight answers at whatever limit (LWeight has it at 3000, with the laws' light), as a contract: where it is true, there is not too much of anything.
-/
section
set_option linter.unusedSimpArgs false
set_option maxRecDepth 100000
namespace Go.Proofs.Ytpnkgkchpoehcaa.Cm
open Go.RowKit

/-- Not too much: of services, of their modifiers, of these ones' signs. -/
def LnLight (x : Ln) : Prop := x.mods.length ≤ 20000 ∧ ∀ t ∈ x.mods, t.length ≤ 20000
def ClLight (c : Cl) : Prop := c.lines.length ≤ 3000 ∧ ∀ x ∈ c.lines, LnLight x
theorem tx_snoc (l : List Tx) (k : Nat) (t : Tx) (hx : l[k]? = some t) (h : ∀ t ∈ l.take k, t.length ≤ 20000) (ht : t.length ≤ 20000) : ∀ t ∈ l.take (k + 1), t.length ≤ 20000 := by
  intro s hs
  rw [List.take_add_one, hx] at hs
  rcases List.mem_append.1 hs with h1 | h1
  · exact h s h1
  · simp at h1; rw [h1]; exact ht
theorem ln_snoc (l : List Ln) (k : Nat) (t : Ln) (hx : l[k]? = some t) (h : ∀ t ∈ l.take k, LnLight t) (ht : LnLight t) : ∀ t ∈ l.take (k + 1), LnLight t := by
  intro s hs
  rw [List.take_add_one, hx] at hs
  rcases List.mem_append.1 hs with h1 | h1
  · exact h s h1
  · simp at h1; rw [h1]; exact ht
theorem cl_snoc (l : List Cl) (k : Nat) (t : Cl) (hx : l[k]? = some t) (h : ∀ t ∈ l.take k, ClLight t) (ht : ClLight t) : ∀ t ∈ l.take (k + 1), ClLight t := by
  intro s hs
  rw [List.take_add_one, hx] at hs
  rcases List.mem_append.1 hs with h1 | h1
  · exact h s h1
  · simp at h1; rw [h1]; exact ht

set_option maxHeartbeats 4000000 in
theorem weight_any (M : Int) (hM0 : 0 ≤ M) (hM : M ≤ 3000) (v : Value) (l : List Cl) (w : World) (h : ClsAt All w v l) (hz : ∀ c ∈ l, ClOk c) :
    Calls Try.prog 19 #[v, .int .i64 M] w fun e w' => (∃ n : Int, e = .returned (.int .i64 n) ∧ (n ≤ M → ∀ c ∈ l, ClLight c)) ∧ Below w.heap.size w w' := by
  have HV := Lib.hid h
  have HZ := Lib.hid hz
  obtain ⟨a, cap, rfl, h1, h2⟩ := ClsAt.form h
  clear h hz
  go_enter Try.func19, Try.ntmps19
  go_wp2
  go_loopg [5, 6] (l.length) (fun gg n i wr => ∃ (k : Nat) (m : Int) (q : Nat), k ≤ l.length ∧ gg = l.length - k ∧ i = .int .i64 k ∧ n = .int .i64 m ∧ 0 ≤ m ∧ m ≤ 4611686018427387904 ∧ wr = w.drewN q ∧ Hid (m ≤ M → ∀ c ∈ l.take k, ClLight c))
  case atStart => exact ⟨0, 0, 0, Nat.zero_le _, rfl, rfl, rfl, by omega, by omega, rfl, fun _ c hc => by simp at hc⟩
  case round =>
    obtain ⟨k, m, q, hk, hg, rfl, rfl, hm0, hm1, rfl, HA⟩ := hrel
    by_cases hm3 : m ≤ M
    case neg =>
      clear HA
      by_cases hlt : k < l.length
      · have d1 : decide (m ≤ M) = false := decide_eq_false hm3
        go_wp2
        go_ret
        exact ⟨⟨m, rfl, fun h => absurd h (by omega)⟩, below_drewq ⟨_, rfl⟩⟩
      · have hlt' : ¬ (k : Int) < (l.length : Int) := by omega
        go_wp2
        go_ret
        exact ⟨⟨m, rfl, fun h => absurd h (by omega)⟩, below_drewq ⟨_, rfl⟩⟩
    by_cases hlt : k < l.length
    case neg =>
      have hall : l.take k = l := List.take_of_length_le (by omega)
      rw [hall] at HA
      clear hall
      have hlt' : ¬ (k : Int) < (l.length : Int) := by omega
      go_wp2
      go_ret
      exact ⟨⟨m, rfl, HA.out⟩, below_drewq ⟨_, rfl⟩⟩
    obtain ⟨b, o, mv, rfl, hx, hc, hr⟩ := ClsAt.get HV.out k hlt
    obtain ⟨z1, z2, z3, z4, z5, z6, z7, z8⟩ := HZ.out _ (List.mem_of_getElem? hx)
    have HZL := Lib.hid z8
    have HRL := Lib.hid hr
    obtain ⟨ar, cr, rfl, g1, g2⟩ := LnsAt.form hr
    have HS := Lib.hid (cl_snoc l k _ hx (HA.out hm3))
    have HCL : Hid (ClLight l[k] = (l[k].lines.length ≤ 3000 ∧ ∀ x ∈ l[k].lines, LnLight x)) := rfl
    obtain ⟨c0, c1, c2, c3, c4, c5, c6⟩ := hc
    have s0 := mk_size l[k].id
    have s1 := mk_size l[k].mem
    have s2 := mk_size l[k].fam
    have s5 := mk_size l[k].ref
    rw [← s0] at z3
    rw [← s1] at z4
    rw [← s2] at z5
    rw [← s5] at z6
    clear hx hr z1 z2 z8 s0 s1 s2 s5 HA
    have d1 : decide (m ≤ M) = true := decide_eq_true hm3
    go_wp2_with fail
    go_quiet (fail)
    go_wp2
    go_loopg [5, 7] (l[k].lines.length) (fun gg n i wr => ∃ (j : Nat) (m2 : Int) (q2 : Nat), j ≤ l[k].lines.length ∧ gg = l[k].lines.length - j ∧ i = .int .i64 j ∧ n = .int .i64 m2 ∧ 0 ≤ m2 ∧ m2 ≤ 4611686018427387904 ∧ wr = w.drewN q2 ∧ Hid (m2 ≤ M → l[k].lines.length ≤ 3000 ∧ ∀ x ∈ l[k].lines.take j, LnLight x))
    case atStart => exact ⟨0, _, q + nq, Nat.zero_le _, rfl, rfl, rfl, by omega, by omega, by first | rfl | rw [World.drewN_drewN], fun _ => ⟨by omega, fun c hc => by simp at hc⟩⟩
    case round =>
      obtain ⟨j, m2, q2, hj, hgj, rfl, rfl, hm20, hm21, rfl, HA2⟩ := hrel
      by_cases hm23 : m2 ≤ M
      case neg =>
        clear HA2
        by_cases hltj : j < l[k].lines.length
        · have d2 : decide (m2 ≤ M) = false := decide_eq_false hm23
          go_wp2
          go_roundg (l.length - (k + 1))
          case rel => exact ⟨k + 1, m2, q2, by omega, rfl, by go_num, rfl, hm20, hm21, rfl, fun h => absurd h (by omega)⟩
          case measure => omega
        · have hltj' : ¬ (j : Int) < (l[k].lines.length : Int) := by omega
          go_wp2
          go_roundg (l.length - (k + 1))
          case rel => exact ⟨k + 1, m2, q2, by omega, rfl, by go_num, rfl, hm20, hm21, rfl, fun h => absurd h (by omega)⟩
          case measure => omega
      by_cases hltj : j < l[k].lines.length
      case neg =>
        have hall : l[k].lines.take j = l[k].lines := List.take_of_length_le (by omega)
        have HF : Hid (∀ c ∈ l.take (k + 1), ClLight c) := HS.out (by rw [HCL.out]; rw [hall] at HA2; exact HA2.out hm23)
        clear hall
        have hltj' : ¬ (j : Int) < (l[k].lines.length : Int) := by omega
        go_wp2
        go_roundg (l.length - (k + 1))
        case rel => exact ⟨k + 1, m2, q2, by omega, rfl, by go_num, rfl, hm20, hm21, rfl, fun _ => HF.out⟩
        case measure => omega
      obtain ⟨br, or, mm, rfl, hxj, hcj, hrj⟩ := LnsAt.get HRL.out j hltj
      obtain ⟨y1, y2, y3, y4, y5, y6, y7⟩ := HZL.out _ (List.mem_of_getElem? hxj)
      have HZT := Lib.hid y7
      have HTX := Lib.hid hrj
      obtain ⟨at_, ct, rfl, p1, p2⟩ := TxAt.form hrj
      obtain ⟨hll, hlq⟩ := HA2.out hm23
      have HS2 := Lib.hid (ln_snoc l[k].lines j _ hxj hlq)
      have HLL : Hid (LnLight l[k].lines[j] = (l[k].lines[j].mods.length ≤ 20000 ∧ ∀ t ∈ l[k].lines[j].mods, t.length ≤ 20000)) := rfl
      obtain ⟨e0, e1, e2, e3, e4, e5⟩ := hcj
      have t0 := mk_size l[k].lines[j].proc
      rw [← t0] at y5
      clear hxj hrj y1 y2 y3 y4 y7 t0 HA2 hlq
      have d2 : decide (m2 ≤ M) = true := decide_eq_true hm23
      go_wp2_with fail
      go_quiet (fail)
      go_wp2
      go_loopg [5, 8] (l[k].lines[j].mods.length) (fun gg n i wr => ∃ (i3 : Nat) (m3 : Int) (q3 : Nat), i3 ≤ l[k].lines[j].mods.length ∧ gg = l[k].lines[j].mods.length - i3 ∧ i = .int .i64 i3 ∧ n = .int .i64 m3 ∧ 0 ≤ m3 ∧ m3 ≤ 4611686018427387904 ∧ wr = w.drewN q3 ∧ Hid (m3 ≤ M → l[k].lines[j].mods.length ≤ 20000 ∧ ∀ t ∈ l[k].lines[j].mods.take i3, t.length ≤ 20000))
      case atStart => exact ⟨0, _, q2 + nq, Nat.zero_le _, rfl, rfl, rfl, by omega, by omega, by first | rfl | rw [World.drewN_drewN], fun _ => ⟨by omega, fun c hc => by simp at hc⟩⟩
      case round =>
        obtain ⟨i3, m3, q3, hi, hgi, rfl, rfl, hm30, hm31, rfl, HA3⟩ := hrel
        by_cases hm33 : m3 ≤ M
        case neg =>
          clear HA3
          by_cases hlti : i3 < l[k].lines[j].mods.length
          · have d3 : decide (m3 ≤ M) = false := decide_eq_false hm33
            go_wp2
            go_roundg (l[k].lines.length - (j + 1))
            case rel => exact ⟨j + 1, m3, q3, by omega, rfl, by go_num, rfl, hm30, hm31, rfl, fun h => absurd h (by omega)⟩
            case measure => omega
          · have hlti' : ¬ (i3 : Int) < (l[k].lines[j].mods.length : Int) := by omega
            go_wp2
            go_roundg (l[k].lines.length - (j + 1))
            case rel => exact ⟨j + 1, m3, q3, by omega, rfl, by go_num, rfl, hm30, hm31, rfl, fun h => absurd h (by omega)⟩
            case measure => omega
        by_cases hlti : i3 < l[k].lines[j].mods.length
        case neg =>
          have hall : l[k].lines[j].mods.take i3 = l[k].lines[j].mods := List.take_of_length_le (by omega)
          have HF : Hid (∀ x ∈ l[k].lines.take (j + 1), LnLight x) := HS2.out (by rw [HLL.out]; rw [hall] at HA3; exact HA3.out hm33)
          clear hall
          have hlti' : ¬ (i3 : Int) < (l[k].lines[j].mods.length : Int) := by omega
          go_wp2
          go_roundg (l[k].lines.length - (j + 1))
          case rel => exact ⟨j + 1, m3, q3, by omega, rfl, by go_num, rfl, hm30, hm31, rfl, fun _ => ⟨hll, HF.out⟩⟩
          case measure => omega
        obtain ⟨bt, ot, rfl, hxt, hct⟩ := tx_get HTX.out i3 hlti
        have ht := HZT.out _ (List.mem_of_getElem? hxt)
        have t1 := mk_size l[k].lines[j].mods[i3]
        rw [← t1] at ht
        obtain ⟨u1, u2⟩ := HA3.out hm33
        have HS3 := Lib.hid (tx_snoc l[k].lines[j].mods i3 _ hxt u2)
        have HT1 := Lib.hid t1
        clear hxt t1 HA3 u2
        have d3 : decide (m3 ≤ M) = true := decide_eq_true hm33
        go_wp2
        go_roundg (l[k].lines[j].mods.length - (i3 + 1))
        case rel => exact ⟨i3 + 1, _, q3, by omega, rfl, by go_num, rfl, by omega, by omega, rfl, fun _ => ⟨u1, HS3.out (by have := HT1.out; omega)⟩⟩
        case measure => omega

end Go.Proofs.Ytpnkgkchpoehcaa.Cm
end
