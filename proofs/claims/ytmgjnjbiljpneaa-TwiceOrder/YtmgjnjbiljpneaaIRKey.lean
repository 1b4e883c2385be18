/-
  What the reference's Key answers, as a contract.
-/
import Derived.Test.YtmgjnjbiljpneaaIKey
set_option linter.unusedSimpArgs false
set_option linter.unusedVariables false
set_option maxRecDepth 100000
namespace Go.Proofs.Ytmgjnjbiljpneaa.Tw
open Go.RowKit
open Cm (Ln lnv LnBox below_alloc below_trans)

theorem conv1 (W : World) (x : Int) (c : UInt8) (h : x = (c.toNat : Int)) : (convert 42 9 (.slice (some ⟨W.heap.size, 0, none⟩) 1 1)).run Try.prog (W.alloc (.cells #[.int .u8 x] 5)) = .ok (.string (mk [c])) (W.alloc (.cells #[.int .u8 x] 5)) := by
  subst h
  exact run_convert_bytes_back (P := Try.prog) (W.alloc (.cells #[.int .u8 (c.toNat : Int)] 5)) 42 9 5 ⟨W.heap.size, 0, none⟩ 1 [c] Try.underlying42 Try.underlying5 Try.underlying9 (fun j hj => by
    have : j = 0 := by simpa using hj
    subst this
    rw [show (⟨W.heap.size, 0, none⟩ : Addr).add 0 = ⟨W.heap.size, 0, none⟩ by unfold Addr.add; split <;> simp_all, World.cell?_alloc_new]
    rfl)
theorem dig_neg {m : Int} (h : m.tmod 10 < 0) : dig m = m.tmod 10 + 10 := by unfold dig; rw [if_pos h]
theorem dig_not {m : Int} (h : ¬ m.tmod 10 < 0) : dig m = m.tmod 10 := by unfold dig; rw [if_neg h]
set_option maxHeartbeats 4000000 in
theorem rkey_any (x : Ln) (m : Value) (w : World) (hm : TxAt All w m x.mods) (hx : KyOk x) :
    Calls Try.prog 12 #[lnv x m] w fun e w' => e = .returned (.string (mk (keyV x))) ∧ Below w.heap.size w w' := by
  have HLn := Lib.hid (keyK_len x hx)
  have HSt := Lib.hid (keyK_step x)
  have HAll := Lib.hid (keyK_all x)
  obtain ⟨x0, x1, x2, x3, x4⟩ := hx
  have HZ := Lib.hid x4
  have HM := Lib.hid fun W (h : Below w.heap.size w W) => TxAt.move hm (Below.moves h)
  obtain ⟨a, c, rfl, f1, f2⟩ := Cm.TxAt.form hm
  have HX := Lib.hid (Cm.LnBox.new w x (.slice a x.mods.length c) 24)
  have HW := Lib.hid (below_alloc w (.cells #[.string (mk x.proc), .slice a x.mods.length c, .int .i64 x.date, .int .i64 x.units, .int .i64 x.billed, .int .i64 x.prior] 24))
  have HK0 := Lib.hid (keyK_0 x)
  clear hm x4
  go_enter Try.func12, Try.ntmps12
  go_wp2_with fail
  generalize w.alloc (.cells #[.string (mk x.proc), .slice a x.mods.length c, .int .i64 x.date, .int .i64 x.units, .int .i64 x.billed, .int .i64 x.prior] 24) = W at *
  obtain ⟨c0, c1, c2, c3, c4, c5⟩ := HX.out
  go_wp2
  go_loopg [3, 4, 5] 8 (fun gg s d i wr => ∃ (k : Nat) (m : Int) (l : List UInt8), k ≤ 8 ∧ gg = 8 - k ∧ s = .string (mk l) ∧ d = .int .i64 m ∧ i = .int .i64 k ∧ -9223372036854775808 ≤ m ∧ m ≤ 9223372036854775807 ∧ l.length = k ∧ Hid (Below W.heap.size W wr) ∧ Hid (l ++ digs (8 - k) m = digs 8 x.date))
  case atStart => exact ⟨0, x.date, [], by omega, rfl, rfl, rfl, rfl, x0, x1, rfl, Below.refl _ _, rfl⟩
  case round =>
    obtain ⟨k, m, l, hk, hg, rfl, rfl, rfl, hm0, hm1, hll, HB, HD⟩ := hrel
    clear c0 c1 c2 c3 c4 c5
    have hms := mk_size l
    by_cases hlt : k < 8
    · have hqb : -9223372036854775808 ≤ m.tdiv 10 ∧ m.tdiv 10 ≤ 9223372036854775807 := quo_in m hm0 hm1
      obtain ⟨d0, d1⟩ := dig_in m
      have HS := Lib.hid (sign_nat m)
      have HN := Lib.hid (digs_snoc (8 - (k + 1)) m l)
      have hm1' := Int.tmod_lt_of_pos m (b := 10) (by omega)
      have hm2' := Int.lt_tmod_of_pos m (b := 10) (by omega)
      generalize UInt8.ofNat (48 + dig m).toNat = ch at *
      have HA := Lib.hid (mk_app l [ch])
      have hsc := mk_size [ch]
      have HBa := Lib.hid fun o => below_trans HB.out (below_alloc wr o)
      by_cases hz : m.tmod 10 < 0
      · have HE := Lib.hid (dig_neg hz)
        have hcv := conv1 wr (48 + (m.tmod 10 + 10)) ch (by rw [HS.out, HE.out])
        go_wp2
        go_roundg (8 - (k + 1))
        case rel => exact ⟨k + 1, m.tdiv 10, l ++ [ch], by omega, rfl, by rw [← HA.out], rfl, by go_num, hqb.1, hqb.2, by simp [hll], HBa.out _, by
          have := HD.out
          rw [show 8 - k = 8 - (k + 1) + 1 by omega, HN.out] at this
          exact this⟩
        case measure => omega
      · have HE := Lib.hid (dig_not hz)
        have hcv := conv1 wr (48 + m.tmod 10) ch (by rw [HS.out, HE.out])
        go_wp2
        go_roundg (8 - (k + 1))
        case rel => exact ⟨k + 1, m.tdiv 10, l ++ [ch], by omega, rfl, by rw [← HA.out], rfl, by go_num, hqb.1, hqb.2, by simp [hll], HBa.out _, by
          have := HD.out
          rw [show 8 - k = 8 - (k + 1) + 1 by omega, HN.out] at this
          exact this⟩
        case measure => omega
    · have HD' : Hid (l ++ x.proc = keyK x 0) := by
        show l ++ x.proc = keyK x 0
        rw [HK0.out, ← HD.out, show 8 - k = 0 by omega]
        simp [digs]
      obtain ⟨wo, hwo⟩ : ∃ z, z = wr := ⟨_, rfl⟩
      subst hwo
      obtain ⟨c0, c1, c2, c3, c4, c5⟩ := Cm.LnBox.grw HX.out HB.out
      have hlt' : ¬ (k : Int) < 8 := by omega
      have HA := Lib.hid (mk_app l x.proc)
      have hsp := mk_size x.proc
      go_wp2
      go_loopg [3, 7] x.mods.length (fun gg s i wr => ∃ j : Nat, j ≤ x.mods.length ∧ gg = x.mods.length - j ∧ i = .int .i64 j ∧ s = .string (mk (keyK x j)) ∧ wr = wo)
      case atStart => exact ⟨0, Nat.zero_le _, rfl, rfl, by rw [HA.out, HD'.out], rfl⟩
      case round =>
        obtain ⟨j, hj, hgj, rfl, rfl, rfl⟩ := hrel
        obtain ⟨l0, l1⟩ := HLn.out j
        have hsk := mk_size (keyK x j)
        by_cases hltj : j < x.mods.length
        · obtain ⟨b, o, rfl, hx, hc⟩ := Cm.tx_get (HM.out _ (below_trans HW.out HB.out)) j hltj
          have ht := HZ.out _ (List.mem_of_getElem? hx)
          have HN := Lib.hid (HSt.out j _ hx)
          generalize x.mods[j] = t at *
          clear hx
          have HA1 := Lib.hid (mk_app (keyK x j) [58])
          have HA2 := Lib.hid (mk_app (keyK x j ++ [58]) t)
          have hst := mk_size t
          go_wp2
          go_roundg (x.mods.length - (j + 1))
          case rel => exact ⟨j + 1, by omega, rfl, by go_num, by rw [HN.out, ← HA2.out, ← HA1.out]; rfl, rfl⟩
          case measure => omega
        · have HV := Lib.hid (HAll.out j (by omega))
          have hltj' : ¬ (j : Int) < (x.mods.length : Int) := by omega
          go_wp2
          go_ret
          exact ⟨by rw [HV.out]; rfl, below_trans HW.out HB.out⟩
end Go.Proofs.Ytmgjnjbiljpneaa.Tw
