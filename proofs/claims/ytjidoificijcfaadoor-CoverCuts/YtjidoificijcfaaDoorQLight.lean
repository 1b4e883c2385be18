/-
  What the laws' light answers, as a contract: for every segments.
-/
import Derived.Test.YtjidoificijcfaaDoorQWrite
set_option linter.unusedSimpArgs false
namespace Go.Proofs.YtjidoificijcfaaDoor
open Go.RowKit

/-- The bytes and the parts are not too many, as far as is counted. -/
theorem ln_snoc (l : List Sg) (k : Nat) (g : Sg) (hx : l[k]? = some g) : ln (l.take (k + 1)) = ln (l.take k) + gn g := by
  unfold ln
  rw [List.take_add_one, hx, List.map_append, List.sum_append]
  simp [gn]
theorem gn_snoc (g : Sg) (k : Nat) (ps : List Tx) (hx : g[k]? = some ps) : gn (g.take (k + 1)) = gn (g.take k) + (ps.map fun x => 1 + x.length).sum := by
  unfold gn
  rw [List.take_add_one, hx, List.map_append, List.sum_append]
  simp
theorem pn_snoc (ps : List Tx) (k : Nat) (x : Tx) (hx : ps[k]? = some x) : ((ps.take (k + 1)).map fun x => 1 + x.length).sum = ((ps.take k).map fun x => 1 + x.length).sum + (1 + x.length) := by
  rw [List.take_add_one, hx, List.map_append, List.sum_append]
  simp

set_option maxHeartbeats 2000000 in
/-- light: where it is true, they are not too many; it only reads. -/
theorem light_any (v : Value) (l : List Sg) (w : World) (h : SgAt All w v l) (hz : ∀ g ∈ l, ∀ ps ∈ g, ∀ x ∈ ps, x.length ≤ 281474976710656) :
    Calls Tryd.prog 8 #[v] w fun x w' => (∃ b, x = .returned (.bool b) ∧ (b = true → ln l ≤ 6000 ∧ l.length ≤ 5000)) ∧ w' = w := by
  have hv := h
  obtain ⟨a, c, rfl, h1, h2, -⟩ := h
  unfold maxLen at h2
  have HV : Hid (SgAt All w (.slice a l.length c) l) := hv
  have HZ := Lib.hid hz
  clear hv hz
  go_enter Tryd.func8, Tryd.ntmps8
  by_cases h5 : 5000 < l.length
  · have h5' : (5000 : Int) < (l.length : Int) := by omega
    go_wp2
    go_ret
    exact ⟨⟨false, rfl, fun h => by cases h⟩, rfl⟩
  have h5' : ¬ (5000 : Int) < (l.length : Int) := by omega
  go_wp2
  go_loopg [3, 4] (l.length) (fun gg n i wr => ∃ k m : Nat, k ≤ l.length ∧ gg = l.length - k ∧ i = .int .i64 k ∧ n = .int .i64 m ∧ m ≤ 6000 ∧ Hid (ln (l.take k) = m) ∧ wr = w)
  case atStart => exact ⟨0, 0, Nat.zero_le _, rfl, rfl, rfl, by omega, rfl, rfl⟩
  case round =>
    obtain ⟨k, m, hk, hgk, rfl, rfl, hm, HM, hw⟩ := hrel
    rw [hw]
    clear hw wr
    by_cases hlt : k < l.length
    · obtain ⟨b, o, u, rfl, hx, hu, hr⟩ := RowAt.get HV.out k hlt
      have HE : Hid (ElAt All w u l[k]) := hr
      obtain ⟨au, cu, rfl, hu1, hu2, -⟩ := hr
      unfold maxLen at hu2
      have HLN := Lib.hid (ln_snoc l k _ hx)
      have HZ1 := Lib.hid (HZ.out _ (List.mem_of_getElem? hx))
      clear hx
      generalize l[k] = g at *
      by_cases h2g : 200 < g.length
      · have h2g' : (200 : Int) < (g.length : Int) := by omega
        go_wp2
        go_ret
        exact ⟨⟨false, rfl, fun h => by cases h⟩, rfl⟩
      have h2g' : ¬ (200 : Int) < (g.length : Int) := by omega
      go_wp2
      go_loopg [3, 5] (g.length) (fun gg n i wr => ∃ j m2 : Nat, j ≤ g.length ∧ gg = g.length - j ∧ i = .int .i64 j ∧ n = .int .i64 m2 ∧ m2 ≤ 6000 ∧ Hid (m + gn (g.take j) = m2) ∧ wr = w)
      case atStart => exact ⟨0, m, Nat.zero_le _, rfl, rfl, rfl, hm, rfl, rfl⟩
      case round =>
        obtain ⟨j, m2, hj, hgj, rfl, rfl, hm2, HM2, hw⟩ := hrel
        rw [hw]
        clear hw wr
        by_cases hltj : j < g.length
        · obtain ⟨b2, o2, u2, rfl, hx2, hu2', hr2⟩ := RowAt.get HE.out j hltj
          have HT : Hid (TxAt All w u2 g[j]) := hr2
          obtain ⟨a2, c2, rfl, hv1, hv2, -⟩ := hr2
          unfold maxLen at hv2
          have HGN := Lib.hid (gn_snoc g j _ hx2)
          have HZ2 := Lib.hid (HZ1.out _ (List.mem_of_getElem? hx2))
          clear hx2
          generalize g[j] = ps at *
          by_cases h2p : 200 < ps.length
          · have h2p' : (200 : Int) < (ps.length : Int) := by omega
            go_wp2
            go_ret
            exact ⟨⟨false, rfl, fun h => by cases h⟩, rfl⟩
          have h2p' : ¬ (200 : Int) < (ps.length : Int) := by omega
          go_wp2
          go_loopg [3, 6] (ps.length) (fun gg n i wr => ∃ i3 m3 : Nat, i3 ≤ ps.length ∧ gg = ps.length - i3 ∧ i = .int .i64 i3 ∧ n = .int .i64 m3 ∧ m3 ≤ 6000 ∧ Hid (m2 + ((ps.take i3).map fun x => 1 + x.length).sum = m3) ∧ wr = w)
          case atStart => exact ⟨0, m2, Nat.zero_le _, rfl, rfl, rfl, hm2, rfl, rfl⟩
          case round =>
            obtain ⟨i3, m3, hi, hgi, rfl, rfl, hm3, HM3, hw⟩ := hrel
            rw [hw]
            clear hw wr
            by_cases hlti : i3 < ps.length
            · obtain ⟨b3, o3, u3, rfl, hx3, hu3, rfl⟩ := RowAt.get HT.out i3 hlti
              have hxz := HZ2.out _ (List.mem_of_getElem? hx3)
              have hsz := mk_size ps[i3]
              have HPN := Lib.hid (pn_snoc ps i3 _ hx3)
              clear hx3
              generalize mk ps[i3] = X at *
              generalize hq : ps[i3].length = q at *
              rw [← hsz] at hxz
              have HQ := Lib.hid hsz
              clear hsz hq
              by_cases h6 : (6000 : Int) < (m3 : Int) + 1 + (X.size : Int)
              · go_wp2
                go_ret
                exact ⟨⟨false, rfl, fun h => by cases h⟩, rfl⟩
              · go_wp2
                go_roundg (ps.length - (i3 + 1))
                case rel => exact ⟨i3 + 1, m3 + 1 + X.size, by omega, rfl, by go_num, by go_num, by omega, by show _ = _; rw [HPN.out, ← HM3.out, HQ.out]; omega, rfl⟩
                case measure => omega
            · have hall : ps.take i3 = ps := List.take_of_length_le (by omega)
              rw [hall] at HM3
              clear hall
              go_wp2
              go_roundg (g.length - (j + 1))
              case rel => exact ⟨j + 1, m3, by omega, rfl, by go_num, rfl, hm3, by show _ = _; rw [HGN.out, ← HM3.out, ← HM2.out]; omega, rfl⟩
              case measure => omega
        · have hall : g.take j = g := List.take_of_length_le (by omega)
          rw [hall] at HM2
          clear hall
          go_wp2
          go_roundg (l.length - (k + 1))
          case rel => exact ⟨k + 1, m2, by omega, rfl, by go_num, rfl, hm2, by show _ = _; rw [HLN.out, ← HM2.out, ← HM.out], rfl⟩
          case measure => omega
    · have hall : l.take k = l := List.take_of_length_le (by omega)
      rw [hall] at HM
      clear hall
      go_wp2
      go_ret
      exact ⟨⟨true, rfl, fun _ => ⟨by rw [HM.out]; exact hm, by omega⟩⟩, rfl⟩
end Go.Proofs.YtjidoificijcfaaDoor
