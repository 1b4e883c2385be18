/-
  What the reference's Write answers, as a contract: for every segments that are light.
-/
import Derived.Test.YtjidoificijcfaaDoorQOne
set_option linter.unusedSimpArgs false
namespace Go.Proofs.YtjidoificijcfaaDoor
open Go.RowKit
attribute [local go_sem ↓] Go.wp_at_zero Go.wp_at_succ

set_option maxHeartbeats 2000000 in
theorem rwrite_any (e p s : UInt8) (v : Value) (l : List Sg) (w : World) (h : SgAt All w v l) (hn : ln l ≤ 100000) :
    Calls Tryd.prog 28 #[dv e p s, v] w fun x w' => x = .returned (.tuple #[.string (mk (wrV e p s l)), .int .i64 (wrE e p s l)]) ∧ Below w.heap.size w w' := by
  have HS0 : Hid (SgAt All w v l) := h
  have HNL := Lib.hid hn
  obtain ⟨a, c, rfl, h1, h2, -⟩ := h
  unfold maxLen at h2
  have HGD := Lib.hid (rgood_any e p s)
  clear hn
  cases hg : goodB e p s
  · rw [hg] at HGD
    have HO : Hid (wrOk e p s l = false) := by show wrOk e p s l = false; simp [wrOk, hg]
    clear hg
    go_enter Tryd.func28, Tryd.ntmps28
    go_wp2_with (go_at_call 27; refine (HGD.out _).mono ?_; rintro x w1 ⟨rfl, hb⟩; have HB1 := Lib.hid (below_trans (below_alloc w _) hb); clear hb)
    go_ret2
    exact ⟨by rw [(wr_bad HO.out).1, (wr_bad HO.out).2]; rfl, HB1.out⟩
  rw [hg] at HGD
  have HG := Lib.hid hg
  clear hg
  by_cases hl : l.length ≤ 4096
  case neg =>
    have hl' : (4096 : Int) < (l.length : Int) := by omega
    have HO : Hid (wrOk e p s l = false) := by show wrOk e p s l = false; simp [wrOk, hl]
    clear hl
    go_enter Tryd.func28, Tryd.ntmps28
    go_wp2_with (go_at_call 27; refine (HGD.out _).mono ?_; rintro x w1 ⟨rfl, hb⟩; have HB1 := Lib.hid (below_trans (below_alloc w _) hb); clear hb)
    go_ret2
    exact ⟨by rw [(wr_bad HO.out).1, (wr_bad HO.out).2]; rfl, HB1.out⟩
  have HL := Lib.hid hl
  have hl' : ¬ (4096 : Int) < (l.length : Int) := by omega
  go_enter Tryd.func28, Tryd.ntmps28
  go_wp2_with (go_at_call 27; refine (HGD.out _).mono ?_; rintro x w1 ⟨rfl, hb⟩; have HB1 := Lib.hid (below_trans (below_alloc w _) hb); have HD1 := Lib.hid (DBox.grw (DBox.new w e p s) hb); clear hb)
  go_loopg [6, 7] (l.length) (fun gg out i wr => ∃ (k : Nat) (O : ByteArray), k ≤ l.length ∧ gg = l.length - k ∧ i = .int .i64 k ∧ out = .string O ∧ O.size ≤ 100000 ∧ Hid (O = mk (wrT e p s (l.take k))) ∧ Hid (∀ g ∈ l.take k, segOk e p s g = true) ∧ Hid (Below w.heap.size w wr) ∧ Hid (SgAt All wr (.slice a l.length c) l) ∧ Hid (DBox wr w.heap.size e p s))
  case atStart => exact ⟨0, ⟨#[]⟩, Nat.zero_le _, rfl, rfl, rfl, by decide, rfl, fun g hg => by simp at hg, HB1, SgAt.move HS0.out (Below.moves HB1.out), HD1⟩
  case round =>
    clear HB1 HD1 HS0 HGD
    obtain ⟨k, O, hk, hgk, rfl, rfl, hO, HO, HOk, HBw, HSg, HD⟩ := hrel
    by_cases hlt : k < l.length
    · obtain ⟨b, o, u, rfl, hx, hu, hr⟩ := RowAt.get HSg.out k hlt
      have hmem : l[k] ∈ l := List.getElem_mem _
      have HE : Hid (ElAt All wr u l[k]) := hr
      have HWS := Lib.hid (wr_snoc e p s l k _ hx)
      have HLT : Hid (ln (l.take (k + 1)) ≤ 100000) := Nat.le_trans (ln_take l (k + 1)) HNL.out
      have HTK : Hid (l.take (k + 1) = l.take k ++ [l[k]]) := by show _ = _; rw [List.take_add_one, hx]; rfl
      have hgn : gn l[k] ≤ 100000 := Nat.le_trans (gn_le hmem) HNL.out
      have HBAD : Hid (segOk e p s l[k] = false → wrOk e p s l = false) := ok_false hmem
      clear hx hmem
      obtain ⟨au, cu, rfl, hu1, hu2, -⟩ := hr
      unfold maxLen at hu2
      generalize l[k] = g at *
      have HOn := Lib.hid fun W h => one_any e p s (.slice au g.length cu) g W h hgn
      clear hgn
      have HFo : Hid (∀ W, Below wr.heap.size wr W → (W.cell? ⟨w.heap.size, 0, none⟩ = some (.int .u8 e.toNat) ∧ W.cell? ⟨w.heap.size, 1, none⟩ = some (.int .u8 p.toNat) ∧ W.cell? ⟨w.heap.size, 2, none⟩ = some (.int .u8 s.toNat) ∧ W.cell? ⟨b, o + k, none⟩ = some (.slice au g.length cu)) ∧ ElAt All W (.slice au g.length cu) g ∧ Below w.heap.size w W ∧ SgAt All W (.slice (some ⟨b, o, none⟩) l.length c) l ∧ DBox W w.heap.size e p s) := fun W hW => by
        have hd := DBox.grw HD.out hW
        exact ⟨⟨hd.2.1, hd.2.2.1, hd.2.2.2, by rw [hW.cell (World.block_lt_of_cell? _ _ hu)]; exact hu⟩, ElAt.move HE.out (Below.moves hW), below_trans HBw.out hW, SgAt.move HSg.out (Below.moves hW), hd⟩
      obtain ⟨-, d0, d1, d2⟩ := HD.out
      have HR : Hid (Below wr.heap.size wr wr.drew) := Below.drew (Below.refl _ _)
      cases hko : segOk e p s g
      · rw [one_bad hko, hko] at HOn
        have HOf := Lib.hid (HBAD.out hko)
        have HOn2 : Hid (∀ W, ElAt All W (.slice au g.length cu) g → Calls Tryd.prog 49 #[dv e p s, .agg #[.slice au g.length cu]] W fun x w' => x = .returned (.tuple #[.string ⟨#[]⟩, .bool false]) ∧ Below W.heap.size W w') := HOn.out
        clear hko HOn
        go_wp2_with fail
        go_region_held3 (fun w' => w'.cell? ⟨w.heap.size, 0, none⟩ = some (.int .u8 e.toNat) ∧ w'.cell? ⟨w.heap.size, 1, none⟩ = some (.int .u8 p.toNat) ∧ w'.cell? ⟨w.heap.size, 2, none⟩ = some (.int .u8 s.toNat) ∧ w'.cell? ⟨b, o + k, none⟩ = some (.slice au g.length cu)) (go_keep) (first | (go_at_call 49; refine (HOn2.out _ (HFo.out _ HR.out).2.1).mono ?_; rintro x x1 ⟨rfl, hb⟩; have HR1 := Lib.hid (below_trans HR.out hb); obtain ⟨⟨q0, q1, q2, q3⟩, -, -, -, -⟩ := HFo.out _ HR1.out; clear hb))
        all_goals
          have HBz := Lib.hid (HFo.out _ HR1.out).2.2.1
          go_wp2
          go_ret2
          exact ⟨by rw [(wr_bad HOf.out).1, (wr_bad HOf.out).2]; rfl, HBz.out⟩
      · rw [one_good hko, hko] at HOn
        have hok : ∀ g' ∈ l.take (k + 1), segOk e p s g' = true := fun g' hg' => by
          rw [HTK.out] at hg'
          rcases List.mem_append.1 hg' with h | h
          · exact HOk.out g' h
          · rw [List.mem_singleton.1 h]; exact hko
        have HOk2 := Lib.hid hok
        have hlen := wrT_len (e := e) (p := p) (s := s) (l.take (k + 1)) hok
        have hlt2 := HLT.out
        have hsz := mk_size (segT e p g)
        have hms := mk_size [s]
        have HNX : Hid (O ++ mk (segT e p g) ++ mk [s] = mk (wrT e p s (l.take (k + 1)))) := by show _ = _; rw [HO.out, mk_app, mk_app, HWS.out, List.append_assoc]
        have hns : (mk (wrT e p s (l.take (k + 1)))).size ≤ 100000 := by rw [mk_size, hlen]; exact hlt2
        rw [HWS.out, List.length_append, List.length_append] at hlen
        have hxs : (mk (segT e p g)).size ≤ 100000 := by rw [hsz]; omega
        have hcv := fun W => conv1 W s
        rw [← HNX.out] at hns
        generalize mk [s] = MS at *
        generalize mk (segT e p g) = X at *
        have hms' : MS.size = 1 := hms
        have hox : (O ++ X).size ≤ 200000 := by rw [ByteArray.size_append]; omega
        clear hko hok hlen hlt2 hsz hms
        go_wp2_with fail
        go_region_held3 (fun w' => w'.cell? ⟨w.heap.size, 0, none⟩ = some (.int .u8 e.toNat) ∧ w'.cell? ⟨w.heap.size, 1, none⟩ = some (.int .u8 p.toNat) ∧ w'.cell? ⟨w.heap.size, 2, none⟩ = some (.int .u8 s.toNat) ∧ w'.cell? ⟨b, o + k, none⟩ = some (.slice au g.length cu)) (go_keep) (first | (go_at_call 49; refine (HOn.out _ (HFo.out _ HR.out).2.1).mono ?_; rintro x x1 ⟨rfl, hb⟩; have HR1 := Lib.hid (below_trans HR.out hb); obtain ⟨⟨q0, q1, q2, q3⟩, -, -, -, -⟩ := HFo.out _ HR1.out; clear hb))
        all_goals
          have hcv1 := hcv x1
          clear hcv
          go_wp2
          go_roundg (l.length - (k + 1))
          case rel =>
            obtain ⟨-, -, z1, z2, z3⟩ := HFo.out _ (below_trans HR1.out (below_alloc x1 (.cells #[.int .u8 s.toNat] 5)))
            exact ⟨k + 1, O ++ X ++ MS, by omega, rfl, by go_num, rfl, hns, HNX, HOk2, z1, z2, z3⟩
          case measure => omega
    · have hall : l.take k = l := List.take_of_length_le (by omega)
      rw [hall] at HO HOk
      clear hall
      have HOt := Lib.hid (ok_true HG.out HL.out HOk.out)
      go_wp2
      go_ret2
      exact ⟨by rw [(wr_good HOt.out).1, (wr_good HOt.out).2, ← HO.out]; rfl, HBw.out⟩
end Go.Proofs.YtjidoificijcfaaDoor
