/-
  What the reference's Same answers, as a contract: whether two claims are the same.
-/
import Derived.Test.YtpmlmoclocccoaaDoorLSame
set_option linter.unusedSimpArgs false
namespace Go.Proofs.YtpmlmoclocccoaaDoor.Cm
open Go.RowKit
open Classical

theorem below_drewN (w : World) (q : Nat) : Below w.heap.size w (w.drewN q) := below_drewq ⟨q, rfl⟩

set_option maxHeartbeats 4000000 in
theorem rsame_any (x y : Cl) (m m' : Value) (w : World) (hm : LnsAt All w m x.lines) (hm' : LnsAt All w m' y.lines) :
    Calls Tryd.prog 22 #[clv x m, clv y m'] w fun e w' => e = .returned (.bool (decide (x = y))) ∧ Below w.heap.size w w' := by
  have HG : Hid (∀ o1 o2, Below w.heap.size w ((w.alloc o1).alloc o2)) := fun o1 o2 => below_trans (below_alloc w o1) (below_alloc _ o2)
  have HW := Lib.hid hm
  have HW' := Lib.hid hm'
  have HX : Hid (∀ w1, Below ((w.alloc (boxc x m)).alloc (boxc y m')).heap.size ((w.alloc (boxc x m)).alloc (boxc y m')) w1 → (w1.cell? ⟨w.heap.size, 6, none⟩ = some m ∧ w1.cell? ⟨w.heap.size + 1, 6, none⟩ = some m') ∧ Below w.heap.size w w1) := fun w1 hb => by
    have h1 := (ClBox.new w x m 24).grw (below_trans (below_alloc (w.alloc (boxc x m)) (boxc y m')) hb)
    have h2 := (ClBox.new (w.alloc (boxc x m)) y m' 24).grw hb
    rw [show (w.alloc (boxc x m)).heap.size = w.heap.size + 1 from by simp] at h2
    exact ⟨⟨h1.2.2.2.2.2.2, h2.2.2.2.2.2.2⟩, below_trans (HG.out _ _) hb⟩
  obtain ⟨a, c, rfl, f1, f2⟩ := LnsAt.form hm
  obtain ⟨a', c', rfl, f1', f2'⟩ := LnsAt.form hm'
  clear hm hm'
  have e_id := mk_ne x.id y.id
  have e_mem := mk_ne x.mem y.mem
  have e_fam := mk_ne x.fam y.fam
  have e_net : (x.net == y.net) = decide (x.net = y.net) := by rw [Bool.eq_iff_iff]; simp
  have n_net : (x.net != y.net) = !decide (x.net = y.net) := by rw [Bool.eq_iff_iff]; simp
  have e_does : (x.does == y.does) = decide (x.does = y.does) := by rw [Bool.eq_iff_iff]; simp
  have n_does : (x.does != y.does) = !decide (x.does = y.does) := by rw [Bool.eq_iff_iff]; simp
  have e_ref := mk_ne x.ref y.ref
  cases h_id : decide (x.id = y.id)
  · rw [h_id] at e_id
    have hF : decide (x = y) = false := cl_ne x y (by simp [h_id])
    rw [hF]
    clear hF e_mem e_fam e_net e_does e_ref n_net n_does h_id
    go_enter Tryd.func22, Tryd.ntmps22
    go_wp2
    go_ret
    exact ⟨rfl, HG.out _ _⟩
  rw [h_id] at e_id
  cases h_mem : decide (x.mem = y.mem)
  · rw [h_mem] at e_mem
    have hF : decide (x = y) = false := cl_ne x y (by simp [h_mem])
    rw [hF]
    clear hF e_fam e_net e_does e_ref n_net n_does h_id h_mem
    go_enter Tryd.func22, Tryd.ntmps22
    go_wp2
    go_ret
    exact ⟨rfl, HG.out _ _⟩
  rw [h_mem] at e_mem
  cases h_fam : decide (x.fam = y.fam)
  · rw [h_fam] at e_fam
    have hF : decide (x = y) = false := cl_ne x y (by simp [h_fam])
    rw [hF]
    clear hF e_net e_does e_ref n_net n_does h_id h_mem h_fam
    go_enter Tryd.func22, Tryd.ntmps22
    go_wp2
    go_ret
    exact ⟨rfl, HG.out _ _⟩
  rw [h_fam] at e_fam
  cases h_net : decide (x.net = y.net)
  · rw [h_net] at e_net n_net
    have hF : decide (x = y) = false := cl_ne x y (by simp [h_net])
    rw [hF]
    clear hF e_does e_ref n_does h_id h_mem h_fam h_net
    go_enter Tryd.func22, Tryd.ntmps22
    go_wp2
    go_ret
    exact ⟨rfl, HG.out _ _⟩
  rw [h_net] at e_net n_net
  cases h_does : decide (x.does = y.does)
  · rw [h_does] at e_does n_does
    have hF : decide (x = y) = false := cl_ne x y (by simp [h_does])
    rw [hF]
    clear hF e_ref h_id h_mem h_fam h_net h_does
    go_enter Tryd.func22, Tryd.ntmps22
    go_wp2
    go_ret
    exact ⟨rfl, HG.out _ _⟩
  rw [h_does] at e_does n_does
  cases h_ref : decide (x.ref = y.ref)
  · rw [h_ref] at e_ref
    have hF : decide (x = y) = false := cl_ne x y (by simp [h_ref])
    rw [hF]
    clear hF h_id h_mem h_fam h_net h_does h_ref
    go_enter Tryd.func22, Tryd.ntmps22
    go_wp2
    go_ret
    exact ⟨rfl, HG.out _ _⟩
  rw [h_ref] at e_ref
  have HS : Hid (decide (x.lines = y.lines) = true → decide (x = y) = true) := fun h7 => cl_same x y h_id h_mem h_fam h_net h_does h_ref h7
  have HF : Hid (decide (x.lines = y.lines) = false → decide (x = y) = false) := fun h7 => cl_ne x y (by simp [h7])
  clear h_id h_mem h_fam h_net h_does h_ref
  generalize decide (x = y) = R at *
  by_cases hl : x.lines.length = y.lines.length
  case neg =>
    have hlb : ((x.lines.length : Int) != (y.lines.length : Int)) = true := by simp; omega
    rw [HF.out (lens_ne _ _ hl)]
    clear hl
    go_enter Tryd.func22, Tryd.ntmps22
    go_wp2
    go_ret
    exact ⟨rfl, HG.out _ _⟩
  have hlb : ((x.lines.length : Int) != (y.lines.length : Int)) = false := by rw [hl]; simp
  have HL := Lib.hid hl
  have hl2 : x.lines.length ≤ y.lines.length := by omega
  clear hl
  go_enter Tryd.func22, Tryd.ntmps22
  go_wp2
  go_loopg [5] (x.lines.length) (fun gg i wr => ∃ k : Nat, k ≤ x.lines.length ∧ gg = x.lines.length - k ∧ i = .int .i64 k ∧ Hid (x.lines.take k = y.lines.take k) ∧ Hid (Below ((w.alloc (boxc x (.slice a x.lines.length c))).alloc (boxc y (.slice a' y.lines.length c'))).heap.size ((w.alloc (boxc x (.slice a x.lines.length c))).alloc (boxc y (.slice a' y.lines.length c'))) wr))
  case atStart => exact ⟨0, Nat.zero_le _, rfl, rfl, rfl, Below.refl _ _⟩
  case round =>
    obtain ⟨k, hk, hg, rfl, HA, HB⟩ := hrel
    obtain ⟨⟨x6, y6⟩, hbw⟩ := HX.out _ HB.out
    have HBW := Lib.hid hbw
    by_cases hlt : k < x.lines.length
    · obtain ⟨b, o, m, rfl, hx, hc, hr⟩ := LnsAt.get (LnsAt.move HW.out (Below.moves hbw)) k hlt
      have hlt' : k < y.lines.length := by omega
      obtain ⟨b', o', m', rfl, hx', hc', hr'⟩ := LnsAt.get (LnsAt.move HW'.out (Below.moves hbw)) k hlt'
      have HC := Lib.hid fun w1 (hb : Below wr.heap.size wr w1) => rsameLine_any x.lines[k] y.lines[k] m m' w1 (TxAt.move hr (Below.moves hb)) (TxAt.move hr' (Below.moves hb))
      have HQ := Lib.hid (takes_eq x.lines y.lines k _ _ hx hx' HA.out)
      have HN := Lib.hid (takes_ne x.lines y.lines k _ _ hx hx')
      obtain ⟨au, cu, rfl, -, -⟩ := TxAt.form hr
      obtain ⟨au', cu', rfl, -, -⟩ := TxAt.form hr'
      clear hx hx' hr hr' hbw
      have HSX : Hid (∀ w', Below wr.heap.size wr w' → w'.cell? ⟨w.heap.size, 6, none⟩ = some (.slice (some ⟨b, o, none⟩) x.lines.length c) ∧ w'.cell? ⟨w.heap.size + 1, 6, none⟩ = some (.slice (some ⟨b', o', none⟩) y.lines.length c') ∧ w'.cell? ⟨b, o + k * 6, none⟩ = some (.string (mk x.lines[k].proc)) ∧ w'.cell? ⟨b, o + k * 6 + 1, none⟩ = some (.slice au x.lines[k].mods.length cu) ∧ w'.cell? ⟨b, o + k * 6 + 2, none⟩ = some (.int .i64 x.lines[k].date) ∧ w'.cell? ⟨b, o + k * 6 + 3, none⟩ = some (.int .i64 x.lines[k].units) ∧ w'.cell? ⟨b, o + k * 6 + 4, none⟩ = some (.int .i64 x.lines[k].billed) ∧ w'.cell? ⟨b, o + k * 6 + 5, none⟩ = some (.int .i64 x.lines[k].prior) ∧ w'.cell? ⟨b', o' + k * 6, none⟩ = some (.string (mk y.lines[k].proc)) ∧ w'.cell? ⟨b', o' + k * 6 + 1, none⟩ = some (.slice au' y.lines[k].mods.length cu') ∧ w'.cell? ⟨b', o' + k * 6 + 2, none⟩ = some (.int .i64 y.lines[k].date) ∧ w'.cell? ⟨b', o' + k * 6 + 3, none⟩ = some (.int .i64 y.lines[k].units) ∧ w'.cell? ⟨b', o' + k * 6 + 4, none⟩ = some (.int .i64 y.lines[k].billed) ∧ w'.cell? ⟨b', o' + k * 6 + 5, none⟩ = some (.int .i64 y.lines[k].prior)) := fun w' hb => by
        obtain ⟨⟨g1, g2⟩, -⟩ := HX.out _ (below_trans HB.out hb)
        have q1 := hc.of (hb.block _ (World.block_lt_of_cell? wr _ hc.1))
        have q2 := hc'.of (hb.block _ (World.block_lt_of_cell? wr _ hc'.1))
        exact ⟨g1, g2, q1.1, q1.2.1, q1.2.2.1, q1.2.2.2.1, q1.2.2.2.2.1, q1.2.2.2.2.2, q2.1, q2.2.1, q2.2.2.1, q2.2.2.2.1, q2.2.2.2.2.1, q2.2.2.2.2.2⟩
      have HBd : Hid (Below wr.heap.size wr wr.drew) := Below.drew (Below.refl _ _)
      obtain ⟨c0, c1, c2, c3, c4, c5⟩ := hc
      obtain ⟨d0, d1, d2, d3, d4, d5⟩ := hc'
      by_cases he : x.lines[k] = y.lines[k]
      · rw [decide_eq_true he] at HC
        have HE2 := Lib.hid (HQ.out he)
        clear he HN HQ
        go_wp2_with fail
        go_region_held3 (fun w' => w'.cell? ⟨w.heap.size, 6, none⟩ = some (.slice (some ⟨b, o, none⟩) x.lines.length c) ∧ w'.cell? ⟨w.heap.size + 1, 6, none⟩ = some (.slice (some ⟨b', o', none⟩) y.lines.length c') ∧ w'.cell? ⟨b, o + k * 6, none⟩ = some (.string (mk x.lines[k].proc)) ∧ w'.cell? ⟨b, o + k * 6 + 1, none⟩ = some (.slice au x.lines[k].mods.length cu) ∧ w'.cell? ⟨b, o + k * 6 + 2, none⟩ = some (.int .i64 x.lines[k].date) ∧ w'.cell? ⟨b, o + k * 6 + 3, none⟩ = some (.int .i64 x.lines[k].units) ∧ w'.cell? ⟨b, o + k * 6 + 4, none⟩ = some (.int .i64 x.lines[k].billed) ∧ w'.cell? ⟨b, o + k * 6 + 5, none⟩ = some (.int .i64 x.lines[k].prior) ∧ w'.cell? ⟨b', o' + k * 6, none⟩ = some (.string (mk y.lines[k].proc)) ∧ w'.cell? ⟨b', o' + k * 6 + 1, none⟩ = some (.slice au' y.lines[k].mods.length cu') ∧ w'.cell? ⟨b', o' + k * 6 + 2, none⟩ = some (.int .i64 y.lines[k].date) ∧ w'.cell? ⟨b', o' + k * 6 + 3, none⟩ = some (.int .i64 y.lines[k].units) ∧ w'.cell? ⟨b', o' + k * 6 + 4, none⟩ = some (.int .i64 y.lines[k].billed) ∧ w'.cell? ⟨b', o' + k * 6 + 5, none⟩ = some (.int .i64 y.lines[k].prior)) (go_keep) (first | (go_at_call 38; refine (HC.out _ HBd.out).mono ?_; rintro e w1 ⟨rfl, hb⟩; have HB2 := Lib.hid (below_trans HBd.out hb); obtain ⟨r0, r1, r2, r3, r4, r5, r6, r7, r8, r9, r10, r11, r12, r13⟩ := HSX.out _ HB2.out; clear hb))
        go_wp2
        go_roundg (x.lines.length - (k + 1))
        case rel => exact ⟨k + 1, by omega, rfl, by go_num, HE2.out, below_trans HB.out HB2.out⟩
        case measure => omega
      · rw [decide_eq_false he] at HC
        have HE2 := Lib.hid (HF.out (HN.out he))
        clear he HN HQ
        go_wp2_with fail
        go_region_held3 (fun w' => w'.cell? ⟨w.heap.size, 6, none⟩ = some (.slice (some ⟨b, o, none⟩) x.lines.length c) ∧ w'.cell? ⟨w.heap.size + 1, 6, none⟩ = some (.slice (some ⟨b', o', none⟩) y.lines.length c') ∧ w'.cell? ⟨b, o + k * 6, none⟩ = some (.string (mk x.lines[k].proc)) ∧ w'.cell? ⟨b, o + k * 6 + 1, none⟩ = some (.slice au x.lines[k].mods.length cu) ∧ w'.cell? ⟨b, o + k * 6 + 2, none⟩ = some (.int .i64 x.lines[k].date) ∧ w'.cell? ⟨b, o + k * 6 + 3, none⟩ = some (.int .i64 x.lines[k].units) ∧ w'.cell? ⟨b, o + k * 6 + 4, none⟩ = some (.int .i64 x.lines[k].billed) ∧ w'.cell? ⟨b, o + k * 6 + 5, none⟩ = some (.int .i64 x.lines[k].prior) ∧ w'.cell? ⟨b', o' + k * 6, none⟩ = some (.string (mk y.lines[k].proc)) ∧ w'.cell? ⟨b', o' + k * 6 + 1, none⟩ = some (.slice au' y.lines[k].mods.length cu') ∧ w'.cell? ⟨b', o' + k * 6 + 2, none⟩ = some (.int .i64 y.lines[k].date) ∧ w'.cell? ⟨b', o' + k * 6 + 3, none⟩ = some (.int .i64 y.lines[k].units) ∧ w'.cell? ⟨b', o' + k * 6 + 4, none⟩ = some (.int .i64 y.lines[k].billed) ∧ w'.cell? ⟨b', o' + k * 6 + 5, none⟩ = some (.int .i64 y.lines[k].prior)) (go_keep) (first | (go_at_call 38; refine (HC.out _ HBd.out).mono ?_; rintro e w1 ⟨rfl, hb⟩; have HB2 := Lib.hid (below_trans HBd.out hb); obtain ⟨r0, r1, r2, r3, r4, r5, r6, r7, r8, r9, r10, r11, r12, r13⟩ := HSX.out _ HB2.out; clear hb))
        go_wp2
        go_ret
        exact ⟨by rw [HE2.out]; rfl, below_trans HBW.out HB2.out⟩
    · have HE2 := Lib.hid (HS.out (takes_all x.lines y.lines k (by omega) HL.out HA.out))
      go_wp2
      go_ret
      exact ⟨by rw [HE2.out]; rfl, HBW.out⟩
end Go.Proofs.YtpmlmoclocccoaaDoor.Cm
