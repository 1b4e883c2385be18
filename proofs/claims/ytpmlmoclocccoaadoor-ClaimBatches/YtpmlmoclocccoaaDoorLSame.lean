/-
  What slices.EqualFunc (at services, with sameLine) and claim.Same answer, as contracts: whether two claims are the same.
-/
import Derived.Test.YtpmlmoclocccoaaDoorLSameLn
import Derived.Test.YtpmlmoclocccoaaDoorLCheck
set_option linter.unusedSimpArgs false
namespace Go.Proofs.YtpmlmoclocccoaaDoor.Cm
open Go.RowKit
open Classical

theorem cl_ne (x y : Cl) (h : decide (x.id = y.id) = false ∨ decide (x.mem = y.mem) = false ∨ decide (x.fam = y.fam) = false ∨ decide (x.net = y.net) = false ∨ decide (x.does = y.does) = false ∨ decide (x.ref = y.ref) = false ∨ decide (x.lines = y.lines) = false) : decide (x = y) = false := by
  rw [decide_eq_false_iff_not]
  rintro rfl
  simp at h
theorem cl_same (x y : Cl) (h1 : decide (x.id = y.id) = true) (h2 : decide (x.mem = y.mem) = true) (h3 : decide (x.fam = y.fam) = true) (h4 : decide (x.net = y.net) = true) (h5 : decide (x.does = y.does) = true) (h6 : decide (x.ref = y.ref) = true) (h7 : decide (x.lines = y.lines) = true) : decide (x = y) = true := by
  rw [decide_eq_true_eq] at *
  obtain ⟨a, b, c, d, e, f, g⟩ := x
  obtain ⟨a', b', c', d', e', f', g'⟩ := y
  simp at h1 h2 h3 h4 h5 h6 h7
  simp [h1, h2, h3, h4, h5, h6, h7]
theorem LnCells.alloc {w : World} {b o : Nat} {x : Ln} {m : Value} (h : LnCells w b o x m) (ob : Obj) : LnCells (w.alloc ob) b o x m := h.of (Below.heap_alloc w ob b (World.block_lt_of_cell? w _ h.1))

set_option maxHeartbeats 2000000 in
theorem equalFunc_any (v v' : Value) (xs ys : List Ln) (w : World) (h : LnsAt All w v xs) (h' : LnsAt All w v' ys) :
    Calls Tryd.prog 36 #[v, v', .func (.func 37) #[] #[]] w fun e w' => e = .returned (.bool (decide (xs = ys))) ∧ Below w.heap.size w w' := by
  have HW := Lib.hid h
  have HW' := Lib.hid h'
  obtain ⟨a, c, rfl, h1, h2⟩ := LnsAt.form h
  obtain ⟨a', c', rfl, h1', h2'⟩ := LnsAt.form h'
  clear h h'
  by_cases hl : xs.length = ys.length
  · have hlb : ((xs.length : Int) != (ys.length : Int)) = false := by rw [hl]; simp
    have HL := Lib.hid hl
    have hl2 : xs.length ≤ ys.length := by omega
    clear hl
    go_enter Tryd.func36, Tryd.ntmps36
    go_wp2
    go_loopg [17] (xs.length) (fun gg i wr => ∃ k : Nat, k ≤ xs.length ∧ gg = xs.length - k ∧ i = .int .i64 k ∧ Hid (xs.take k = ys.take k) ∧ Hid (Below w.heap.size w wr))
    case atStart => exact ⟨0, Nat.zero_le _, rfl, rfl, rfl, Below.refl _ _⟩
    case round =>
      obtain ⟨k, hk, hg, rfl, HA, HB⟩ := hrel
      by_cases hlt : k < xs.length
      · obtain ⟨b, o, m, rfl, hx, hc, hr⟩ := LnsAt.get (LnsAt.move HW.out (Below.moves HB.out)) k hlt
        have hlt' : k < ys.length := by omega
        obtain ⟨b', o', m', rfl, hx', hc', hr'⟩ := LnsAt.get (LnsAt.move HW'.out (Below.moves HB.out)) k hlt'
        have hbl := World.block_lt_of_cell? wr _ hc'.1
        have hn' : b' ≠ wr.heap.size := Nat.ne_of_lt hbl
        have HG : Hid (∀ o1 o2, Below wr.heap.size wr ((wr.alloc o1).alloc o2)) := fun o1 o2 => below_trans (below_alloc wr o1) (below_alloc _ o2)
        have HC := Lib.hid fun o1 o2 => sameLine_any xs[k] ys[k] m m' ((wr.alloc o1).alloc o2) (TxAt.move hr (Below.moves (HG.out o1 o2))) (TxAt.move hr' (Below.moves (HG.out o1 o2)))
        have HQ := Lib.hid (takes_eq xs ys k _ _ hx hx' HA.out)
        have HN := Lib.hid (takes_ne xs ys k _ _ hx hx')
        obtain ⟨au, cu, rfl, -, -⟩ := TxAt.form hr
        obtain ⟨au', cu', rfl, -, -⟩ := TxAt.form hr'
        clear hx hx' hr hr' hbl
        obtain ⟨d0, d1, d2, d3, d4, d5⟩ := hc'.alloc (boxl xs[k] (.slice au xs[k].mods.length cu))
        obtain ⟨c0, c1, c2, c3, c4, c5⟩ := hc
        obtain ⟨f0, f1, f2, f3, f4, f5⟩ := hc'
        by_cases he : xs[k] = ys[k]
        · rw [decide_eq_true he] at HC
          have HE2 := Lib.hid (HQ.out he)
          clear he HN HQ
          go_wp2_with (go_at_call 37; refine (HC.out _ _).mono ?_; rintro e w' ⟨rfl, hb⟩; have HB2 := Lib.hid (below_trans (HG.out _ _) hb); clear hb)
          go_roundg (xs.length - (k + 1))
          case rel => exact ⟨k + 1, by omega, rfl, by go_num, HE2, below_trans HB.out HB2.out⟩
          case measure => omega
        · rw [decide_eq_false he] at HC
          have HE2 := Lib.hid (HN.out he)
          clear he HN HQ
          go_wp2_with (go_at_call 37; refine (HC.out _ _).mono ?_; rintro e w' ⟨rfl, hb⟩; have HB2 := Lib.hid (below_trans (HG.out _ _) hb); clear hb)
          go_ret
          exact ⟨by rw [HE2.out]; rfl, below_trans HB.out HB2.out⟩
      · go_wp2
        go_ret
        exact ⟨by rw [takes_all xs ys k (by omega) HL.out HA.out]; rfl, HB.out⟩
  · have hlb : ((xs.length : Int) != (ys.length : Int)) = true := by simp; omega
    have HN := Lib.hid (lens_ne xs ys hl)
    clear hl
    go_enter Tryd.func36, Tryd.ntmps36
    go_wp2
    go_ret
    exact ⟨by rw [HN.out]; rfl, Below.refl _ _⟩

set_option maxHeartbeats 4000000 in
theorem same_any (x y : Cl) (m m' : Value) (w : World) (hm : LnsAt All w m x.lines) (hm' : LnsAt All w m' y.lines) :
    Calls Tryd.prog 21 #[clv x m, clv y m'] w fun e w' => e = .returned (.bool (decide (x = y))) ∧ Below w.heap.size w w' := by
  have HG : Hid (∀ o1 o2, Below w.heap.size w ((w.alloc o1).alloc o2)) := fun o1 o2 => below_trans (below_alloc w o1) (below_alloc _ o2)
  have HE := Lib.hid fun o1 o2 => equalFunc_any m m' x.lines y.lines ((w.alloc o1).alloc o2) (LnsAt.move hm (Below.moves (HG.out o1 o2))) (LnsAt.move hm' (Below.moves (HG.out o1 o2)))
  obtain ⟨a, c, rfl, -, -⟩ := LnsAt.form hm
  obtain ⟨a', c', rfl, -, -⟩ := LnsAt.form hm'
  clear hm hm'
  have e_id := mk_ne x.id y.id
  have e_mem := mk_ne x.mem y.mem
  have e_fam := mk_ne x.fam y.fam
  have e_net : (x.net == y.net) = decide (x.net = y.net) := by rw [Bool.eq_iff_iff]; simp
  have n_net : (x.net != y.net) = !decide (x.net = y.net) := by rw [Bool.eq_iff_iff]; simp
  have e_does : (x.does == y.does) = decide (x.does = y.does) := by rw [Bool.eq_iff_iff]; simp
  have n_does : (x.does != y.does) = !decide (x.does = y.does) := by rw [Bool.eq_iff_iff]; simp
  have e_ref := mk_ne x.ref y.ref
  cases h_id : decide (x.id = y.id)
  · rw [h_id] at e_id
    have hF : decide (x = y) = false := cl_ne x y (by simp [h_id])
    rw [hF]
    clear hF
    clear e_mem e_fam e_net e_does e_ref n_net n_does h_id
    go_enter Tryd.func21, Tryd.ntmps21
    go_wp2
    go_ret
    exact ⟨rfl, HG.out _ _⟩
  rw [h_id] at e_id
  cases h_mem : decide (x.mem = y.mem)
  · rw [h_mem] at e_mem
    have hF : decide (x = y) = false := cl_ne x y (by simp [h_mem])
    rw [hF]
    clear hF
    clear e_fam e_net e_does e_ref n_net n_does h_id h_mem
    go_enter Tryd.func21, Tryd.ntmps21
    go_wp2
    go_ret
    exact ⟨rfl, HG.out _ _⟩
  rw [h_mem] at e_mem
  cases h_fam : decide (x.fam = y.fam)
  · rw [h_fam] at e_fam
    have hF : decide (x = y) = false := cl_ne x y (by simp [h_fam])
    rw [hF]
    clear hF
    clear e_net e_does e_ref n_net n_does h_id h_mem h_fam
    go_enter Tryd.func21, Tryd.ntmps21
    go_wp2
    go_ret
    exact ⟨rfl, HG.out _ _⟩
  rw [h_fam] at e_fam
  cases h_net : decide (x.net = y.net)
  · rw [h_net] at e_net n_net
    have hF : decide (x = y) = false := cl_ne x y (by simp [h_net])
    rw [hF]
    clear hF
    clear e_does e_ref n_does h_id h_mem h_fam h_net
    go_enter Tryd.func21, Tryd.ntmps21
    go_wp2
    go_ret
    exact ⟨rfl, HG.out _ _⟩
  rw [h_net] at e_net n_net
  cases h_does : decide (x.does = y.does)
  · rw [h_does] at e_does n_does
    have hF : decide (x = y) = false := cl_ne x y (by simp [h_does])
    rw [hF]
    clear hF
    clear e_ref h_id h_mem h_fam h_net h_does
    go_enter Tryd.func21, Tryd.ntmps21
    go_wp2
    go_ret
    exact ⟨rfl, HG.out _ _⟩
  rw [h_does] at e_does n_does
  cases h_ref : decide (x.ref = y.ref)
  · rw [h_ref] at e_ref
    have hF : decide (x = y) = false := cl_ne x y (by simp [h_ref])
    rw [hF]
    clear hF
    clear h_id h_mem h_fam h_net h_does h_ref
    go_enter Tryd.func21, Tryd.ntmps21
    go_wp2
    go_ret
    exact ⟨rfl, HG.out _ _⟩
  rw [h_ref] at e_ref
  cases h_lines : decide (x.lines = y.lines)
  · rw [h_lines] at HE
    have hF : decide (x = y) = false := cl_ne x y (by simp [h_lines])
    rw [hF]
    clear hF
    clear h_id h_mem h_fam h_net h_does h_ref h_lines
    go_enter Tryd.func21, Tryd.ntmps21
    go_wp2_with (first | (go_at_call 36; refine (HE.out _ _).mono ?_; rintro e w' ⟨rfl, hb⟩; have HB2 := Lib.hid (below_trans (HG.out _ _) hb); clear hb))
    go_ret
    exact ⟨rfl, HB2.out⟩
  rw [h_lines] at HE
  have hF : decide (x = y) = true := cl_same x y h_id h_mem h_fam h_net h_does h_ref h_lines
  rw [hF]
  clear hF h_id h_mem h_fam h_net h_does h_ref h_lines
  go_enter Tryd.func21, Tryd.ntmps21
  go_wp2_with (first | (go_at_call 36; refine (HE.out _ _).mono ?_; rintro e w' ⟨rfl, hb⟩; have HB2 := Lib.hid (below_trans (HG.out _ _) hb); clear hb))
  go_ret
  exact ⟨rfl, HB2.out⟩
end Go.Proofs.YtpmlmoclocccoaaDoor.Cm
