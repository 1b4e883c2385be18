/-
  Texts put together (merge.py): KEq, QNamed, QCut.
-/
import Derived.Test.YtpmnepihaljamaaGreatDoorM10
import Derived.Test.YtpmnepihaljamaaGreatDoorM12
/-
  What slices.Equal (at texts), cover.sameSeg, slices.EqualFunc (at segments, with sameSeg) and cover.sameSegs answer, as contracts: whether two rows are the same, part by part.
-/
section
set_option linter.unusedSimpArgs false
namespace Go.Proofs.YtpmnepihaljamaaGreatDoor
open Go.RowKit

set_option maxHeartbeats 2000000 in
theorem equal_any (v v' : Value) (xs ys : List Tx) (w : World) (h : TxAt All w v xs) (h' : TxAt All w v' ys) :
    Calls Tryz.prog 125 #[v, v'] w fun e w' => e = .returned (.bool (decide (xs = ys))) ∧ ∃ q, w' = w.drewN q := by
  obtain ⟨a, c, rfl, h1, h2, h3⟩ := h
  obtain ⟨a', c', rfl, h1', h2', h3'⟩ := h'
  have H3 := Lib.hid h3
  have H3' := Lib.hid h3'
  clear h3 h3'
  unfold maxLen at h2 h2'
  by_cases hl : xs.length = ys.length
  · have hlb : ((xs.length : Int) != (ys.length : Int)) = false := by rw [hl]; simp
    have HL := Lib.hid hl
    have hl2 : xs.length ≤ ys.length := by omega
    clear hl
    go_enter Tryz.func125, Tryz.ntmps125
    go_wp2
    go_loopg [13] (xs.length) (fun g i wr => ∃ (k q : Nat), k ≤ xs.length ∧ g = xs.length - k ∧ i = .int .i64 k ∧ wr = w.drewN q ∧ Hid (xs.take k = ys.take k))
    case atStart => exact ⟨0, 0, Nat.zero_le _, rfl, rfl, rfl, rfl⟩
    case round =>
      obtain ⟨k, q, hk, hg, rfl, rfl, HA⟩ := hrel
      by_cases hlt : k < xs.length
      · obtain ⟨b, o, u, rfl, hx, hu, hr⟩ := RowAt.at (K := All) (R := StrAt) H3.out k hlt
        have hlt' : k < ys.length := by omega
        obtain ⟨b', o', u', rfl, hx', hu', hr'⟩ := RowAt.at (K := All) (R := StrAt) H3'.out k hlt'
        obtain rfl : u = .string (mk xs[k]) := hr
        obtain rfl : u' = .string (mk ys[k]) := hr'
        have hn := mk_ne xs[k] ys[k]
        have HE := Lib.hid (takes_eq xs ys k _ _ hx hx' HA.out)
        have HN := Lib.hid (takes_ne xs ys k _ _ hx hx')
        clear hx hx'
        generalize mk xs[k] = X at *
        generalize mk ys[k] = Y at *
        by_cases he : xs[k] = ys[k]
        · rw [decide_eq_true he] at hn
          have HE2 := Lib.hid (HE.out he)
          clear he
          go_wp2_with fail
          go_quiet (fail)
          go_wp2
          go_roundg (xs.length - (k + 1))
          case rel => exact ⟨k + 1, q + nq, by omega, rfl, by go_num, by first | rfl | rw [World.drewN_drewN], HE2.out⟩
          case measure => omega
        · rw [decide_eq_false he] at hn
          have HE2 := Lib.hid (HN.out he)
          clear he
          go_wp2_with fail
          go_quiet (fail)
          go_wp2
          go_ret
          exact ⟨by rw [HE2.out]; rfl, q + nq, by first | rfl | rw [World.drewN_drewN]⟩
      · go_wp2
        go_ret
        exact ⟨by rw [takes_all xs ys k (by omega) HL.out HA.out]; rfl, _, rfl⟩
  · have hlb : ((xs.length : Int) != (ys.length : Int)) = true := by simp; omega
    have HN := Lib.hid (lens_ne xs ys hl)
    clear hl
    go_enter Tryz.func125, Tryz.ntmps125
    go_wp2
    go_ret
    exact ⟨by rw [HN.out]; rfl, 0, rfl⟩

/-- A value in a box of the call's own. -/
def Box (w : World) (b : Nat) (v : Value) : Prop := b < w.heap.size ∧ w.cell? ⟨b, 0, none⟩ = some v
theorem Box.grw {w w' : World} {b : Nat} {v : Value} (h : Box w b v) (hb : Below w.heap.size w w') : Box w' b v :=
  ⟨Nat.lt_of_lt_of_le h.1 hb.size, by rw [hb.cell (p := ⟨b, 0, none⟩) h.1]; exact h.2⟩
theorem Box.new (w : World) (v : Value) (t : TypeId) : Box (w.alloc (.cells #[v] t)) w.heap.size v := ⟨by simp, by simp⟩
theorem below_drewq {w w' : World} (h : ∃ q, w' = w.drewN q) : Below w.heap.size w w' := by
  obtain ⟨q, rfl⟩ := h
  exact (Below.refl _ _).trans ⟨rfl, rfl, rfl, Nat.le_refl _, fun _ _ => rfl⟩
theorem equal_b (v v' : Value) (xs ys : List Tx) (w : World) (h : TxAt All w v xs) (h' : TxAt All w v' ys) :
    Calls Tryz.prog 125 #[v, v'] w fun e w' => e = .returned (.bool (decide (xs = ys))) ∧ Below w.heap.size w w' :=
  (equal_any v v' xs ys w h h').mono fun _ _ ⟨h1, h2⟩ => ⟨h1, below_drewq h2⟩

set_option maxHeartbeats 2000000 in
theorem sameSeg_any (v v' : Value) (xs ys : Sg) (w : World) (h : ElAt All w v xs) (h' : ElAt All w v' ys) :
    Calls Tryz.prog 97 #[.agg #[v], .agg #[v']] w fun e w' => e = .returned (.bool (decide (xs = ys))) ∧ Below w.heap.size w w' := by
  have hv := h
  have hv' := h'
  obtain ⟨a, c, rfl, h1, h2, -⟩ := h
  obtain ⟨a', c', rfl, h1', h2', -⟩ := h'
  unfold maxLen at h2 h2'
  have HW : Hid (ElAt All w (.slice a xs.length c) xs) := hv
  have HW' : Hid (ElAt All w (.slice a' ys.length c') ys) := hv'
  clear hv hv'
  have HG : Hid (∀ o1 o2, Below w.heap.size w ((w.alloc o1).alloc o2)) := fun o1 o2 => below_trans (below_alloc w o1) (below_alloc _ o2)
  by_cases hl : xs.length = ys.length
  · have hlb : ((xs.length : Int) != (ys.length : Int)) = false := by rw [hl]; simp
    have HL := Lib.hid hl
    have hl2 : xs.length ≤ ys.length := by omega
    clear hl
    go_enter Tryz.func97, Tryz.ntmps97
    go_wp2
    go_loopg [17] (xs.length) (fun gg i wr => ∃ k : Nat, k ≤ xs.length ∧ gg = xs.length - k ∧ i = .int .i64 k ∧ Hid (xs.take k = ys.take k) ∧ Hid (Below w.heap.size w wr) ∧ Hid (ElAt All wr (.slice a xs.length c) xs) ∧ Hid (ElAt All wr (.slice a' ys.length c') ys) ∧ Hid (Box wr (w.heap.size + 1) (.slice a' ys.length c')))
    case atStart =>
      refine ⟨0, Nat.zero_le _, rfl, rfl, rfl, HG.out _ _, ElAt.move HW.out (Below.moves (HG.out _ _)), ElAt.move HW'.out (Below.moves (HG.out _ _)), ?_⟩
      have := Box.new (w.alloc (.cells #[.slice a xs.length c] 50)) (.slice a' ys.length c') 50
      rw [show (w.alloc (.cells #[.slice a xs.length c] 50)).heap.size = w.heap.size + 1 from by simp] at this
      exact this
    case round =>
      obtain ⟨k, hk, hg, rfl, HA, HB, HE, HE', HX⟩ := hrel
      by_cases hlt : k < xs.length
      · obtain ⟨b, o, u, rfl, hx, hu, hr⟩ := RowAt.get HE.out k hlt
        have hlt' : k < ys.length := by omega
        obtain ⟨b', o', u', rfl, hx', hu', hr'⟩ := RowAt.get HE'.out k hlt'
        have HC := Lib.hid (equal_b u u' xs[k] ys[k] wr hr hr')
        have HQ := Lib.hid (takes_eq xs ys k _ _ hx hx' HA.out)
        have HN := Lib.hid (takes_ne xs ys k _ _ hx hx')
        obtain ⟨au, cu, rfl, _⟩ := hr
        obtain ⟨au', cu', rfl, _⟩ := hr'
        clear hx hx'
        obtain ⟨-, hbx⟩ := HX.out
        by_cases he : xs[k] = ys[k]
        · rw [decide_eq_true he] at HC
          have HE2 := Lib.hid (HQ.out he)
          clear he HN HQ
          go_wp2_with (go_at_call 125; refine HC.out.mono ?_; rintro e w' ⟨rfl, hb⟩; have HB2 := Lib.hid hb; clear hb)
          go_roundg (xs.length - (k + 1))
          case rel => exact ⟨k + 1, by omega, rfl, by go_num, HE2, below_trans HB.out HB2.out, ElAt.move HE.out (Below.moves HB2.out), ElAt.move HE'.out (Below.moves HB2.out), Box.grw HX.out HB2.out⟩
          case measure => omega
        · rw [decide_eq_false he] at HC
          have HE2 := Lib.hid (HN.out he)
          clear he HN HQ
          go_wp2_with (go_at_call 125; refine HC.out.mono ?_; rintro e w' ⟨rfl, hb⟩; have HB2 := Lib.hid hb; clear hb)
          go_ret
          exact ⟨by rw [HE2.out]; rfl, below_trans HB.out HB2.out⟩
      · go_wp2
        go_ret
        exact ⟨by rw [takes_all xs ys k (by omega) HL.out HA.out]; rfl, HB.out⟩
  · have hlb : ((xs.length : Int) != (ys.length : Int)) = true := by simp; omega
    have HN := Lib.hid (lens_ne xs ys hl)
    clear hl
    go_enter Tryz.func97, Tryz.ntmps97
    go_wp2
    go_ret
    exact ⟨by rw [HN.out]; rfl, HG.out _ _⟩

set_option maxHeartbeats 2000000 in
theorem equalFunc_any (v v' : Value) (xs ys : List Sg) (w : World) (h : SgAt All w v xs) (h' : SgAt All w v' ys) :
    Calls Tryz.prog 124 #[v, v', .func (.func 97) #[] #[]] w fun e w' => e = .returned (.bool (decide (xs = ys))) ∧ Below w.heap.size w w' := by
  have hv := h
  have hv' := h'
  obtain ⟨a, c, rfl, h1, h2, -⟩ := h
  obtain ⟨a', c', rfl, h1', h2', -⟩ := h'
  unfold maxLen at h2 h2'
  have HW : Hid (SgAt All w (.slice a xs.length c) xs) := hv
  have HW' : Hid (SgAt All w (.slice a' ys.length c') ys) := hv'
  clear hv hv'
  by_cases hl : xs.length = ys.length
  · have hlb : ((xs.length : Int) != (ys.length : Int)) = false := by rw [hl]; simp
    have HL := Lib.hid hl
    have hl2 : xs.length ≤ ys.length := by omega
    clear hl
    go_enter Tryz.func124, Tryz.ntmps124
    go_wp2
    go_loopg [17] (xs.length) (fun gg i wr => ∃ k : Nat, k ≤ xs.length ∧ gg = xs.length - k ∧ i = .int .i64 k ∧ Hid (xs.take k = ys.take k) ∧ Hid (Below w.heap.size w wr) ∧ Hid (SgAt All wr (.slice a xs.length c) xs) ∧ Hid (SgAt All wr (.slice a' ys.length c') ys))
    case atStart => exact ⟨0, Nat.zero_le _, rfl, rfl, rfl, Below.refl _ _, HW, HW'⟩
    case round =>
      obtain ⟨k, hk, hg, rfl, HA, HB, HE, HE'⟩ := hrel
      by_cases hlt : k < xs.length
      · obtain ⟨b, o, u, rfl, hx, hu, hr⟩ := RowAt.get HE.out k hlt
        have hlt' : k < ys.length := by omega
        obtain ⟨b', o', u', rfl, hx', hu', hr'⟩ := RowAt.get HE'.out k hlt'
        have hbl := World.block_lt_of_cell? wr ⟨b', o' + k, none⟩ hu'
        have hn' : b' ≠ wr.heap.size := Nat.ne_of_lt hbl
        have HG : Hid (∀ o1 o2, Below wr.heap.size wr ((wr.alloc o1).alloc o2)) := fun o1 o2 => below_trans (below_alloc wr o1) (below_alloc _ o2)
        have HC := Lib.hid fun o1 o2 => sameSeg_any u u' xs[k] ys[k] ((wr.alloc o1).alloc o2) (ElAt.move hr (Below.moves (HG.out o1 o2))) (ElAt.move hr' (Below.moves (HG.out o1 o2)))
        have HQ := Lib.hid (takes_eq xs ys k _ _ hx hx' HA.out)
        have HN := Lib.hid (takes_ne xs ys k _ _ hx hx')
        obtain ⟨au, cu, rfl, _⟩ := hr
        obtain ⟨au', cu', rfl, _⟩ := hr'
        clear hx hx'
        have hu2 : (wr.alloc (.cells #[.slice au xs[k].length cu] 50)).cell? ⟨b', o' + k, none⟩ = some (.slice au' ys[k].length cu') := by rw [(below_alloc wr _).cell (p := ⟨b', o' + k, none⟩) hbl]; exact hu'
        clear hbl
        by_cases he : xs[k] = ys[k]
        · rw [decide_eq_true he] at HC
          have HE2 := Lib.hid (HQ.out he)
          clear he HN HQ
          go_wp2_with (go_at_call 97; refine (HC.out _ _).mono ?_; rintro e w' ⟨rfl, hb⟩; have HB2 := Lib.hid (below_trans (HG.out _ _) hb); clear hb)
          go_roundg (xs.length - (k + 1))
          case rel => exact ⟨k + 1, by omega, rfl, by go_num, HE2, below_trans HB.out HB2.out, SgAt.move HE.out (Below.moves HB2.out), SgAt.move HE'.out (Below.moves HB2.out)⟩
          case measure => omega
        · rw [decide_eq_false he] at HC
          have HE2 := Lib.hid (HN.out he)
          clear he HN HQ
          go_wp2_with (go_at_call 97; refine (HC.out _ _).mono ?_; rintro e w' ⟨rfl, hb⟩; have HB2 := Lib.hid (below_trans (HG.out _ _) hb); clear hb)
          go_ret
          exact ⟨by rw [HE2.out]; rfl, below_trans HB.out HB2.out⟩
      · go_wp2
        go_ret
        exact ⟨by rw [takes_all xs ys k (by omega) HL.out HA.out]; rfl, HB.out⟩
  · have hlb : ((xs.length : Int) != (ys.length : Int)) = true := by simp; omega
    have HN := Lib.hid (lens_ne xs ys hl)
    clear hl
    go_enter Tryz.func124, Tryz.ntmps124
    go_wp2
    go_ret
    exact ⟨by rw [HN.out]; rfl, Below.refl _ _⟩

set_option maxHeartbeats 1000000 in
theorem sameSegs_any (v v' : Value) (xs ys : List Sg) (w : World) (h : SgAt All w v xs) (h' : SgAt All w v' ys) :
    Calls Tryz.prog 96 #[v, v'] w fun e w' => e = .returned (.bool (decide (xs = ys))) ∧ Below w.heap.size w w' := by
  have HC := Lib.hid (equalFunc_any v v' xs ys w h h')
  obtain ⟨a, c, rfl, -, -, -⟩ := h
  obtain ⟨a', c', rfl, -, -, -⟩ := h'
  generalize decide (xs = ys) = b at *
  go_enter Tryz.func96, Tryz.ntmps96
  go_wp2_with (go_at_call 124; refine HC.out.mono ?_; rintro e w' ⟨rfl, hb⟩; have HB2 := Lib.hid hb; clear hb)
  go_ret
  exact ⟨rfl, HB2.out⟩
end Go.Proofs.YtpmnepihaljamaaGreatDoor
end

/-
  What seg.named and seg.plainParts answer, as contracts: for every segment.
-/
section
set_option linter.unusedSimpArgs false
namespace Go.Proofs.YtpmnepihaljamaaGreatDoor
open Go.RowKit

theorem mk_nil (x : Tx) : ((mk x).toList == []) = x.isEmpty := by
  rw [Lib.toList_data, mk_list]
  cases x <;> rfl
theorem mk_empty (x : Tx) : (mk x).toList.isEmpty = x.isEmpty := by rw [Lib.toList_data, mk_list]

set_option maxHeartbeats 1000000 in
theorem named_any (v : Value) (g : Sg) (w : World) (h : ElAt All w v g) :
    Calls Tryz.prog 82 #[.agg #[v]] w fun e w' => e = .returned (.bool (namedB g)) ∧ Below w.heap.size w w' := by
  have hB : Hid (∀ o, Below w.heap.size w (w.alloc o)) := fun o => (Below.refl _ w).alloc (Nat.le_refl _) o
  obtain ⟨a, c, rfl, h1, h2, h3⟩ := h
  unfold maxLen at h2
  cases g with
  | nil =>
    clear h3
    go_enter Tryz.func82, Tryz.ntmps82
    go_wp2
    go_ret
    exact ⟨rfl, hB.out _⟩
  | cons ps r =>
    rcases h3 with h3 | ⟨b, o, rfl, _, hb, hc⟩
    · cases h3
    obtain ⟨u, hu, a', c', rfl, h1', h2', h3'⟩ := hc 0 ps rfl
    have hn : b ≠ w.heap.size := Nat.ne_of_lt hb
    rw [Nat.add_zero] at hu
    unfold maxLen at h2'
    rw [List.length_cons] at h1 ⊢
    generalize r.length = n at h1 ⊢
    clear hc
    rcases ps with _ | ⟨x, _ | ⟨y, z⟩⟩
    · have HV : Hid (namedB ([] :: r) = false) := rfl
      clear h3'
      go_enter Tryz.func82, Tryz.ntmps82
      go_wp2
      go_ret
      exact ⟨by rw [HV.out]; rfl, hB.out _⟩
    · rcases h3' with h3' | ⟨b', o', rfl, _, hb', hc'⟩
      · cases h3'
      obtain ⟨u', hu', rfl⟩ := hc' 0 x rfl
      have hn' : b' ≠ w.heap.size := Nat.ne_of_lt hb'
      rw [Nat.add_zero] at hu'
      have HV : Hid (namedB ([x] :: r) = !x.isEmpty) := rfl
      have e1 := mk_nil x
      have e2 := mk_empty x
      generalize mk x = X at *
      generalize x.isEmpty = q at *
      clear hc'
      cases q
      · have e3 : ¬ X.toList = [] := by intro e; rw [e] at e1; cases e1
        go_enter Tryz.func82, Tryz.ntmps82
        go_wp2
        go_ret
        exact ⟨by rw [HV.out]; rfl, hB.out _⟩
      · have e3 : X.toList = [] := by simpa using e1
        go_enter Tryz.func82, Tryz.ntmps82
        go_wp2
        go_ret
        exact ⟨by rw [HV.out]; rfl, hB.out _⟩
    · have HV : Hid (namedB ((x :: y :: z) :: r) = false) := rfl
      rw [List.length_cons, List.length_cons] at h1' hu
      generalize hz : z.length + 1 + 1 = m at h1' hu
      have hm : ((m : Int) == 1) = false := by rw [beq_eq_false_iff_ne]; omega
      clear h3' hz
      go_enter Tryz.func82, Tryz.ntmps82
      go_wp2
      go_ret
      exact ⟨by rw [HV.out]; rfl, hB.out _⟩
end Go.Proofs.YtpmnepihaljamaaGreatDoor
end

/-
  The functions that know their sign: seg.cutter, seg.joiner and what they make, as contracts.
-/
section
namespace Go.Proofs.YtpmnepihaljamaaGreatDoor
open Go.RowKit

theorem add_off (b o j : Nat) : (⟨b, o, none⟩ : Addr).add j = ⟨b, o + j, none⟩ := by unfold Addr.add; split <;> simp_all
theorem conv1 (W : World) (c : UInt8) : (convert 107 9 (.slice (some ⟨W.heap.size, 0, none⟩) 1 1)).run Tryz.prog (W.alloc (.cells #[.int .u8 c.toNat] 5)) = .ok (.string (mk [c])) (W.alloc (.cells #[.int .u8 c.toNat] 5)) :=
  run_convert_bytes_back (P := Tryz.prog) (W.alloc (.cells #[.int .u8 (c.toNat : Int)] 5)) 107 9 5 ⟨W.heap.size, 0, none⟩ 1 [c] Tryz.underlying107 Tryz.underlying5 Tryz.underlying9 (fun j hj => by
    have : j = 0 := by simpa using hj
    subst this
    rw [add_off, World.cell?_alloc_new]
    rfl)
abbrev markW (c : UInt8) (w : World) : World := (w.alloc (.cells #[.int .u8 c.toNat] 5)).alloc (.cells #[.string (mk [c])] 9)

set_option maxHeartbeats 800000 in
theorem cutter_any (c : UInt8) (w : World) :
    Calls Tryz.prog 94 #[.int .u8 c.toNat] w fun e w' => e = .returned (.func (.func 122) #[] #[.pointer (some ⟨w.heap.size + 1, 0, none⟩)]) ∧ w' = markW c w := by
  have hc := conv1 w c
  generalize hm : mk [c] = m at hc
  have HM := Lib.hid hm
  clear hm
  go_enter Tryz.func94, Tryz.ntmps94
  go_wp2
  go_ret
  exact ⟨rfl, by rw [← HM.out]⟩
set_option maxHeartbeats 800000 in
theorem joiner_any (c : UInt8) (w : World) :
    Calls Tryz.prog 81 #[.int .u8 c.toNat] w fun e w' => e = .returned (.func (.func 114) #[] #[.pointer (some ⟨w.heap.size + 1, 0, none⟩)]) ∧ w' = markW c w := by
  have hc := conv1 w c
  generalize hm : mk [c] = m at hc
  have HM := Lib.hid hm
  clear hm
  go_enter Tryz.func81, Tryz.ntmps81
  go_wp2
  go_ret
  exact ⟨rfl, by rw [← HM.out]⟩
set_option maxHeartbeats 800000 in
theorem cut_any (s : ByteArray) (c : UInt8) (b : Nat) (w : World) (hb : w.cell? ⟨b, 0, none⟩ = some (.string (mk [c]))) (hT : Tab w) (hs : s.size ≤ 65536) :
    Calls Tryz.prog 122 #[.string s, .pointer (some ⟨b, 0, none⟩)] w fun e w' => ∃ v, e = .returned v ∧ TxAt (fun b => w.heap.size ≤ b) w' v (splitC c s.data.toList) ∧ Below w.heap.size w w' := by
  have h := strings_split s c w hT hs
  have HH := Lib.hid h
  clear h
  generalize hm : mk [c] = m at hb HH
  go_enter Tryz.func122, Tryz.ntmps122
  go_wp2_with (go_at_call 123; refine HH.out.mono ?_; rintro e w' ⟨v, rfl, h1, h2⟩; have H1 := Lib.hid h1; have H2 := Lib.hid h2; clear h1 h2)
  go_ret
  exact ⟨v, rfl, H1.out, H2.out⟩
set_option maxHeartbeats 800000 in
theorem join_any (v : Value) (xs : List Tx) (c : UInt8) (b : Nat) (w : World) (h : TxAt All w v xs) (hb : w.cell? ⟨b, 0, none⟩ = some (.string (mk [c]))) (hl : (joinC c xs).length ≤ 1000000) :
    Calls Tryz.prog 114 #[v, .pointer (some ⟨b, 0, none⟩)] w fun e w' => e = .returned (.string (mk (joinC c xs))) ∧ Below w.heap.size w w' := by
  have h := strings_join v xs c w h hl
  have HH := Lib.hid h
  clear h
  generalize hm : mk [c] = m at hb HH
  generalize mk (joinC c xs) = r at HH
  go_enter Tryz.func114, Tryz.ntmps114
  go_wp2_with (go_at_call 115; refine HH.out.mono ?_; rintro e w' ⟨rfl, h2⟩; have H2 := Lib.hid h2; clear h2)
  go_ret
  exact ⟨rfl, H2.out⟩
end Go.Proofs.YtpmnepihaljamaaGreatDoor
end
