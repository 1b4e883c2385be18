/-
  Texts put together (merge.py): YChk.
-/
import Derived.Test.YtfoooldkmokjpaaGreatDoorMj10
import Derived.Test.YtfoooldkmokjpaaGreatDoorMj13
set_option linter.unusedSimpArgs false
set_option linter.unusedVariables false
section
set_option maxRecDepth 100000
namespace Go.Proofs.YtfoooldkmokjpaaGreatDoor.Ac
open Go.RowKit
def prv (l : List Row) (k : Nat) : Option Row := if k = 0 then none else l[k - 1]?
theorem prv_succ (l : List Row) (k : Nat) (hk : k < l.length) : prv l (k + 1) = some l[k] := by
 unfold prv
 rw [if_neg (by omega), Nat.add_sub_cancel]
 exact List.getElem?_eq_getElem hk
theorem ck_step (l : List Row) (k : Nat) (hk : k < l.length) : ckE (prv l k) (l.drop k) = if oneB l[k] = true then (if behB (prv l k) l[k] = true then ckE (prv l (k + 1)) (l.drop (k + 1)) else 11) else 1 := by
 rw [List.drop_eq_getElem_cons hk, prv_succ l k hk]
 rfl
theorem ck_done (l : List Row) (k : Nat) (hk : l.length ≤ k) : ckE (prv l k) (l.drop k) = 0 := by
 rw [List.drop_eq_nil_of_le hk]; cases prv l k <;> rfl
theorem beh_zero (l : List Row) (x : Row) : behB (prv l 0) x = true := rfl
theorem beh_pos (l : List Row) (k : Nat) (hk : k < l.length) (x : Row) : behB (prv l (k + 1)) x = aheadB l[k] x := by rw [prv_succ l k hk]; rfl
theorem one_amt (x : Row) : oneB x = (Ce.good x.de && (Ce.good x.oo && (decide (x.de ≤ x.oo) && decide (x.oo ≠ 0)))) := by
 rw [Bool.eq_iff_iff, one_iff]
 simp only [Bool.and_eq_true, decide_eq_true_eq, Ce.good_iff]
 omega
theorem amt_any (x : Row) (w : World) : Calls Tryz.prog 45 #[rwv x] w fun e w' => e = .returned (.bool (oneB x)) ∧ Below w.heap.size w w' := by
 rw [one_amt]
 cases g1 : Ce.good x.de with
 | false =>
  go_enter Tryz.func45, Tryz.ntmps45
  go_wp2_with (go_at_call 79; refine (Ce.good_any _ _).mono ?_; rintro e w' ⟨rfl, rfl⟩; rw [g1])
  go_ret
  exact ⟨rfl, below_alloc _ _⟩
 | true =>
  cases g2 : Ce.good x.oo with
  | false =>
   go_enter Tryz.func45, Tryz.ntmps45
   go_wp2_with (go_at_call 79; refine (Ce.good_any _ _).mono ?_; rintro e w' ⟨rfl, rfl⟩; first | rw [g1] | rw [g2])
   go_ret
   exact ⟨rfl, below_alloc _ _⟩
  | true =>
   by_cases h3 : x.de ≤ x.oo
   ·have d3 : decide (x.de ≤ x.oo) = true := decide_eq_true h3
    rw [d3]
    by_cases h4 : x.oo = 0
    ·have d4 : decide (x.oo ≠ 0) = false := by simp [h4]
     have n4 : (x.oo != 0) = false := by simp [h4]
     rw [d4]
     clear h4 d4
     go_enter Tryz.func45, Tryz.ntmps45
     go_wp2_with (go_at_call 79; refine (Ce.good_any _ _).mono ?_; rintro e w' ⟨rfl, rfl⟩; first | rw [g1] | rw [g2])
     go_ret
     exact ⟨rfl, below_alloc _ _⟩
    ·have d4 : decide (x.oo ≠ 0) = true := by simp [h4]
     have n4 : (x.oo != 0) = true := by simp [h4]
     rw [d4]
     clear h4 d4
     go_enter Tryz.func45, Tryz.ntmps45
     go_wp2_with (go_at_call 79; refine (Ce.good_any _ _).mono ?_; rintro e w' ⟨rfl, rfl⟩; first | rw [g1] | rw [g2])
     go_ret
     exact ⟨rfl, below_alloc _ _⟩
   ·have d3 : decide (x.de ≤ x.oo) = false := decide_eq_false h3
    rw [d3]
    go_enter Tryz.func45, Tryz.ntmps45
    go_wp2_with (go_at_call 79; refine (Ce.good_any _ _).mono ?_; rintro e w' ⟨rfl, rfl⟩; first | rw [g1] | rw [g2])
    go_ret
    exact ⟨rfl, below_alloc _ _⟩
set_option maxHeartbeats 8000000 in
theorem check_any (l : List Row) (v : Value) (w : World) (h : RwsAt All w v l) (hl : l.length ≤ 100000) :
  Calls Tryz.prog 25 #[v] w fun e w' => e = .returned (.int .i64 (checkE l)) ∧ Below w.heap.size w w' := by
 obtain ⟨fa, fk, rfl, hm1, hm2⟩ := h.form
 have HF := Lib.hid h
 obtain ⟨C, HC⟩ : ∃ C, Hid (checkE l = C) := ⟨_, (rfl : checkE l = _)⟩
 have HC0 : Hid (ckE (prv l 0) (l.drop 0) = C) := HC.out
 have HAm := Lib.hid amt_any
 have HOr := Lib.hid order_any
 rw [HC.out]
 clear h HC
 go_enter Tryz.func25, Tryz.ntmps25
 go_wp2
 go_loopg [7] (l.length) (fun g s7 wr => ∃ k : Nat, s7 = .int .i64 k ∧ k ≤ l.length ∧ l.length - k ≤ g ∧ Hid (Below w.heap.size w wr) ∧ Hid (ckE (prv l k) (l.drop k) = C))
 case atStart => exact ⟨0, rfl, Nat.zero_le _, by omega, Below.refl _ _, HC0.out⟩
 case round =>
  obtain ⟨k, rfl, hk, hgk, HBn, HI⟩ := hrel
  clear HC0
  by_cases hlt : k < l.length
  ·have hltz : (k : Int) < (l.length : Int) := by omega
   have HI2 : Hid (C = if oneB l[k] = true then (if behB (prv l k) l[k] = true then ckE (prv l (k + 1)) (l.drop (k + 1)) else 11) else 1) := HI.out.symm.trans (ck_step l k hlt)
   obtain ⟨b, oo, rfl, hbw, -, hc⟩ := RwsAt.get (HF.out.grw HBn.out) k hlt
   obtain ⟨x, HX⟩ : ∃ x, Hid (l[k] = x) := ⟨l[k], (rfl : l[k] = l[k])⟩
   rw [HX.out] at HI2 hc
   obtain ⟨x0, x1, x2, x3, x4⟩ := hc
   have hb2 := below_alloc wr (.cells #[.string (mk x.who), .bool x.fam, .int .i64 x.year, .int .i64 x.de, .int .i64 x.oo] TA)
   have HZ := Lib.hid (heap_alloc_new wr (.cells #[.string (mk x.who), .bool x.fam, .int .i64 x.year, .int .i64 x.de, .int .i64 x.oo] TA))
   have HB2 := Lib.hid (below_trans HBn.out hb2)
   clear hb2 HI
   go_upto_region 4 with fail
   clear x0 x1 x2 x3 x4
   generalize wr.alloc (.cells #[.string (mk x.who), .bool x.fam, .int .i64 x.year, .int .i64 x.de, .int .i64 x.oo] TA) = W at *
   generalize hp : wr.heap.size = p at *
   obtain ⟨z0, z1, z2, z3, z4⟩ := cells5 HZ.out
   go_wp2_with fail
   go_at_call 45
   refine (HAm.out x W).mono ?_
   rintro e w3 ⟨rfl, hb3⟩
   have HB3 := Lib.hid (below_trans HB2.out hb3)
   have HZ3 := Lib.hid (keepB HZ.out hb3)
   clear hb3 HB2 HZ z0 z1 z2 z3 z4 HBn
   cases ho : oneB x with
   | false =>
    have HCe : Hid (C = 1) := HI2.out.trans (by rw [if_neg (by rw [ho]; decide)])
    clear HI2
    go_wp2
    go_ret
    exact ⟨by first | (rw [HCe.out]; done) | (rw [HCe.out]; rfl), HB3.out⟩
   | true =>
    have HI3 : Hid (C = if behB (prv l k) x = true then ckE (prv l (k + 1)) (l.drop (k + 1)) else 11) := HI2.out.trans (by rw [if_pos ho])
    clear HI2
    have HD := Lib.hid (Below.drew (Below.refl w3.heap.size w3))
    by_cases hk0 : k = 0
    ·subst hk0
     have HI4 : Hid (ckE (prv l (0 + 1)) (l.drop (0 + 1)) = C) := (HI3.out.trans (if_pos (beh_zero l x))).symm
     clear HI3
     go_upto_region 6 with fail
     refine Ri.wp_region_lastingB_g (by kernel_rfl) (by kernel_rfl) (by kernel_rfl) (fun Wx => Below w3.heap.size w3 Wx) (fun kz vs wz => (fun kx vx wx => match kx with | 0 => vx = .int .i64 0 | 1 => vx = .bool false | 2 => vx = .bool false | 3 => True | 4 => True | 5 => True | 6 => True | 7 => True | 8 => True | 9 => True | 10 => True | 11 => vx = .bool false | _ => True : Nat → Value → World → Prop) kz (vs kz) wz) (fun kz => [kz]) (by kernel_rfl) (fun jz vs iz vz wz hiz hz => Ri.loc_own (F := (fun kx vx wx => match kx with | 0 => vx = .int .i64 0 | 1 => vx = .bool false | 2 => vx = .bool false | 3 => True | 4 => True | 5 => True | 6 => True | 7 => True | 8 => True | 9 => True | 10 => True | 11 => vx = .bool false | _ => True : Nat → Value → World → Prop)) jz vs iz vz wz hiz hz) HD.out ⟨Or.inl ⟨rfl, ?_⟩, Or.inl ⟨rfl, ?_⟩, Or.inl ⟨rfl, ?_⟩, Or.inr ⟨2, true, 17, rfl, rfl, ?_⟩, Or.inr ⟨2, true, 17, rfl, rfl, ?_⟩, Or.inr ⟨2, true, 17, rfl, rfl, ?_⟩, Or.inr ⟨2, true, 17, rfl, rfl, ?_⟩, Or.inr ⟨2, true, 17, rfl, rfl, ?_⟩, Or.inr ⟨2, true, 17, rfl, rfl, ?_⟩, Or.inr ⟨2, true, 17, rfl, rfl, ?_⟩, Or.inr ⟨2, true, 17, rfl, rfl, ?_⟩, Or.inl ⟨rfl, ?_⟩, trivial⟩ ?_
     ·intro vs Wx A hA hB hpre K hK
      have e3 := (hA 3).trans (show _ = Value.int .i64 0 by kernel_rfl)
      clear hA hpre
      go_simp
      exact hK _ _ hB rfl (fun _ _ h => h)
     ·intro vs Wx A hA hB hpre K hK
      have e15 := ((hA 15).trans (show _ = vs 0 by kernel_rfl)).trans (hpre.1 rfl)
      clear hA hpre
      go_simp
      exact hK _ _ hB rfl (fun _ _ h => h)
     ·intro vs Wx A hA hB hpre K hK
      have e16 := ((hA 16).trans (show _ = vs 1 by kernel_rfl)).trans (hpre.1 rfl)
      clear hA hpre
      go_simp
      exact hK _ _ hB rfl (fun _ _ h => h)
     iterate 2
      ·intro vs Wx A hA hB hpre
       have eg := ((hA 17).trans (show _ = vs 2 by kernel_rfl)).trans (hpre.1 rfl)
       exact ⟨false, eg, fun h => (by cases h), fun _ => trivial⟩
     ·intro vs Wx A hA hB hpre
      have eg := ((hA 17).trans (show _ = vs 2 by kernel_rfl)).trans (hpre.2.1 rfl)
      exact ⟨false, eg, fun h => (by cases h), fun _ => trivial⟩
     ·intro vs Wx A hA hB hpre
      have eg := ((hA 17).trans (show _ = vs 2 by kernel_rfl)).trans (hpre.2.2.1 rfl)
      exact ⟨false, eg, fun h => (by cases h), fun _ => trivial⟩
     ·intro vs Wx A hA hB hpre
      have eg := ((hA 17).trans (show _ = vs 2 by kernel_rfl)).trans (hpre.2.1 rfl)
      exact ⟨false, eg, fun h => (by cases h), fun _ => trivial⟩
     ·intro vs Wx A hA hB hpre
      have eg := ((hA 17).trans (show _ = vs 2 by kernel_rfl)).trans (hpre.1 rfl)
      exact ⟨false, eg, fun h => (by cases h), fun _ => trivial⟩
     ·intro vs Wx A hA hB hpre
      have eg := ((hA 17).trans (show _ = vs 2 by kernel_rfl)).trans (hpre.2.2.1 rfl)
      exact ⟨false, eg, fun h => (by cases h), fun _ => trivial⟩
     ·intro vs Wx A hA hB hpre
      have eg := ((hA 17).trans (show _ = vs 2 by kernel_rfl)).trans (hpre.2.1 rfl)
      exact ⟨false, eg, fun h => (by cases h), fun _ => trivial⟩
     ·intro vs Wx A hA hB hpre K hK
      have e17 := ((hA 17).trans (show _ = vs 2 by kernel_rfl)).trans (hpre.1 rfl)
      clear hA hpre
      go_simp
      exact hK _ _ hB rfl (fun _ _ h => h)
     ·intro vs Wx hB hF
      have hL : vs 11 = .bool false := hF 11 (by decide)
      have HBW := Lib.hid (below_trans HB3.out hB)
      clear hF hB
      simp only [Ri.puts]
      rw [hL]
      clear hL
      go_simp
      go_wp2
      go_roundg (l.length - 1)
      case measure => omega
      case rel => exact ⟨0 + 1, by first | rfl | go_num | (congr 1; omega), by omega, by omega, HBW.out, HI4.out⟩
    ·obtain ⟨j, hkj⟩ : ∃ j, k = j + 1 := ⟨k - 1, by omega⟩
     have hj : j < l.length := by omega
     have hkz : 0 < k := by omega
     have hjw : IntKind.i64.wrap ((k : Int) - 1) = (j : Int) := by rw [IntKind.wrap_i64]; omega
     have HKJ := Lib.hid hkj
     obtain ⟨y, HY⟩ : ∃ y, Hid (l[j] = y) := ⟨l[j], (rfl : l[j] = l[j])⟩
     have HI4 : Hid (C = if aheadB y x = true then ckE (prv l (j + 1 + 1)) (l.drop (j + 1 + 1)) else 11) := HI3.out.trans (by rw [hkj, beh_pos l j hj, HY.out])
     have HXK := Lib.hid fun W' (hW : Below w3.heap.size w3 W') => And.intro (cell_keep (HF.out.grw (below_trans HB3.out hW)) j hj) (cells5 (keepB HZ3.out hW))
     rw [HY.out] at HXK
     clear HI3 hk0 hkj
     go_upto_region 6 with fail
     refine Ri.wp_region_lastingB_g (by kernel_rfl) (by kernel_rfl) (by kernel_rfl) (fun Wx => Below w3.heap.size w3 Wx) (fun kz vs wz => (fun kx vx wx => match kx with | 0 => vx = .int .i64 (k : Nat) | 1 => vx = .bool true | 2 => vx = .bool true | 3 => vx = .slice (some ⟨b, oo, none⟩) l.length fk | 4 => vx = .int .i64 (k : Nat) | 5 => vx = .int .i64 (j : Nat) | 6 => vx = .pointer (some ⟨b, oo + j * 5, none⟩) | 7 => vx = rwv y | 8 => vx = rwv x | 9 => vx = .int .i64 (ordV y x) | 10 => vx = .bool (decide (0 ≤ ordV y x)) | 11 => vx = .bool (decide (0 ≤ ordV y x)) | _ => True : Nat → Value → World → Prop) kz (vs kz) wz) (fun kz => [kz]) (by kernel_rfl) (fun jz vs iz vz wz hiz hz => Ri.loc_own (F := (fun kx vx wx => match kx with | 0 => vx = .int .i64 (k : Nat) | 1 => vx = .bool true | 2 => vx = .bool true | 3 => vx = .slice (some ⟨b, oo, none⟩) l.length fk | 4 => vx = .int .i64 (k : Nat) | 5 => vx = .int .i64 (j : Nat) | 6 => vx = .pointer (some ⟨b, oo + j * 5, none⟩) | 7 => vx = rwv y | 8 => vx = rwv x | 9 => vx = .int .i64 (ordV y x) | 10 => vx = .bool (decide (0 ≤ ordV y x)) | 11 => vx = .bool (decide (0 ≤ ordV y x)) | _ => True : Nat → Value → World → Prop)) jz vs iz vz wz hiz hz) HD.out ⟨Or.inl ⟨rfl, ?_⟩, Or.inl ⟨rfl, ?_⟩, Or.inl ⟨rfl, ?_⟩, Or.inr ⟨2, true, 17, rfl, rfl, ?_⟩, Or.inr ⟨2, true, 17, rfl, rfl, ?_⟩, Or.inr ⟨2, true, 17, rfl, rfl, ?_⟩, Or.inr ⟨2, true, 17, rfl, rfl, ?_⟩, Or.inr ⟨2, true, 17, rfl, rfl, ?_⟩, Or.inr ⟨2, true, 17, rfl, rfl, ?_⟩, Or.inr ⟨2, true, 17, rfl, rfl, ?_⟩, Or.inr ⟨2, true, 17, rfl, rfl, ?_⟩, Or.inl ⟨rfl, ?_⟩, trivial⟩ ?_
     ·intro vs Wx A hA hB hpre K hK
      have e3 := (hA 3).trans (show _ = Value.int .i64 (k : Nat) by kernel_rfl)
      clear hA hpre
      go_simp
      exact hK _ _ hB rfl (fun _ _ h => h)
     ·intro vs Wx A hA hB hpre K hK
      have e15 := ((hA 15).trans (show _ = vs 0 by kernel_rfl)).trans (hpre.1 rfl)
      clear hA hpre
      go_simp
      exact hK _ _ hB rfl (fun _ _ h => h)
     ·intro vs Wx A hA hB hpre K hK
      have e16 := ((hA 16).trans (show _ = vs 1 by kernel_rfl)).trans (hpre.1 rfl)
      clear hA hpre
      go_simp
      exact hK _ _ hB rfl (fun _ _ h => h)
     ·intro vs Wx A hA hB hpre
      have eg := ((hA 17).trans (show _ = vs 2 by kernel_rfl)).trans (hpre.1 rfl)
      refine ⟨true, eg, fun _ K hK => ?_, fun h => absurd rfl h⟩
      have e0 := (hA 0).trans (show _ = Value.slice (some ⟨b, oo, none⟩) l.length fk by kernel_rfl)
      clear hA hpre
      go_simp
      exact hK _ _ hB rfl (fun _ _ h => h)
     ·intro vs Wx A hA hB hpre
      have eg := ((hA 17).trans (show _ = vs 2 by kernel_rfl)).trans (hpre.1 rfl)
      refine ⟨true, eg, fun _ K hK => ?_, fun h => absurd rfl h⟩
      have e3 := (hA 3).trans (show _ = Value.int .i64 (k : Nat) by kernel_rfl)
      clear hA hpre
      go_simp
      exact hK _ _ hB rfl (fun _ _ h => h)
     ·intro vs Wx A hA hB hpre
      have eg := ((hA 17).trans (show _ = vs 2 by kernel_rfl)).trans (hpre.2.1 rfl)
      refine ⟨true, eg, fun _ K hK => ?_, fun h => absurd rfl h⟩
      have e19 := ((hA 19).trans (show _ = vs 4 by kernel_rfl)).trans (hpre.1 rfl)
      clear hA hpre
      go_simp
      exact hK _ _ hB rfl (fun _ _ h => h)
     ·intro vs Wx A hA hB hpre
      have eg := ((hA 17).trans (show _ = vs 2 by kernel_rfl)).trans (hpre.2.2.1 rfl)
      refine ⟨true, eg, fun _ K hK => ?_, fun h => absurd rfl h⟩
      have e18 := ((hA 18).trans (show _ = vs 3 by kernel_rfl)).trans (hpre.1 rfl)
      have e20 := ((hA 20).trans (show _ = vs 5 by kernel_rfl)).trans (hpre.2.1 rfl)
      clear hA hpre
      go_simp
      exact hK _ _ hB rfl (fun _ _ h => h)
     ·intro vs Wx A hA hB hpre
      have eg := ((hA 17).trans (show _ = vs 2 by kernel_rfl)).trans (hpre.2.1 rfl)
      refine ⟨true, eg, fun _ K hK => ?_, fun h => absurd rfl h⟩
      have e21 := ((hA 21).trans (show _ = vs 6 by kernel_rfl)).trans (hpre.1 rfl)
      obtain ⟨⟨x0, x1, x2, x3, x4⟩, ⟨y0, y1, y2, y3, y4⟩⟩ := HXK.out Wx hB
      clear hA hpre
      go_simp
      exact hK _ _ hB rfl (fun _ _ h => h)
     ·intro vs Wx A hA hB hpre
      have eg := ((hA 17).trans (show _ = vs 2 by kernel_rfl)).trans (hpre.1 rfl)
      refine ⟨true, eg, fun _ K hK => ?_, fun h => absurd rfl h⟩
      have e4 := (hA 4).trans (show _ = Value.pointer (some ⟨p, 0, none⟩) by kernel_rfl)
      obtain ⟨⟨x0, x1, x2, x3, x4⟩, ⟨y0, y1, y2, y3, y4⟩⟩ := HXK.out Wx hB
      clear hA hpre
      go_simp
      exact hK _ _ hB rfl (fun _ _ h => h)
     ·intro vs Wx A hA hB hpre
      have eg := ((hA 17).trans (show _ = vs 2 by kernel_rfl)).trans (hpre.2.2.1 rfl)
      refine ⟨true, eg, fun _ K hK => ?_, fun h => absurd rfl h⟩
      have e22 := ((hA 22).trans (show _ = vs 7 by kernel_rfl)).trans (hpre.1 rfl)
      have e23 := ((hA 23).trans (show _ = vs 8 by kernel_rfl)).trans (hpre.2.1 rfl)
      clear hA hpre
      go_simp
      go_at_call 46
      refine (HOr.out _ _ _).mono ?_
      rintro e w4 ⟨rfl, hg⟩
      exact hK _ _ (below_trans hB hg) rfl (fun _ _ h => h)
     ·intro vs Wx A hA hB hpre
      have eg := ((hA 17).trans (show _ = vs 2 by kernel_rfl)).trans (hpre.2.1 rfl)
      refine ⟨true, eg, fun _ K hK => ?_, fun h => absurd rfl h⟩
      have e24 := ((hA 24).trans (show _ = vs 9 by kernel_rfl)).trans (hpre.1 rfl)
      clear hA hpre
      go_simp
      exact hK _ _ hB rfl (fun _ _ h => h)
     ·intro vs Wx A hA hB hpre K hK
      have e17 := ((hA 17).trans (show _ = vs 2 by kernel_rfl)).trans (hpre.1 rfl)
      have e25 := ((hA 25).trans (show _ = vs 10 by kernel_rfl)).trans (hpre.2.1 rfl)
      clear hA hpre
      go_simp
      exact hK _ _ hB rfl (fun _ _ h => h)
     ·intro vs Wx hB hF
      have hL : vs 11 = .bool (decide (0 ≤ ordV y x)) := hF 11 (by decide)
      have HBW := Lib.hid (below_trans HB3.out hB)
      clear hF hB
      simp only [Ri.puts]
      rw [hL, ord_ge]
      clear hL
      cases hlv : aheadB y x with
      | true =>
       have HI5 : Hid (ckE (prv l (j + 1 + 1)) (l.drop (j + 1 + 1)) = C) := (HI4.out.trans (if_pos hlv)).symm
       clear HI4
       go_simp
       go_wp2
       go_roundg (l.length - (k + 1))
       case measure => omega
       case rel => exact ⟨k + 1, by first | rfl | go_num | (congr 1; omega), by omega, by omega, HBW.out, by rw [HKJ.out]; exact HI5.out⟩
      | false =>
       have HCe : Hid (C = 11) := HI4.out.trans (by rw [if_neg (by rw [hlv]; decide)])
       clear HI4
       go_simp
       go_wp2
       go_ret
       exact ⟨by first | (rw [HCe.out]; done) | (rw [HCe.out]; rfl), HBW.out⟩
  ·have hltz : ¬ (k : Int) < (l.length : Int) := by omega
   have HCe : Hid (C = 0) := HI.out.symm.trans (ck_done l k (by omega))
   go_wp2
   go_ret
   exact ⟨by first | (rw [HCe.out]; done) | (rw [HCe.out]; rfl), HBn.out⟩
end Go.Proofs.YtfoooldkmokjpaaGreatDoor.Ac
end
