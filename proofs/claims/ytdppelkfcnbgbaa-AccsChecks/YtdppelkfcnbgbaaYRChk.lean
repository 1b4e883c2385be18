/-
  What the reference's Check answers, as a contract: for all rows.
-/
import Derived.Test.YtdppelkfcnbgbaaYChk
import Derived.Test.YtdppelkfcnbgbaaYRGet
import Derived.Test.YtdppelkfcnbgbaaCRefs
set_option linter.unusedSimpArgs false
set_option linter.unusedVariables false
set_option maxRecDepth 100000
namespace Go.Proofs.Ytdppelkfcnbgbaa.Ac
open Go.RowKit

theorem one_ref (x : Row) : oneB x = (Ce.good x.oo && (!(x.oo == 0) && (!(decide (x.de < 0)) && !(decide (x.oo < x.de))))) := by
  rw [Bool.eq_iff_iff, one_iff]
  simp only [Bool.and_eq_true, Bool.not_eq_true', beq_eq_false_iff_ne, decide_eq_false_iff_not, Ce.good_iff]
  omega
set_option maxHeartbeats 16000000 in
theorem rcheck_any (l : List Row) (v : Value) (w : World) (h : RwsAt All w v l) (hl : l.length ≤ 100000) :
    Calls Try.prog 12 #[v] w fun e w' => e = .returned (.int .i64 (checkE l)) ∧ Below w.heap.size w w' := by
  obtain ⟨fa, fk, rfl, hm1, hm2⟩ := h.form
  have HF := Lib.hid h
  obtain ⟨C, HC⟩ : ∃ C, Hid (checkE l = C) := ⟨_, (rfl : checkE l = _)⟩
  have HC0 : Hid (ckE (prv l 0) (l.drop 0) = C) := HC.out
  have HAm := Lib.hid Ce.rgood_any
  have HOr := Lib.hid rahead_any
  rw [HC.out]
  clear h HC
  go_enter Try.func12, Try.ntmps12
  go_wp2
  go_loopg [3] (l.length) (fun g s3 wr => ∃ k : Nat, s3 = .int .i64 k ∧ k ≤ l.length ∧ l.length - k ≤ g ∧ Hid (Below w.heap.size w wr) ∧ Hid (ckE (prv l k) (l.drop k) = C))
  case atStart => exact ⟨0, rfl, Nat.zero_le _, by omega, Below.refl _ _, HC0.out⟩
  case round =>
    obtain ⟨k, rfl, hk, hgk, HBn, HI⟩ := hrel
    clear HC0
    by_cases hlt : k < l.length
    · have hltz : (k : Int) < (l.length : Int) := by omega
      have HI2 : Hid (C = if oneB l[k] = true then (if behB (prv l k) l[k] = true then ckE (prv l (k + 1)) (l.drop (k + 1)) else 11) else 1) := HI.out.symm.trans (ck_step l k hlt)
      obtain ⟨b, oo, rfl, hbw, -, hc⟩ := RwsAt.get (HF.out.grw HBn.out) k hlt
      obtain ⟨x, HX⟩ : ∃ x, Hid (l[k] = x) := ⟨l[k], (rfl : l[k] = l[k])⟩
      rw [HX.out] at HI2 hc
      obtain ⟨x0, x1, x2, x3, x4⟩ := hc
      have hb2 := below_alloc wr (.cells #[.string (mk x.who), .bool x.fam, .int .i64 x.year, .int .i64 x.de, .int .i64 x.oo] TA)
      have HZ := Lib.hid (heap_alloc_new wr (.cells #[.string (mk x.who), .bool x.fam, .int .i64 x.year, .int .i64 x.de, .int .i64 x.oo] TA))
      have HB2 := Lib.hid (below_trans HBn.out hb2)
      clear hb2 HI
      go_upto_region 5 with fail
      clear x0 x1 x2 x3 x4
      generalize wr.alloc (.cells #[.string (mk x.who), .bool x.fam, .int .i64 x.year, .int .i64 x.de, .int .i64 x.oo] TA) = W at *
      generalize hp : wr.heap.size = p at *
      obtain ⟨z0, z1, z2, z3, z4⟩ := cells5 HZ.out
      have HOn := one_ref x
      clear HBn
      by_cases ho : oneB x = true
      · have HI3 : Hid (C = if behB (prv l k) x = true then ckE (prv l (k + 1)) (l.drop (k + 1)) else 11) := HI2.out.trans (by rw [if_pos ho])
        rw [HOn] at ho
        simp only [Bool.and_eq_true, Bool.not_eq_true', decide_eq_false_iff_not] at ho
        obtain ⟨g1, g2, g3, g4⟩ := ho
        clear HI2 HOn
        have HD := Lib.hid (Below.drew (Below.refl W.heap.size W))
        by_cases hk0 : k = 0
        · subst hk0
          have HI4 : Hid (ckE (prv l (0 + 1)) (l.drop (0 + 1)) = C) := (HI3.out.trans (if_pos (beh_zero l x))).symm
          clear HI3
          go_upto_region 7 with (go_at_call 28; refine (HAm.out _ _).mono ?_; rintro e w' ⟨rfl, hw⟩; rw [hw, g1]; clear hw w')
          refine Ri.wp_region_lastingB_g (by kernel_rfl) (by kernel_rfl) (by kernel_rfl) (fun Wx => Below W.heap.size W Wx) (fun kz vs wz => (fun kx vx wx => match kx with | 0 => vx = .int .i64 0 | 1 => vx = .bool false | 2 => vx = .bool false | 3 => True | 4 => True | 5 => True | 6 => True | 7 => True | 8 => True | 9 => True | 10 => True | 11 => vx = .bool false | _ => True : Nat → Value → World → Prop) kz (vs kz) wz) (fun kz => [kz]) (by kernel_rfl) (fun jz vs iz vz wz hiz hz => Ri.loc_own (F := (fun kx vx wx => match kx with | 0 => vx = .int .i64 0 | 1 => vx = .bool false | 2 => vx = .bool false | 3 => True | 4 => True | 5 => True | 6 => True | 7 => True | 8 => True | 9 => True | 10 => True | 11 => vx = .bool false | _ => True : Nat → Value → World → Prop)) jz vs iz vz wz hiz hz) HD.out ⟨Or.inl ⟨rfl, ?_⟩, Or.inl ⟨rfl, ?_⟩, Or.inl ⟨rfl, ?_⟩, Or.inr ⟨2, true, 38, rfl, rfl, ?_⟩, Or.inr ⟨2, true, 38, rfl, rfl, ?_⟩, Or.inr ⟨2, true, 38, rfl, rfl, ?_⟩, Or.inr ⟨2, true, 38, rfl, rfl, ?_⟩, Or.inr ⟨2, true, 38, rfl, rfl, ?_⟩, Or.inr ⟨2, true, 38, rfl, rfl, ?_⟩, Or.inr ⟨2, true, 38, rfl, rfl, ?_⟩, Or.inr ⟨2, true, 38, rfl, rfl, ?_⟩, Or.inl ⟨rfl, ?_⟩, trivial⟩ ?_
          · intro vs Wx A hA hB hpre K hK
            have e3 := (hA 3).trans (show _ = Value.int .i64 0 by kernel_rfl)
            clear hA hpre
            go_simp
            first | exact hK _ _ hB rfl (fun _ _ h => h) | exact hK _ _ hB trivial (fun _ _ h => h) | (rw [if_neg (by omega)]; go_simp; exact hK _ _ hB rfl (fun _ _ h => h))
          · intro vs Wx A hA hB hpre K hK
            have e36 := ((hA 36).trans (show _ = vs 0 by kernel_rfl)).trans (by first | exact hpre.1 rfl | exact hpre.2.1 rfl | exact hpre.2.2.1 rfl | exact hpre.2.2.2.1 rfl | exact hpre.2.2.2.2.1 rfl | exact hpre.2.2.2.2.2.1 rfl | exact hpre.2.2.2.2.2.2.1 rfl | exact hpre.2.2.2.2.2.2.2.1 rfl | exact hpre.2.2.2.2.2.2.2.2.1 rfl | exact hpre.2.2.2.2.2.2.2.2.2.1 rfl)
            clear hA hpre
            go_simp
            first | exact hK _ _ hB rfl (fun _ _ h => h) | exact hK _ _ hB trivial (fun _ _ h => h) | (rw [if_neg (by omega)]; go_simp; exact hK _ _ hB rfl (fun _ _ h => h))
          · intro vs Wx A hA hB hpre K hK
            have e37 := ((hA 37).trans (show _ = vs 1 by kernel_rfl)).trans (by first | exact hpre.1 rfl | exact hpre.2.1 rfl | exact hpre.2.2.1 rfl | exact hpre.2.2.2.1 rfl | exact hpre.2.2.2.2.1 rfl | exact hpre.2.2.2.2.2.1 rfl | exact hpre.2.2.2.2.2.2.1 rfl | exact hpre.2.2.2.2.2.2.2.1 rfl | exact hpre.2.2.2.2.2.2.2.2.1 rfl | exact hpre.2.2.2.2.2.2.2.2.2.1 rfl)
            clear hA hpre
            go_simp
            first | exact hK _ _ hB rfl (fun _ _ h => h) | exact hK _ _ hB trivial (fun _ _ h => h) | (rw [if_neg (by omega)]; go_simp; exact hK _ _ hB rfl (fun _ _ h => h))
          · intro vs Wx A hA hB hpre
            have eg := ((hA 38).trans (show _ = vs 2 by kernel_rfl)).trans (by first | exact hpre.1 rfl | exact hpre.2.1 rfl | exact hpre.2.2.1 rfl | exact hpre.2.2.2.1 rfl | exact hpre.2.2.2.2.1 rfl | exact hpre.2.2.2.2.2.1 rfl | exact hpre.2.2.2.2.2.2.1 rfl | exact hpre.2.2.2.2.2.2.2.1 rfl | exact hpre.2.2.2.2.2.2.2.2.1 rfl | exact hpre.2.2.2.2.2.2.2.2.2.1 rfl)
            exact ⟨false, eg, fun h => (by cases h), fun _ => trivial⟩
          · intro vs Wx A hA hB hpre
            have eg := ((hA 38).trans (show _ = vs 2 by kernel_rfl)).trans (by first | exact hpre.1 rfl | exact hpre.2.1 rfl | exact hpre.2.2.1 rfl | exact hpre.2.2.2.1 rfl | exact hpre.2.2.2.2.1 rfl | exact hpre.2.2.2.2.2.1 rfl | exact hpre.2.2.2.2.2.2.1 rfl | exact hpre.2.2.2.2.2.2.2.1 rfl | exact hpre.2.2.2.2.2.2.2.2.1 rfl | exact hpre.2.2.2.2.2.2.2.2.2.1 rfl)
            exact ⟨false, eg, fun h => (by cases h), fun _ => trivial⟩
          · intro vs Wx A hA hB hpre
            have eg := ((hA 38).trans (show _ = vs 2 by kernel_rfl)).trans (by first | exact hpre.1 rfl | exact hpre.2.1 rfl | exact hpre.2.2.1 rfl | exact hpre.2.2.2.1 rfl | exact hpre.2.2.2.2.1 rfl | exact hpre.2.2.2.2.2.1 rfl | exact hpre.2.2.2.2.2.2.1 rfl | exact hpre.2.2.2.2.2.2.2.1 rfl | exact hpre.2.2.2.2.2.2.2.2.1 rfl | exact hpre.2.2.2.2.2.2.2.2.2.1 rfl)
            exact ⟨false, eg, fun h => (by cases h), fun _ => trivial⟩
          · intro vs Wx A hA hB hpre
            have eg := ((hA 38).trans (show _ = vs 2 by kernel_rfl)).trans (by first | exact hpre.1 rfl | exact hpre.2.1 rfl | exact hpre.2.2.1 rfl | exact hpre.2.2.2.1 rfl | exact hpre.2.2.2.2.1 rfl | exact hpre.2.2.2.2.2.1 rfl | exact hpre.2.2.2.2.2.2.1 rfl | exact hpre.2.2.2.2.2.2.2.1 rfl | exact hpre.2.2.2.2.2.2.2.2.1 rfl | exact hpre.2.2.2.2.2.2.2.2.2.1 rfl)
            exact ⟨false, eg, fun h => (by cases h), fun _ => trivial⟩
          · intro vs Wx A hA hB hpre
            have eg := ((hA 38).trans (show _ = vs 2 by kernel_rfl)).trans (by first | exact hpre.1 rfl | exact hpre.2.1 rfl | exact hpre.2.2.1 rfl | exact hpre.2.2.2.1 rfl | exact hpre.2.2.2.2.1 rfl | exact hpre.2.2.2.2.2.1 rfl | exact hpre.2.2.2.2.2.2.1 rfl | exact hpre.2.2.2.2.2.2.2.1 rfl | exact hpre.2.2.2.2.2.2.2.2.1 rfl | exact hpre.2.2.2.2.2.2.2.2.2.1 rfl)
            exact ⟨false, eg, fun h => (by cases h), fun _ => trivial⟩
          · intro vs Wx A hA hB hpre
            have eg := ((hA 38).trans (show _ = vs 2 by kernel_rfl)).trans (by first | exact hpre.1 rfl | exact hpre.2.1 rfl | exact hpre.2.2.1 rfl | exact hpre.2.2.2.1 rfl | exact hpre.2.2.2.2.1 rfl | exact hpre.2.2.2.2.2.1 rfl | exact hpre.2.2.2.2.2.2.1 rfl | exact hpre.2.2.2.2.2.2.2.1 rfl | exact hpre.2.2.2.2.2.2.2.2.1 rfl | exact hpre.2.2.2.2.2.2.2.2.2.1 rfl)
            exact ⟨false, eg, fun h => (by cases h), fun _ => trivial⟩
          · intro vs Wx A hA hB hpre
            have eg := ((hA 38).trans (show _ = vs 2 by kernel_rfl)).trans (by first | exact hpre.1 rfl | exact hpre.2.1 rfl | exact hpre.2.2.1 rfl | exact hpre.2.2.2.1 rfl | exact hpre.2.2.2.2.1 rfl | exact hpre.2.2.2.2.2.1 rfl | exact hpre.2.2.2.2.2.2.1 rfl | exact hpre.2.2.2.2.2.2.2.1 rfl | exact hpre.2.2.2.2.2.2.2.2.1 rfl | exact hpre.2.2.2.2.2.2.2.2.2.1 rfl)
            exact ⟨false, eg, fun h => (by cases h), fun _ => trivial⟩
          · intro vs Wx A hA hB hpre
            have eg := ((hA 38).trans (show _ = vs 2 by kernel_rfl)).trans (by first | exact hpre.1 rfl | exact hpre.2.1 rfl | exact hpre.2.2.1 rfl | exact hpre.2.2.2.1 rfl | exact hpre.2.2.2.2.1 rfl | exact hpre.2.2.2.2.2.1 rfl | exact hpre.2.2.2.2.2.2.1 rfl | exact hpre.2.2.2.2.2.2.2.1 rfl | exact hpre.2.2.2.2.2.2.2.2.1 rfl | exact hpre.2.2.2.2.2.2.2.2.2.1 rfl)
            exact ⟨false, eg, fun h => (by cases h), fun _ => trivial⟩
          · intro vs Wx A hA hB hpre K hK
            have e38 := ((hA 38).trans (show _ = vs 2 by kernel_rfl)).trans (by first | exact hpre.1 rfl | exact hpre.2.1 rfl | exact hpre.2.2.1 rfl | exact hpre.2.2.2.1 rfl | exact hpre.2.2.2.2.1 rfl | exact hpre.2.2.2.2.2.1 rfl | exact hpre.2.2.2.2.2.2.1 rfl | exact hpre.2.2.2.2.2.2.2.1 rfl | exact hpre.2.2.2.2.2.2.2.2.1 rfl | exact hpre.2.2.2.2.2.2.2.2.2.1 rfl)
            clear hA hpre
            go_simp
            first | exact hK _ _ hB rfl (fun _ _ h => h) | exact hK _ _ hB trivial (fun _ _ h => h) | (rw [if_neg (by omega)]; go_simp; exact hK _ _ hB rfl (fun _ _ h => h))
          · intro vs Wx hB hF
            have hL : vs 11 = .bool false := hF 11 (by decide)
            have HBW := Lib.hid (below_trans HB2.out hB)
            clear hF hB
            simp only [Ri.puts]
            rw [hL]
            clear hL
            go_simp
            go_wp2
            go_roundg (l.length - 1)
            case measure => omega
            case rel => exact ⟨0 + 1, by first | rfl | go_num | (congr 1; omega), by omega, by omega, HBW.out, HI4.out⟩
        · obtain ⟨j, hkj⟩ : ∃ j, k = j + 1 := ⟨k - 1, by omega⟩
          have hj : j < l.length := by omega
          have hkz : 0 < k := by omega
          have hjw : IntKind.i64.wrap ((k : Int) - 1) = (j : Int) := by rw [IntKind.wrap_i64]; omega
          have HKJ := Lib.hid hkj
          obtain ⟨y, HY⟩ : ∃ y, Hid (l[j] = y) := ⟨l[j], (rfl : l[j] = l[j])⟩
          have HI4 : Hid (C = if aheadB y x = true then ckE (prv l (j + 1 + 1)) (l.drop (j + 1 + 1)) else 11) := HI3.out.trans (by rw [hkj, beh_pos l j hj, HY.out])
          have HXK := Lib.hid fun W' (hW : Below W.heap.size W W') => And.intro (cell_keep (HF.out.grw (below_trans HB2.out hW)) j hj) (cells5 (keepB HZ.out hW))
          rw [HY.out] at HXK
          clear HI3 hk0 hkj
          go_upto_region 7 with (go_at_call 28; refine (HAm.out _ _).mono ?_; rintro e w' ⟨rfl, hw⟩; rw [hw, g1]; clear hw w')
          refine Ri.wp_region_lastingB_g (by kernel_rfl) (by kernel_rfl) (by kernel_rfl) (fun Wx => Below W.heap.size W Wx) (fun kz vs wz => (fun kx vx wx => match kx with | 0 => vx = .int .i64 (k : Nat) | 1 => vx = .bool true | 2 => vx = .bool true | 3 => vx = .slice (some ⟨b, oo, none⟩) l.length fk | 4 => vx = .int .i64 (k : Nat) | 5 => vx = .int .i64 (j : Nat) | 6 => vx = .pointer (some ⟨b, oo + j * 5, none⟩) | 7 => vx = rwv y | 8 => vx = rwv x | 9 => vx = .bool (aheadB y x) | 10 => vx = .bool (!(aheadB y x)) | 11 => vx = .bool (!(aheadB y x)) | _ => True : Nat → Value → World → Prop) kz (vs kz) wz) (fun kz => [kz]) (by kernel_rfl) (fun jz vs iz vz wz hiz hz => Ri.loc_own (F := (fun kx vx wx => match kx with | 0 => vx = .int .i64 (k : Nat) | 1 => vx = .bool true | 2 => vx = .bool true | 3 => vx = .slice (some ⟨b, oo, none⟩) l.length fk | 4 => vx = .int .i64 (k : Nat) | 5 => vx = .int .i64 (j : Nat) | 6 => vx = .pointer (some ⟨b, oo + j * 5, none⟩) | 7 => vx = rwv y | 8 => vx = rwv x | 9 => vx = .bool (aheadB y x) | 10 => vx = .bool (!(aheadB y x)) | 11 => vx = .bool (!(aheadB y x)) | _ => True : Nat → Value → World → Prop)) jz vs iz vz wz hiz hz) HD.out ⟨Or.inl ⟨rfl, ?_⟩, Or.inl ⟨rfl, ?_⟩, Or.inl ⟨rfl, ?_⟩, Or.inr ⟨2, true, 38, rfl, rfl, ?_⟩, Or.inr ⟨2, true, 38, rfl, rfl, ?_⟩, Or.inr ⟨2, true, 38, rfl, rfl, ?_⟩, Or.inr ⟨2, true, 38, rfl, rfl, ?_⟩, Or.inr ⟨2, true, 38, rfl, rfl, ?_⟩, Or.inr ⟨2, true, 38, rfl, rfl, ?_⟩, Or.inr ⟨2, true, 38, rfl, rfl, ?_⟩, Or.inr ⟨2, true, 38, rfl, rfl, ?_⟩, Or.inl ⟨rfl, ?_⟩, trivial⟩ ?_
          · intro vs Wx A hA hB hpre K hK
            have e3 := (hA 3).trans (show _ = Value.int .i64 (k : Nat) by kernel_rfl)
            clear hA hpre
            go_simp
            first | exact hK _ _ hB rfl (fun _ _ h => h) | exact hK _ _ hB trivial (fun _ _ h => h) | (rw [if_neg (by omega)]; go_simp; exact hK _ _ hB rfl (fun _ _ h => h))
          · intro vs Wx A hA hB hpre K hK
            have e36 := ((hA 36).trans (show _ = vs 0 by kernel_rfl)).trans (by first | exact hpre.1 rfl | exact hpre.2.1 rfl | exact hpre.2.2.1 rfl | exact hpre.2.2.2.1 rfl | exact hpre.2.2.2.2.1 rfl | exact hpre.2.2.2.2.2.1 rfl | exact hpre.2.2.2.2.2.2.1 rfl | exact hpre.2.2.2.2.2.2.2.1 rfl | exact hpre.2.2.2.2.2.2.2.2.1 rfl | exact hpre.2.2.2.2.2.2.2.2.2.1 rfl)
            clear hA hpre
            go_simp
            first | exact hK _ _ hB rfl (fun _ _ h => h) | exact hK _ _ hB trivial (fun _ _ h => h) | (rw [if_neg (by omega)]; go_simp; exact hK _ _ hB rfl (fun _ _ h => h))
          · intro vs Wx A hA hB hpre K hK
            have e37 := ((hA 37).trans (show _ = vs 1 by kernel_rfl)).trans (by first | exact hpre.1 rfl | exact hpre.2.1 rfl | exact hpre.2.2.1 rfl | exact hpre.2.2.2.1 rfl | exact hpre.2.2.2.2.1 rfl | exact hpre.2.2.2.2.2.1 rfl | exact hpre.2.2.2.2.2.2.1 rfl | exact hpre.2.2.2.2.2.2.2.1 rfl | exact hpre.2.2.2.2.2.2.2.2.1 rfl | exact hpre.2.2.2.2.2.2.2.2.2.1 rfl)
            clear hA hpre
            go_simp
            first | exact hK _ _ hB rfl (fun _ _ h => h) | exact hK _ _ hB trivial (fun _ _ h => h) | (rw [if_neg (by omega)]; go_simp; exact hK _ _ hB rfl (fun _ _ h => h))
          · intro vs Wx A hA hB hpre
            have eg := ((hA 38).trans (show _ = vs 2 by kernel_rfl)).trans (by first | exact hpre.1 rfl | exact hpre.2.1 rfl | exact hpre.2.2.1 rfl | exact hpre.2.2.2.1 rfl | exact hpre.2.2.2.2.1 rfl | exact hpre.2.2.2.2.2.1 rfl | exact hpre.2.2.2.2.2.2.1 rfl | exact hpre.2.2.2.2.2.2.2.1 rfl | exact hpre.2.2.2.2.2.2.2.2.1 rfl | exact hpre.2.2.2.2.2.2.2.2.2.1 rfl)
            refine ⟨true, eg, fun _ K hK => ?_, fun h => absurd rfl h⟩
            have e0 := (hA 0).trans (show _ = Value.slice (some ⟨b, oo, none⟩) l.length fk by kernel_rfl)
            clear hA hpre
            go_simp
            first | exact hK _ _ hB rfl (fun _ _ h => h) | exact hK _ _ hB trivial (fun _ _ h => h) | (rw [if_neg (by omega)]; go_simp; exact hK _ _ hB rfl (fun _ _ h => h))
          · intro vs Wx A hA hB hpre
            have eg := ((hA 38).trans (show _ = vs 2 by kernel_rfl)).trans (by first | exact hpre.1 rfl | exact hpre.2.1 rfl | exact hpre.2.2.1 rfl | exact hpre.2.2.2.1 rfl | exact hpre.2.2.2.2.1 rfl | exact hpre.2.2.2.2.2.1 rfl | exact hpre.2.2.2.2.2.2.1 rfl | exact hpre.2.2.2.2.2.2.2.1 rfl | exact hpre.2.2.2.2.2.2.2.2.1 rfl | exact hpre.2.2.2.2.2.2.2.2.2.1 rfl)
            refine ⟨true, eg, fun _ K hK => ?_, fun h => absurd rfl h⟩
            have e3 := (hA 3).trans (show _ = Value.int .i64 (k : Nat) by kernel_rfl)
            clear hA hpre
            go_simp
            first | exact hK _ _ hB rfl (fun _ _ h => h) | exact hK _ _ hB trivial (fun _ _ h => h) | (rw [if_neg (by omega)]; go_simp; exact hK _ _ hB rfl (fun _ _ h => h))
          · intro vs Wx A hA hB hpre
            have eg := ((hA 38).trans (show _ = vs 2 by kernel_rfl)).trans (by first | exact hpre.1 rfl | exact hpre.2.1 rfl | exact hpre.2.2.1 rfl | exact hpre.2.2.2.1 rfl | exact hpre.2.2.2.2.1 rfl | exact hpre.2.2.2.2.2.1 rfl | exact hpre.2.2.2.2.2.2.1 rfl | exact hpre.2.2.2.2.2.2.2.1 rfl | exact hpre.2.2.2.2.2.2.2.2.1 rfl | exact hpre.2.2.2.2.2.2.2.2.2.1 rfl)
            refine ⟨true, eg, fun _ K hK => ?_, fun h => absurd rfl h⟩
            have e40 := ((hA 40).trans (show _ = vs 4 by kernel_rfl)).trans (by first | exact hpre.1 rfl | exact hpre.2.1 rfl | exact hpre.2.2.1 rfl | exact hpre.2.2.2.1 rfl | exact hpre.2.2.2.2.1 rfl | exact hpre.2.2.2.2.2.1 rfl | exact hpre.2.2.2.2.2.2.1 rfl | exact hpre.2.2.2.2.2.2.2.1 rfl | exact hpre.2.2.2.2.2.2.2.2.1 rfl | exact hpre.2.2.2.2.2.2.2.2.2.1 rfl)
            clear hA hpre
            go_simp
            first | exact hK _ _ hB rfl (fun _ _ h => h) | exact hK _ _ hB trivial (fun _ _ h => h) | (rw [if_neg (by omega)]; go_simp; exact hK _ _ hB rfl (fun _ _ h => h))
          · intro vs Wx A hA hB hpre
            have eg := ((hA 38).trans (show _ = vs 2 by kernel_rfl)).trans (by first | exact hpre.1 rfl | exact hpre.2.1 rfl | exact hpre.2.2.1 rfl | exact hpre.2.2.2.1 rfl | exact hpre.2.2.2.2.1 rfl | exact hpre.2.2.2.2.2.1 rfl | exact hpre.2.2.2.2.2.2.1 rfl | exact hpre.2.2.2.2.2.2.2.1 rfl | exact hpre.2.2.2.2.2.2.2.2.1 rfl | exact hpre.2.2.2.2.2.2.2.2.2.1 rfl)
            refine ⟨true, eg, fun _ K hK => ?_, fun h => absurd rfl h⟩
            have e39 := ((hA 39).trans (show _ = vs 3 by kernel_rfl)).trans (by first | exact hpre.1 rfl | exact hpre.2.1 rfl | exact hpre.2.2.1 rfl | exact hpre.2.2.2.1 rfl | exact hpre.2.2.2.2.1 rfl | exact hpre.2.2.2.2.2.1 rfl | exact hpre.2.2.2.2.2.2.1 rfl | exact hpre.2.2.2.2.2.2.2.1 rfl | exact hpre.2.2.2.2.2.2.2.2.1 rfl | exact hpre.2.2.2.2.2.2.2.2.2.1 rfl)
            have e41 := ((hA 41).trans (show _ = vs 5 by kernel_rfl)).trans (by first | exact hpre.1 rfl | exact hpre.2.1 rfl | exact hpre.2.2.1 rfl | exact hpre.2.2.2.1 rfl | exact hpre.2.2.2.2.1 rfl | exact hpre.2.2.2.2.2.1 rfl | exact hpre.2.2.2.2.2.2.1 rfl | exact hpre.2.2.2.2.2.2.2.1 rfl | exact hpre.2.2.2.2.2.2.2.2.1 rfl | exact hpre.2.2.2.2.2.2.2.2.2.1 rfl)
            clear hA hpre
            go_simp
            first | exact hK _ _ hB rfl (fun _ _ h => h) | exact hK _ _ hB trivial (fun _ _ h => h) | (rw [if_neg (by omega)]; go_simp; exact hK _ _ hB rfl (fun _ _ h => h))
          · intro vs Wx A hA hB hpre
            have eg := ((hA 38).trans (show _ = vs 2 by kernel_rfl)).trans (by first | exact hpre.1 rfl | exact hpre.2.1 rfl | exact hpre.2.2.1 rfl | exact hpre.2.2.2.1 rfl | exact hpre.2.2.2.2.1 rfl | exact hpre.2.2.2.2.2.1 rfl | exact hpre.2.2.2.2.2.2.1 rfl | exact hpre.2.2.2.2.2.2.2.1 rfl | exact hpre.2.2.2.2.2.2.2.2.1 rfl | exact hpre.2.2.2.2.2.2.2.2.2.1 rfl)
            refine ⟨true, eg, fun _ K hK => ?_, fun h => absurd rfl h⟩
            have e42 := ((hA 42).trans (show _ = vs 6 by kernel_rfl)).trans (by first | exact hpre.1 rfl | exact hpre.2.1 rfl | exact hpre.2.2.1 rfl | exact hpre.2.2.2.1 rfl | exact hpre.2.2.2.2.1 rfl | exact hpre.2.2.2.2.2.1 rfl | exact hpre.2.2.2.2.2.2.1 rfl | exact hpre.2.2.2.2.2.2.2.1 rfl | exact hpre.2.2.2.2.2.2.2.2.1 rfl | exact hpre.2.2.2.2.2.2.2.2.2.1 rfl)
            obtain ⟨⟨x0, x1, x2, x3, x4⟩, ⟨y0, y1, y2, y3, y4⟩⟩ := HXK.out Wx hB
            clear hA hpre
            go_simp
            first | exact hK _ _ hB rfl (fun _ _ h => h) | exact hK _ _ hB trivial (fun _ _ h => h) | (rw [if_neg (by omega)]; go_simp; exact hK _ _ hB rfl (fun _ _ h => h))
          · intro vs Wx A hA hB hpre
            have eg := ((hA 38).trans (show _ = vs 2 by kernel_rfl)).trans (by first | exact hpre.1 rfl | exact hpre.2.1 rfl | exact hpre.2.2.1 rfl | exact hpre.2.2.2.1 rfl | exact hpre.2.2.2.2.1 rfl | exact hpre.2.2.2.2.2.1 rfl | exact hpre.2.2.2.2.2.2.1 rfl | exact hpre.2.2.2.2.2.2.2.1 rfl | exact hpre.2.2.2.2.2.2.2.2.1 rfl | exact hpre.2.2.2.2.2.2.2.2.2.1 rfl)
            refine ⟨true, eg, fun _ K hK => ?_, fun h => absurd rfl h⟩
            have e4 := (hA 4).trans (show _ = Value.pointer (some ⟨p, 0, none⟩) by kernel_rfl)
            obtain ⟨⟨x0, x1, x2, x3, x4⟩, ⟨y0, y1, y2, y3, y4⟩⟩ := HXK.out Wx hB
            clear hA hpre
            go_simp
            first | exact hK _ _ hB rfl (fun _ _ h => h) | exact hK _ _ hB trivial (fun _ _ h => h) | (rw [if_neg (by omega)]; go_simp; exact hK _ _ hB rfl (fun _ _ h => h))
          · intro vs Wx A hA hB hpre
            have eg := ((hA 38).trans (show _ = vs 2 by kernel_rfl)).trans (by first | exact hpre.1 rfl | exact hpre.2.1 rfl | exact hpre.2.2.1 rfl | exact hpre.2.2.2.1 rfl | exact hpre.2.2.2.2.1 rfl | exact hpre.2.2.2.2.2.1 rfl | exact hpre.2.2.2.2.2.2.1 rfl | exact hpre.2.2.2.2.2.2.2.1 rfl | exact hpre.2.2.2.2.2.2.2.2.1 rfl | exact hpre.2.2.2.2.2.2.2.2.2.1 rfl)
            refine ⟨true, eg, fun _ K hK => ?_, fun h => absurd rfl h⟩
            have e43 := ((hA 43).trans (show _ = vs 7 by kernel_rfl)).trans (by first | exact hpre.1 rfl | exact hpre.2.1 rfl | exact hpre.2.2.1 rfl | exact hpre.2.2.2.1 rfl | exact hpre.2.2.2.2.1 rfl | exact hpre.2.2.2.2.2.1 rfl | exact hpre.2.2.2.2.2.2.1 rfl | exact hpre.2.2.2.2.2.2.2.1 rfl | exact hpre.2.2.2.2.2.2.2.2.1 rfl | exact hpre.2.2.2.2.2.2.2.2.2.1 rfl)
            have e44 := ((hA 44).trans (show _ = vs 8 by kernel_rfl)).trans (by first | exact hpre.1 rfl | exact hpre.2.1 rfl | exact hpre.2.2.1 rfl | exact hpre.2.2.2.1 rfl | exact hpre.2.2.2.2.1 rfl | exact hpre.2.2.2.2.2.1 rfl | exact hpre.2.2.2.2.2.2.1 rfl | exact hpre.2.2.2.2.2.2.2.1 rfl | exact hpre.2.2.2.2.2.2.2.2.1 rfl | exact hpre.2.2.2.2.2.2.2.2.2.1 rfl)
            clear hA hpre
            go_simp
            go_at_call 29
            refine (HOr.out _ _ _).mono ?_
            rintro e w4 ⟨rfl, hg⟩
            exact hK _ _ (below_trans hB hg) rfl (fun _ _ h => h)
          · intro vs Wx A hA hB hpre
            have eg := ((hA 38).trans (show _ = vs 2 by kernel_rfl)).trans (by first | exact hpre.1 rfl | exact hpre.2.1 rfl | exact hpre.2.2.1 rfl | exact hpre.2.2.2.1 rfl | exact hpre.2.2.2.2.1 rfl | exact hpre.2.2.2.2.2.1 rfl | exact hpre.2.2.2.2.2.2.1 rfl | exact hpre.2.2.2.2.2.2.2.1 rfl | exact hpre.2.2.2.2.2.2.2.2.1 rfl | exact hpre.2.2.2.2.2.2.2.2.2.1 rfl)
            refine ⟨true, eg, fun _ K hK => ?_, fun h => absurd rfl h⟩
            have e45 := ((hA 45).trans (show _ = vs 9 by kernel_rfl)).trans (by first | exact hpre.1 rfl | exact hpre.2.1 rfl | exact hpre.2.2.1 rfl | exact hpre.2.2.2.1 rfl | exact hpre.2.2.2.2.1 rfl | exact hpre.2.2.2.2.2.1 rfl | exact hpre.2.2.2.2.2.2.1 rfl | exact hpre.2.2.2.2.2.2.2.1 rfl | exact hpre.2.2.2.2.2.2.2.2.1 rfl | exact hpre.2.2.2.2.2.2.2.2.2.1 rfl)
            clear hA hpre
            go_simp
            first | exact hK _ _ hB rfl (fun _ _ h => h) | exact hK _ _ hB trivial (fun _ _ h => h) | (rw [if_neg (by omega)]; go_simp; exact hK _ _ hB rfl (fun _ _ h => h))
          · intro vs Wx A hA hB hpre K hK
            have e38 := ((hA 38).trans (show _ = vs 2 by kernel_rfl)).trans (by first | exact hpre.1 rfl | exact hpre.2.1 rfl | exact hpre.2.2.1 rfl | exact hpre.2.2.2.1 rfl | exact hpre.2.2.2.2.1 rfl | exact hpre.2.2.2.2.2.1 rfl | exact hpre.2.2.2.2.2.2.1 rfl | exact hpre.2.2.2.2.2.2.2.1 rfl | exact hpre.2.2.2.2.2.2.2.2.1 rfl | exact hpre.2.2.2.2.2.2.2.2.2.1 rfl)
            have e46 := ((hA 46).trans (show _ = vs 10 by kernel_rfl)).trans (by first | exact hpre.1 rfl | exact hpre.2.1 rfl | exact hpre.2.2.1 rfl | exact hpre.2.2.2.1 rfl | exact hpre.2.2.2.2.1 rfl | exact hpre.2.2.2.2.2.1 rfl | exact hpre.2.2.2.2.2.2.1 rfl | exact hpre.2.2.2.2.2.2.2.1 rfl | exact hpre.2.2.2.2.2.2.2.2.1 rfl | exact hpre.2.2.2.2.2.2.2.2.2.1 rfl)
            clear hA hpre
            go_simp
            first | exact hK _ _ hB rfl (fun _ _ h => h) | exact hK _ _ hB trivial (fun _ _ h => h) | (rw [if_neg (by omega)]; go_simp; exact hK _ _ hB rfl (fun _ _ h => h))
          · intro vs Wx hB hF
            have hL : vs 11 = .bool (!(aheadB y x)) := hF 11 (by decide)
            have HBW := Lib.hid (below_trans HB2.out hB)
            clear hF hB
            simp only [Ri.puts]
            rw [hL]
            clear hL
            cases hlv : aheadB y x with
            | true =>
              have HI5 : Hid (ckE (prv l (j + 1 + 1)) (l.drop (j + 1 + 1)) = C) := (HI4.out.trans (if_pos hlv)).symm
              clear HI4
              go_simp
              go_wp2
              go_roundg (l.length - (k + 1))
              case measure => omega
              case rel => exact ⟨k + 1, by first | rfl | go_num | (congr 1; omega), by omega, by omega, HBW.out, by rw [HKJ.out]; exact HI5.out⟩
            | false =>
              have HCe : Hid (C = 11) := HI4.out.trans (by rw [if_neg (by rw [hlv]; decide)])
              clear HI4
              go_simp
              go_wp2
              go_ret
              exact ⟨by first | (rw [HCe.out]; done) | (rw [HCe.out]; rfl), HBW.out⟩
      · have HCe : Hid (C = 1) := HI2.out.trans (by rw [if_neg ho])
        have hof : oneB x = false := by simpa using ho
        rw [HOn] at hof
        clear HI2 HOn ho
        cases g1 : Ce.good x.oo with
        | false =>
          clear hof
          go_wp2_with (go_at_call 28; refine (HAm.out _ _).mono ?_; rintro e w' ⟨rfl, hw⟩; rw [hw, g1]; clear hw w')
          go_ret
          exact ⟨by first | (rw [HCe.out]; done) | (rw [HCe.out]; rfl), HB2.out⟩
        | true =>
          rw [g1] at hof
          cases g2 : (x.oo == 0) with
          | true =>
            clear hof
            go_wp2_with (go_at_call 28; refine (HAm.out _ _).mono ?_; rintro e w' ⟨rfl, hw⟩; rw [hw, g1]; clear hw w')
            go_ret
            exact ⟨by first | (rw [HCe.out]; done) | (rw [HCe.out]; rfl), HB2.out⟩
          | false =>
            rw [g2] at hof
            by_cases g3 : x.de < 0
            · clear hof
              go_wp2_with (go_at_call 28; refine (HAm.out _ _).mono ?_; rintro e w' ⟨rfl, hw⟩; rw [hw, g1]; clear hw w')
              go_ret
              exact ⟨by first | (rw [HCe.out]; done) | (rw [HCe.out]; rfl), HB2.out⟩
            · have g4 : x.oo < x.de := by
                simp only [Bool.true_and, Bool.not_false, decide_eq_false g3] at hof
                simpa using hof
              clear hof
              go_wp2_with (go_at_call 28; refine (HAm.out _ _).mono ?_; rintro e w' ⟨rfl, hw⟩; rw [hw, g1]; clear hw w')
              go_ret
              exact ⟨by first | (rw [HCe.out]; done) | (rw [HCe.out]; rfl), HB2.out⟩
    · have hltz : ¬ (k : Int) < (l.length : Int) := by omega
      have HCe : Hid (C = 0) := HI.out.symm.trans (ck_done l k (by omega))
      go_wp2
      go_ret
      exact ⟨by first | (rw [HCe.out]; done) | (rw [HCe.out]; rfl), HBn.out⟩
end Go.Proofs.Ytdppelkfcnbgbaa.Ac
