/-
  Texts put together (merge.py): ZRChk.
-/
import Derived.Test.YtmoldgmfhcmceaaGreatDoorMp17
import Derived.Test.YtmoldgmfhcmceaaGreatDoorMp32
/-
  What the reference's Check answers, as a contract: for every table.
-/
section
set_option linter.unusedSimpArgs false
set_option linter.unusedVariables false
set_option maxRecDepth 100000
namespace Go.Proofs.YtmoldgmfhcmceaaGreatDoor.Fe
open Go.RowKit
open Wo (keepB box_cell box_two heap_far below_alloc below_trans)

set_option maxHeartbeats 8000000 in
theorem rcheck_any (l : List Fee) (v : Value) (w : World) (h : FesAt All w v l) (hok : ∀ f ∈ l, FeOk f) (hl : l.length ≤ 281474976710656) : Calls Tryz.prog 12 #[v] w fun e w' => e = .returned (.int .i64 (checkE l)) ∧ Below w.heap.size w w' := by
  have HF := Lib.hid h
  have HOK := Lib.hid hok
  obtain ⟨fa, fk, rfl, hm1, hm2⟩ := h.form
  clear h hok
  by_cases hbig : 512 < l.length
  · have HR : Hid (checkE l = 10) := by show _ = _; unfold checkE; rw [if_pos hbig]
    have hz : (512 : Int) < (l.length : Int) := by omega
    go_enter Tryz.func12, Tryz.ntmps12
    go_wp2
    go_ret
    exact ⟨by rw [HR.out]; rfl, Below.refl _ _⟩
  have HR : Hid (checkE l = if firstE l = 0 then nbE l else firstE l) := by show _ = _; unfold checkE; rw [if_neg hbig]
  have hz : ¬ (512 : Int) < (l.length : Int) := by omega
  go_enter Tryz.func12, Tryz.ntmps12
  go_wp2
  go_loopg [3] (l.length) (fun g i wr => ∃ n : Nat, n ≤ l.length ∧ g = l.length - n ∧ i = .int .i64 (n : Nat) ∧ Hid (Below w.heap.size w wr) ∧ Hid (firstE (l.drop n) = firstE l))
  case atStart => exact ⟨0, Nat.zero_le _, rfl, rfl, Below.refl _ _, rfl⟩
  case round =>
    obtain ⟨n, hn, hgk, rfl, HBn, HE⟩ := hrel
    by_cases hlt : n < l.length
    · obtain ⟨b, oo, rfl, hbs, -, hcc⟩ := FesAt.get (HF.out.grw HBn.out) n hlt
      have HFD := Lib.hid (firstE_drop hlt)
      have HO := Lib.hid (HOK.out l[n] (List.getElem_mem hlt))
      generalize l[n] = x at *
      obtain ⟨c0, c1, c2, c3, c4⟩ := hcc
      have HRW := Lib.hid (rone_any x HO.out wr)
      go_wp2_with fail
      go_at_call 30
      refine HRW.out.mono ?_
      rintro e w5 ⟨rfl, hg⟩
      have HB5 := Lib.hid (below_trans HBn.out hg)
      clear hg HRW c0 c1 c2 c3 c4
      obtain ⟨r, HRV⟩ : ∃ r, Hid (oneE x = r) := ⟨_, rfl⟩
      rw [HRV.out] at HFD
      rw [HRV.out]
      by_cases hr : r = 0
      · have q1 : (r != 0) = false := by rw [hr]; rfl
        have HE2 : Hid (firstE (l.drop (n + 1)) = firstE l) := by show _ = _; rw [← HE.out, HFD.out, if_pos hr]
        clear HE HFD hr
        go_wp2
        go_roundg (l.length - (n + 1))
        case measure => omega
        case rel => exact ⟨n + 1, by omega, rfl, by first | rfl | go_num | (congr 1; omega), HB5.out, HE2.out⟩
      · have q1 : (r != 0) = true := by simpa using hr
        have HE2 : Hid (checkE l = r) := by show _ = _; rw [HR.out, ← HE.out, HFD.out, if_neg hr, if_neg hr]
        clear HE HFD hr
        go_wp2
        go_ret
        exact ⟨by rw [HE2.out]; rfl, HB5.out⟩
    · have hltz : ¬ (n : Int) < (l.length : Int) := by omega
      have HE2 : Hid (checkE l = nbE l) := by
        show _ = _
        have e : l.drop n = [] := List.drop_eq_nil_of_le (by omega)
        have := HE.out
        rw [e] at this
        rw [HR.out, if_pos (show firstE l = 0 from this.symm)]
      clear HE HR
      go_wp2
      go_loopg [5] (l.length) (fun g i wq => ∃ n : Nat, n ≤ l.length ∧ g = l.length - n ∧ i = .int .i64 (n : Nat) ∧ Hid (Below w.heap.size w wq) ∧ Hid (nbE (l.drop n) = nbE l))
      case atStart => exact ⟨0, Nat.zero_le _, rfl, rfl, HBn.out, rfl⟩
      case round =>
        clear HBn
        obtain ⟨n, hn, hgk, rfl, HBn, HE⟩ := hrel
        obtain ⟨m, hm⟩ : ∃ m, m = n + 1 := ⟨_, rfl⟩
        have zm : (n : Int) + 1 = (m : Int) := by omega
        have HM : Hid (m = n + 1) := hm
        have m1 : m ≤ n + 1 := by omega
        have m2 : n + 1 ≤ m := by omega
        clear hm
        by_cases hlt2 : m < l.length
        · have hltz2 : (m : Int) < (l.length : Int) := by omega
          have hn' : n < l.length := by omega
          obtain ⟨b, oo, rfl, hbs, -, -⟩ := FesAt.get HF.out n hn'
          have HSt : Hid (nbE (l.drop n) = if aheadB l[m] l[n] = true then 11 else if aheadB l[n] l[m] = true then nbE (l.drop m) else 12) := by
            show _ = _
            have e := HM.out
            subst e
            rw [drop_two hlt2, List.drop_eq_getElem_cons hlt2]
            rfl
          have HXK := Lib.hid fun W' (hW : Below wr.heap.size wr W') => And.intro (cell_keep (HF.out.grw (below_trans HBn.out hW)) n hn') (cell_keep (HF.out.grw (below_trans HBn.out hW)) m hlt2)
          generalize l[n] = x at *
          generalize l[m] = y at *
          have HD := Lib.hid (Below.drew (Below.refl wr.heap.size wr))
          obtain ⟨wo, hwo⟩ : ∃ z, z = wr := ⟨_, rfl⟩
          subst hwo
          have HS2 : Hid (IntKind.i64.wrap (m : Int) = (m : Int)) := by show _ = _; rw [IntKind.wrap_i64]; omega
          have HZM := Lib.hid zm
          go_upto_region 12 with fail
          refine Ri.wp_region_lasting (by kernel_rfl) (by kernel_rfl) (by kernel_rfl) (fun Wx => Below wo.heap.size wo Wx) (fun kz vs wz => (fun kx vx wx => match kx with | 0 => vx = .slice (some ⟨b, oo, none⟩) l.length fk | 1 => vx = .int .i64 (n : Nat) | 2 => vx = .int .i64 (m : Nat) | 3 => vx = .pointer (some ⟨b, oo + m * 5, none⟩) | 4 => vx = fev y | 5 => vx = .slice (some ⟨b, oo, none⟩) l.length fk | 6 => vx = .int .i64 (n : Nat) | 7 => vx = .pointer (some ⟨b, oo + n * 5, none⟩) | 8 => vx = fev x | 9 => vx = .bool (aheadB y x) | _ => True : Nat → Value → World → Prop) kz (vs kz) wz) (fun kz => [kz]) (by kernel_rfl) (fun jz vs iz vz wz hiz hz => Ri.loc_own (F := (fun kx vx wx => match kx with | 0 => vx = .slice (some ⟨b, oo, none⟩) l.length fk | 1 => vx = .int .i64 (n : Nat) | 2 => vx = .int .i64 (m : Nat) | 3 => vx = .pointer (some ⟨b, oo + m * 5, none⟩) | 4 => vx = fev y | 5 => vx = .slice (some ⟨b, oo, none⟩) l.length fk | 6 => vx = .int .i64 (n : Nat) | 7 => vx = .pointer (some ⟨b, oo + n * 5, none⟩) | 8 => vx = fev x | 9 => vx = .bool (aheadB y x) | _ => True : Nat → Value → World → Prop)) jz vs iz vz wz hiz hz) HD.out ⟨⟨rfl, ?_⟩, ⟨rfl, ?_⟩, ⟨rfl, ?_⟩, ⟨rfl, ?_⟩, ⟨rfl, ?_⟩, ⟨rfl, ?_⟩, ⟨rfl, ?_⟩, ⟨rfl, ?_⟩, ⟨rfl, ?_⟩, ⟨rfl, ?_⟩, trivial⟩ ?_
          · intro vs Wx A hA hB hpre K hK
            have e0 := (hA 0).trans (show _ = Value.slice (some ⟨b, oo, none⟩) l.length fk by kernel_rfl)
            clear hA hpre
            go_simp
            first | exact hK _ _ hB rfl (fun _ _ h => h) | exact hK _ _ hB trivial (fun _ _ h => h) | (rw [if_neg (by omega)]; go_simp; exact hK _ _ hB rfl (fun _ _ h => h))
          · intro vs Wx A hA hB hpre K hK
            have e5 := (hA 5).trans (show _ = Value.int .i64 (n : Nat) by kernel_rfl)
            clear hA hpre
            go_simp
            first | exact hK _ _ hB rfl (fun _ _ h => h) | exact hK _ _ hB trivial (fun _ _ h => h) | (rw [if_neg (by omega)]; go_simp; exact hK _ _ hB rfl (fun _ _ h => h))
          · intro vs Wx A hA hB hpre K hK
            have e31 := ((hA 31).trans (show _ = vs 1 by kernel_rfl)).trans (by first | exact hpre.1 rfl | exact hpre.2.1 rfl | exact hpre.2.2.1 rfl | exact hpre.2.2.2.1 rfl | exact hpre.2.2.2.2.1 rfl | exact hpre.2.2.2.2.2.1 rfl | exact hpre.2.2.2.2.2.2.1 rfl | exact hpre.2.2.2.2.2.2.2.1 rfl | exact hpre.2.2.2.2.2.2.2.2.1 rfl | exact hpre.2.2.2.2.2.2.2.2.2.1 rfl)
            have s1 := HZM.out
            have s2 := HS2.out
            clear hA hpre
            go_simp
            first | exact hK _ _ hB rfl (fun _ _ h => h) | exact hK _ _ hB trivial (fun _ _ h => h) | (rw [if_neg (by omega)]; go_simp; exact hK _ _ hB rfl (fun _ _ h => h))
          · intro vs Wx A hA hB hpre K hK
            have e30 := ((hA 30).trans (show _ = vs 0 by kernel_rfl)).trans (by first | exact hpre.1 rfl | exact hpre.2.1 rfl | exact hpre.2.2.1 rfl | exact hpre.2.2.2.1 rfl | exact hpre.2.2.2.2.1 rfl | exact hpre.2.2.2.2.2.1 rfl | exact hpre.2.2.2.2.2.2.1 rfl | exact hpre.2.2.2.2.2.2.2.1 rfl | exact hpre.2.2.2.2.2.2.2.2.1 rfl | exact hpre.2.2.2.2.2.2.2.2.2.1 rfl)
            have e32 := ((hA 32).trans (show _ = vs 2 by kernel_rfl)).trans (by first | exact hpre.1 rfl | exact hpre.2.1 rfl | exact hpre.2.2.1 rfl | exact hpre.2.2.2.1 rfl | exact hpre.2.2.2.2.1 rfl | exact hpre.2.2.2.2.2.1 rfl | exact hpre.2.2.2.2.2.2.1 rfl | exact hpre.2.2.2.2.2.2.2.1 rfl | exact hpre.2.2.2.2.2.2.2.2.1 rfl | exact hpre.2.2.2.2.2.2.2.2.2.1 rfl)
            clear hA hpre
            go_simp
            first | exact hK _ _ hB rfl (fun _ _ h => h) | exact hK _ _ hB trivial (fun _ _ h => h) | (rw [if_neg (by omega)]; go_simp; exact hK _ _ hB rfl (fun _ _ h => h))
          · intro vs Wx A hA hB hpre K hK
            have e33 := ((hA 33).trans (show _ = vs 3 by kernel_rfl)).trans (by first | exact hpre.1 rfl | exact hpre.2.1 rfl | exact hpre.2.2.1 rfl | exact hpre.2.2.2.1 rfl | exact hpre.2.2.2.2.1 rfl | exact hpre.2.2.2.2.2.1 rfl | exact hpre.2.2.2.2.2.2.1 rfl | exact hpre.2.2.2.2.2.2.2.1 rfl | exact hpre.2.2.2.2.2.2.2.2.1 rfl | exact hpre.2.2.2.2.2.2.2.2.2.1 rfl)
            obtain ⟨⟨x0, x1, x2, x3, x4⟩, ⟨y0, y1, y2, y3, y4⟩⟩ := HXK.out Wx hB
            clear hA hpre
            go_simp
            first | exact hK _ _ hB rfl (fun _ _ h => h) | exact hK _ _ hB trivial (fun _ _ h => h) | (rw [if_neg (by omega)]; go_simp; exact hK _ _ hB rfl (fun _ _ h => h))
          · intro vs Wx A hA hB hpre K hK
            have e0 := (hA 0).trans (show _ = Value.slice (some ⟨b, oo, none⟩) l.length fk by kernel_rfl)
            clear hA hpre
            go_simp
            first | exact hK _ _ hB rfl (fun _ _ h => h) | exact hK _ _ hB trivial (fun _ _ h => h) | (rw [if_neg (by omega)]; go_simp; exact hK _ _ hB rfl (fun _ _ h => h))
          · intro vs Wx A hA hB hpre K hK
            have e5 := (hA 5).trans (show _ = Value.int .i64 (n : Nat) by kernel_rfl)
            clear hA hpre
            go_simp
            first | exact hK _ _ hB rfl (fun _ _ h => h) | exact hK _ _ hB trivial (fun _ _ h => h) | (rw [if_neg (by omega)]; go_simp; exact hK _ _ hB rfl (fun _ _ h => h))
          · intro vs Wx A hA hB hpre K hK
            have e35 := ((hA 35).trans (show _ = vs 5 by kernel_rfl)).trans (by first | exact hpre.1 rfl | exact hpre.2.1 rfl | exact hpre.2.2.1 rfl | exact hpre.2.2.2.1 rfl | exact hpre.2.2.2.2.1 rfl | exact hpre.2.2.2.2.2.1 rfl | exact hpre.2.2.2.2.2.2.1 rfl | exact hpre.2.2.2.2.2.2.2.1 rfl | exact hpre.2.2.2.2.2.2.2.2.1 rfl | exact hpre.2.2.2.2.2.2.2.2.2.1 rfl)
            have e36 := ((hA 36).trans (show _ = vs 6 by kernel_rfl)).trans (by first | exact hpre.1 rfl | exact hpre.2.1 rfl | exact hpre.2.2.1 rfl | exact hpre.2.2.2.1 rfl | exact hpre.2.2.2.2.1 rfl | exact hpre.2.2.2.2.2.1 rfl | exact hpre.2.2.2.2.2.2.1 rfl | exact hpre.2.2.2.2.2.2.2.1 rfl | exact hpre.2.2.2.2.2.2.2.2.1 rfl | exact hpre.2.2.2.2.2.2.2.2.2.1 rfl)
            clear hA hpre
            go_simp
            first | exact hK _ _ hB rfl (fun _ _ h => h) | exact hK _ _ hB trivial (fun _ _ h => h) | (rw [if_neg (by omega)]; go_simp; exact hK _ _ hB rfl (fun _ _ h => h))
          · intro vs Wx A hA hB hpre K hK
            have e37 := ((hA 37).trans (show _ = vs 7 by kernel_rfl)).trans (by first | exact hpre.1 rfl | exact hpre.2.1 rfl | exact hpre.2.2.1 rfl | exact hpre.2.2.2.1 rfl | exact hpre.2.2.2.2.1 rfl | exact hpre.2.2.2.2.2.1 rfl | exact hpre.2.2.2.2.2.2.1 rfl | exact hpre.2.2.2.2.2.2.2.1 rfl | exact hpre.2.2.2.2.2.2.2.2.1 rfl | exact hpre.2.2.2.2.2.2.2.2.2.1 rfl)
            obtain ⟨⟨x0, x1, x2, x3, x4⟩, ⟨y0, y1, y2, y3, y4⟩⟩ := HXK.out Wx hB
            clear hA hpre
            go_simp
            first | exact hK _ _ hB rfl (fun _ _ h => h) | exact hK _ _ hB trivial (fun _ _ h => h) | (rw [if_neg (by omega)]; go_simp; exact hK _ _ hB rfl (fun _ _ h => h))
          · intro vs Wx A hA hB hpre K hK
            have e34 := ((hA 34).trans (show _ = vs 4 by kernel_rfl)).trans (by first | exact hpre.1 rfl | exact hpre.2.1 rfl | exact hpre.2.2.1 rfl | exact hpre.2.2.2.1 rfl | exact hpre.2.2.2.2.1 rfl | exact hpre.2.2.2.2.2.1 rfl | exact hpre.2.2.2.2.2.2.1 rfl | exact hpre.2.2.2.2.2.2.2.1 rfl | exact hpre.2.2.2.2.2.2.2.2.1 rfl | exact hpre.2.2.2.2.2.2.2.2.2.1 rfl)
            have e38 := ((hA 38).trans (show _ = vs 8 by kernel_rfl)).trans (by first | exact hpre.1 rfl | exact hpre.2.1 rfl | exact hpre.2.2.1 rfl | exact hpre.2.2.2.1 rfl | exact hpre.2.2.2.2.1 rfl | exact hpre.2.2.2.2.2.1 rfl | exact hpre.2.2.2.2.2.2.1 rfl | exact hpre.2.2.2.2.2.2.2.1 rfl | exact hpre.2.2.2.2.2.2.2.2.1 rfl | exact hpre.2.2.2.2.2.2.2.2.2.1 rfl)
            clear hA hpre
            go_simp
            go_at_call 31
            refine (rahead_any _ _ _).mono ?_
            rintro e w3 ⟨rfl, hg⟩
            exact hK _ _ (below_trans hB hg) rfl (fun _ _ h => h)
          · intro vs Wx hB hF
            have hL : vs 9 = .bool (aheadB y x) := hF 9 (by decide)
            have HB3 := Lib.hid (below_trans HBn.out hB)
            have HX2 := Lib.hid fun W' (hW : Below Wx.heap.size Wx W') => HXK.out W' (below_trans hB hW)
            clear hF hB HXK HD
            simp only [Ri.puts]
            rw [hL]
            clear hL
            cases ha : aheadB y x with
            | true =>
              have HE3 : Hid (checkE l = 11) := by show _ = _; rw [HE2.out, ← HE.out, HSt.out, if_pos ha]
              clear HSt HE HX2
              go_simp
              go_wp2_with fail
              go_ret
              exact ⟨by rw [HE3.out]; rfl, HB3.out⟩
            | false =>
              have HSt2 : Hid (nbE (l.drop n) = if aheadB x y = true then nbE (l.drop m) else 12) := by show _ = _; rw [HSt.out, if_neg (by rw [ha]; decide)]
              clear HSt ha
              have HXK : Hid (∀ W', Below Wx.heap.size Wx W' → FeCells W' b (oo + n * 5) x ∧ FeCells W' b (oo + m * 5) y) := HX2.out
              clear HX2
              have HD := Lib.hid (Below.drew (Below.refl Wx.heap.size Wx))
              obtain ⟨wo2, hwo2⟩ : ∃ z, z = Wx := ⟨_, rfl⟩
              subst hwo2
              go_simp
              go_upto_region 14 with fail
              refine Ri.wp_region_lasting (by kernel_rfl) (by kernel_rfl) (by kernel_rfl) (fun Wx => Below wo2.heap.size wo2 Wx) (fun kz vs wz => (fun kx vx wx => match kx with | 0 => vx = .slice (some ⟨b, oo, none⟩) l.length fk | 1 => vx = .int .i64 (n : Nat) | 2 => vx = .pointer (some ⟨b, oo + n * 5, none⟩) | 3 => vx = fev x | 4 => vx = .slice (some ⟨b, oo, none⟩) l.length fk | 5 => vx = .int .i64 (n : Nat) | 6 => vx = .int .i64 (m : Nat) | 7 => vx = .pointer (some ⟨b, oo + m * 5, none⟩) | 8 => vx = fev y | 9 => vx = .bool (aheadB x y) | 10 => vx = .bool (!aheadB x y) | _ => True : Nat → Value → World → Prop) kz (vs kz) wz) (fun kz => [kz]) (by kernel_rfl) (fun jz vs iz vz wz hiz hz => Ri.loc_own (F := (fun kx vx wx => match kx with | 0 => vx = .slice (some ⟨b, oo, none⟩) l.length fk | 1 => vx = .int .i64 (n : Nat) | 2 => vx = .pointer (some ⟨b, oo + n * 5, none⟩) | 3 => vx = fev x | 4 => vx = .slice (some ⟨b, oo, none⟩) l.length fk | 5 => vx = .int .i64 (n : Nat) | 6 => vx = .int .i64 (m : Nat) | 7 => vx = .pointer (some ⟨b, oo + m * 5, none⟩) | 8 => vx = fev y | 9 => vx = .bool (aheadB x y) | 10 => vx = .bool (!aheadB x y) | _ => True : Nat → Value → World → Prop)) jz vs iz vz wz hiz hz) HD.out ⟨⟨rfl, ?_⟩, ⟨rfl, ?_⟩, ⟨rfl, ?_⟩, ⟨rfl, ?_⟩, ⟨rfl, ?_⟩, ⟨rfl, ?_⟩, ⟨rfl, ?_⟩, ⟨rfl, ?_⟩, ⟨rfl, ?_⟩, ⟨rfl, ?_⟩, ⟨rfl, ?_⟩, trivial⟩ ?_
              · intro vs Wx A hA hB hpre K hK
                have e0 := (hA 0).trans (show _ = Value.slice (some ⟨b, oo, none⟩) l.length fk by kernel_rfl)
                clear hA hpre
                go_simp
                first | exact hK _ _ hB rfl (fun _ _ h => h) | exact hK _ _ hB trivial (fun _ _ h => h) | (rw [if_neg (by omega)]; go_simp; exact hK _ _ hB rfl (fun _ _ h => h))
              · intro vs Wx A hA hB hpre K hK
                have e5 := (hA 5).trans (show _ = Value.int .i64 (n : Nat) by kernel_rfl)
                clear hA hpre
                go_simp
                first | exact hK _ _ hB rfl (fun _ _ h => h) | exact hK _ _ hB trivial (fun _ _ h => h) | (rw [if_neg (by omega)]; go_simp; exact hK _ _ hB rfl (fun _ _ h => h))
              · intro vs Wx A hA hB hpre K hK
                have e40 := ((hA 40).trans (show _ = vs 0 by kernel_rfl)).trans (by first | exact hpre.1 rfl | exact hpre.2.1 rfl | exact hpre.2.2.1 rfl | exact hpre.2.2.2.1 rfl | exact hpre.2.2.2.2.1 rfl | exact hpre.2.2.2.2.2.1 rfl | exact hpre.2.2.2.2.2.2.1 rfl | exact hpre.2.2.2.2.2.2.2.1 rfl | exact hpre.2.2.2.2.2.2.2.2.1 rfl | exact hpre.2.2.2.2.2.2.2.2.2.1 rfl)
                have e41 := ((hA 41).trans (show _ = vs 1 by kernel_rfl)).trans (by first | exact hpre.1 rfl | exact hpre.2.1 rfl | exact hpre.2.2.1 rfl | exact hpre.2.2.2.1 rfl | exact hpre.2.2.2.2.1 rfl | exact hpre.2.2.2.2.2.1 rfl | exact hpre.2.2.2.2.2.2.1 rfl | exact hpre.2.2.2.2.2.2.2.1 rfl | exact hpre.2.2.2.2.2.2.2.2.1 rfl | exact hpre.2.2.2.2.2.2.2.2.2.1 rfl)
                clear hA hpre
                go_simp
                first | exact hK _ _ hB rfl (fun _ _ h => h) | exact hK _ _ hB trivial (fun _ _ h => h) | (rw [if_neg (by omega)]; go_simp; exact hK _ _ hB rfl (fun _ _ h => h))
              · intro vs Wx A hA hB hpre K hK
                have e42 := ((hA 42).trans (show _ = vs 2 by kernel_rfl)).trans (by first | exact hpre.1 rfl | exact hpre.2.1 rfl | exact hpre.2.2.1 rfl | exact hpre.2.2.2.1 rfl | exact hpre.2.2.2.2.1 rfl | exact hpre.2.2.2.2.2.1 rfl | exact hpre.2.2.2.2.2.2.1 rfl | exact hpre.2.2.2.2.2.2.2.1 rfl | exact hpre.2.2.2.2.2.2.2.2.1 rfl | exact hpre.2.2.2.2.2.2.2.2.2.1 rfl)
                obtain ⟨⟨x0, x1, x2, x3, x4⟩, ⟨y0, y1, y2, y3, y4⟩⟩ := HXK.out Wx hB
                clear hA hpre
                go_simp
                first | exact hK _ _ hB rfl (fun _ _ h => h) | exact hK _ _ hB trivial (fun _ _ h => h) | (rw [if_neg (by omega)]; go_simp; exact hK _ _ hB rfl (fun _ _ h => h))
              · intro vs Wx A hA hB hpre K hK
                have e0 := (hA 0).trans (show _ = Value.slice (some ⟨b, oo, none⟩) l.length fk by kernel_rfl)
                clear hA hpre
                go_simp
                first | exact hK _ _ hB rfl (fun _ _ h => h) | exact hK _ _ hB trivial (fun _ _ h => h) | (rw [if_neg (by omega)]; go_simp; exact hK _ _ hB rfl (fun _ _ h => h))
              · intro vs Wx A hA hB hpre K hK
                have e5 := (hA 5).trans (show _ = Value.int .i64 (n : Nat) by kernel_rfl)
                clear hA hpre
                go_simp
                first | exact hK _ _ hB rfl (fun _ _ h => h) | exact hK _ _ hB trivial (fun _ _ h => h) | (rw [if_neg (by omega)]; go_simp; exact hK _ _ hB rfl (fun _ _ h => h))
              · intro vs Wx A hA hB hpre K hK
                have e45 := ((hA 45).trans (show _ = vs 5 by kernel_rfl)).trans (by first | exact hpre.1 rfl | exact hpre.2.1 rfl | exact hpre.2.2.1 rfl | exact hpre.2.2.2.1 rfl | exact hpre.2.2.2.2.1 rfl | exact hpre.2.2.2.2.2.1 rfl | exact hpre.2.2.2.2.2.2.1 rfl | exact hpre.2.2.2.2.2.2.2.1 rfl | exact hpre.2.2.2.2.2.2.2.2.1 rfl | exact hpre.2.2.2.2.2.2.2.2.2.1 rfl)
                have s1 := HZM.out
                have s2 := HS2.out
                clear hA hpre
                go_simp
                first | exact hK _ _ hB rfl (fun _ _ h => h) | exact hK _ _ hB trivial (fun _ _ h => h) | (rw [if_neg (by omega)]; go_simp; exact hK _ _ hB rfl (fun _ _ h => h))
              · intro vs Wx A hA hB hpre K hK
                have e44 := ((hA 44).trans (show _ = vs 4 by kernel_rfl)).trans (by first | exact hpre.1 rfl | exact hpre.2.1 rfl | exact hpre.2.2.1 rfl | exact hpre.2.2.2.1 rfl | exact hpre.2.2.2.2.1 rfl | exact hpre.2.2.2.2.2.1 rfl | exact hpre.2.2.2.2.2.2.1 rfl | exact hpre.2.2.2.2.2.2.2.1 rfl | exact hpre.2.2.2.2.2.2.2.2.1 rfl | exact hpre.2.2.2.2.2.2.2.2.2.1 rfl)
                have e46 := ((hA 46).trans (show _ = vs 6 by kernel_rfl)).trans (by first | exact hpre.1 rfl | exact hpre.2.1 rfl | exact hpre.2.2.1 rfl | exact hpre.2.2.2.1 rfl | exact hpre.2.2.2.2.1 rfl | exact hpre.2.2.2.2.2.1 rfl | exact hpre.2.2.2.2.2.2.1 rfl | exact hpre.2.2.2.2.2.2.2.1 rfl | exact hpre.2.2.2.2.2.2.2.2.1 rfl | exact hpre.2.2.2.2.2.2.2.2.2.1 rfl)
                clear hA hpre
                go_simp
                first | exact hK _ _ hB rfl (fun _ _ h => h) | exact hK _ _ hB trivial (fun _ _ h => h) | (rw [if_neg (by omega)]; go_simp; exact hK _ _ hB rfl (fun _ _ h => h))
              · intro vs Wx A hA hB hpre K hK
                have e47 := ((hA 47).trans (show _ = vs 7 by kernel_rfl)).trans (by first | exact hpre.1 rfl | exact hpre.2.1 rfl | exact hpre.2.2.1 rfl | exact hpre.2.2.2.1 rfl | exact hpre.2.2.2.2.1 rfl | exact hpre.2.2.2.2.2.1 rfl | exact hpre.2.2.2.2.2.2.1 rfl | exact hpre.2.2.2.2.2.2.2.1 rfl | exact hpre.2.2.2.2.2.2.2.2.1 rfl | exact hpre.2.2.2.2.2.2.2.2.2.1 rfl)
                obtain ⟨⟨x0, x1, x2, x3, x4⟩, ⟨y0, y1, y2, y3, y4⟩⟩ := HXK.out Wx hB
                clear hA hpre
                go_simp
                first | exact hK _ _ hB rfl (fun _ _ h => h) | exact hK _ _ hB trivial (fun _ _ h => h) | (rw [if_neg (by omega)]; go_simp; exact hK _ _ hB rfl (fun _ _ h => h))
              · intro vs Wx A hA hB hpre K hK
                have e43 := ((hA 43).trans (show _ = vs 3 by kernel_rfl)).trans (by first | exact hpre.1 rfl | exact hpre.2.1 rfl | exact hpre.2.2.1 rfl | exact hpre.2.2.2.1 rfl | exact hpre.2.2.2.2.1 rfl | exact hpre.2.2.2.2.2.1 rfl | exact hpre.2.2.2.2.2.2.1 rfl | exact hpre.2.2.2.2.2.2.2.1 rfl | exact hpre.2.2.2.2.2.2.2.2.1 rfl | exact hpre.2.2.2.2.2.2.2.2.2.1 rfl)
                have e48 := ((hA 48).trans (show _ = vs 8 by kernel_rfl)).trans (by first | exact hpre.1 rfl | exact hpre.2.1 rfl | exact hpre.2.2.1 rfl | exact hpre.2.2.2.1 rfl | exact hpre.2.2.2.2.1 rfl | exact hpre.2.2.2.2.2.1 rfl | exact hpre.2.2.2.2.2.2.1 rfl | exact hpre.2.2.2.2.2.2.2.1 rfl | exact hpre.2.2.2.2.2.2.2.2.1 rfl | exact hpre.2.2.2.2.2.2.2.2.2.1 rfl)
                clear hA hpre
                go_simp
                go_at_call 31
                refine (rahead_any _ _ _).mono ?_
                rintro e w3 ⟨rfl, hg⟩
                exact hK _ _ (below_trans hB hg) rfl (fun _ _ h => h)
              · intro vs Wx A hA hB hpre K hK
                have e49 := ((hA 49).trans (show _ = vs 9 by kernel_rfl)).trans (by first | exact hpre.1 rfl | exact hpre.2.1 rfl | exact hpre.2.2.1 rfl | exact hpre.2.2.2.1 rfl | exact hpre.2.2.2.2.1 rfl | exact hpre.2.2.2.2.2.1 rfl | exact hpre.2.2.2.2.2.2.1 rfl | exact hpre.2.2.2.2.2.2.2.1 rfl | exact hpre.2.2.2.2.2.2.2.2.1 rfl | exact hpre.2.2.2.2.2.2.2.2.2.1 rfl)
                clear hA hpre
                go_simp
                first | exact hK _ _ hB rfl (fun _ _ h => h) | exact hK _ _ hB trivial (fun _ _ h => h) | (rw [if_neg (by omega)]; go_simp; exact hK _ _ hB rfl (fun _ _ h => h))
              · intro vs Wx hB hF
                have hL : vs 10 = .bool (!aheadB x y) := hF 10 (by decide)
                have HB4 := Lib.hid (below_trans HB3.out hB)
                clear hF hB HXK HD
                simp only [Ri.puts]
                rw [hL]
                clear hL
                cases ha : aheadB x y with
                | true =>
                  have HE3 : Hid (nbE (l.drop m) = nbE l) := by show _ = _; rw [← HE.out, HSt2.out, if_pos ha]
                  clear HSt2 HE ha
                  go_simp
                  go_wp2
                  go_roundg (l.length - m)
                  case measure => omega
                  case rel => exact ⟨m, by omega, rfl, by first | rfl | go_num | (congr 1; omega), HB4.out, HE3.out⟩
                | false =>
                  have HE3 : Hid (checkE l = 12) := by show _ = _; rw [HE2.out, ← HE.out, HSt2.out, if_neg (by rw [ha]; decide)]
                  clear HSt2 HE ha
                  go_simp
                  go_wp2_with fail
                  go_ret
                  exact ⟨by rw [HE3.out]; rfl, HB4.out⟩
        · have hltz2 : ¬ (m : Int) < (l.length : Int) := by omega
          have HN : Hid (checkE l = 0) := by
            show _ = _
            rw [HE2.out, ← HE.out]
            exact nb_short _ (by rw [List.length_drop]; omega)
          go_wp2
          go_ret
          exact ⟨by rw [HN.out]; rfl, HBn.out⟩
end Go.Proofs.YtmoldgmfhcmceaaGreatDoor.Fe
end
