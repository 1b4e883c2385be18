/-
  Texts put together (merge.py): ZRLook.
-/
import Derived.Test.YtmoldgmfhcmceaaGreatDoorMf32
import Derived.Test.YtmoldgmfhcmceaaGreatDoorMf15
/-
  What the reference's Lookup answers, as a contract: for every table.
-/
section
set_option linter.unusedSimpArgs false
set_option linter.unusedVariables false
set_option maxRecDepth 100000
namespace Go.Proofs.YtmoldgmfhcmceaaGreatDoor.Fe
open Go.RowKit
open Wo (Wd WdsAt keepB box_cell box_two heap_far below_alloc below_trans)

theorem fold_take (k : Key) (l : List Fee) (n : Nat) (h : n < l.length) : (l.take (n + 1)).foldl (stepL k) none = stepL k ((l.take n).foldl (stepL k) none) l[n] := by
  have e : l.take (n + 1) = l.take n ++ [l[n]] := by rw [List.take_add_one, List.getElem?_eq_getElem h]; rfl
  rw [e, List.foldl_append]; rfl
theorem four_ways {V1 V2 V3 : Bool} {a b : Int} (hh : ¬ (V1 = true ∧ V2 = true ∧ V3 = false ∧ ¬ a < b)) : V1 = false ∨ (V1 = true ∧ V2 = false) ∨ (V1 = true ∧ V2 = true ∧ V3 = true) ∨ (V1 = true ∧ V2 = true ∧ V3 = false ∧ a < b) := by
  cases V1 <;> cases V2 <;> cases V3 <;> simp at hh ⊢ <;> omega
def BestAt (l : List Fee) (k : Key) (n : Nat) (bz : Int) : Prop := (bz = -1 ∧ (l.take n).foldl (stepL k) none = none) ∨ ∃ bi, ∃ h : bi < l.length, bz = (bi : Nat) ∧ (l.take n).foldl (stepL k) none = some l[bi]
set_option maxHeartbeats 16000000 in
theorem rlook_any (l : List Fee) (k : Key) (v : Value) (w : World) (h : FesAt All w v l) (hl : l.length ≤ 281474976710656) :
    Calls Tryz.prog 17 #[v, .string (mk k.proc), .string (mk k.mod), .int .i64 k.net, .int .i64 k.day] w fun e w' => e = .returned (.tuple #[.int .i64 (lookV k l), .bool (lookB k l)]) ∧ Below w.heap.size w w' := by
  have HF := Lib.hid h
  obtain ⟨fa, fk, rfl, hm1, hm2⟩ := h.form
  clear h
  go_enter Tryz.func17, Tryz.ntmps17
  go_wp2
  go_loopg [12, 13] (l.length) (fun g s12 s13 wr => ∃ (n : Nat) (bz : Int), s12 = .int .i64 bz ∧ s13 = .int .i64 (n : Nat) ∧ n ≤ l.length ∧ g = l.length - n ∧ Hid (Below w.heap.size w wr) ∧ Hid (BestAt l k n bz))
  case atStart => exact ⟨0, -1, rfl, rfl, Nat.zero_le _, rfl, Below.refl _ _, Or.inl ⟨rfl, rfl⟩⟩
  case round =>
    obtain ⟨n, bz, rfl, rfl, hn, hgk, HBn, HBe⟩ := hrel
    by_cases hlt : n < l.length
    · have hltz : (n : Int) < (l.length : Int) := by omega
      have HFT := Lib.hid (fold_take k l n hlt)
      obtain ⟨b, oo, rfl, -, -, hcc⟩ := FesAt.get (HF.out.grw HBn.out) n hlt
      obtain ⟨c0, c1, c2, c3, c4⟩ := hcc
      have HXn := Lib.hid fun W' (hW : Below wr.heap.size wr W') => cell_keep (HF.out.grw (below_trans HBn.out hW)) n hlt
      obtain ⟨x, HX⟩ : ∃ x, Hid (l[n] = x) := ⟨l[n], (rfl : l[n] = l[n])⟩
      rw [HX.out] at HFT HXn c0 c1 c2 c3 c4
      obtain ⟨V1, t1⟩ : ∃ V, ((mk x.proc).toList == (mk k.proc).toList) = V := ⟨_, rfl⟩
      obtain ⟨V2, t2⟩ : ∃ V, ((mk x.mod).toList == (mk k.mod).toList) = V := ⟨_, rfl⟩
      obtain ⟨V3, t3⟩ : ∃ V, (x.net != k.net) = V := ⟨_, rfl⟩
      have HV : Hid (hit k x = true ↔ V1 = true ∧ V2 = true ∧ V3 = false ∧ ¬ k.day < x.frm) := by
        show _ ↔ _
        rw [← t1, ← t2, ← t3, mk_eqs', mk_eqs', hit_iff]
        simp
      by_cases hh : V1 = true ∧ V2 = true ∧ V3 = false ∧ ¬ k.day < x.frm
      rotate_left
      · have HS : Hid (stepL k ((l.take n).foldl (stepL k) none) x = (l.take n).foldl (stepL k) none) := step_no (by
          cases hv : hit k x with
          | false => rfl
          | true => exact absurd (HV.out.1 hv) hh)
        have HBe2 : Hid (BestAt l k (n + 1) bz) := by show BestAt _ _ _ _; unfold BestAt; rw [HFT.out, HS.out]; exact HBe.out
        have hc := four_ways hh
        clear hh HV HS HFT HBe HXn
        rcases hc with v1 | ⟨v1, v2⟩ | ⟨v1, v2, v3⟩ | ⟨v1, v2, v3, v4⟩
        all_goals
          go_wp2
          go_roundg (l.length - (n + 1))
          case measure => omega
          case rel => exact ⟨n + 1, bz, rfl, by first | rfl | go_num | (congr 1; omega), by omega, rfl, HBn.out, HBe2.out⟩
      · have HHit : Hid (hit k x = true) := HV.out.2 hh
        obtain ⟨v1, v2, v3, v4⟩ := hh
        clear HV
        have HD := Lib.hid (Below.drew (Below.refl wr.heap.size wr))
        obtain ⟨wo, hwo⟩ : ∃ z, z = wr := ⟨_, rfl⟩
        subst hwo
        rcases HBe.out with ⟨rfl, hnone⟩ | ⟨bi, hbi, rfl, hsome⟩
        · have HBe2 : Hid (BestAt l k (n + 1) (n : Nat)) := by
            refine Or.inr ⟨n, hlt, rfl, ?_⟩
            rw [HFT.out, hnone, HX.out]
            unfold stepL
            rw [if_pos HHit.out]
          clear hnone HBe HFT HXn
          go_upto_region 6 with fail
          clear c0 c1 c2 c3 c4 t1 t2 t3 v1 v2 v3 v4
          refine Ri.wp_region_lastingB_g (by kernel_rfl) (by kernel_rfl) (by kernel_rfl) (fun Wx => Below wo.heap.size wo Wx) (fun kz vs wz => (fun kx vx wx => match kx with | 0 => vx = .int .i64 (-1) | 1 => vx = .bool true | 2 => vx = .bool true | 3 => True | 4 => True | 5 => True | 6 => True | 7 => True | 8 => True | 9 => True | 10 => True | 11 => True | 12 => True | 13 => True | 14 => vx = .bool true | _ => True : Nat → Value → World → Prop) kz (vs kz) wz) (fun kz => [kz]) (by kernel_rfl) (fun jz vs iz vz wz hiz hz => Ri.loc_own (F := (fun kx vx wx => match kx with | 0 => vx = .int .i64 (-1) | 1 => vx = .bool true | 2 => vx = .bool true | 3 => True | 4 => True | 5 => True | 6 => True | 7 => True | 8 => True | 9 => True | 10 => True | 11 => True | 12 => True | 13 => True | 14 => vx = .bool true | _ => True : Nat → Value → World → Prop)) jz vs iz vz wz hiz hz) HD.out ⟨Or.inl ⟨rfl, ?_⟩, Or.inl ⟨rfl, ?_⟩, Or.inl ⟨rfl, ?_⟩, Or.inr ⟨2, false, 56, rfl, rfl, ?_⟩, Or.inr ⟨2, false, 56, rfl, rfl, ?_⟩, Or.inr ⟨2, false, 56, rfl, rfl, ?_⟩, Or.inr ⟨2, false, 56, rfl, rfl, ?_⟩, Or.inr ⟨2, false, 56, rfl, rfl, ?_⟩, Or.inr ⟨2, false, 56, rfl, rfl, ?_⟩, Or.inr ⟨2, false, 56, rfl, rfl, ?_⟩, Or.inr ⟨2, false, 56, rfl, rfl, ?_⟩, Or.inr ⟨2, false, 56, rfl, rfl, ?_⟩, Or.inr ⟨2, false, 56, rfl, rfl, ?_⟩, Or.inr ⟨2, false, 56, rfl, rfl, ?_⟩, Or.inl ⟨rfl, ?_⟩, trivial⟩ ?_
          · intro vs Wx A hA hB hpre K hK
            have e12 := (hA 12).trans (show _ = Value.int .i64 (-1) by kernel_rfl)
            clear hA hpre
            go_simp
            first | exact hK _ _ hB rfl (fun _ _ h => h) | exact hK _ _ hB trivial (fun _ _ h => h) | (rw [if_neg (by omega)]; go_simp; exact hK _ _ hB rfl (fun _ _ h => h))
          · intro vs Wx A hA hB hpre K hK
            have e54 := ((hA 54).trans (show _ = vs 0 by kernel_rfl)).trans (by first | exact hpre.1 rfl | exact hpre.2.1 rfl | exact hpre.2.2.1 rfl | exact hpre.2.2.2.1 rfl | exact hpre.2.2.2.2.1 rfl | exact hpre.2.2.2.2.2.1 rfl | exact hpre.2.2.2.2.2.2.1 rfl | exact hpre.2.2.2.2.2.2.2.1 rfl | exact hpre.2.2.2.2.2.2.2.2.1 rfl | exact hpre.2.2.2.2.2.2.2.2.2.1 rfl)
            clear hA hpre
            go_simp
            first | exact hK _ _ hB rfl (fun _ _ h => h) | exact hK _ _ hB trivial (fun _ _ h => h) | (rw [if_neg (by omega)]; go_simp; exact hK _ _ hB rfl (fun _ _ h => h))
          · intro vs Wx A hA hB hpre K hK
            have e55 := ((hA 55).trans (show _ = vs 1 by kernel_rfl)).trans (by first | exact hpre.1 rfl | exact hpre.2.1 rfl | exact hpre.2.2.1 rfl | exact hpre.2.2.2.1 rfl | exact hpre.2.2.2.2.1 rfl | exact hpre.2.2.2.2.2.1 rfl | exact hpre.2.2.2.2.2.2.1 rfl | exact hpre.2.2.2.2.2.2.2.1 rfl | exact hpre.2.2.2.2.2.2.2.2.1 rfl | exact hpre.2.2.2.2.2.2.2.2.2.1 rfl)
            clear hA hpre
            go_simp
            first | exact hK _ _ hB rfl (fun _ _ h => h) | exact hK _ _ hB trivial (fun _ _ h => h) | (rw [if_neg (by omega)]; go_simp; exact hK _ _ hB rfl (fun _ _ h => h))
          · intro vs Wx A hA hB hpre
            have eg := ((hA 56).trans (show _ = vs 2 by kernel_rfl)).trans (by first | exact hpre.1 rfl | exact hpre.2.1 rfl | exact hpre.2.2.1 rfl | exact hpre.2.2.2.1 rfl | exact hpre.2.2.2.2.1 rfl | exact hpre.2.2.2.2.2.1 rfl | exact hpre.2.2.2.2.2.2.1 rfl | exact hpre.2.2.2.2.2.2.2.1 rfl | exact hpre.2.2.2.2.2.2.2.2.1 rfl | exact hpre.2.2.2.2.2.2.2.2.2.1 rfl)
            exact ⟨true, eg, fun h => (by cases h), fun _ => trivial⟩
          · intro vs Wx A hA hB hpre
            have eg := ((hA 56).trans (show _ = vs 2 by kernel_rfl)).trans (by first | exact hpre.1 rfl | exact hpre.2.1 rfl | exact hpre.2.2.1 rfl | exact hpre.2.2.2.1 rfl | exact hpre.2.2.2.2.1 rfl | exact hpre.2.2.2.2.2.1 rfl | exact hpre.2.2.2.2.2.2.1 rfl | exact hpre.2.2.2.2.2.2.2.1 rfl | exact hpre.2.2.2.2.2.2.2.2.1 rfl | exact hpre.2.2.2.2.2.2.2.2.2.1 rfl)
            exact ⟨true, eg, fun h => (by cases h), fun _ => trivial⟩
          · intro vs Wx A hA hB hpre
            have eg := ((hA 56).trans (show _ = vs 2 by kernel_rfl)).trans (by first | exact hpre.1 rfl | exact hpre.2.1 rfl | exact hpre.2.2.1 rfl | exact hpre.2.2.2.1 rfl | exact hpre.2.2.2.2.1 rfl | exact hpre.2.2.2.2.2.1 rfl | exact hpre.2.2.2.2.2.2.1 rfl | exact hpre.2.2.2.2.2.2.2.1 rfl | exact hpre.2.2.2.2.2.2.2.2.1 rfl | exact hpre.2.2.2.2.2.2.2.2.2.1 rfl)
            exact ⟨true, eg, fun h => (by cases h), fun _ => trivial⟩
          · intro vs Wx A hA hB hpre
            have eg := ((hA 56).trans (show _ = vs 2 by kernel_rfl)).trans (by first | exact hpre.1 rfl | exact hpre.2.1 rfl | exact hpre.2.2.1 rfl | exact hpre.2.2.2.1 rfl | exact hpre.2.2.2.2.1 rfl | exact hpre.2.2.2.2.2.1 rfl | exact hpre.2.2.2.2.2.2.1 rfl | exact hpre.2.2.2.2.2.2.2.1 rfl | exact hpre.2.2.2.2.2.2.2.2.1 rfl | exact hpre.2.2.2.2.2.2.2.2.2.1 rfl)
            exact ⟨true, eg, fun h => (by cases h), fun _ => trivial⟩
          · intro vs Wx A hA hB hpre
            have eg := ((hA 56).trans (show _ = vs 2 by kernel_rfl)).trans (by first | exact hpre.1 rfl | exact hpre.2.1 rfl | exact hpre.2.2.1 rfl | exact hpre.2.2.2.1 rfl | exact hpre.2.2.2.2.1 rfl | exact hpre.2.2.2.2.2.1 rfl | exact hpre.2.2.2.2.2.2.1 rfl | exact hpre.2.2.2.2.2.2.2.1 rfl | exact hpre.2.2.2.2.2.2.2.2.1 rfl | exact hpre.2.2.2.2.2.2.2.2.2.1 rfl)
            exact ⟨true, eg, fun h => (by cases h), fun _ => trivial⟩
          · intro vs Wx A hA hB hpre
            have eg := ((hA 56).trans (show _ = vs 2 by kernel_rfl)).trans (by first | exact hpre.1 rfl | exact hpre.2.1 rfl | exact hpre.2.2.1 rfl | exact hpre.2.2.2.1 rfl | exact hpre.2.2.2.2.1 rfl | exact hpre.2.2.2.2.2.1 rfl | exact hpre.2.2.2.2.2.2.1 rfl | exact hpre.2.2.2.2.2.2.2.1 rfl | exact hpre.2.2.2.2.2.2.2.2.1 rfl | exact hpre.2.2.2.2.2.2.2.2.2.1 rfl)
            exact ⟨true, eg, fun h => (by cases h), fun _ => trivial⟩
          · intro vs Wx A hA hB hpre
            have eg := ((hA 56).trans (show _ = vs 2 by kernel_rfl)).trans (by first | exact hpre.1 rfl | exact hpre.2.1 rfl | exact hpre.2.2.1 rfl | exact hpre.2.2.2.1 rfl | exact hpre.2.2.2.2.1 rfl | exact hpre.2.2.2.2.2.1 rfl | exact hpre.2.2.2.2.2.2.1 rfl | exact hpre.2.2.2.2.2.2.2.1 rfl | exact hpre.2.2.2.2.2.2.2.2.1 rfl | exact hpre.2.2.2.2.2.2.2.2.2.1 rfl)
            exact ⟨true, eg, fun h => (by cases h), fun _ => trivial⟩
          · intro vs Wx A hA hB hpre
            have eg := ((hA 56).trans (show _ = vs 2 by kernel_rfl)).trans (by first | exact hpre.1 rfl | exact hpre.2.1 rfl | exact hpre.2.2.1 rfl | exact hpre.2.2.2.1 rfl | exact hpre.2.2.2.2.1 rfl | exact hpre.2.2.2.2.2.1 rfl | exact hpre.2.2.2.2.2.2.1 rfl | exact hpre.2.2.2.2.2.2.2.1 rfl | exact hpre.2.2.2.2.2.2.2.2.1 rfl | exact hpre.2.2.2.2.2.2.2.2.2.1 rfl)
            exact ⟨true, eg, fun h => (by cases h), fun _ => trivial⟩
          · intro vs Wx A hA hB hpre
            have eg := ((hA 56).trans (show _ = vs 2 by kernel_rfl)).trans (by first | exact hpre.1 rfl | exact hpre.2.1 rfl | exact hpre.2.2.1 rfl | exact hpre.2.2.2.1 rfl | exact hpre.2.2.2.2.1 rfl | exact hpre.2.2.2.2.2.1 rfl | exact hpre.2.2.2.2.2.2.1 rfl | exact hpre.2.2.2.2.2.2.2.1 rfl | exact hpre.2.2.2.2.2.2.2.2.1 rfl | exact hpre.2.2.2.2.2.2.2.2.2.1 rfl)
            exact ⟨true, eg, fun h => (by cases h), fun _ => trivial⟩
          · intro vs Wx A hA hB hpre
            have eg := ((hA 56).trans (show _ = vs 2 by kernel_rfl)).trans (by first | exact hpre.1 rfl | exact hpre.2.1 rfl | exact hpre.2.2.1 rfl | exact hpre.2.2.2.1 rfl | exact hpre.2.2.2.2.1 rfl | exact hpre.2.2.2.2.2.1 rfl | exact hpre.2.2.2.2.2.2.1 rfl | exact hpre.2.2.2.2.2.2.2.1 rfl | exact hpre.2.2.2.2.2.2.2.2.1 rfl | exact hpre.2.2.2.2.2.2.2.2.2.1 rfl)
            exact ⟨true, eg, fun h => (by cases h), fun _ => trivial⟩
          · intro vs Wx A hA hB hpre
            have eg := ((hA 56).trans (show _ = vs 2 by kernel_rfl)).trans (by first | exact hpre.1 rfl | exact hpre.2.1 rfl | exact hpre.2.2.1 rfl | exact hpre.2.2.2.1 rfl | exact hpre.2.2.2.2.1 rfl | exact hpre.2.2.2.2.2.1 rfl | exact hpre.2.2.2.2.2.2.1 rfl | exact hpre.2.2.2.2.2.2.2.1 rfl | exact hpre.2.2.2.2.2.2.2.2.1 rfl | exact hpre.2.2.2.2.2.2.2.2.2.1 rfl)
            exact ⟨true, eg, fun h => (by cases h), fun _ => trivial⟩
          · intro vs Wx A hA hB hpre K hK
            have e56 := ((hA 56).trans (show _ = vs 2 by kernel_rfl)).trans (by first | exact hpre.1 rfl | exact hpre.2.1 rfl | exact hpre.2.2.1 rfl | exact hpre.2.2.2.1 rfl | exact hpre.2.2.2.2.1 rfl | exact hpre.2.2.2.2.2.1 rfl | exact hpre.2.2.2.2.2.2.1 rfl | exact hpre.2.2.2.2.2.2.2.1 rfl | exact hpre.2.2.2.2.2.2.2.2.1 rfl | exact hpre.2.2.2.2.2.2.2.2.2.1 rfl)
            clear hA hpre
            go_simp
            first | exact hK _ _ hB rfl (fun _ _ h => h) | exact hK _ _ hB trivial (fun _ _ h => h) | (rw [if_neg (by omega)]; go_simp; exact hK _ _ hB rfl (fun _ _ h => h))
          · intro vs Wx hB hF
            have hL : vs 14 = .bool true := hF 14 (by decide)
            have HBW := Lib.hid (below_trans HBn.out hB)
            clear hF hB
            simp only [Ri.puts]
            rw [hL]
            clear hL
            go_simp
            go_wp2
            go_roundg (l.length - (n + 1))
            case measure => omega
            case rel => exact ⟨n + 1, (n : Nat), rfl, by first | rfl | go_num | (congr 1; omega), by omega, rfl, HBW.out, HBe2.out⟩
        · have HXb := Lib.hid fun W' (hW : Below wo.heap.size wo W') => cell_keep (HF.out.grw (below_trans HBn.out hW)) bi hbi
          obtain ⟨y, HY⟩ : ∃ y, Hid (l[bi] = y) := ⟨l[bi], (rfl : l[bi] = l[bi])⟩
          rw [HY.out] at HXb hsome
          have HST : Hid (stepL k ((l.take n).foldl (stepL k) none) x = if y.frm < x.frm then some x else some y) := by
            show _ = _
            rw [hsome]
            unfold stepL
            rw [if_pos HHit.out]
          clear hsome HBe
          by_cases hyx : y.frm < x.frm
          · have HBe2 : Hid (BestAt l k (n + 1) (n : Nat)) := by
              refine Or.inr ⟨n, hlt, rfl, ?_⟩
              rw [HFT.out, HST.out, if_pos hyx, HX.out]
            clear HST HFT
            go_upto_region 6 with fail
            clear c0 c1 c2 c3 c4 t1 t2 t3 v1 v2 v3 v4
            refine Ri.wp_region_lastingB_g (by kernel_rfl) (by kernel_rfl) (by kernel_rfl) (fun Wx => Below wo.heap.size wo Wx) (fun kz vs wz => (fun kx vx wx => match kx with | 0 => vx = .int .i64 (bi : Nat) | 1 => vx = .bool false | 2 => vx = .bool false | 3 => vx = .slice (some ⟨b, oo, none⟩) l.length fk | 4 => vx = .int .i64 (n : Nat) | 5 => vx = .pointer (some ⟨b, oo + n * 5, none⟩) | 6 => vx = .pointer (some ⟨b, oo + n * 5 + 3, none⟩) | 7 => vx = .int .i64 x.frm | 8 => vx = .slice (some ⟨b, oo, none⟩) l.length fk | 9 => vx = .int .i64 (bi : Nat) | 10 => vx = .pointer (some ⟨b, oo + bi * 5, none⟩) | 11 => vx = .pointer (some ⟨b, oo + bi * 5 + 3, none⟩) | 12 => vx = .int .i64 y.frm | 13 => vx = .bool true | 14 => vx = .bool true | _ => True : Nat → Value → World → Prop) kz (vs kz) wz) (fun kz => [kz]) (by kernel_rfl) (fun jz vs iz vz wz hiz hz => Ri.loc_own (F := (fun kx vx wx => match kx with | 0 => vx = .int .i64 (bi : Nat) | 1 => vx = .bool false | 2 => vx = .bool false | 3 => vx = .slice (some ⟨b, oo, none⟩) l.length fk | 4 => vx = .int .i64 (n : Nat) | 5 => vx = .pointer (some ⟨b, oo + n * 5, none⟩) | 6 => vx = .pointer (some ⟨b, oo + n * 5 + 3, none⟩) | 7 => vx = .int .i64 x.frm | 8 => vx = .slice (some ⟨b, oo, none⟩) l.length fk | 9 => vx = .int .i64 (bi : Nat) | 10 => vx = .pointer (some ⟨b, oo + bi * 5, none⟩) | 11 => vx = .pointer (some ⟨b, oo + bi * 5 + 3, none⟩) | 12 => vx = .int .i64 y.frm | 13 => vx = .bool true | 14 => vx = .bool true | _ => True : Nat → Value → World → Prop)) jz vs iz vz wz hiz hz) HD.out ⟨Or.inl ⟨rfl, ?_⟩, Or.inl ⟨rfl, ?_⟩, Or.inl ⟨rfl, ?_⟩, Or.inr ⟨2, false, 56, rfl, rfl, ?_⟩, Or.inr ⟨2, false, 56, rfl, rfl, ?_⟩, Or.inr ⟨2, false, 56, rfl, rfl, ?_⟩, Or.inr ⟨2, false, 56, rfl, rfl, ?_⟩, Or.inr ⟨2, false, 56, rfl, rfl, ?_⟩, Or.inr ⟨2, false, 56, rfl, rfl, ?_⟩, Or.inr ⟨2, false, 56, rfl, rfl, ?_⟩, Or.inr ⟨2, false, 56, rfl, rfl, ?_⟩, Or.inr ⟨2, false, 56, rfl, rfl, ?_⟩, Or.inr ⟨2, false, 56, rfl, rfl, ?_⟩, Or.inr ⟨2, false, 56, rfl, rfl, ?_⟩, Or.inl ⟨rfl, ?_⟩, trivial⟩ ?_
            · intro vs Wx A hA hB hpre K hK
              have e12 := (hA 12).trans (show _ = Value.int .i64 (bi : Nat) by kernel_rfl)
              clear hA hpre
              go_simp
              first | exact hK _ _ hB rfl (fun _ _ h => h) | exact hK _ _ hB trivial (fun _ _ h => h) | (rw [if_neg (by omega)]; go_simp; exact hK _ _ hB rfl (fun _ _ h => h))
            · intro vs Wx A hA hB hpre K hK
              have e54 := ((hA 54).trans (show _ = vs 0 by kernel_rfl)).trans (by first | exact hpre.1 rfl | exact hpre.2.1 rfl | exact hpre.2.2.1 rfl | exact hpre.2.2.2.1 rfl | exact hpre.2.2.2.2.1 rfl | exact hpre.2.2.2.2.2.1 rfl | exact hpre.2.2.2.2.2.2.1 rfl | exact hpre.2.2.2.2.2.2.2.1 rfl | exact hpre.2.2.2.2.2.2.2.2.1 rfl | exact hpre.2.2.2.2.2.2.2.2.2.1 rfl)
              clear hA hpre
              go_simp
              first | exact hK _ _ hB rfl (fun _ _ h => h) | exact hK _ _ hB trivial (fun _ _ h => h) | (rw [if_neg (by omega)]; go_simp; exact hK _ _ hB rfl (fun _ _ h => h))
            · intro vs Wx A hA hB hpre K hK
              have e55 := ((hA 55).trans (show _ = vs 1 by kernel_rfl)).trans (by first | exact hpre.1 rfl | exact hpre.2.1 rfl | exact hpre.2.2.1 rfl | exact hpre.2.2.2.1 rfl | exact hpre.2.2.2.2.1 rfl | exact hpre.2.2.2.2.2.1 rfl | exact hpre.2.2.2.2.2.2.1 rfl | exact hpre.2.2.2.2.2.2.2.1 rfl | exact hpre.2.2.2.2.2.2.2.2.1 rfl | exact hpre.2.2.2.2.2.2.2.2.2.1 rfl)
              clear hA hpre
              go_simp
              first | exact hK _ _ hB rfl (fun _ _ h => h) | exact hK _ _ hB trivial (fun _ _ h => h) | (rw [if_neg (by omega)]; go_simp; exact hK _ _ hB rfl (fun _ _ h => h))
            · intro vs Wx A hA hB hpre
              have eg := ((hA 56).trans (show _ = vs 2 by kernel_rfl)).trans (by first | exact hpre.1 rfl | exact hpre.2.1 rfl | exact hpre.2.2.1 rfl | exact hpre.2.2.2.1 rfl | exact hpre.2.2.2.2.1 rfl | exact hpre.2.2.2.2.2.1 rfl | exact hpre.2.2.2.2.2.2.1 rfl | exact hpre.2.2.2.2.2.2.2.1 rfl | exact hpre.2.2.2.2.2.2.2.2.1 rfl | exact hpre.2.2.2.2.2.2.2.2.2.1 rfl)
              refine ⟨false, eg, fun _ K hK => ?_, fun h => absurd rfl h⟩
              have e0 := (hA 0).trans (show _ = Value.slice (some ⟨b, oo, none⟩) l.length fk by kernel_rfl)
              clear hA hpre
              go_simp
              first | exact hK _ _ hB rfl (fun _ _ h => h) | exact hK _ _ hB trivial (fun _ _ h => h) | (rw [if_neg (by omega)]; go_simp; exact hK _ _ hB rfl (fun _ _ h => h))
            · intro vs Wx A hA hB hpre
              have eg := ((hA 56).trans (show _ = vs 2 by kernel_rfl)).trans (by first | exact hpre.1 rfl | exact hpre.2.1 rfl | exact hpre.2.2.1 rfl | exact hpre.2.2.2.1 rfl | exact hpre.2.2.2.2.1 rfl | exact hpre.2.2.2.2.2.1 rfl | exact hpre.2.2.2.2.2.2.1 rfl | exact hpre.2.2.2.2.2.2.2.1 rfl | exact hpre.2.2.2.2.2.2.2.2.1 rfl | exact hpre.2.2.2.2.2.2.2.2.2.1 rfl)
              refine ⟨false, eg, fun _ K hK => ?_, fun h => absurd rfl h⟩
              have e13 := (hA 13).trans (show _ = Value.int .i64 (n : Nat) by kernel_rfl)
              clear hA hpre
              go_simp
              first | exact hK _ _ hB rfl (fun _ _ h => h) | exact hK _ _ hB trivial (fun _ _ h => h) | (rw [if_neg (by omega)]; go_simp; exact hK _ _ hB rfl (fun _ _ h => h))
            · intro vs Wx A hA hB hpre
              have eg := ((hA 56).trans (show _ = vs 2 by kernel_rfl)).trans (by first | exact hpre.1 rfl | exact hpre.2.1 rfl | exact hpre.2.2.1 rfl | exact hpre.2.2.2.1 rfl | exact hpre.2.2.2.2.1 rfl | exact hpre.2.2.2.2.2.1 rfl | exact hpre.2.2.2.2.2.2.1 rfl | exact hpre.2.2.2.2.2.2.2.1 rfl | exact hpre.2.2.2.2.2.2.2.2.1 rfl | exact hpre.2.2.2.2.2.2.2.2.2.1 rfl)
              refine ⟨false, eg, fun _ K hK => ?_, fun h => absurd rfl h⟩
              have e57 := ((hA 57).trans (show _ = vs 3 by kernel_rfl)).trans (by first | exact hpre.1 rfl | exact hpre.2.1 rfl | exact hpre.2.2.1 rfl | exact hpre.2.2.2.1 rfl | exact hpre.2.2.2.2.1 rfl | exact hpre.2.2.2.2.2.1 rfl | exact hpre.2.2.2.2.2.2.1 rfl | exact hpre.2.2.2.2.2.2.2.1 rfl | exact hpre.2.2.2.2.2.2.2.2.1 rfl | exact hpre.2.2.2.2.2.2.2.2.2.1 rfl)
              have e58 := ((hA 58).trans (show _ = vs 4 by kernel_rfl)).trans (by first | exact hpre.1 rfl | exact hpre.2.1 rfl | exact hpre.2.2.1 rfl | exact hpre.2.2.2.1 rfl | exact hpre.2.2.2.2.1 rfl | exact hpre.2.2.2.2.2.1 rfl | exact hpre.2.2.2.2.2.2.1 rfl | exact hpre.2.2.2.2.2.2.2.1 rfl | exact hpre.2.2.2.2.2.2.2.2.1 rfl | exact hpre.2.2.2.2.2.2.2.2.2.1 rfl)
              clear hA hpre
              go_simp
              first | exact hK _ _ hB rfl (fun _ _ h => h) | exact hK _ _ hB trivial (fun _ _ h => h) | (rw [if_neg (by omega)]; go_simp; exact hK _ _ hB rfl (fun _ _ h => h))
            · intro vs Wx A hA hB hpre
              have eg := ((hA 56).trans (show _ = vs 2 by kernel_rfl)).trans (by first | exact hpre.1 rfl | exact hpre.2.1 rfl | exact hpre.2.2.1 rfl | exact hpre.2.2.2.1 rfl | exact hpre.2.2.2.2.1 rfl | exact hpre.2.2.2.2.2.1 rfl | exact hpre.2.2.2.2.2.2.1 rfl | exact hpre.2.2.2.2.2.2.2.1 rfl | exact hpre.2.2.2.2.2.2.2.2.1 rfl | exact hpre.2.2.2.2.2.2.2.2.2.1 rfl)
              refine ⟨false, eg, fun _ K hK => ?_, fun h => absurd rfl h⟩
              have e59 := ((hA 59).trans (show _ = vs 5 by kernel_rfl)).trans (by first | exact hpre.1 rfl | exact hpre.2.1 rfl | exact hpre.2.2.1 rfl | exact hpre.2.2.2.1 rfl | exact hpre.2.2.2.2.1 rfl | exact hpre.2.2.2.2.2.1 rfl | exact hpre.2.2.2.2.2.2.1 rfl | exact hpre.2.2.2.2.2.2.2.1 rfl | exact hpre.2.2.2.2.2.2.2.2.1 rfl | exact hpre.2.2.2.2.2.2.2.2.2.1 rfl)
              clear hA hpre
              go_simp
              first | exact hK _ _ hB rfl (fun _ _ h => h) | exact hK _ _ hB trivial (fun _ _ h => h) | (rw [if_neg (by omega)]; go_simp; exact hK _ _ hB rfl (fun _ _ h => h))
            · intro vs Wx A hA hB hpre
              have eg := ((hA 56).trans (show _ = vs 2 by kernel_rfl)).trans (by first | exact hpre.1 rfl | exact hpre.2.1 rfl | exact hpre.2.2.1 rfl | exact hpre.2.2.2.1 rfl | exact hpre.2.2.2.2.1 rfl | exact hpre.2.2.2.2.2.1 rfl | exact hpre.2.2.2.2.2.2.1 rfl | exact hpre.2.2.2.2.2.2.2.1 rfl | exact hpre.2.2.2.2.2.2.2.2.1 rfl | exact hpre.2.2.2.2.2.2.2.2.2.1 rfl)
              refine ⟨false, eg, fun _ K hK => ?_, fun h => absurd rfl h⟩
              have e60 := ((hA 60).trans (show _ = vs 6 by kernel_rfl)).trans (by first | exact hpre.1 rfl | exact hpre.2.1 rfl | exact hpre.2.2.1 rfl | exact hpre.2.2.2.1 rfl | exact hpre.2.2.2.2.1 rfl | exact hpre.2.2.2.2.2.1 rfl | exact hpre.2.2.2.2.2.2.1 rfl | exact hpre.2.2.2.2.2.2.2.1 rfl | exact hpre.2.2.2.2.2.2.2.2.1 rfl | exact hpre.2.2.2.2.2.2.2.2.2.1 rfl)
              obtain ⟨x0, x1, x2, x3, x4⟩ := HXn.out Wx hB
              obtain ⟨y0, y1, y2, y3, y4⟩ := HXb.out Wx hB
              clear hA hpre
              go_simp
              first | exact hK _ _ hB rfl (fun _ _ h => h) | exact hK _ _ hB trivial (fun _ _ h => h) | (rw [if_neg (by omega)]; go_simp; exact hK _ _ hB rfl (fun _ _ h => h))
            · intro vs Wx A hA hB hpre
              have eg := ((hA 56).trans (show _ = vs 2 by kernel_rfl)).trans (by first | exact hpre.1 rfl | exact hpre.2.1 rfl | exact hpre.2.2.1 rfl | exact hpre.2.2.2.1 rfl | exact hpre.2.2.2.2.1 rfl | exact hpre.2.2.2.2.2.1 rfl | exact hpre.2.2.2.2.2.2.1 rfl | exact hpre.2.2.2.2.2.2.2.1 rfl | exact hpre.2.2.2.2.2.2.2.2.1 rfl | exact hpre.2.2.2.2.2.2.2.2.2.1 rfl)
              refine ⟨false, eg, fun _ K hK => ?_, fun h => absurd rfl h⟩
              have e0 := (hA 0).trans (show _ = Value.slice (some ⟨b, oo, none⟩) l.length fk by kernel_rfl)
              clear hA hpre
              go_simp
              first | exact hK _ _ hB rfl (fun _ _ h => h) | exact hK _ _ hB trivial (fun _ _ h => h) | (rw [if_neg (by omega)]; go_simp; exact hK _ _ hB rfl (fun _ _ h => h))
            · intro vs Wx A hA hB hpre
              have eg := ((hA 56).trans (show _ = vs 2 by kernel_rfl)).trans (by first | exact hpre.1 rfl | exact hpre.2.1 rfl | exact hpre.2.2.1 rfl | exact hpre.2.2.2.1 rfl | exact hpre.2.2.2.2.1 rfl | exact hpre.2.2.2.2.2.1 rfl | exact hpre.2.2.2.2.2.2.1 rfl | exact hpre.2.2.2.2.2.2.2.1 rfl | exact hpre.2.2.2.2.2.2.2.2.1 rfl | exact hpre.2.2.2.2.2.2.2.2.2.1 rfl)
              refine ⟨false, eg, fun _ K hK => ?_, fun h => absurd rfl h⟩
              have e12 := (hA 12).trans (show _ = Value.int .i64 (bi : Nat) by kernel_rfl)
              clear hA hpre
              go_simp
              first | exact hK _ _ hB rfl (fun _ _ h => h) | exact hK _ _ hB trivial (fun _ _ h => h) | (rw [if_neg (by omega)]; go_simp; exact hK _ _ hB rfl (fun _ _ h => h))
            · intro vs Wx A hA hB hpre
              have eg := ((hA 56).trans (show _ = vs 2 by kernel_rfl)).trans (by first | exact hpre.1 rfl | exact hpre.2.1 rfl | exact hpre.2.2.1 rfl | exact hpre.2.2.2.1 rfl | exact hpre.2.2.2.2.1 rfl | exact hpre.2.2.2.2.2.1 rfl | exact hpre.2.2.2.2.2.2.1 rfl | exact hpre.2.2.2.2.2.2.2.1 rfl | exact hpre.2.2.2.2.2.2.2.2.1 rfl | exact hpre.2.2.2.2.2.2.2.2.2.1 rfl)
              refine ⟨false, eg, fun _ K hK => ?_, fun h => absurd rfl h⟩
              have e62 := ((hA 62).trans (show _ = vs 8 by kernel_rfl)).trans (by first | exact hpre.1 rfl | exact hpre.2.1 rfl | exact hpre.2.2.1 rfl | exact hpre.2.2.2.1 rfl | exact hpre.2.2.2.2.1 rfl | exact hpre.2.2.2.2.2.1 rfl | exact hpre.2.2.2.2.2.2.1 rfl | exact hpre.2.2.2.2.2.2.2.1 rfl | exact hpre.2.2.2.2.2.2.2.2.1 rfl | exact hpre.2.2.2.2.2.2.2.2.2.1 rfl)
              have e63 := ((hA 63).trans (show _ = vs 9 by kernel_rfl)).trans (by first | exact hpre.1 rfl | exact hpre.2.1 rfl | exact hpre.2.2.1 rfl | exact hpre.2.2.2.1 rfl | exact hpre.2.2.2.2.1 rfl | exact hpre.2.2.2.2.2.1 rfl | exact hpre.2.2.2.2.2.2.1 rfl | exact hpre.2.2.2.2.2.2.2.1 rfl | exact hpre.2.2.2.2.2.2.2.2.1 rfl | exact hpre.2.2.2.2.2.2.2.2.2.1 rfl)
              clear hA hpre
              go_simp
              first | exact hK _ _ hB rfl (fun _ _ h => h) | exact hK _ _ hB trivial (fun _ _ h => h) | (rw [if_neg (by omega)]; go_simp; exact hK _ _ hB rfl (fun _ _ h => h))
            · intro vs Wx A hA hB hpre
              have eg := ((hA 56).trans (show _ = vs 2 by kernel_rfl)).trans (by first | exact hpre.1 rfl | exact hpre.2.1 rfl | exact hpre.2.2.1 rfl | exact hpre.2.2.2.1 rfl | exact hpre.2.2.2.2.1 rfl | exact hpre.2.2.2.2.2.1 rfl | exact hpre.2.2.2.2.2.2.1 rfl | exact hpre.2.2.2.2.2.2.2.1 rfl | exact hpre.2.2.2.2.2.2.2.2.1 rfl | exact hpre.2.2.2.2.2.2.2.2.2.1 rfl)
              refine ⟨false, eg, fun _ K hK => ?_, fun h => absurd rfl h⟩
              have e64 := ((hA 64).trans (show _ = vs 10 by kernel_rfl)).trans (by first | exact hpre.1 rfl | exact hpre.2.1 rfl | exact hpre.2.2.1 rfl | exact hpre.2.2.2.1 rfl | exact hpre.2.2.2.2.1 rfl | exact hpre.2.2.2.2.2.1 rfl | exact hpre.2.2.2.2.2.2.1 rfl | exact hpre.2.2.2.2.2.2.2.1 rfl | exact hpre.2.2.2.2.2.2.2.2.1 rfl | exact hpre.2.2.2.2.2.2.2.2.2.1 rfl)
              clear hA hpre
              go_simp
              first | exact hK _ _ hB rfl (fun _ _ h => h) | exact hK _ _ hB trivial (fun _ _ h => h) | (rw [if_neg (by omega)]; go_simp; exact hK _ _ hB rfl (fun _ _ h => h))
            · intro vs Wx A hA hB hpre
              have eg := ((hA 56).trans (show _ = vs 2 by kernel_rfl)).trans (by first | exact hpre.1 rfl | exact hpre.2.1 rfl | exact hpre.2.2.1 rfl | exact hpre.2.2.2.1 rfl | exact hpre.2.2.2.2.1 rfl | exact hpre.2.2.2.2.2.1 rfl | exact hpre.2.2.2.2.2.2.1 rfl | exact hpre.2.2.2.2.2.2.2.1 rfl | exact hpre.2.2.2.2.2.2.2.2.1 rfl | exact hpre.2.2.2.2.2.2.2.2.2.1 rfl)
              refine ⟨false, eg, fun _ K hK => ?_, fun h => absurd rfl h⟩
              have e65 := ((hA 65).trans (show _ = vs 11 by kernel_rfl)).trans (by first | exact hpre.1 rfl | exact hpre.2.1 rfl | exact hpre.2.2.1 rfl | exact hpre.2.2.2.1 rfl | exact hpre.2.2.2.2.1 rfl | exact hpre.2.2.2.2.2.1 rfl | exact hpre.2.2.2.2.2.2.1 rfl | exact hpre.2.2.2.2.2.2.2.1 rfl | exact hpre.2.2.2.2.2.2.2.2.1 rfl | exact hpre.2.2.2.2.2.2.2.2.2.1 rfl)
              obtain ⟨x0, x1, x2, x3, x4⟩ := HXn.out Wx hB
              obtain ⟨y0, y1, y2, y3, y4⟩ := HXb.out Wx hB
              clear hA hpre
              go_simp
              first | exact hK _ _ hB rfl (fun _ _ h => h) | exact hK _ _ hB trivial (fun _ _ h => h) | (rw [if_neg (by omega)]; go_simp; exact hK _ _ hB rfl (fun _ _ h => h))
            · intro vs Wx A hA hB hpre
              have eg := ((hA 56).trans (show _ = vs 2 by kernel_rfl)).trans (by first | exact hpre.1 rfl | exact hpre.2.1 rfl | exact hpre.2.2.1 rfl | exact hpre.2.2.2.1 rfl | exact hpre.2.2.2.2.1 rfl | exact hpre.2.2.2.2.2.1 rfl | exact hpre.2.2.2.2.2.2.1 rfl | exact hpre.2.2.2.2.2.2.2.1 rfl | exact hpre.2.2.2.2.2.2.2.2.1 rfl | exact hpre.2.2.2.2.2.2.2.2.2.1 rfl)
              refine ⟨false, eg, fun _ K hK => ?_, fun h => absurd rfl h⟩
              have e61 := ((hA 61).trans (show _ = vs 7 by kernel_rfl)).trans (by first | exact hpre.1 rfl | exact hpre.2.1 rfl | exact hpre.2.2.1 rfl | exact hpre.2.2.2.1 rfl | exact hpre.2.2.2.2.1 rfl | exact hpre.2.2.2.2.2.1 rfl | exact hpre.2.2.2.2.2.2.1 rfl | exact hpre.2.2.2.2.2.2.2.1 rfl | exact hpre.2.2.2.2.2.2.2.2.1 rfl | exact hpre.2.2.2.2.2.2.2.2.2.1 rfl)
              have e66 := ((hA 66).trans (show _ = vs 12 by kernel_rfl)).trans (by first | exact hpre.1 rfl | exact hpre.2.1 rfl | exact hpre.2.2.1 rfl | exact hpre.2.2.2.1 rfl | exact hpre.2.2.2.2.1 rfl | exact hpre.2.2.2.2.2.1 rfl | exact hpre.2.2.2.2.2.2.1 rfl | exact hpre.2.2.2.2.2.2.2.1 rfl | exact hpre.2.2.2.2.2.2.2.2.1 rfl | exact hpre.2.2.2.2.2.2.2.2.2.1 rfl)
              clear hA hpre
              go_simp
              first | exact hK _ _ hB rfl (fun _ _ h => h) | exact hK _ _ hB trivial (fun _ _ h => h) | (rw [if_neg (by omega)]; go_simp; exact hK _ _ hB rfl (fun _ _ h => h))
            · intro vs Wx A hA hB hpre K hK
              have e56 := ((hA 56).trans (show _ = vs 2 by kernel_rfl)).trans (by first | exact hpre.1 rfl | exact hpre.2.1 rfl | exact hpre.2.2.1 rfl | exact hpre.2.2.2.1 rfl | exact hpre.2.2.2.2.1 rfl | exact hpre.2.2.2.2.2.1 rfl | exact hpre.2.2.2.2.2.2.1 rfl | exact hpre.2.2.2.2.2.2.2.1 rfl | exact hpre.2.2.2.2.2.2.2.2.1 rfl | exact hpre.2.2.2.2.2.2.2.2.2.1 rfl)
              have e67 := ((hA 67).trans (show _ = vs 13 by kernel_rfl)).trans (by first | exact hpre.1 rfl | exact hpre.2.1 rfl | exact hpre.2.2.1 rfl | exact hpre.2.2.2.1 rfl | exact hpre.2.2.2.2.1 rfl | exact hpre.2.2.2.2.2.1 rfl | exact hpre.2.2.2.2.2.2.1 rfl | exact hpre.2.2.2.2.2.2.2.1 rfl | exact hpre.2.2.2.2.2.2.2.2.1 rfl | exact hpre.2.2.2.2.2.2.2.2.2.1 rfl)
              clear hA hpre
              go_simp
              first | exact hK _ _ hB rfl (fun _ _ h => h) | exact hK _ _ hB trivial (fun _ _ h => h) | (rw [if_neg (by omega)]; go_simp; exact hK _ _ hB rfl (fun _ _ h => h))
            · intro vs Wx hB hF
              have hL : vs 14 = .bool true := hF 14 (by decide)
              have HBW := Lib.hid (below_trans HBn.out hB)
              clear hF hB
              simp only [Ri.puts]
              rw [hL]
              clear hL
              go_simp
              go_wp2
              go_roundg (l.length - (n + 1))
              case measure => omega
              case rel => exact ⟨n + 1, (n : Nat), rfl, by first | rfl | go_num | (congr 1; omega), by omega, rfl, HBW.out, HBe2.out⟩
          · have HBe2 : Hid (BestAt l k (n + 1) (bi : Nat)) := by
              refine Or.inr ⟨bi, hbi, rfl, ?_⟩
              rw [HFT.out, HST.out, if_neg hyx, HY.out]
            clear HST HFT
            go_upto_region 6 with fail
            clear c0 c1 c2 c3 c4 t1 t2 t3 v1 v2 v3 v4
            refine Ri.wp_region_lastingB_g (by kernel_rfl) (by kernel_rfl) (by kernel_rfl) (fun Wx => Below wo.heap.size wo Wx) (fun kz vs wz => (fun kx vx wx => match kx with | 0 => vx = .int .i64 (bi : Nat) | 1 => vx = .bool false | 2 => vx = .bool false | 3 => vx = .slice (some ⟨b, oo, none⟩) l.length fk | 4 => vx = .int .i64 (n : Nat) | 5 => vx = .pointer (some ⟨b, oo + n * 5, none⟩) | 6 => vx = .pointer (some ⟨b, oo + n * 5 + 3, none⟩) | 7 => vx = .int .i64 x.frm | 8 => vx = .slice (some ⟨b, oo, none⟩) l.length fk | 9 => vx = .int .i64 (bi : Nat) | 10 => vx = .pointer (some ⟨b, oo + bi * 5, none⟩) | 11 => vx = .pointer (some ⟨b, oo + bi * 5 + 3, none⟩) | 12 => vx = .int .i64 y.frm | 13 => vx = .bool false | 14 => vx = .bool false | _ => True : Nat → Value → World → Prop) kz (vs kz) wz) (fun kz => [kz]) (by kernel_rfl) (fun jz vs iz vz wz hiz hz => Ri.loc_own (F := (fun kx vx wx => match kx with | 0 => vx = .int .i64 (bi : Nat) | 1 => vx = .bool false | 2 => vx = .bool false | 3 => vx = .slice (some ⟨b, oo, none⟩) l.length fk | 4 => vx = .int .i64 (n : Nat) | 5 => vx = .pointer (some ⟨b, oo + n * 5, none⟩) | 6 => vx = .pointer (some ⟨b, oo + n * 5 + 3, none⟩) | 7 => vx = .int .i64 x.frm | 8 => vx = .slice (some ⟨b, oo, none⟩) l.length fk | 9 => vx = .int .i64 (bi : Nat) | 10 => vx = .pointer (some ⟨b, oo + bi * 5, none⟩) | 11 => vx = .pointer (some ⟨b, oo + bi * 5 + 3, none⟩) | 12 => vx = .int .i64 y.frm | 13 => vx = .bool false | 14 => vx = .bool false | _ => True : Nat → Value → World → Prop)) jz vs iz vz wz hiz hz) HD.out ⟨Or.inl ⟨rfl, ?_⟩, Or.inl ⟨rfl, ?_⟩, Or.inl ⟨rfl, ?_⟩, Or.inr ⟨2, false, 56, rfl, rfl, ?_⟩, Or.inr ⟨2, false, 56, rfl, rfl, ?_⟩, Or.inr ⟨2, false, 56, rfl, rfl, ?_⟩, Or.inr ⟨2, false, 56, rfl, rfl, ?_⟩, Or.inr ⟨2, false, 56, rfl, rfl, ?_⟩, Or.inr ⟨2, false, 56, rfl, rfl, ?_⟩, Or.inr ⟨2, false, 56, rfl, rfl, ?_⟩, Or.inr ⟨2, false, 56, rfl, rfl, ?_⟩, Or.inr ⟨2, false, 56, rfl, rfl, ?_⟩, Or.inr ⟨2, false, 56, rfl, rfl, ?_⟩, Or.inr ⟨2, false, 56, rfl, rfl, ?_⟩, Or.inl ⟨rfl, ?_⟩, trivial⟩ ?_
            · intro vs Wx A hA hB hpre K hK
              have e12 := (hA 12).trans (show _ = Value.int .i64 (bi : Nat) by kernel_rfl)
              clear hA hpre
              go_simp
              first | exact hK _ _ hB rfl (fun _ _ h => h) | exact hK _ _ hB trivial (fun _ _ h => h) | (rw [if_neg (by omega)]; go_simp; exact hK _ _ hB rfl (fun _ _ h => h))
            · intro vs Wx A hA hB hpre K hK
              have e54 := ((hA 54).trans (show _ = vs 0 by kernel_rfl)).trans (by first | exact hpre.1 rfl | exact hpre.2.1 rfl | exact hpre.2.2.1 rfl | exact hpre.2.2.2.1 rfl | exact hpre.2.2.2.2.1 rfl | exact hpre.2.2.2.2.2.1 rfl | exact hpre.2.2.2.2.2.2.1 rfl | exact hpre.2.2.2.2.2.2.2.1 rfl | exact hpre.2.2.2.2.2.2.2.2.1 rfl | exact hpre.2.2.2.2.2.2.2.2.2.1 rfl)
              clear hA hpre
              go_simp
              first | exact hK _ _ hB rfl (fun _ _ h => h) | exact hK _ _ hB trivial (fun _ _ h => h) | (rw [if_neg (by omega)]; go_simp; exact hK _ _ hB rfl (fun _ _ h => h))
            · intro vs Wx A hA hB hpre K hK
              have e55 := ((hA 55).trans (show _ = vs 1 by kernel_rfl)).trans (by first | exact hpre.1 rfl | exact hpre.2.1 rfl | exact hpre.2.2.1 rfl | exact hpre.2.2.2.1 rfl | exact hpre.2.2.2.2.1 rfl | exact hpre.2.2.2.2.2.1 rfl | exact hpre.2.2.2.2.2.2.1 rfl | exact hpre.2.2.2.2.2.2.2.1 rfl | exact hpre.2.2.2.2.2.2.2.2.1 rfl | exact hpre.2.2.2.2.2.2.2.2.2.1 rfl)
              clear hA hpre
              go_simp
              first | exact hK _ _ hB rfl (fun _ _ h => h) | exact hK _ _ hB trivial (fun _ _ h => h) | (rw [if_neg (by omega)]; go_simp; exact hK _ _ hB rfl (fun _ _ h => h))
            · intro vs Wx A hA hB hpre
              have eg := ((hA 56).trans (show _ = vs 2 by kernel_rfl)).trans (by first | exact hpre.1 rfl | exact hpre.2.1 rfl | exact hpre.2.2.1 rfl | exact hpre.2.2.2.1 rfl | exact hpre.2.2.2.2.1 rfl | exact hpre.2.2.2.2.2.1 rfl | exact hpre.2.2.2.2.2.2.1 rfl | exact hpre.2.2.2.2.2.2.2.1 rfl | exact hpre.2.2.2.2.2.2.2.2.1 rfl | exact hpre.2.2.2.2.2.2.2.2.2.1 rfl)
              refine ⟨false, eg, fun _ K hK => ?_, fun h => absurd rfl h⟩
              have e0 := (hA 0).trans (show _ = Value.slice (some ⟨b, oo, none⟩) l.length fk by kernel_rfl)
              clear hA hpre
              go_simp
              first | exact hK _ _ hB rfl (fun _ _ h => h) | exact hK _ _ hB trivial (fun _ _ h => h) | (rw [if_neg (by omega)]; go_simp; exact hK _ _ hB rfl (fun _ _ h => h))
            · intro vs Wx A hA hB hpre
              have eg := ((hA 56).trans (show _ = vs 2 by kernel_rfl)).trans (by first | exact hpre.1 rfl | exact hpre.2.1 rfl | exact hpre.2.2.1 rfl | exact hpre.2.2.2.1 rfl | exact hpre.2.2.2.2.1 rfl | exact hpre.2.2.2.2.2.1 rfl | exact hpre.2.2.2.2.2.2.1 rfl | exact hpre.2.2.2.2.2.2.2.1 rfl | exact hpre.2.2.2.2.2.2.2.2.1 rfl | exact hpre.2.2.2.2.2.2.2.2.2.1 rfl)
              refine ⟨false, eg, fun _ K hK => ?_, fun h => absurd rfl h⟩
              have e13 := (hA 13).trans (show _ = Value.int .i64 (n : Nat) by kernel_rfl)
              clear hA hpre
              go_simp
              first | exact hK _ _ hB rfl (fun _ _ h => h) | exact hK _ _ hB trivial (fun _ _ h => h) | (rw [if_neg (by omega)]; go_simp; exact hK _ _ hB rfl (fun _ _ h => h))
            · intro vs Wx A hA hB hpre
              have eg := ((hA 56).trans (show _ = vs 2 by kernel_rfl)).trans (by first | exact hpre.1 rfl | exact hpre.2.1 rfl | exact hpre.2.2.1 rfl | exact hpre.2.2.2.1 rfl | exact hpre.2.2.2.2.1 rfl | exact hpre.2.2.2.2.2.1 rfl | exact hpre.2.2.2.2.2.2.1 rfl | exact hpre.2.2.2.2.2.2.2.1 rfl | exact hpre.2.2.2.2.2.2.2.2.1 rfl | exact hpre.2.2.2.2.2.2.2.2.2.1 rfl)
              refine ⟨false, eg, fun _ K hK => ?_, fun h => absurd rfl h⟩
              have e57 := ((hA 57).trans (show _ = vs 3 by kernel_rfl)).trans (by first | exact hpre.1 rfl | exact hpre.2.1 rfl | exact hpre.2.2.1 rfl | exact hpre.2.2.2.1 rfl | exact hpre.2.2.2.2.1 rfl | exact hpre.2.2.2.2.2.1 rfl | exact hpre.2.2.2.2.2.2.1 rfl | exact hpre.2.2.2.2.2.2.2.1 rfl | exact hpre.2.2.2.2.2.2.2.2.1 rfl | exact hpre.2.2.2.2.2.2.2.2.2.1 rfl)
              have e58 := ((hA 58).trans (show _ = vs 4 by kernel_rfl)).trans (by first | exact hpre.1 rfl | exact hpre.2.1 rfl | exact hpre.2.2.1 rfl | exact hpre.2.2.2.1 rfl | exact hpre.2.2.2.2.1 rfl | exact hpre.2.2.2.2.2.1 rfl | exact hpre.2.2.2.2.2.2.1 rfl | exact hpre.2.2.2.2.2.2.2.1 rfl | exact hpre.2.2.2.2.2.2.2.2.1 rfl | exact hpre.2.2.2.2.2.2.2.2.2.1 rfl)
              clear hA hpre
              go_simp
              first | exact hK _ _ hB rfl (fun _ _ h => h) | exact hK _ _ hB trivial (fun _ _ h => h) | (rw [if_neg (by omega)]; go_simp; exact hK _ _ hB rfl (fun _ _ h => h))
            · intro vs Wx A hA hB hpre
              have eg := ((hA 56).trans (show _ = vs 2 by kernel_rfl)).trans (by first | exact hpre.1 rfl | exact hpre.2.1 rfl | exact hpre.2.2.1 rfl | exact hpre.2.2.2.1 rfl | exact hpre.2.2.2.2.1 rfl | exact hpre.2.2.2.2.2.1 rfl | exact hpre.2.2.2.2.2.2.1 rfl | exact hpre.2.2.2.2.2.2.2.1 rfl | exact hpre.2.2.2.2.2.2.2.2.1 rfl | exact hpre.2.2.2.2.2.2.2.2.2.1 rfl)
              refine ⟨false, eg, fun _ K hK => ?_, fun h => absurd rfl h⟩
              have e59 := ((hA 59).trans (show _ = vs 5 by kernel_rfl)).trans (by first | exact hpre.1 rfl | exact hpre.2.1 rfl | exact hpre.2.2.1 rfl | exact hpre.2.2.2.1 rfl | exact hpre.2.2.2.2.1 rfl | exact hpre.2.2.2.2.2.1 rfl | exact hpre.2.2.2.2.2.2.1 rfl | exact hpre.2.2.2.2.2.2.2.1 rfl | exact hpre.2.2.2.2.2.2.2.2.1 rfl | exact hpre.2.2.2.2.2.2.2.2.2.1 rfl)
              clear hA hpre
              go_simp
              first | exact hK _ _ hB rfl (fun _ _ h => h) | exact hK _ _ hB trivial (fun _ _ h => h) | (rw [if_neg (by omega)]; go_simp; exact hK _ _ hB rfl (fun _ _ h => h))
            · intro vs Wx A hA hB hpre
              have eg := ((hA 56).trans (show _ = vs 2 by kernel_rfl)).trans (by first | exact hpre.1 rfl | exact hpre.2.1 rfl | exact hpre.2.2.1 rfl | exact hpre.2.2.2.1 rfl | exact hpre.2.2.2.2.1 rfl | exact hpre.2.2.2.2.2.1 rfl | exact hpre.2.2.2.2.2.2.1 rfl | exact hpre.2.2.2.2.2.2.2.1 rfl | exact hpre.2.2.2.2.2.2.2.2.1 rfl | exact hpre.2.2.2.2.2.2.2.2.2.1 rfl)
              refine ⟨false, eg, fun _ K hK => ?_, fun h => absurd rfl h⟩
              have e60 := ((hA 60).trans (show _ = vs 6 by kernel_rfl)).trans (by first | exact hpre.1 rfl | exact hpre.2.1 rfl | exact hpre.2.2.1 rfl | exact hpre.2.2.2.1 rfl | exact hpre.2.2.2.2.1 rfl | exact hpre.2.2.2.2.2.1 rfl | exact hpre.2.2.2.2.2.2.1 rfl | exact hpre.2.2.2.2.2.2.2.1 rfl | exact hpre.2.2.2.2.2.2.2.2.1 rfl | exact hpre.2.2.2.2.2.2.2.2.2.1 rfl)
              obtain ⟨x0, x1, x2, x3, x4⟩ := HXn.out Wx hB
              obtain ⟨y0, y1, y2, y3, y4⟩ := HXb.out Wx hB
              clear hA hpre
              go_simp
              first | exact hK _ _ hB rfl (fun _ _ h => h) | exact hK _ _ hB trivial (fun _ _ h => h) | (rw [if_neg (by omega)]; go_simp; exact hK _ _ hB rfl (fun _ _ h => h))
            · intro vs Wx A hA hB hpre
              have eg := ((hA 56).trans (show _ = vs 2 by kernel_rfl)).trans (by first | exact hpre.1 rfl | exact hpre.2.1 rfl | exact hpre.2.2.1 rfl | exact hpre.2.2.2.1 rfl | exact hpre.2.2.2.2.1 rfl | exact hpre.2.2.2.2.2.1 rfl | exact hpre.2.2.2.2.2.2.1 rfl | exact hpre.2.2.2.2.2.2.2.1 rfl | exact hpre.2.2.2.2.2.2.2.2.1 rfl | exact hpre.2.2.2.2.2.2.2.2.2.1 rfl)
              refine ⟨false, eg, fun _ K hK => ?_, fun h => absurd rfl h⟩
              have e0 := (hA 0).trans (show _ = Value.slice (some ⟨b, oo, none⟩) l.length fk by kernel_rfl)
              clear hA hpre
              go_simp
              first | exact hK _ _ hB rfl (fun _ _ h => h) | exact hK _ _ hB trivial (fun _ _ h => h) | (rw [if_neg (by omega)]; go_simp; exact hK _ _ hB rfl (fun _ _ h => h))
            · intro vs Wx A hA hB hpre
              have eg := ((hA 56).trans (show _ = vs 2 by kernel_rfl)).trans (by first | exact hpre.1 rfl | exact hpre.2.1 rfl | exact hpre.2.2.1 rfl | exact hpre.2.2.2.1 rfl | exact hpre.2.2.2.2.1 rfl | exact hpre.2.2.2.2.2.1 rfl | exact hpre.2.2.2.2.2.2.1 rfl | exact hpre.2.2.2.2.2.2.2.1 rfl | exact hpre.2.2.2.2.2.2.2.2.1 rfl | exact hpre.2.2.2.2.2.2.2.2.2.1 rfl)
              refine ⟨false, eg, fun _ K hK => ?_, fun h => absurd rfl h⟩
              have e12 := (hA 12).trans (show _ = Value.int .i64 (bi : Nat) by kernel_rfl)
              clear hA hpre
              go_simp
              first | exact hK _ _ hB rfl (fun _ _ h => h) | exact hK _ _ hB trivial (fun _ _ h => h) | (rw [if_neg (by omega)]; go_simp; exact hK _ _ hB rfl (fun _ _ h => h))
            · intro vs Wx A hA hB hpre
              have eg := ((hA 56).trans (show _ = vs 2 by kernel_rfl)).trans (by first | exact hpre.1 rfl | exact hpre.2.1 rfl | exact hpre.2.2.1 rfl | exact hpre.2.2.2.1 rfl | exact hpre.2.2.2.2.1 rfl | exact hpre.2.2.2.2.2.1 rfl | exact hpre.2.2.2.2.2.2.1 rfl | exact hpre.2.2.2.2.2.2.2.1 rfl | exact hpre.2.2.2.2.2.2.2.2.1 rfl | exact hpre.2.2.2.2.2.2.2.2.2.1 rfl)
              refine ⟨false, eg, fun _ K hK => ?_, fun h => absurd rfl h⟩
              have e62 := ((hA 62).trans (show _ = vs 8 by kernel_rfl)).trans (by first | exact hpre.1 rfl | exact hpre.2.1 rfl | exact hpre.2.2.1 rfl | exact hpre.2.2.2.1 rfl | exact hpre.2.2.2.2.1 rfl | exact hpre.2.2.2.2.2.1 rfl | exact hpre.2.2.2.2.2.2.1 rfl | exact hpre.2.2.2.2.2.2.2.1 rfl | exact hpre.2.2.2.2.2.2.2.2.1 rfl | exact hpre.2.2.2.2.2.2.2.2.2.1 rfl)
              have e63 := ((hA 63).trans (show _ = vs 9 by kernel_rfl)).trans (by first | exact hpre.1 rfl | exact hpre.2.1 rfl | exact hpre.2.2.1 rfl | exact hpre.2.2.2.1 rfl | exact hpre.2.2.2.2.1 rfl | exact hpre.2.2.2.2.2.1 rfl | exact hpre.2.2.2.2.2.2.1 rfl | exact hpre.2.2.2.2.2.2.2.1 rfl | exact hpre.2.2.2.2.2.2.2.2.1 rfl | exact hpre.2.2.2.2.2.2.2.2.2.1 rfl)
              clear hA hpre
              go_simp
              first | exact hK _ _ hB rfl (fun _ _ h => h) | exact hK _ _ hB trivial (fun _ _ h => h) | (rw [if_neg (by omega)]; go_simp; exact hK _ _ hB rfl (fun _ _ h => h))
            · intro vs Wx A hA hB hpre
              have eg := ((hA 56).trans (show _ = vs 2 by kernel_rfl)).trans (by first | exact hpre.1 rfl | exact hpre.2.1 rfl | exact hpre.2.2.1 rfl | exact hpre.2.2.2.1 rfl | exact hpre.2.2.2.2.1 rfl | exact hpre.2.2.2.2.2.1 rfl | exact hpre.2.2.2.2.2.2.1 rfl | exact hpre.2.2.2.2.2.2.2.1 rfl | exact hpre.2.2.2.2.2.2.2.2.1 rfl | exact hpre.2.2.2.2.2.2.2.2.2.1 rfl)
              refine ⟨false, eg, fun _ K hK => ?_, fun h => absurd rfl h⟩
              have e64 := ((hA 64).trans (show _ = vs 10 by kernel_rfl)).trans (by first | exact hpre.1 rfl | exact hpre.2.1 rfl | exact hpre.2.2.1 rfl | exact hpre.2.2.2.1 rfl | exact hpre.2.2.2.2.1 rfl | exact hpre.2.2.2.2.2.1 rfl | exact hpre.2.2.2.2.2.2.1 rfl | exact hpre.2.2.2.2.2.2.2.1 rfl | exact hpre.2.2.2.2.2.2.2.2.1 rfl | exact hpre.2.2.2.2.2.2.2.2.2.1 rfl)
              clear hA hpre
              go_simp
              first | exact hK _ _ hB rfl (fun _ _ h => h) | exact hK _ _ hB trivial (fun _ _ h => h) | (rw [if_neg (by omega)]; go_simp; exact hK _ _ hB rfl (fun _ _ h => h))
            · intro vs Wx A hA hB hpre
              have eg := ((hA 56).trans (show _ = vs 2 by kernel_rfl)).trans (by first | exact hpre.1 rfl | exact hpre.2.1 rfl | exact hpre.2.2.1 rfl | exact hpre.2.2.2.1 rfl | exact hpre.2.2.2.2.1 rfl | exact hpre.2.2.2.2.2.1 rfl | exact hpre.2.2.2.2.2.2.1 rfl | exact hpre.2.2.2.2.2.2.2.1 rfl | exact hpre.2.2.2.2.2.2.2.2.1 rfl | exact hpre.2.2.2.2.2.2.2.2.2.1 rfl)
              refine ⟨false, eg, fun _ K hK => ?_, fun h => absurd rfl h⟩
              have e65 := ((hA 65).trans (show _ = vs 11 by kernel_rfl)).trans (by first | exact hpre.1 rfl | exact hpre.2.1 rfl | exact hpre.2.2.1 rfl | exact hpre.2.2.2.1 rfl | exact hpre.2.2.2.2.1 rfl | exact hpre.2.2.2.2.2.1 rfl | exact hpre.2.2.2.2.2.2.1 rfl | exact hpre.2.2.2.2.2.2.2.1 rfl | exact hpre.2.2.2.2.2.2.2.2.1 rfl | exact hpre.2.2.2.2.2.2.2.2.2.1 rfl)
              obtain ⟨x0, x1, x2, x3, x4⟩ := HXn.out Wx hB
              obtain ⟨y0, y1, y2, y3, y4⟩ := HXb.out Wx hB
              clear hA hpre
              go_simp
              first | exact hK _ _ hB rfl (fun _ _ h => h) | exact hK _ _ hB trivial (fun _ _ h => h) | (rw [if_neg (by omega)]; go_simp; exact hK _ _ hB rfl (fun _ _ h => h))
            · intro vs Wx A hA hB hpre
              have eg := ((hA 56).trans (show _ = vs 2 by kernel_rfl)).trans (by first | exact hpre.1 rfl | exact hpre.2.1 rfl | exact hpre.2.2.1 rfl | exact hpre.2.2.2.1 rfl | exact hpre.2.2.2.2.1 rfl | exact hpre.2.2.2.2.2.1 rfl | exact hpre.2.2.2.2.2.2.1 rfl | exact hpre.2.2.2.2.2.2.2.1 rfl | exact hpre.2.2.2.2.2.2.2.2.1 rfl | exact hpre.2.2.2.2.2.2.2.2.2.1 rfl)
              refine ⟨false, eg, fun _ K hK => ?_, fun h => absurd rfl h⟩
              have e61 := ((hA 61).trans (show _ = vs 7 by kernel_rfl)).trans (by first | exact hpre.1 rfl | exact hpre.2.1 rfl | exact hpre.2.2.1 rfl | exact hpre.2.2.2.1 rfl | exact hpre.2.2.2.2.1 rfl | exact hpre.2.2.2.2.2.1 rfl | exact hpre.2.2.2.2.2.2.1 rfl | exact hpre.2.2.2.2.2.2.2.1 rfl | exact hpre.2.2.2.2.2.2.2.2.1 rfl | exact hpre.2.2.2.2.2.2.2.2.2.1 rfl)
              have e66 := ((hA 66).trans (show _ = vs 12 by kernel_rfl)).trans (by first | exact hpre.1 rfl | exact hpre.2.1 rfl | exact hpre.2.2.1 rfl | exact hpre.2.2.2.1 rfl | exact hpre.2.2.2.2.1 rfl | exact hpre.2.2.2.2.2.1 rfl | exact hpre.2.2.2.2.2.2.1 rfl | exact hpre.2.2.2.2.2.2.2.1 rfl | exact hpre.2.2.2.2.2.2.2.2.1 rfl | exact hpre.2.2.2.2.2.2.2.2.2.1 rfl)
              clear hA hpre
              go_simp
              first | exact hK _ _ hB rfl (fun _ _ h => h) | exact hK _ _ hB trivial (fun _ _ h => h) | (rw [if_neg (by omega)]; go_simp; exact hK _ _ hB rfl (fun _ _ h => h))
            · intro vs Wx A hA hB hpre K hK
              have e56 := ((hA 56).trans (show _ = vs 2 by kernel_rfl)).trans (by first | exact hpre.1 rfl | exact hpre.2.1 rfl | exact hpre.2.2.1 rfl | exact hpre.2.2.2.1 rfl | exact hpre.2.2.2.2.1 rfl | exact hpre.2.2.2.2.2.1 rfl | exact hpre.2.2.2.2.2.2.1 rfl | exact hpre.2.2.2.2.2.2.2.1 rfl | exact hpre.2.2.2.2.2.2.2.2.1 rfl | exact hpre.2.2.2.2.2.2.2.2.2.1 rfl)
              have e67 := ((hA 67).trans (show _ = vs 13 by kernel_rfl)).trans (by first | exact hpre.1 rfl | exact hpre.2.1 rfl | exact hpre.2.2.1 rfl | exact hpre.2.2.2.1 rfl | exact hpre.2.2.2.2.1 rfl | exact hpre.2.2.2.2.2.1 rfl | exact hpre.2.2.2.2.2.2.1 rfl | exact hpre.2.2.2.2.2.2.2.1 rfl | exact hpre.2.2.2.2.2.2.2.2.1 rfl | exact hpre.2.2.2.2.2.2.2.2.2.1 rfl)
              clear hA hpre
              go_simp
              first | exact hK _ _ hB rfl (fun _ _ h => h) | exact hK _ _ hB trivial (fun _ _ h => h) | (rw [if_neg (by omega)]; go_simp; exact hK _ _ hB rfl (fun _ _ h => h))
            · intro vs Wx hB hF
              have hL : vs 14 = .bool false := hF 14 (by decide)
              have HBW := Lib.hid (below_trans HBn.out hB)
              clear hF hB
              simp only [Ri.puts]
              rw [hL]
              clear hL
              go_simp
              go_wp2
              go_roundg (l.length - (n + 1))
              case measure => omega
              case rel => exact ⟨n + 1, (bi : Nat), rfl, by first | rfl | go_num | (congr 1; omega), by omega, rfl, HBW.out, HBe2.out⟩
    · have hltz : ¬ (n : Int) < (l.length : Int) := by omega
      have HE : Hid (BestAt l k l.length bz) := by
        have e : n = l.length := by omega
        rw [e] at HBe
        exact HBe
      clear HBe
      rcases HE.out with ⟨rfl, hnone⟩ | ⟨bi, hbi, rfl, hsome⟩
      · have HV : Hid (lookV k l = 0 ∧ lookB k l = false) := by
          show _ ∧ _
          rw [List.take_length] at hnone
          unfold lookV lookB lookF
          rw [hnone]
          exact ⟨rfl, rfl⟩
        clear hnone HE
        go_wp2
        go_ret2
        exact ⟨by rw [HV.out.1, HV.out.2]; first | done | rfl, HBn.out⟩
      · obtain ⟨b, oo, rfl, -, -, hcc⟩ := FesAt.get (HF.out.grw HBn.out) bi hbi
        have HV : Hid (lookV k l = l[bi].cents ∧ lookB k l = true) := by
          show _ ∧ _
          rw [List.take_length] at hsome
          unfold lookV lookB lookF
          rw [hsome]
          exact ⟨rfl, rfl⟩
        obtain ⟨c0, c1, c2, c3, c4⟩ := hcc
        generalize l[bi] = y at *
        clear hsome HE
        go_wp2
        go_ret2
        exact ⟨by rw [HV.out.1, HV.out.2]; first | done | rfl, HBn.out⟩
end Go.Proofs.YtmoldgmfhcmceaaGreatDoor.Fe
end
