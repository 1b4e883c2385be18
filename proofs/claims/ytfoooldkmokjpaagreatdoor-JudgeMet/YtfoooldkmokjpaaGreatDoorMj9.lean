/-
  Texts put together (merge.py): YCmp, RInvB.
-/
import Derived.Test.YtfoooldkmokjpaaGreatDoorMj8
import Derived.Test.YtfoooldkmokjpaaGreatDoorMj5
set_option linter.unusedSimpArgs false
set_option linter.unusedVariables false
section
set_option maxRecDepth 100000
namespace Go.Proofs.YtfoooldkmokjpaaGreatDoor.Ac
open Go.RowKit
theorem mk_list' (x : Tx) : (mk x).toList = x := by rw [Lib.toList_data, mk_list]
theorem mk_eqs' (x y : Tx) : ((mk x).toList == (mk y).toList) = decide (x = y) := by
 rw [mk_list', mk_list', Bool.eq_iff_iff]
 simp
theorem cmpi_any (a b : Int) (w : World) : Calls Tryz.prog 81 #[.int .i64 a, .int .i64 b] w fun e w' => e = .returned (.int .i64 (cmpZ a b)) ∧ w' = w := by
 by_cases h0 : a = b
 ·have e : cmpZ a b = 0 := if_pos h0
  have hb : (a == b) = true := by simp [h0]
  rw [e]
  clear h0 e
  go_enter Tryz.func81, Tryz.ntmps81
  go_wp2
  go_ret
  exact ⟨rfl, rfl⟩
 ·have hb : (a == b) = false := by simp [h0]
  by_cases h1 : a < b
  ·have e : cmpZ a b = -1 := by unfold cmpZ; rw [if_neg h0, if_pos h1]
   rw [e]
   clear h0 e
   go_enter Tryz.func81, Tryz.ntmps81
   go_wp2
   go_ret
   exact ⟨rfl, rfl⟩
  ·have e : cmpZ a b = 1 := by unfold cmpZ; rw [if_neg h0, if_neg h1]
   rw [e]
   clear h0 e
   go_enter Tryz.func81, Tryz.ntmps81
   go_wp2
   go_ret
   exact ⟨rfl, rfl⟩
theorem cmpt_any (a b : Tx) (w : World) : Calls Tryz.prog 83 #[.string (mk a), .string (mk b)] w fun e w' => e = .returned (.int .i64 (cmpT a b)) ∧ w' = w := by
 have HE := mk_eqs' a b
 by_cases he : a = b
 ·have e : cmpT a b = 0 := if_pos he
  have h3 : ((mk a).toList == (mk b).toList) = true := by rw [HE]; exact decide_eq_true he
  rw [e]
  clear HE he e
  go_enter Tryz.func83, Tryz.ntmps83
  go_wp2
  go_ret
  exact ⟨rfl, rfl⟩
 ·have h3 : ((mk a).toList == (mk b).toList) = false := by rw [HE]; exact decide_eq_false he
  cases h1 : Op.bytesLess (mk a).toList (mk b).toList
  ·have l1 : lessT a b = false := by rw [mk_list', mk_list'] at h1; exact h1
   have e : cmpT a b = 1 := by unfold cmpT; rw [if_neg he, l1]; rfl
   rw [e]
   clear HE he e l1
   go_enter Tryz.func83, Tryz.ntmps83
   go_wp2
   go_ret
   exact ⟨rfl, rfl⟩
  ·have l1 : lessT a b = true := by rw [mk_list', mk_list'] at h1; exact h1
   have e : cmpT a b = -1 := by unfold cmpT; rw [if_neg he, l1]; rfl
   rw [e]
   clear HE he e l1
   go_enter Tryz.func83, Tryz.ntmps83
   go_wp2
   go_ret
   exact ⟨rfl, rfl⟩
theorem rank_any (a : Row) (w : World) : Calls Tryz.prog 82 #[rwv a] w fun e w' => e = .returned (.int .i64 (rankV a)) ∧ Below w.heap.size w w' := by
 cases h : a.fam with
 | true =>
  have e : rankV a = 1 := by unfold rankV; rw [h]; rfl
  rw [e]
  clear e
  unfold rwv
  rw [h]
  go_enter Tryz.func82, Tryz.ntmps82
  go_wp2
  go_ret
  exact ⟨rfl, below_alloc _ _⟩
 | false =>
  have e : rankV a = 0 := by unfold rankV; rw [h]; rfl
  rw [e]
  clear e
  unfold rwv
  rw [h]
  go_enter Tryz.func82, Tryz.ntmps82
  go_wp2
  go_ret
  exact ⟨rfl, below_alloc _ _⟩
set_option maxHeartbeats 1000000 in
theorem or_any (a b c : Int) (g : Nat) (w : World) (T : TypeId) (h : w.heap[g]? = some (.cells #[.int .i64 a, .int .i64 b, .int .i64 c] T (0, 0))) :
  Calls Tryz.prog 80 #[.slice (some ⟨g, 0, none⟩) 3 3] w fun e w' => e = .returned (.int .i64 (orI a (orI b c))) ∧ w' = w := by
 obtain ⟨c0, c1, c2⟩ := cells3 h
 clear h
 by_cases ha : a = 0
 ·subst ha
  by_cases hb : b = 0
  ·subst hb
   have e : orI 0 (orI 0 c) = c := rfl
   rw [e]
   by_cases hc : c = 0
   ·subst hc
    go_enter Tryz.func80, Tryz.ntmps80
    go_wp2
    go_rounds 4
    go_ret
    exact ⟨rfl, rfl⟩
   ·have hc' : (c != 0) = true := by simp [hc]
    go_enter Tryz.func80, Tryz.ntmps80
    go_wp2
    go_rounds 3
    go_ret
    exact ⟨rfl, rfl⟩
  ·have e : orI 0 (orI b c) = b := by rw [orI_z, orI_nz _ hb]
   rw [e]
   have hb' : (b != 0) = true := by simp [hb]
   go_enter Tryz.func80, Tryz.ntmps80
   go_wp2
   go_rounds 2
   go_ret
   exact ⟨rfl, rfl⟩
 ·have e : orI a (orI b c) = a := orI_nz _ ha
  rw [e]
  have ha' : (a != 0) = true := by simp [ha]
  go_enter Tryz.func80, Tryz.ntmps80
  go_wp2
  go_rounds 1
  go_ret
  exact ⟨rfl, rfl⟩
set_option maxHeartbeats 4000000 in
theorem order_any (a b : Row) (w : World) : Calls Tryz.prog 46 #[rwv a, rwv b] w fun e w' => e = .returned (.int .i64 (ordV a b)) ∧ Below w.heap.size w w' := by
 have HG0 : Hid (Below w.heap.size w ((w.alloc (.cells #[.string (mk a.who), .bool a.fam, .int .i64 a.year, .int .i64 a.de, .int .i64 a.oo] TA)).alloc (.cells #[.string (mk b.who), .bool b.fam, .int .i64 b.year, .int .i64 b.de, .int .i64 b.oo] TA))) := below_trans (below_alloc _ _) (below_alloc _ _)
 have HA0 := Lib.hid (keepB (heap_alloc_new w (.cells #[.string (mk a.who), .bool a.fam, .int .i64 a.year, .int .i64 a.de, .int .i64 a.oo] TA)) (below_alloc _ (.cells #[.string (mk b.who), .bool b.fam, .int .i64 b.year, .int .i64 b.de, .int .i64 b.oo] TA)))
 have hB0 := heap_alloc_new (w.alloc (.cells #[.string (mk a.who), .bool a.fam, .int .i64 a.year, .int .i64 a.de, .int .i64 a.oo] TA)) (.cells #[.string (mk b.who), .bool b.fam, .int .i64 b.year, .int .i64 b.de, .int .i64 b.oo] TA)
 rw [show (w.alloc (.cells #[.string (mk a.who), .bool a.fam, .int .i64 a.year, .int .i64 a.de, .int .i64 a.oo] TA)).heap.size = w.heap.size + 1 by simp] at hB0
 have HB0 := Lib.hid hB0
 clear hB0
 go_enter Tryz.func46, Tryz.ntmps46
 go_upto_region 1 with fail
 generalize ((w.alloc (.cells #[.string (mk a.who), .bool a.fam, .int .i64 a.year, .int .i64 a.de, .int .i64 a.oo] TA)).alloc (.cells #[.string (mk b.who), .bool b.fam, .int .i64 b.year, .int .i64 b.de, .int .i64 b.oo] TA)) = W at *
 generalize hp : w.heap.size = p at *
 obtain ⟨q, hq⟩ : ∃ q, q = p + 1 := ⟨_, rfl⟩
 rw [← hq] at HB0 ⊢
 clear hq
 have HD := Lib.hid (Below.drew (Below.refl W.heap.size W))
 have HXA := Lib.hid fun W' (hW : Below W.heap.size W W') => cells5 (keepB HA0.out hW)
 have HXB := Lib.hid fun W' (hW : Below W.heap.size W W') => cells5 (keepB HB0.out hW)
 refine Ri.wp_region_lasting (by kernel_rfl) (by kernel_rfl) (by kernel_rfl) (fun Wx => Below W.heap.size W Wx) (fun kz vs wz => (fun kx vx wx => match kx with | 0 => vx = .pointer (some ⟨p, 2, none⟩) | 1 => vx = .int .i64 a.year | 2 => vx = .pointer (some ⟨q, 2, none⟩) | 3 => vx = .int .i64 b.year | 4 => vx = .int .i64 (cmpZ a.year b.year) | 5 => vx = rwv a | 6 => vx = .int .i64 (rankV a) | 7 => vx = rwv b | 8 => vx = .int .i64 (rankV b) | 9 => vx = .int .i64 (cmpZ (rankV a) (rankV b)) | 10 => vx = .pointer (some ⟨p, 0, none⟩) | 11 => vx = .string (mk a.who) | 12 => vx = .pointer (some ⟨q, 0, none⟩) | 13 => vx = .string (mk b.who) | 14 => vx = .int .i64 (cmpT a.who b.who) | 15 => (∃ g, vx = .slice (some ⟨g, 0, none⟩) 3 3 ∧ wx.heap[g]? = some (.cells #[.int .i64 (cmpZ a.year b.year), .int .i64 (cmpZ (rankV a) (rankV b)), .int .i64 (cmpT a.who b.who)] 3 (0, 0))) | 16 => vx = .int .i64 (ordV a b) | 17 => vx = .int .i64 (ordV a b) | _ => True : Nat → Value → World → Prop) kz (vs kz) wz) (fun kz => [kz]) (by kernel_rfl) (fun jz vs iz vz wz hiz hz => Ri.loc_own (F := (fun kx vx wx => match kx with | 0 => vx = .pointer (some ⟨p, 2, none⟩) | 1 => vx = .int .i64 a.year | 2 => vx = .pointer (some ⟨q, 2, none⟩) | 3 => vx = .int .i64 b.year | 4 => vx = .int .i64 (cmpZ a.year b.year) | 5 => vx = rwv a | 6 => vx = .int .i64 (rankV a) | 7 => vx = rwv b | 8 => vx = .int .i64 (rankV b) | 9 => vx = .int .i64 (cmpZ (rankV a) (rankV b)) | 10 => vx = .pointer (some ⟨p, 0, none⟩) | 11 => vx = .string (mk a.who) | 12 => vx = .pointer (some ⟨q, 0, none⟩) | 13 => vx = .string (mk b.who) | 14 => vx = .int .i64 (cmpT a.who b.who) | 15 => (∃ g, vx = .slice (some ⟨g, 0, none⟩) 3 3 ∧ wx.heap[g]? = some (.cells #[.int .i64 (cmpZ a.year b.year), .int .i64 (cmpZ (rankV a) (rankV b)), .int .i64 (cmpT a.who b.who)] 3 (0, 0))) | 16 => vx = .int .i64 (ordV a b) | 17 => vx = .int .i64 (ordV a b) | _ => True : Nat → Value → World → Prop)) jz vs iz vz wz hiz hz) HD.out ⟨⟨rfl, ?_⟩, ⟨rfl, ?_⟩, ⟨rfl, ?_⟩, ⟨rfl, ?_⟩, ⟨rfl, ?_⟩, ⟨rfl, ?_⟩, ⟨rfl, ?_⟩, ⟨rfl, ?_⟩, ⟨rfl, ?_⟩, ⟨rfl, ?_⟩, ⟨rfl, ?_⟩, ⟨rfl, ?_⟩, ⟨rfl, ?_⟩, ⟨rfl, ?_⟩, ⟨rfl, ?_⟩, ⟨rfl, ?_⟩, ⟨rfl, ?_⟩, ⟨rfl, ?_⟩, trivial⟩ ?_
 ·intro vs Wx A hA hB hpre K hK
  have e2 := (hA 2).trans (show _ = Value.pointer (some ⟨p, 0, none⟩) by kernel_rfl)
  clear hA hpre
  go_simp
  exact hK _ _ hB rfl (fun _ _ h => h)
 ·intro vs Wx A hA hB hpre K hK
  have e5 := ((hA 5).trans (show _ = vs 0 by kernel_rfl)).trans (hpre.1 rfl)
  obtain ⟨x0, x1, x2, x3, x4⟩ := HXA.out Wx hB
  obtain ⟨y0, y1, y2, y3, y4⟩ := HXB.out Wx hB
  clear hA hpre
  go_simp
  exact hK _ _ hB rfl (fun _ _ h => h)
 ·intro vs Wx A hA hB hpre K hK
  have e3 := (hA 3).trans (show _ = Value.pointer (some ⟨q, 0, none⟩) by kernel_rfl)
  clear hA hpre
  go_simp
  exact hK _ _ hB rfl (fun _ _ h => h)
 ·intro vs Wx A hA hB hpre K hK
  have e7 := ((hA 7).trans (show _ = vs 2 by kernel_rfl)).trans (hpre.1 rfl)
  obtain ⟨x0, x1, x2, x3, x4⟩ := HXA.out Wx hB
  obtain ⟨y0, y1, y2, y3, y4⟩ := HXB.out Wx hB
  clear hA hpre
  go_simp
  exact hK _ _ hB rfl (fun _ _ h => h)
 ·intro vs Wx A hA hB hpre K hK
  have e6 := ((hA 6).trans (show _ = vs 1 by kernel_rfl)).trans (hpre.1 rfl)
  have e8 := ((hA 8).trans (show _ = vs 3 by kernel_rfl)).trans (hpre.2.1 rfl)
  clear hA hpre
  go_simp
  go_at_call 81
  refine (cmpi_any _ _ _).mono ?_
  rintro e w3 ⟨rfl, rfl⟩
  exact hK _ _ hB rfl (fun _ _ h => h)
 ·intro vs Wx A hA hB hpre K hK
  have e2 := (hA 2).trans (show _ = Value.pointer (some ⟨p, 0, none⟩) by kernel_rfl)
  obtain ⟨x0, x1, x2, x3, x4⟩ := HXA.out Wx hB
  obtain ⟨y0, y1, y2, y3, y4⟩ := HXB.out Wx hB
  clear hA hpre
  go_simp
  exact hK _ _ hB rfl (fun _ _ h => h)
 ·intro vs Wx A hA hB hpre K hK
  have e10 := ((hA 10).trans (show _ = vs 5 by kernel_rfl)).trans (hpre.1 rfl)
  clear hA hpre
  go_simp
  go_at_call 82
  refine (rank_any a _).mono ?_
  rintro e w3 ⟨rfl, hg⟩
  refine hK _ _ (below_trans hB hg) rfl (fun jz hj hz => ?_)
  match jz, hj, hz with
  | 0, _, hz => exact hz
  | 1, _, hz => exact hz
  | 2, _, hz => exact hz
  | 3, _, hz => exact hz
  | 4, _, hz => exact hz
  | 5, _, hz => exact hz
  | 6, _, hz => exact hz
  | 7, _, hz => exact hz
  | 8, _, hz => exact hz
  | 9, _, hz => exact hz
  | 10, _, hz => exact hz
  | 11, _, hz => exact hz
  | 12, _, hz => exact hz
  | 13, _, hz => exact hz
  | 14, _, hz => exact hz
  | 15, _, hz => exact (by obtain ⟨g, h1, h2⟩ := hz; exact ⟨g, h1, keepB h2 hg⟩)
  | 16, _, hz => exact hz
  | 17, _, hz => exact hz
  | n + 18, _, hz => exact hz
 ·intro vs Wx A hA hB hpre K hK
  have e3 := (hA 3).trans (show _ = Value.pointer (some ⟨q, 0, none⟩) by kernel_rfl)
  obtain ⟨x0, x1, x2, x3, x4⟩ := HXA.out Wx hB
  obtain ⟨y0, y1, y2, y3, y4⟩ := HXB.out Wx hB
  clear hA hpre
  go_simp
  exact hK _ _ hB rfl (fun _ _ h => h)
 ·intro vs Wx A hA hB hpre K hK
  have e12 := ((hA 12).trans (show _ = vs 7 by kernel_rfl)).trans (hpre.1 rfl)
  clear hA hpre
  go_simp
  go_at_call 82
  refine (rank_any b _).mono ?_
  rintro e w3 ⟨rfl, hg⟩
  refine hK _ _ (below_trans hB hg) rfl (fun jz hj hz => ?_)
  match jz, hj, hz with
  | 0, _, hz => exact hz
  | 1, _, hz => exact hz
  | 2, _, hz => exact hz
  | 3, _, hz => exact hz
  | 4, _, hz => exact hz
  | 5, _, hz => exact hz
  | 6, _, hz => exact hz
  | 7, _, hz => exact hz
  | 8, _, hz => exact hz
  | 9, _, hz => exact hz
  | 10, _, hz => exact hz
  | 11, _, hz => exact hz
  | 12, _, hz => exact hz
  | 13, _, hz => exact hz
  | 14, _, hz => exact hz
  | 15, _, hz => exact (by obtain ⟨g, h1, h2⟩ := hz; exact ⟨g, h1, keepB h2 hg⟩)
  | 16, _, hz => exact hz
  | 17, _, hz => exact hz
  | n + 18, _, hz => exact hz
 ·intro vs Wx A hA hB hpre K hK
  have e11 := ((hA 11).trans (show _ = vs 6 by kernel_rfl)).trans (hpre.1 rfl)
  have e13 := ((hA 13).trans (show _ = vs 8 by kernel_rfl)).trans (hpre.2.1 rfl)
  clear hA hpre
  go_simp
  go_at_call 81
  refine (cmpi_any _ _ _).mono ?_
  rintro e w3 ⟨rfl, rfl⟩
  exact hK _ _ hB rfl (fun _ _ h => h)
 ·intro vs Wx A hA hB hpre K hK
  have e2 := (hA 2).trans (show _ = Value.pointer (some ⟨p, 0, none⟩) by kernel_rfl)
  clear hA hpre
  go_simp
  exact hK _ _ hB rfl (fun _ _ h => h)
 ·intro vs Wx A hA hB hpre K hK
  have e15 := ((hA 15).trans (show _ = vs 10 by kernel_rfl)).trans (hpre.1 rfl)
  obtain ⟨x0, x1, x2, x3, x4⟩ := HXA.out Wx hB
  obtain ⟨y0, y1, y2, y3, y4⟩ := HXB.out Wx hB
  clear hA hpre
  go_simp
  exact hK _ _ hB rfl (fun _ _ h => h)
 ·intro vs Wx A hA hB hpre K hK
  have e3 := (hA 3).trans (show _ = Value.pointer (some ⟨q, 0, none⟩) by kernel_rfl)
  clear hA hpre
  go_simp
  exact hK _ _ hB rfl (fun _ _ h => h)
 ·intro vs Wx A hA hB hpre K hK
  have e17 := ((hA 17).trans (show _ = vs 12 by kernel_rfl)).trans (hpre.1 rfl)
  obtain ⟨x0, x1, x2, x3, x4⟩ := HXA.out Wx hB
  obtain ⟨y0, y1, y2, y3, y4⟩ := HXB.out Wx hB
  clear hA hpre
  go_simp
  exact hK _ _ hB rfl (fun _ _ h => h)
 ·intro vs Wx A hA hB hpre K hK
  have e16 := ((hA 16).trans (show _ = vs 11 by kernel_rfl)).trans (hpre.1 rfl)
  have e18 := ((hA 18).trans (show _ = vs 13 by kernel_rfl)).trans (hpre.2.1 rfl)
  clear hA hpre
  go_simp
  go_at_call 83
  refine (cmpt_any _ _ _).mono ?_
  rintro e w3 ⟨rfl, rfl⟩
  exact hK _ _ hB rfl (fun _ _ h => h)
 ·intro vs Wx A hA hB hpre K hK
  have e9 := ((hA 9).trans (show _ = vs 4 by kernel_rfl)).trans (hpre.1 rfl)
  have e14 := ((hA 14).trans (show _ = vs 9 by kernel_rfl)).trans (hpre.2.1 rfl)
  have e19 := ((hA 19).trans (show _ = vs 14 by kernel_rfl)).trans (hpre.2.2.1 rfl)
  clear hA hpre
  go_simp
  refine hK _ _ (below_trans hB (below_alloc _ _)) ⟨_, rfl, heap_alloc_new Wx _⟩ (fun jz hj hz => ?_)
  match jz, hj, hz with
  | 0, _, hz => exact hz
  | 1, _, hz => exact hz
  | 2, _, hz => exact hz
  | 3, _, hz => exact hz
  | 4, _, hz => exact hz
  | 5, _, hz => exact hz
  | 6, _, hz => exact hz
  | 7, _, hz => exact hz
  | 8, _, hz => exact hz
  | 9, _, hz => exact hz
  | 10, _, hz => exact hz
  | 11, _, hz => exact hz
  | 12, _, hz => exact hz
  | 13, _, hz => exact hz
  | 14, _, hz => exact hz
  | 15, hj, _ => exact absurd rfl hj
  | 16, _, hz => exact hz
  | 17, _, hz => exact hz
  | n + 18, _, hz => exact hz
 ·intro vs Wx A hA hB hpre K hK
  have hx15 : (∃ g, vs 15 = .slice (some ⟨g, 0, none⟩) 3 3 ∧ Wx.heap[g]? = some (.cells #[.int .i64 (cmpZ a.year b.year), .int .i64 (cmpZ (rankV a) (rankV b)), .int .i64 (cmpT a.who b.who)] 3 (0, 0))) := hpre.1 rfl
  obtain ⟨gx15, hv15, hh15⟩ := hx15
  have e20 := ((hA 20).trans (show _ = vs 15 by kernel_rfl)).trans hv15
  clear hA hpre
  go_simp
  go_at_call 80
  refine (or_any _ _ _ _ _ _ hh15).mono ?_
  rintro e w3 ⟨rfl, rfl⟩
  exact hK _ _ hB rfl (fun _ _ h => h)
 ·intro vs Wx A hA hB hpre K hK
  have e21 := ((hA 21).trans (show _ = vs 16 by kernel_rfl)).trans (hpre.1 rfl)
  clear hA hpre
  go_simp
  exact hK _ _ hB rfl (fun _ _ h => h)
 ·intro vs Wx hB hF
  have hL : vs 17 = .int .i64 (ordV a b) := hF 17 (by decide)
  have HBW := Lib.hid (below_tr hp HG0.out hB)
  clear hF hB
  simp only [Ri.puts]
  go_simp
  go_wp2_with fail
  go_ret
  exact ⟨by first | rfl | (rw [hL]) | simp [hL], by first | exact HBW.out | (rw [hp]; exact HBW.out)⟩
end Go.Proofs.YtfoooldkmokjpaaGreatDoor.Ac
end
section
namespace Go.Proofs.YtfoooldkmokjpaaGreatDoor.Ri
open Go
def backB : Nat → List Oper → Bool
 | _, [] => true
 | k, o :: l => (o.after.all fun e => !Region.binds .any e || decide (e.on < k)) && backB (k + 1) l
theorem backB_spec : ∀ (l : List Oper) (k i : Nat) (o : Oper), backB k l = true → l[i]? = some o → ∀ e ∈ o.after, Region.binds .any e = true → e.on < k + i
 | [], _, _, _, _, h => by simp at h
 | x :: l, k, 0, o, hb, h => by
  simp at h; subst h
  simp only [backB, Bool.and_eq_true, Array.all_eq_true_iff_forall_mem, Bool.or_eq_true, decide_eq_true_eq] at hb
  intro e he hbe
  rcases hb.1 e he with h1 | h1
  ·rw [hbe] at h1; cases h1
  ·exact h1
 | x :: l, k, i + 1, o, hb, h => by
  simp at h
  simp only [backB, Bool.and_eq_true] at hb
  intro e he hbe
  have := backB_spec l (k + 1) i o hb.2 h e he hbe
  omega
theorem wp_region_factsB {P : Program} {id : Nat} {l : List Oper} {Q : Exit → Act → World → Prop} {a0 : Act} {w0 : World} (hm : P.follows .mixedOrders = true) (hap : apartD l = true) (hbk : backB 0 l = true)
  (B : World → Prop) (F : Nat → (Nat → Value) → World → Prop) (deps : Nat → List Nat) (hdp : depsOk deps 0 l = true)
  (hloc : ∀ j vs i v w, i ∉ deps j → F j vs w → F j (upd vs i v) w) (h0 : B w0.drew) (hop : Each P l Q a0 B F 0 l)
  (hd : ∀ vs w, B w → (∀ j, j < l.length → F j vs w) → Q .normal (puts l 0 vs a0) w) : (Code.region id l.toArray true).wp P Q a0 w0 := by
 refine wp_region_any hm (wpAny_inv (fun listed a w => listed.size = l.length ∧ (∀ j, listed.getD j false = true → ∀ d ∈ deps j, listed.getD d false = true) ∧ ∃ vs, a = puts l 0 vs a0 ∧ B w ∧ ∀ j, listed.getD j false = true → F j vs w) ?_ ?_ _ _ _ _ (by rw [opn_new]; exact Nat.le_refl _) ?_)
 ·rintro listed a w ⟨hsz, hcl, vs, rfl, hB, hF⟩ i hi
  obtain ⟨hni, o, ho, hpre⟩ := mem_ready.1 hi
  have ho' : l[i]? = some o := by simpa using ho
  have hil : i < l.length := (List.getElem?_eq_some_iff.1 ho').1
  have hnf : listed.getD i false = false := by
   have : i < listed.size := by omega
   simpa [this] using hni
  have hst := Each.get l 0 i o hop ho'
  rw [Nat.zero_add] at hst
  refine wpOp_step ho fun K hK => ?_
  refine hst vs w hB (fun e he hb => hF _ (hpre e he hb)) K fun v w' hB' hFi hFj => hK _ _ ?_
  have hset : ∀ j, (listed.setIfInBounds i true).getD j false = true → j = i ∨ listed.getD j false = true := fun j hj => by
   by_cases hji : i = j
   ·exact Or.inl hji.symm
   ·rw [getD_set_ne false hji] at hj; exact Or.inr hj
  refine ⟨by simp [hsz], fun j hj d hdd => ?_, upd vs i v, by have := puts_put l 0 i o vs a0 v hap ho'; rwa [Nat.zero_add] at this, hB', fun j hj => ?_⟩
  ·rcases hset j hj with rfl | hj'
   ·have := depsOk_spec deps l 0 j o hdp ho'
    rw [Nat.zero_add] at this
    rcases this d hdd with rfl | ⟨e, he, hb, hde⟩
    ·have : d < listed.size := by omega
     simp [this]
    ·exact getD_set_true (hcl _ (hpre e he hb) d hde)
   ·exact getD_set_true (hcl j hj' d hdd)
  ·by_cases hji : j = i
   ·subst hji; exact hFi
   ·rcases hset j hj with h | hj'
    ·exact absurd h hji
    ·refine hloc j vs i v w' (fun hin => ?_) (hFj j hji (hF j hj'))
     rw [hcl j hj' i hin] at hnf
     cases hnf
 ·rintro listed a w ⟨hsz, hcl, vs, rfl, hB, hF⟩ hr
  refine hd vs w hB fun j hj => hF j ?_
  have all : ∀ n, ∀ j, j < n → j < l.length → listed.getD j false = true := by
   intro n
   induction n with
   | zero => intro j h; omega
   | succ n ih =>
    intro j hjn hjl
    rcases Nat.lt_or_ge j n with h | h
    ·exact ih j h hjl
    obtain rfl : j = n := by omega
    have hoj : l[j]? = some l[j] := List.getElem?_eq_getElem hjl
    by_cases hc : listed.getD j false = true
    ·exact hc
    ·exfalso
     have hjs : j < listed.size := by omega
     have hmem : j ∈ Region.ready .any l.toArray listed := mem_ready.2 ⟨by simpa [hjs] using hc, l[j], by simp, fun e he hbe => by
      have := backB_spec l 0 j _ hbk hoj e he hbe
      exact ih e.on (by omega) (by omega)⟩
     rw [hr] at hmem
     cases hmem
  exact all (j + 1) j (by omega) hj
 ·obtain ⟨vs, hvs⟩ := puts_self l 0 a0
  refine ⟨by simp, fun j hj => ?_, vs, hvs.symm, h0, fun j hj => ?_⟩
  all_goals
   exfalso
   rw [Array.getD_eq_getD_getElem?, Array.getElem?_replicate] at hj
   split at hj <;> simp at hj
theorem wp_region_lastingB {P : Program} {id : Nat} {l : List Oper} {Q : Exit → Act → World → Prop} {a0 : Act} {w0 : World} (hm : P.follows .mixedOrders = true) (hap : apartD l = true) (hbk : backB 0 l = true)
  (B : World → Prop) (F : Nat → (Nat → Value) → World → Prop) (deps : Nat → List Nat) (hdp : depsOk deps 0 l = true)
  (hloc : ∀ j vs i v w, i ∉ deps j → F j vs w → F j (upd vs i v) w) (h0 : B w0.drew) (hop : EachA P l Q a0 B F 0 l)
  (hd : ∀ vs w, B w → (∀ j, j < l.length → F j vs w) → Q .normal (puts l 0 vs a0) w) : (Code.region id l.toArray true).wp P Q a0 w0 :=
 wp_region_factsB hm hap hbk B F deps hdp hloc h0 (EachA.each l 0 hop) hd
theorem wp_region_lastingB_g {P : Program} {id : Nat} {l : List Oper} {Q : Exit → Act → World → Prop} {a0 : Act} {w0 : World} (hm : P.follows .mixedOrders = true) (hap : apartD l = true) (hbk : backB 0 l = true)
  (B : World → Prop) (F : Nat → (Nat → Value) → World → Prop) (deps : Nat → List Nat) (hdp : depsOk deps 0 l = true)
  (hloc : ∀ j vs i v w, i ∉ deps j → F j vs w → F j (upd vs i v) w) (h0 : B w0.drew) (hop : EachG P l Q a0 B F 0 l)
  (hd : ∀ vs w, B w → (∀ j, j < l.length → F j vs w) → Q .normal (puts l 0 vs a0) w) : (Code.region id l.toArray true).wp P Q a0 w0 :=
 wp_region_factsB hm hap hbk B F deps hdp hloc h0 (EachG.each l 0 hop) hd
end Go.Proofs.YtfoooldkmokjpaaGreatDoor.Ri
end
