/-
  Texts put together (merge.py): LHead, CSums, LTot, LCheck.
-/
import Derived.Deep.OwnRows
import Derived.Test.YtfoooldkmokjpaaGreatDoorMj5
import Derived.Test.YtfoooldkmokjpaaGreatDoorMj2
import Derived.Test.YtfoooldkmokjpaaGreatDoorMj13
import Derived.Test.YtfoooldkmokjpaaGreatDoorMj43
set_option linter.unusedSimpArgs false
set_option linter.unusedVariables false
section
namespace Go.Proofs.YtfoooldkmokjpaaGreatDoor.Cm
open Go.RowKit
theorem mk_empty (s : Tx) : (mk s).toList.isEmpty = decide (s = []) := by
 rw [Lib.toList_data, mk_list]
 rw [Bool.eq_iff_iff]
 simp
set_option maxHeartbeats 1000000 in
theorem ref_any (c : Cl) (m : Value) (w : World) (hm : ∃ a n k, m = .slice a n k) (hz : c.ref.length ≤ 281474976710656) :
  Calls Tryz.prog 75 #[clv c m] w fun e w' => e = .returned (.bool (refB c)) ∧ Below w.heap.size w w' := by
 obtain ⟨a, n, k, rfl⟩ := hm
 have HB := Lib.hid fun o => below_alloc w o
 by_cases h1 : c.does = 1
 ·have hr : refB c = decide (c.ref = []) := by unfold refB; rw [if_pos h1]
  have he := mk_empty c.ref
  rw [hr]
  clear hr
  have hb : (c.does == 1) = true := by simpa using h1
  generalize decide (c.ref = []) = R at *
  clear h1
  go_enter Tryz.func75, Tryz.ntmps75
  go_wp2
  go_ret
  exact ⟨by simp [he], HB.out _⟩
 ·have hr : refB c = codeB c.ref 1 12 := by unfold refB; rw [if_neg h1]
  have HN := Lib.hid fun w => name_any c.ref w (by omega)
  have hb : (c.does == 1) = false := by simpa using h1
  rw [hr]
  clear hr
  generalize codeB c.ref 1 12 = R at *
  go_enter Tryz.func75, Tryz.ntmps75
  go_wp2_with (go_at_call 74; refine (HN.out _).mono ?_; rintro e w' ⟨rfl, rfl⟩)
  go_ret
  exact ⟨rfl, HB.out _⟩
theorem head9 {x : Cl} (h : namesB x = false) : headE x = 9 := by simp [headE, h]
theorem head3 {x : Cl} (h : namesB x = true) (h1 : netB x.net = false) : headE x = 3 := by simp [headE, h, h1]
theorem head9' {x : Cl} (h : namesB x = true) (h1 : netB x.net = true) (h2 : refB x = false) : headE x = 9 := by simp [headE, h, h1, h2]
theorem head3' {x : Cl} (h : namesB x = true) (h1 : netB x.net = true) (h2 : refB x = true) (h3 : doesB x.does = false) : headE x = 3 := by simp [headE, h, h1, h2, h3]
theorem head0 {x : Cl} (h : namesB x = true) (h1 : netB x.net = true) (h2 : refB x = true) (h3 : doesB x.does = true) : headE x = 0 := by simp [headE, h, h1, h2, h3]
def ClShort (c : Cl) : Prop := c.id.length ≤ 281474976710656 ∧ c.mem.length ≤ 281474976710656 ∧ c.fam.length ≤ 281474976710656 ∧ c.ref.length ≤ 281474976710656
theorem ClOk.short {c : Cl} (h : ClOk c) : ClShort c := ⟨h.2.2.1, h.2.2.2.1, h.2.2.2.2.1, h.2.2.2.2.2.1⟩
set_option maxHeartbeats 2000000 in
theorem head_any (c : Cl) (m : Value) (w : World) (hm : ∃ a n k, m = .slice a n k) (hz : ClShort c) :
  Calls Tryz.prog 42 #[clv c m] w fun e w' => e = .returned (.int .i64 (headE c)) ∧ Below w.heap.size w w' := by
 obtain ⟨z1, z2, z3, z4⟩ := hz
 have HN := Lib.hid fun (s : Tx) (hs : s.length ≤ 281474976710656) w => name_any s w (by omega)
 have HR := Lib.hid fun w => ref_any c m w hm z4
 have HB := Lib.hid fun o => below_alloc w o
 have H9 := Lib.hid (@head9 c)
 have H3 := Lib.hid (@head3 c)
 have H9' := Lib.hid (@head9' c)
 have H3' := Lib.hid (@head3' c)
 have H0 := Lib.hid (@head0 c)
 unfold namesB at H9 H3 H9' H3' H0
 have HBX : Hid (∀ w', Below (w.alloc (.cells #[.string (mk c.id), .string (mk c.mem), .string (mk c.fam), .int .i64 c.net, .int .i64 c.does, .string (mk c.ref), m] 31)).heap.size (w.alloc (.cells #[.string (mk c.id), .string (mk c.mem), .string (mk c.fam), .int .i64 c.net, .int .i64 c.does, .string (mk c.ref), m] 31)) w' → ClBox w' w.heap.size c m) := fun w' hb => (ClBox.new w c m _).grw hb
 obtain ⟨a, n, k, rfl⟩ := hm
 cases h1 : codeB c.id 1 12
 ·rw [H9.out (by rw [h1]; rfl)]
  clear H9 H3 H9' H3' H0
  go_enter Tryz.func42, Tryz.ntmps42
  go_wp2_with (first | (go_at_call 74; refine (HN.out _ (by assumption) _).mono ?_; rintro e w' ⟨rfl, rfl⟩))
  go_ret
  exact ⟨rfl, HB.out _⟩
 cases h2 : codeB c.mem 1 12
 ·rw [H9.out (by rw [h1, h2]; rfl)]
  clear H9 H3 H9' H3' H0
  go_enter Tryz.func42, Tryz.ntmps42
  go_wp2_with (first | (go_at_call 74; refine (HN.out _ (by assumption) _).mono ?_; rintro e w' ⟨rfl, rfl⟩))
  go_ret
  exact ⟨rfl, HB.out _⟩
 cases h3 : codeB c.fam 1 12
 ·rw [H9.out (by rw [h1, h2, h3]; rfl)]
  clear H9 H3 H9' H3' H0
  go_enter Tryz.func42, Tryz.ntmps42
  go_wp2_with (first | (go_at_call 74; refine (HN.out _ (by assumption) _).mono ?_; rintro e w' ⟨rfl, rfl⟩))
  go_ret
  exact ⟨rfl, HB.out _⟩
 have hn : (codeB c.id 1 12 && (codeB c.mem 1 12 && codeB c.fam 1 12)) = true := by rw [h1, h2, h3]; rfl
 have b0 : (c.net != 0) = !decide (c.net = 0) := by rw [Bool.eq_iff_iff]; simp
 have b1 : (c.net != 1) = !decide (c.net = 1) := by rw [Bool.eq_iff_iff]; simp
 cases h4 : netB c.net
 ·rw [H3.out hn h4]
  clear H9 H3 H9' H3' H0 hn
  unfold netB at h4
  rw [Bool.or_eq_false_iff] at h4
  rw [h4.1] at b0
  rw [h4.2] at b1
  clear h4
  go_enter Tryz.func42, Tryz.ntmps42
  go_wp2_with (first | (go_at_call 74; refine (HN.out _ (by assumption) _).mono ?_; rintro e w' ⟨rfl, rfl⟩))
  go_ret
  exact ⟨rfl, HB.out _⟩
 have h5 : (c.net != 0) = false ∨ ((c.net != 0) = true ∧ (c.net != 1) = false) := by
  rw [b0, b1]
  unfold netB at h4
  rw [Bool.or_eq_true] at h4
  rcases h4 with h4 | h4
  ·left; rw [h4]; rfl
  ·right
   rw [h4]
   rw [decide_eq_true_eq] at h4
   rw [decide_eq_false (by omega)]
   exact ⟨rfl, rfl⟩
 clear b0 b1
 have d1 : (c.does != 1) = !decide (c.does = 1) := by rw [Bool.eq_iff_iff]; simp
 have d7 : (c.does != 7) = !decide (c.does = 7) := by rw [Bool.eq_iff_iff]; simp
 have d8 : (c.does != 8) = !decide (c.does = 8) := by rw [Bool.eq_iff_iff]; simp
 cases h6 : refB c
 ·rw [H9'.out hn h4 h6]
  rw [h6] at HR
  clear H9 H3 H9' H3' H0 hn h4 d1 d7 d8
  rcases h5 with h5 | ⟨h5, h5'⟩ <;>
  ·go_enter Tryz.func42, Tryz.ntmps42
   go_wp2_with (first | (go_at_call 74; refine (HN.out _ (by assumption) _).mono ?_; rintro e w' ⟨rfl, rfl⟩) | (go_at_call 75; refine (HR.out _).mono ?_; rintro e w1 ⟨rfl, hb⟩; have HB1 := Lib.hid hb; clear hb))
   go_ret
   exact ⟨rfl, below_trans (HB.out _) HB1.out⟩
 rw [h6] at HR
 cases h7 : doesB c.does
 ·rw [H3'.out hn h4 h6 h7]
  clear H9 H3 H9' H3' H0 hn h4
  unfold doesB at h7
  simp only [Bool.or_eq_false_iff] at h7
  rw [h7.1] at d1
  rw [h7.2.1] at d7
  rw [h7.2.2] at d8
  clear h7
  rcases h5 with h5 | ⟨h5, h5'⟩ <;>
  ·go_enter Tryz.func42, Tryz.ntmps42
   go_wp2_with (first | (go_at_call 74; refine (HN.out _ (by assumption) _).mono ?_; rintro e w' ⟨rfl, rfl⟩) | (go_at_call 75; refine (HR.out _).mono ?_; rintro e w1 ⟨rfl, hb⟩; obtain ⟨n0, n1, n2, n3, n4, n5, n6⟩ := HBX.out _ hb; have HB1 := Lib.hid hb; clear hb))
   go_ret
   exact ⟨rfl, below_trans (HB.out _) HB1.out⟩
 rw [H0.out hn h4 h6 h7]
 clear H9 H3 H9' H3' H0 hn h4
 have h8 : (c.does != 1) = false ∨ ((c.does != 1) = true ∧ (c.does != 7) = false) ∨ ((c.does != 1) = true ∧ (c.does != 7) = true ∧ (c.does != 8) = false) := by
  rw [d1, d7, d8]
  unfold doesB at h7
  simp only [Bool.or_eq_true, decide_eq_true_eq] at h7
  rcases h7 with h7 | h7 | h7 <;> simp [h7]
 clear d1 d7 d8 h7
 rcases h5 with h5 | ⟨h5, h5'⟩ <;> rcases h8 with h8 | ⟨h8, h8'⟩ | ⟨h8, h8', h8''⟩ <;>
 ·go_enter Tryz.func42, Tryz.ntmps42
  go_wp2_with (first | (go_at_call 74; refine (HN.out _ (by assumption) _).mono ?_; rintro e w' ⟨rfl, rfl⟩) | (go_at_call 75; refine (HR.out _).mono ?_; rintro e w1 ⟨rfl, hb⟩; obtain ⟨n0, n1, n2, n3, n4, n5, n6⟩ := HBX.out _ hb; have HB1 := Lib.hid hb; clear hb))
  go_ret
  exact ⟨rfl, below_trans (HB.out _) HB1.out⟩
end Go.Proofs.YtfoooldkmokjpaaGreatDoor.Cm
end
section
namespace Go.Proofs.YtfoooldkmokjpaaGreatDoor.Ce
open Go.RowKit
set_option maxHeartbeats 400000 in
theorem allGood_row (a : Option Addr) (len cap : Nat) (f : Nat → Int) (w : World) (hm : len ≤ 9223372036854775807) (hc : ∀ i, i < len → ∃ b off, a = some ⟨b, off, none⟩ ∧ w.cell? ⟨b, off + i, none⟩ = some (.int .i64 (f i))) :
  Calls Tryz.prog 122 #[.slice a len cap] w fun e w' => e = .returned (.bool (allG f len)) ∧ w' = w := by
 go_enter Tryz.func122, Tryz.ntmps122
 go_wp2
 go_loop [6] (fun i => ∃ k : Nat, k ≤ len ∧ i = .int .i64 k ∧ Hid (allG f k = true)) (fun i => len - (intOf i).toNat)
 case atStart => exact ⟨0, Nat.zero_le _, rfl, rfl⟩
 case round =>
  obtain ⟨k, hk, rfl, hg⟩ := hrel
  by_cases hlt : k < len
  ·obtain ⟨b, off, rfl, hcell⟩ := hc k hlt
   cases gk : good (f k)
   ·go_wp2_with (go_at_call 79; refine (good_any _ _).mono ?_; rintro e w' ⟨rfl, rfl⟩)
    go_ret
    exact ⟨by rw [allG_not f len k hlt gk]; rfl, rfl⟩
   ·go_wp2_with (go_at_call 79; refine (good_any _ _).mono ?_; rintro e w' ⟨rfl, rfl⟩)
    go_round
    case rel => exact ⟨k + 1, by omega, by go_num, allG_more f k hg.out gk⟩
    case measure => simp [intOf]; omega
  ·have : k = len := by omega
   subst this
   go_wp2
   go_ret
   exact ⟨by rw [hg.out]; rfl, rfl⟩
set_option maxHeartbeats 400000 in
theorem sum_row (a : Option Addr) (len cap : Nat) (f : Nat → Int) (w : World) (hm : len ≤ 9223372036854775807) (hc : ∀ i, i < len → ∃ b off, a = some ⟨b, off, none⟩ ∧ w.cell? ⟨b, off + i, none⟩ = some (.int .i64 (f i))) :
  Calls Tryz.prog 78 #[.slice a len cap] w fun e w' => e = .returned (.tuple #[.int .i64 (sumV f len), .int .i64 (sumE f len)]) ∧ w' = w := by
 cases g : allG f len
 ·go_enter Tryz.func78, Tryz.ntmps78
  go_wp2_with (go_at_call 122; refine (allGood_row a len cap f _ hm hc).mono ?_; rintro e w' ⟨rfl, rfl⟩)
  go_ret2
  exact ⟨by rw [(sum_arg f len g).1, (sum_arg f len g).2]; rfl, rfl⟩
 ·go_enter Tryz.func78, Tryz.ntmps78
  go_wp2_with (go_at_call 122; refine (allGood_row a len cap f _ hm hc).mono ?_; rintro e w' ⟨rfl, rfl⟩)
  go_loop [4, 12] (fun t i => ∃ k : Nat, k ≤ len ∧ i = .int .i64 k ∧ t = .int .i64 (tot f k) ∧ tot f k ≤ 10000000000000) (fun _ i => len - (intOf i).toNat)
  case atStart => exact ⟨0, Nat.zero_le _, rfl, rfl, by simp [tot]⟩
  case round =>
   obtain ⟨k, hk, rfl, rfl, ht⟩ := hrel
   have t0 := tot_nonneg f len g k hk
   by_cases hlt : k < len
   ·obtain ⟨b, off, rfl, hcell⟩ := hc k hlt
    have gk := allG_at f len k hlt g
    have gt : good (tot f k) = true := (good_iff _).2 ⟨t0, ht⟩
    obtain ⟨f0, f1⟩ := (good_iff _).1 gk
    by_cases ho : 10000000000000 < tot f k + f k
    ·have gs : good (tot f k + f k) = false := (good_not _).2 (by omega)
     have e1 : addV (tot f k) (f k) = 0 := by simp [addV, gs]
     have e2 : addE (tot f k) (f k) = 2 := by simp [addE, gt, gk, gs]
     go_wp2_with (go_at_call 123; refine (add_any _ _ _).mono ?_; rintro e w' ⟨rfl, rfl⟩)
     go_ret2
     exact ⟨by rw [(sum_over f len k g hlt ho).1, (sum_over f len k g hlt ho).2]; rfl, rfl⟩
    ·have gs : good (tot f k + f k) = true := (good_iff _).2 (by omega)
     have e1 : addV (tot f k) (f k) = tot f k + f k := by simp [addV, gt, gk, gs]
     have e2 : addE (tot f k) (f k) = 0 := by simp [addE, gt, gk, gs]
     go_wp2_with (go_at_call 123; refine (add_any _ _ _).mono ?_; rintro e w' ⟨rfl, rfl⟩)
     go_round
     case rel => exact ⟨k + 1, by omega, by go_num, rfl, by simp only [tot]; omega⟩
     case measure => simp [intOf]; omega
   ·have : k = len := by omega
    subst this
    go_wp2
    go_ret2
    exact ⟨by rw [(sum_end f k g ht).1, (sum_end f k g ht).2]; rfl, rfl⟩
end Go.Proofs.YtfoooldkmokjpaaGreatDoor.Ce
end
section
namespace Go.Proofs.YtfoooldkmokjpaaGreatDoor.Cm
open Go.RowKit
theorem info2 : (Tryz.prog.info? 2).map (fun i => (i.zero, i.size, i.bytes)) = some (some (.int .i64 0), 1, 8) := by kernel_rfl
set_option maxHeartbeats 1000000 in
theorem total_any (c : Cl) (m : Value) (w : World) (hm : LnsAt All w m c.lines) (hl : c.lines.length ≤ 1000000) :
  Calls Tryz.prog 44 #[clv c m] w fun e w' => e = .returned (.tuple #[.int .i64 (totV c.lines), .int .i64 (totE c.lines)]) ∧ Below w.heap.size w w' := by
 have HM := Lib.hid hm
 have HB := Lib.hid fun o => below_alloc w o
 obtain ⟨a, k, rfl, h1, h2⟩ := LnsAt.form hm
 clear hm
 have HMK := run_make_row' (P := Tryz.prog) 127 2 (.int .i64 0) 8 Tryz.underlying127 info2 rfl .i64 .i64 c.lines.length (by omega) (by omega)
 go_enter Tryz.func44, Tryz.ntmps44
 go_wp2
 go_loopg [16] (c.lines.length) (fun g i wr => ∃ j : Nat, j ≤ c.lines.length ∧ g = c.lines.length - j ∧ i = .int .i64 j ∧ Hid (Below w.heap.size w wr) ∧ Hid (wr.rowIs (w.heap.size + 1) 2 c.lines.length fun q => if q < j then .int .i64 (bil c.lines q) else .int .i64 0))
 case atStart =>
  refine ⟨0, Nat.zero_le _, rfl, rfl, below_trans (HB.out _) (below_alloc _ _), ?_⟩
  show World.rowIs _ _ _ _ _
  have := World.rowIs_made (w.alloc (.cells #[.string (mk c.id), .string (mk c.mem), .string (mk c.fam), .int .i64 c.net, .int .i64 c.does, .string (mk c.ref), .slice a c.lines.length k] 31)) (.int .i64 0) c.lines.length 2
  rw [World.size_alloc] at this
  exact this.congr fun q hq => by simp
 case round =>
  obtain ⟨j, hj, hg, rfl, HB2, HR⟩ := hrel
  by_cases hlt : j < c.lines.length
  ·have hL := LnsAt.move HM.out (Below.moves HB2.out)
   obtain ⟨b, o, m, rfl, hx, ⟨c0, c1, c2, c3, c4, c5⟩, hr⟩ := LnsAt.get hL j hlt
   obtain ⟨am, cm, rfl, -, -⟩ := TxAt.form hr
   have hbl := World.block_lt_of_cell? wr _ c0
   have hrc := HR.out.cell hlt
   have hrf := HR.out.frozen j
   have hrl := HR.out.lt
   have hne : w.heap.size + 1 ≠ wr.heap.size := Nat.ne_of_lt hrl
   have hbj := bil_at c.lines j _ hx
   have HX : Hid (∀ o1 v, v = .int .i64 (bil c.lines j) → Below w.heap.size w ((wr.setCell ⟨w.heap.size + 1, j, none⟩ v).alloc o1) ∧ ((wr.setCell ⟨w.heap.size + 1, j, none⟩ v).alloc o1).rowIs (w.heap.size + 1) 2 c.lines.length fun q => if q < j + 1 then .int .i64 (bil c.lines q) else .int .i64 0) := fun o1 v hv => by
    refine ⟨below_trans (HB2.out.setCell (p := ⟨w.heap.size + 1, j, none⟩) (by simp) v) (below_alloc _ o1), ?_⟩
    refine ((HR.out.set j v).alloc o1).congr fun q hq => ?_
    rw [hv]
    by_cases e : q = j
    ·subst e; simp
    ·by_cases e2 : q < j
     ·simp [e, e2, Nat.lt_succ_of_lt e2]
     ·simp [e, e2, show ¬ q < j + 1 by omega]
   rw [← hbj] at c4
   clear hx hr hL hbj
   have hrc2 : ∀ o1, (wr.alloc o1).cell? ⟨w.heap.size + 1, j, none⟩ = some (.int .i64 0) := fun o1 => by
    rw [(HR.out.alloc o1).cell hlt]; simp
   have hrf2 : ∀ o1, (wr.alloc o1).frozen? ⟨w.heap.size + 1, j, none⟩ = false := fun o1 => (HR.out.alloc o1).frozen j
   go_wp2
   go_roundg (c.lines.length - (j + 1))
   case rel => exact ⟨j + 1, by omega, rfl, by go_num, (HX.out _ _ rfl).1, (HX.out _ _ rfl).2⟩
   case measure => omega
  ·have hjj : j = c.lines.length := by omega
   have HS := Lib.hid (Ce.sum_row (some ⟨w.heap.size + 1, 0, none⟩) c.lines.length c.lines.length (bil c.lines) wr (by omega) (fun i hi => ⟨w.heap.size + 1, 0, rfl, by
    rw [Nat.zero_add, HR.out.cell hi]
    simp [show i < j by omega]⟩))
   clear hjj
   have HV : Hid (totV c.lines = if Ce.sumE (bil c.lines) c.lines.length = 0 then Ce.sumV (bil c.lines) c.lines.length else 0) := rfl
   have HE : Hid (totE c.lines = if Ce.sumE (bil c.lines) c.lines.length = 0 then 0 else 8) := rfl
   generalize Ce.sumE (bil c.lines) c.lines.length = E at *
   generalize Ce.sumV (bil c.lines) c.lines.length = V at *
   by_cases he : E = 0
   ·rw [if_pos he] at HV HE
    obtain rfl := he
    go_wp2_with (go_at_call 78; refine (HS.out).mono ?_; rintro e w' ⟨rfl, rfl⟩)
    go_ret2
    exact ⟨by rw [HV.out, HE.out]; rfl, HB2.out⟩
   ·rw [if_neg he] at HV HE
    have hb : (E != 0) = true := by simpa using he
    go_wp2_with (go_at_call 78; refine (HS.out).mono ?_; rintro e w' ⟨rfl, rfl⟩)
    go_ret2
    exact ⟨by rw [HV.out, HE.out]; rfl, HB2.out⟩
end Go.Proofs.YtfoooldkmokjpaaGreatDoor.Cm
end
section
namespace Go.Proofs.YtfoooldkmokjpaaGreatDoor.Cm
open Go.RowKit
abbrev boxc (c : Cl) (m : Value) : Obj := .cells #[.string (mk c.id), .string (mk c.mem), .string (mk c.fam), .int .i64 c.net, .int .i64 c.does, .string (mk c.ref), m] 31
theorem slice_of {m : Value} {a : Option Addr} {n c : Nat} (h : m = .slice a n c) : ∃ a n k, m = .slice a n k := ⟨a, n, c, h⟩
theorem rest10 {c : Cl} (h : ¬ c.lines.length ≤ 999) : restE c = 10 := by unfold restE; rw [if_neg h]
theorem rest6 {c : Cl} (h : c.lines.length ≤ 999) (h1 : voidB c = false) : restE c = 6 := by unfold restE; rw [if_pos h, h1]; simp
theorem restL {c : Cl} (h : c.lines.length ≤ 999) (h1 : voidB c = true) (h2 : linesE c.lines ≠ 0) : restE c = linesE c.lines := by unfold restE; rw [if_pos h, if_pos h1, if_neg h2]
theorem restT {c : Cl} (h : c.lines.length ≤ 999) (h1 : voidB c = true) (h2 : linesE c.lines = 0) : restE c = totE c.lines := by unfold restE; rw [if_pos h, if_pos h1, if_pos h2]
set_option maxHeartbeats 2000000 in
theorem check_any (c : Cl) (m : Value) (w : World) (hm : LnsAt All w m c.lines) (hz : ClOk c) (hT : Da.Tab w) :
  Calls Tryz.prog 24 #[clv c m] w fun e w' => e = .returned (.int .i64 (checkE c)) ∧ Below w.heap.size w w' := by
 obtain ⟨a, k, hsl, f1, f2⟩ := LnsAt.form hm
 have HH := Lib.hid fun w => head_any c m w (slice_of hsl) hz.short
 have HB := Lib.hid fun o => below_alloc w o
 have HBX : Hid (∀ w', Below (w.alloc (boxc c m)).heap.size (w.alloc (boxc c m)) w' → ClBox w' w.heap.size c m ∧ Below w.heap.size w w') := fun w' hb => ⟨(ClBox.new w c m _).grw hb, below_trans (below_alloc w _) hb⟩
 have HL := Lib.hid fun w' (hb : Below w.heap.size w w') => lines_any m c.lines w' (LnsAt.move hm (Below.moves hb)) hz.2.2.2.2.2.2.2 (tab_below hT hb)
 have HTT := Lib.hid fun w' (hb : Below w.heap.size w w') (hl : c.lines.length ≤ 999) => total_any c m w' (LnsAt.move hm (Below.moves hb)) (by omega)
 obtain rfl := hsl
 clear hm hz hT
 by_cases h0 : headE c = 0
 case neg =>
  have hE : checkE c = headE c := by unfold checkE; rw [if_neg h0]
  have hb : (headE c != 0) = true := by simpa using h0
  rw [hE]
  clear hE h0 HL HTT
  generalize headE c = E at *
  go_enter Tryz.func24, Tryz.ntmps24
  go_wp2_with (first | (go_at_call 42; refine (HH.out _).mono ?_; rintro e w1 ⟨rfl, hb⟩; have HB1 := Lib.hid (HBX.out _ hb).2; clear hb))
  go_ret
  exact ⟨rfl, HB1.out⟩
 have hE : checkE c = restE c := by unfold checkE; rw [if_pos h0]
 rw [h0] at HH
 rw [hE]
 clear hE h0
 have H10 := Lib.hid (@rest10 c)
 have H6 := Lib.hid (@rest6 c)
 have HLL := Lib.hid (@restL c)
 have HLT := Lib.hid (@restT c)
 unfold voidB at H6 HLL HLT
 generalize restE c = R at *
 generalize linesE c.lines = LE at *
 generalize totE c.lines = TE at *
 generalize totV c.lines = TV at *
 by_cases h1 : c.lines.length ≤ 999
 case neg =>
  have h1' : (999 : Int) < (c.lines.length : Int) := by omega
  rw [H10.out h1]
  clear H10 H6 HLL HLT HL HTT
  go_enter Tryz.func24, Tryz.ntmps24
  go_wp2_with (first | (go_at_call 42; refine (HH.out _).mono ?_; rintro e w1 ⟨rfl, hb⟩; obtain ⟨⟨n0, n1, n2, n3, n4, n5, n6⟩, hb2⟩ := HBX.out _ hb; have HB1 := Lib.hid hb2; clear hb hb2))
  go_ret
  exact ⟨rfl, HB1.out⟩
 have h1' : ¬ (999 : Int) < (c.lines.length : Int) := by omega
 have e8 : (c.does == 8) = decide (c.does = 8) := by rw [Bool.eq_iff_iff]; simp
 have el : ((c.lines.length : Int) == 0) = decide (c.lines.length = 0) := by rw [Bool.eq_iff_iff]; simp
 obtain ⟨V, hV⟩ : ∃ V, V = decide (c.does = 8) := ⟨_, rfl⟩
 obtain ⟨Z, hZ⟩ : ∃ Z, Z = decide (c.lines.length = 0) := ⟨_, rfl⟩
 rw [← hV] at e8
 rw [← hZ] at el
 rw [← hV, ← hZ] at H6 HLL HLT
 clear hV hZ
 cases hq : (V == Z)
 ·rw [H6.out h1 hq]
  have hv : (V != Z) = true := by unfold bne; rw [hq]; rfl
  clear H10 H6 HLL HLT HL HTT
  go_enter Tryz.func24, Tryz.ntmps24
  go_wp2_with (first | (go_at_call 42; refine (HH.out _).mono ?_; rintro e w1 ⟨rfl, hb⟩; obtain ⟨⟨n0, n1, n2, n3, n4, n5, n6⟩, hb2⟩ := HBX.out _ hb; have HB1 := Lib.hid hb2; clear hb hb2))
  go_ret
  exact ⟨rfl, HB1.out⟩
 have hv : (V != Z) = false := by unfold bne; rw [hq]; rfl
 by_cases h2 : LE = 0
 ·rw [HLT.out h1 hq h2]
  have HT2 := Lib.hid fun w' hb => HTT.out w' hb h1
  obtain rfl := h2
  clear H10 H6 HLL HLT HTT
  go_enter Tryz.func24, Tryz.ntmps24
  go_wp2_with (first | (go_at_call 42; refine (HH.out _).mono ?_; rintro e w1 ⟨rfl, hb⟩; obtain ⟨⟨n0, n1, n2, n3, n4, n5, n6⟩, hb2⟩ := HBX.out _ hb; have HB1 := Lib.hid hb2; have HBa := Lib.hid hb; clear hb hb2) | (go_at_call 43; refine (HL.out _ HB1.out).mono ?_; rintro e w2 ⟨rfl, hb⟩; obtain ⟨⟨q0, q1, q2, q3, q4, q5, q6⟩, hb2⟩ := HBX.out _ (below_trans HBa.out hb); have HB2 := Lib.hid hb2; clear hb hb2) | (go_at_call 44; refine (HT2.out _ HB2.out).mono ?_; rintro e w3 ⟨rfl, hb⟩; have HB3 := Lib.hid (below_trans HB2.out hb); clear hb))
  go_ret
  exact ⟨rfl, HB3.out⟩
 ·rw [HLL.out h1 hq h2]
  have hb0 : (LE != 0) = true := by simpa using h2
  clear H10 H6 HLL HLT HTT h2
  go_enter Tryz.func24, Tryz.ntmps24
  go_wp2_with (first | (go_at_call 42; refine (HH.out _).mono ?_; rintro e w1 ⟨rfl, hb⟩; obtain ⟨⟨n0, n1, n2, n3, n4, n5, n6⟩, hb2⟩ := HBX.out _ hb; have HB1 := Lib.hid hb2; have HBa := Lib.hid hb; clear hb hb2) | (go_at_call 43; refine (HL.out _ HB1.out).mono ?_; rintro e w2 ⟨rfl, hb⟩; have HB2 := Lib.hid (below_trans HB1.out hb); clear hb))
  go_ret
  exact ⟨rfl, HB2.out⟩
end Go.Proofs.YtfoooldkmokjpaaGreatDoor.Cm
end
