/-
  EightParts holds for every signs and every batch: each claim of a batch is read as it is where it stands in a batch by itself.
-/
import Derived.WalkKit
import Derived.ProofKit
import Derived.OpenShut
import Derived.ShutString
import Derived.Below
import Derived.Carry
import Derived.LaidMore
import Derived.Stop.Joined
import Derived.SevenTiedAt
import Derived.Deep.DeepCutAuto
import Derived.Test.YtpmnepihaljamaaGreatDoorRows
import Derived.Test.YtpmnepihaljamaaGreatDoorTie
import Derived.Test.YtpmnepihaljamaaGreatDoorCards
import Derived.Test.YtpmnepihaljamaaGreatDoorM1
import Derived.Test.YtpmnepihaljamaaGreatDoorM2
import Derived.Test.YtpmnepihaljamaaGreatDoorM3
import Derived.Test.YtpmnepihaljamaaGreatDoorM4
import Derived.Test.YtpmnepihaljamaaGreatDoorM5
import Derived.Test.YtpmnepihaljamaaGreatDoorM6
import Derived.Test.YtpmnepihaljamaaGreatDoorM7
import Derived.Test.YtpmnepihaljamaaGreatDoorM8
import Derived.Test.YtpmnepihaljamaaGreatDoorM9
import Derived.Test.YtpmnepihaljamaaGreatDoorM10
import Derived.Test.YtpmnepihaljamaaGreatDoorM11
import Derived.Test.YtpmnepihaljamaaGreatDoorM12
import Derived.Test.YtpmnepihaljamaaGreatDoorM13
import Derived.Test.YtpmnepihaljamaaGreatDoorM14
import Derived.Test.YtpmnepihaljamaaGreatDoorM15
import Derived.Test.YtpmnepihaljamaaGreatDoorM16
import Derived.Test.YtpmnepihaljamaaGreatDoorM17
import Derived.Test.YtpmnepihaljamaaGreatDoorM18
import Derived.Test.YtpmnepihaljamaaGreatDoorM19
import Derived.Test.YtpmnepihaljamaaGreatDoorM20
import Derived.Test.YtpmnepihaljamaaGreatDoorM21
import Derived.Test.YtpmnepihaljamaaGreatDoorM22
import Derived.Test.YtpmnepihaljamaaGreatDoorM23
import Derived.Test.YtpmnepihaljamaaGreatDoorM24
import Derived.Test.YtpmnepihaljamaaGreatDoorM25
import Derived.Test.YtpmnepihaljamaaGreatDoorM26
import Derived.Test.YtpmnepihaljamaaGreatDoorM27
import Derived.Test.YtpmnepihaljamaaGreatDoorM28
import Derived.Test.YtpmnepihaljamaaGreatDoorM29
import Derived.Test.YtpmnepihaljamaaGreatDoorM30
import Derived.Test.YtpmnepihaljamaaGreatDoorM31
import Derived.Test.YtpmnepihaljamaaGreatDoorM32
import Derived.Test.YtpmnepihaljamaaGreatDoorM33
import Derived.Test.YtpmnepihaljamaaGreatDoorM34
import Derived.Test.YtpmnepihaljamaaGreatDoorM35
import Derived.Test.YtpmnepihaljamaaGreatDoorM36
import Derived.Test.YtpmnepihaljamaaGreatDoorM37
import Derived.Test.YtpmnepihaljamaaGreatDoorM38
import Derived.Test.YtpmnepihaljamaaGreatDoorM39
import Derived.Test.YtpmnepihaljamaaGreatDoorM40
import Derived.Test.YtpmnepihaljamaaGreatDoorM41
namespace Go.Proofs.YtpmnepihaljamaaGreatDoor.eightParts
open Go.ChangeShapes Go.WideShapes Go.ChangeAt Go.RowKit
open Cm Eo
open Go.ChangeMaps (open_string)
open Classical
set_option linter.unusedVariables false
set_option linter.unusedSimpArgs false


theorem own : ownKnob Tryz.prog.godebug = none := by kernel_rfl

/-! ### the walk: the law returns true -/
set_option maxHeartbeats 8000000 in
theorem walk (w : World) (e0 p0 s0 : UInt8) (n1 : Int) (l1 : List Cl) (m1 : Value) (h1 : ClsAt All w m1 l1) (z1 : ∀ c ∈ l1, ClOk c) (hT : Tab w) (hD : Da.Tab w) :
    Calls Tryz.prog 8 #[dv e0 p0 s0, btv n1 m1] w fun e w' => e = .returned (.bool true) ∧ Below w.heap.size w w' := by
  have HWK := Lib.hid fun W (hW : Below w.heap.size w W) => works_any W (tab_grw hT hW) (Cm.tab_below hD hW)
  have HLi := Lib.hid fun W (hW : Below w.heap.size w W) => light_any n1 m1 l1 W (ClsAt.move h1 (Below.moves hW)) z1
  have HRg := Lib.hid fun W => rgood_any e0 p0 s0 W
  have HCl := Lib.hid fun W (hW : Below w.heap.size w W) => ClsAt.move h1 (Below.moves hW)
  have HTb := Lib.hid (And.intro hT hD)
  have HZ := Lib.hid z1
  have hb0 := below_trans (below_alloc w (.cells #[.int .u8 e0.toNat, .int .u8 p0.toNat, .int .u8 s0.toNat] 23)) (below_alloc _ (.cells #[.int .i64 n1, m1] 26))
  have HB0 := Lib.hid hb0
  have HX0 := Lib.hid (keepB (heap_alloc_new w (.cells #[.int .u8 e0.toNat, .int .u8 p0.toNat, .int .u8 s0.toNat] 23)) (below_alloc (w.alloc (.cells #[.int .u8 e0.toNat, .int .u8 p0.toNat, .int .u8 s0.toNat] 23)) (.cells #[.int .i64 n1, m1] 26)))
  have HY0 := Lib.hid (new_at' (w.alloc (.cells #[.int .u8 e0.toNat, .int .u8 p0.toNat, .int .u8 s0.toNat] 23)) (.cells #[.int .i64 n1, m1] 26) (w.heap.size + 1) (by simp))
  obtain ⟨ma, mc, rfl, f1, f2⟩ := ClsAt.form h1
  clear h1 z1 hT hD hb0
  go_enter Tryz.func8, Tryz.ntmps8
  go_upto_region 1 with fail
  generalize (w.alloc (.cells #[.int .u8 e0.toNat, .int .u8 p0.toNat, .int .u8 s0.toNat] 23)).alloc (.cells #[.int .i64 n1, .slice ma l1.length mc] 26) = w0 at *
  obtain ⟨d0, d1, d2, -⟩ := cells3 HX0.out
  obtain ⟨b0, b1, -⟩ := cells2 HY0.out
  go_wp2_with fail
  go_at_call 9
  refine (HLi.out _ HB0.out).mono ?_
  rintro x w1 ⟨⟨L, rfl, hL⟩, hb1⟩
  have HB1 := Lib.hid (below_trans HB0.out hb1)
  have HX1 := Lib.hid (keepB HX0.out hb1)
  have HY1 := Lib.hid (keepB HY0.out hb1)
  clear hb1 d0 d1 d2 b0 b1
  cases L
  · go_wp2_with (go_at_call 10; refine (HWK.out _ HB1.out).mono ?_; rintro x w9 ⟨rfl, hb9⟩; have HB9 := Lib.hid (below_trans HB1.out hb9); clear hb9)
    go_ret
    exact ⟨rfl, HB9.out⟩
  obtain ⟨hl1, hl2⟩ := hL rfl
  have HSg : Hid (batchE n1 l1 = 0 → ln (Et.segs l1) ≤ 90000 ∧ (Et.segs l1).length ≤ 100000) := fun hb => Et.segs_light n1 l1 hb hl2
  have HW := Lib.hid fun W (hW : Below w.heap.size w W) => ewrite_any e0 p0 s0 n1 _ l1 W (HCl.out W hW) HZ.out (tab_grw HTb.out.1 hW) (Cm.tab_below HTb.out.2 hW) HSg.out
  clear hL hl1 hl2 HX0 HY0 HB0 HLi HRg
  obtain ⟨d0, d1, d2, -⟩ := cells3 HX1.out
  obtain ⟨b0, b1, -⟩ := cells2 HY1.out
  by_cases h40 : 40 < l1.length
  · have h40' : (40 : Int) < (l1.length : Int) := by omega
    clear h40
    go_wp2_with (go_at_call 10; refine (HWK.out _ HB1.out).mono ?_; rintro x w9 ⟨rfl, hb9⟩; have HB9 := Lib.hid (below_trans HB1.out hb9); clear hb9)
    go_ret
    exact ⟨rfl, HB9.out⟩
  have h40' : ¬ (40 : Int) < (l1.length : Int) := by omega
  by_cases hwe : Et.wtE e0 p0 s0 n1 l1 = 0
  case neg =>
    have hne : (Et.wtE e0 p0 s0 n1 l1 != 0) = true := by simpa using hwe
    clear hwe h40
    generalize Et.wtE e0 p0 s0 n1 l1 = E0 at *
    generalize mk (Et.wtV e0 p0 s0 n1 l1) = T at *
    go_wp2_with (first | (go_at_call 11; refine (HW.out _ HB1.out).mono ?_; rintro x w4 ⟨rfl, hb4⟩; have HB4 := Lib.hid (below_trans HB1.out hb4); clear hb4) | (go_at_call 10; refine (HWK.out _ HB4.out).mono ?_; rintro x w9 ⟨rfl, hb9⟩; have HB9 := Lib.hid (below_trans HB4.out hb9); clear hb9))
    go_ret
    exact ⟨rfl, HB9.out⟩
  rw [hwe] at HW
  have HRd : Hid (∀ W l', Et.wtE e0 p0 s0 n1 l' = 0 → Below w.heap.size w W → Calls Tryz.prog 13 #[.string (mk (Et.wtV e0 p0 s0 n1 l'))] W fun x w' => (∃ u, x = .returned (.tuple #[.agg #[.int .u8 e0.toNat, .int .u8 p0.toNat, .int .u8 s0.toNat], .agg #[.int .i64 n1, u], .int .i64 0]) ∧ ClsAt (fun b => W.heap.size ≤ b) w' u l') ∧ Below W.heap.size W w') := fun W l' hw hW => by
    obtain ⟨r1, r2, r3, r4⟩ := Et.eight_back hw
    have hlen := (Et.wt_len hw).2
    have := eread_any (mk (Et.wtV e0 p0 s0 n1 l')) W (tab_grw HTb.out.1 hW) (Cm.tab_below HTb.out.2 hW) (by rw [mk_size]; unfold maxLen; omega)
    rw [mk_list, r1, r2, r3, r4] at this
    exact this
  have HRa := Lib.hid fun W hW => HRd.out W l1 hwe hW
  have HWE := Lib.hid hwe
  clear hwe h40
  generalize mk (Et.wtV e0 p0 s0 n1 l1) = T at *
  go_wp2_with fail
  go_at_call 11
  refine (HW.out _ HB1.out).mono ?_
  rintro x w4 ⟨rfl, hb4⟩
  have HB4 := Lib.hid (below_trans HB1.out hb4)
  have HX4 := Lib.hid (keepB HX1.out hb4)
  have HY4 := Lib.hid (keepB HY1.out hb4)
  clear hb4 d0 d1 d2 b0 b1 HX1 HY1 h40'
  go_wp2_with fail
  go_at_call 13
  refine (HRa.out _ HB4.out).mono ?_
  rintro x w5 ⟨⟨u, rfl, hu⟩, hb5⟩
  have HU5 := Lib.hid hu
  obtain ⟨ua, uc, rfl, -, -, -⟩ := hu
  have hb6 := below_trans (below_alloc w5 (.cells #[.int .u8 e0.toNat, .int .u8 p0.toNat, .int .u8 s0.toNat] 23)) (below_alloc _ (.cells #[.int .i64 n1, .slice ua l1.length uc] 26))
  have hb56 := below_trans hb5 hb6
  have HB6 := Lib.hid (below_trans HB4.out hb56)
  have HX6 := Lib.hid (keepB HX4.out hb56)
  have HY6 := Lib.hid (keepB HY4.out hb56)
  have HQ6 := Lib.hid (new_at' (w5.alloc (.cells #[.int .u8 e0.toNat, .int .u8 p0.toNat, .int .u8 s0.toNat] 23)) (.cells #[.int .i64 n1, .slice ua l1.length uc] 26) (w5.heap.size + 1) (by simp))
  have HU6 := Lib.hid (ClsAt.move (K' := All) HU5.out (Moves.trans (moves_weak _ fun _ _ _ => trivial) (Below.moves hb6)))
  clear hb5 hb6 hb56 HX4 HY4 HU5 HW HRa HB4 HB1
  go_upto_region 7 with fail
  generalize (w5.alloc (.cells #[.int .u8 e0.toNat, .int .u8 p0.toNat, .int .u8 s0.toNat] 23)).alloc (.cells #[.int .i64 n1, .slice ua l1.length uc] 26) = w6 at *
  obtain ⟨b0, b1, -⟩ := cells2 HY6.out
  obtain ⟨k0, k1, -⟩ := cells2 HQ6.out
  go_wp2
  clear b0 b1 k0 k1
  go_loopg [10] (l1.length) (fun g i wr => ∃ k : Nat, k ≤ l1.length ∧ g = l1.length - k ∧ i = .int .i64 k ∧ Hid (Below w6.heap.size w6 wr))
  case atStart => exact ⟨0, Nat.zero_le _, rfl, rfl, Below.refl _ _⟩
  case round =>
    obtain ⟨k, hk, hg, rfl, HB⟩ := hrel
    have HXr := Lib.hid (keepB HX6.out HB.out)
    have HYr := Lib.hid (keepB HY6.out HB.out)
    have HQr := Lib.hid (keepB HQ6.out HB.out)
    have HBr := Lib.hid (below_trans HB6.out HB.out)
    by_cases hlt : k < l1.length
    case neg =>
      obtain ⟨b0, b1, -⟩ := cells2 HYr.out
      go_wp2_with (go_at_call 10; refine (HWK.out _ HBr.out).mono ?_; rintro x w9 ⟨rfl, hb9⟩; have HB9 := Lib.hid (below_trans HBr.out hb9); clear hb9)
      go_ret
      exact ⟨rfl, HB9.out⟩
    obtain ⟨b, o, m, rfl, hx, hc, hm⟩ := ClsAt.get (HCl.out _ HBr.out) k hlt
    obtain ⟨b', o', m', rfl, -, hc', hm'⟩ := ClsAt.get (ClsAt.move HU6.out (Below.moves HB.out)) k hlt
    have hpw := Et.part_ok HWE.out k _ hx
    have hzx := HZ.out _ (List.mem_of_getElem? hx)
    have hcx := HCl.out _ HBr.out
    generalize l1[k] = x at *
    have HP : Hid (∀ W, Below wr.heap.size wr W → Calls Tryz.prog 11 #[.agg #[.int .u8 e0.toNat, .int .u8 p0.toNat, .int .u8 s0.toNat], .agg #[.int .i64 n1, .slice (some ⟨b, o + k * 7, none⟩) 1 (mc - k)]] W fun z w' => z = .returned (.tuple #[.string (mk (Et.wtV e0 p0 s0 n1 [x])), .int .i64 0]) ∧ Below W.heap.size W w') := fun W hW => by
      have hbw := below_trans HBr.out hW
      have hone : ClsAt All W (.slice (some ⟨b, o + k * 7, none⟩) 1 (mc - k)) [x] := by
        refine ⟨_, mc - k, rfl, by simp; omega, by unfold maxLen; omega, Or.inr ⟨b, o + k * 7, rfl, trivial, Nat.lt_of_lt_of_le (World.block_lt_of_cell? _ _ hc.1) hW.size, fun j y hj => ?_⟩⟩
        match j, hj with
        | 0, hj =>
          simp at hj
          subst hj
          exact ⟨m, hc.of (hW.block b (World.block_lt_of_cell? _ _ hc.1)), LnsAt.move hm (Below.moves hW)⟩
      have := ewrite_any e0 p0 s0 n1 _ [x] W hone (fun c hcm => by rw [List.mem_singleton.1 hcm]; exact hzx) (tab_grw HTb.out.1 hbw) (Cm.tab_below HTb.out.2 hbw) (fun _ => Et.wt_bound hpw)
      rw [hpw] at this
      exact this
    have HR1 := Lib.hid fun W hW => HRd.out W [x] hpw hW
    generalize mk (Et.wtV e0 p0 s0 n1 [x]) = T1 at *
    have HM' := Lib.hid hm'
    obtain ⟨na', nc', rfl, -, -⟩ := LnsAt.form hm'
    have HC' := Lib.hid hc'
    obtain ⟨d0, d1, d2, -⟩ := cells3 HXr.out
    obtain ⟨g0, g1, -⟩ := cells2 HYr.out
    have HBd := Lib.hid (Below.drew (Below.refl wr.heap.size wr))
    have HCe : Hid (∀ W, Below wr.heap.size wr W → W.cell? ⟨w.heap.size, 0, none⟩ = some (.int .u8 e0.toNat) ∧ W.cell? ⟨w.heap.size, 1, none⟩ = some (.int .u8 p0.toNat) ∧ W.cell? ⟨w.heap.size, 2, none⟩ = some (.int .u8 s0.toNat) ∧ W.cell? ⟨w.heap.size + 1, 0, none⟩ = some (.int .i64 n1) ∧ W.cell? ⟨w.heap.size + 1, 1, none⟩ = some (.slice (some ⟨b, o, none⟩) l1.length mc)) := fun W hW => by
      obtain ⟨a0, a1, a2, -⟩ := cells3 (keepB HXr.out hW)
      obtain ⟨c0, c1, -⟩ := cells2 (keepB HYr.out hW)
      exact ⟨a0, a1, a2, c0, c1⟩
    have hk1 : (k : Int) ≤ (k : Int) + 1 := by omega
    have hk2 : (k : Int) + 1 ≤ (mc : Int) := by omega
    have hk3 : 0 ≤ (k : Int) + 1 := by omega
    have hk4 : ¬ mc = k := by omega
    have hk5 : IntKind.i64.wrap ((k : Int) + 1) = (k : Int) + 1 := by rw [IntKind.wrap_i64]; omega
    have hk6 : (0 : Int) ≤ (k : Int) := by omega
    clear hm hm' hc hc' hcx hzx hx hpw
    go_wp2_with fail
    go_region_held3 (fun w' => w'.cell? ⟨w.heap.size, 0, none⟩ = some (.int .u8 e0.toNat) ∧ w'.cell? ⟨w.heap.size, 1, none⟩ = some (.int .u8 p0.toNat) ∧ w'.cell? ⟨w.heap.size, 2, none⟩ = some (.int .u8 s0.toNat) ∧ w'.cell? ⟨w.heap.size + 1, 0, none⟩ = some (.int .i64 n1) ∧ w'.cell? ⟨w.heap.size + 1, 1, none⟩ = some (.slice (some ⟨b, o, none⟩) l1.length mc)) (go_keep) (first | (go_at_call 11; refine (HP.out _ (by with_reducible exact HBd.out)).mono ?_; rintro e w7 ⟨rfl, hb⟩; have HB7 := Lib.hid (below_trans HBd.out hb); obtain ⟨r0, r1, r2, r3, r4⟩ := HCe.out _ HB7.out; clear hb))
    all_goals
      go_wp2_with fail
      go_at_call 13
      have hbw7 := below_trans HBr.out HB7.out
      refine (HR1.out _ hbw7).mono ?_
      rintro z w8 ⟨⟨v, rfl, hv⟩, hb8⟩
      have HV8 := Lib.hid hv
      obtain ⟨va, vc, rfl, -, -, -⟩ := hv
      have hb9 := below_trans (below_alloc w8 (.cells #[.int .u8 e0.toNat, .int .u8 p0.toNat, .int .u8 s0.toNat] 23)) (below_alloc _ (.cells #[.int .i64 n1, .slice va 1 vc] 26))
      have hb79 := below_trans HB7.out (below_trans hb8 hb9)
      have HB9' := Lib.hid hb79
      have HQ9 := Lib.hid (keepB HQr.out hb79)
      have HC9 := Lib.hid (HC'.out.of (hb79.block b' (World.block_lt_of_cell? _ _ HC'.out.1)))
      have HM9 := Lib.hid (LnsAt.move HM'.out (Below.moves hb79))
      have HO9 := Lib.hid (new_at' (w8.alloc (.cells #[.int .u8 e0.toNat, .int .u8 p0.toNat, .int .u8 s0.toNat] 23)) (.cells #[.int .i64 n1, .slice va 1 vc] 26) (w8.heap.size + 1) (by simp))
      have HV9 := Lib.hid (ClsAt.move (K' := All) HV8.out (Moves.trans (moves_weak _ fun _ _ _ => trivial) (Below.moves hb9)))
      clear hb8 hb9 hb79 hbw7 HV8 r0 r1 r2 r3 r4 d0 d1 d2 g0 g1 hk1 hk2 hk3 hk4 hk5 hk6 HCe HBd HP HR1 HB7
      go_upto_region 14 with fail
      generalize (w8.alloc (.cells #[.int .u8 e0.toNat, .int .u8 p0.toNat, .int .u8 s0.toNat] 23)).alloc (.cells #[.int .i64 n1, .slice va 1 vc] 26) = wa at *
      obtain ⟨b1, o1, n, rfl, -, hn, hln⟩ := ClsAt.get HV9.out 0 (by simp)
      rw [Nat.zero_mul, Nat.add_zero] at hn
      have hn' : ClCells wa b1 o1 x n := hn
      have hln' : LnsAt All wa n x.lines := hln
      have HN := Lib.hid hn'
      have HLN := Lib.hid hln'
      obtain ⟨na, nc, rfl, -, -⟩ := LnsAt.form hln'
      have HS : Hid (∀ W, Below wa.heap.size wa W → Calls Tryz.prog 18 #[clv x (.slice na x.lines.length nc), clv x (.slice na' x.lines.length nc')] W fun e w' => e = .returned (.bool true) ∧ Below W.heap.size W w') := fun W hW => by
        have := rsame_any x x _ _ W (LnsAt.move HLN.out (Below.moves hW)) (LnsAt.move HM9.out (Below.moves hW))
        rw [decide_eq_true rfl] at this
        exact this
      have HCe : Hid (∀ W, Below wa.heap.size wa W → W.cell? ⟨w8.heap.size + 1, 1, none⟩ = some (.slice (some ⟨b1, o1, none⟩) 1 vc) ∧ W.cell? ⟨w5.heap.size + 1, 1, none⟩ = some (.slice (some ⟨b', o', none⟩) l1.length uc) ∧ W.cell? ⟨b1, o1, none⟩ = some (.string (mk x.id)) ∧ W.cell? ⟨b1, o1 + 1, none⟩ = some (.string (mk x.mem)) ∧ W.cell? ⟨b1, o1 + 2, none⟩ = some (.string (mk x.fam)) ∧ W.cell? ⟨b1, o1 + 3, none⟩ = some (.int .i64 x.net) ∧ W.cell? ⟨b1, o1 + 4, none⟩ = some (.int .i64 x.does) ∧ W.cell? ⟨b1, o1 + 5, none⟩ = some (.string (mk x.ref)) ∧ W.cell? ⟨b1, o1 + 6, none⟩ = some (.slice na x.lines.length nc) ∧ W.cell? ⟨b', o' + k * 7, none⟩ = some (.string (mk x.id)) ∧ W.cell? ⟨b', o' + k * 7 + 1, none⟩ = some (.string (mk x.mem)) ∧ W.cell? ⟨b', o' + k * 7 + 2, none⟩ = some (.string (mk x.fam)) ∧ W.cell? ⟨b', o' + k * 7 + 3, none⟩ = some (.int .i64 x.net) ∧ W.cell? ⟨b', o' + k * 7 + 4, none⟩ = some (.int .i64 x.does) ∧ W.cell? ⟨b', o' + k * 7 + 5, none⟩ = some (.string (mk x.ref)) ∧ W.cell? ⟨b', o' + k * 7 + 6, none⟩ = some ((.slice na' x.lines.length nc'))) := fun W hW => by
        obtain ⟨-, c1, -⟩ := cells2 (keepB HO9.out hW)
        obtain ⟨-, c2, -⟩ := cells2 (keepB HQ9.out hW)
        obtain ⟨y0, y1, y2, y3, y4, y5, y6⟩ := HN.out.of (hW.block b1 (World.block_lt_of_cell? _ _ HN.out.1))
        obtain ⟨t0, t1, t2, t3, t4, t5, t6⟩ := HC9.out.of (hW.block b' (World.block_lt_of_cell? _ _ HC9.out.1))
        exact ⟨c1, c2, y0, y1, y2, y3, y4, y5, y6, t0, t1, t2, t3, t4, t5, t6⟩
      obtain ⟨c1, c2, y0, y1, y2, y3, y4, y5, y6, t0, t1, t2, t3, t4, t5, t6⟩ := HCe.out _ (Below.refl _ _)
      have HBe := Lib.hid (Below.drew (Below.refl wa.heap.size wa))
      have HBf := Lib.hid (below_trans HB.out HB9'.out)
      clear hn hln hn' hln' HV9
      go_region_held3 (fun w' => w'.cell? ⟨w8.heap.size + 1, 1, none⟩ = some (.slice (some ⟨b1, o1, none⟩) 1 vc) ∧ w'.cell? ⟨w5.heap.size + 1, 1, none⟩ = some (.slice (some ⟨b', o', none⟩) l1.length uc) ∧ w'.cell? ⟨b1, o1, none⟩ = some (.string (mk x.id)) ∧ w'.cell? ⟨b1, o1 + 1, none⟩ = some (.string (mk x.mem)) ∧ w'.cell? ⟨b1, o1 + 2, none⟩ = some (.string (mk x.fam)) ∧ w'.cell? ⟨b1, o1 + 3, none⟩ = some (.int .i64 x.net) ∧ w'.cell? ⟨b1, o1 + 4, none⟩ = some (.int .i64 x.does) ∧ w'.cell? ⟨b1, o1 + 5, none⟩ = some (.string (mk x.ref)) ∧ w'.cell? ⟨b1, o1 + 6, none⟩ = some (.slice na x.lines.length nc) ∧ w'.cell? ⟨b', o' + k * 7, none⟩ = some (.string (mk x.id)) ∧ w'.cell? ⟨b', o' + k * 7 + 1, none⟩ = some (.string (mk x.mem)) ∧ w'.cell? ⟨b', o' + k * 7 + 2, none⟩ = some (.string (mk x.fam)) ∧ w'.cell? ⟨b', o' + k * 7 + 3, none⟩ = some (.int .i64 x.net) ∧ w'.cell? ⟨b', o' + k * 7 + 4, none⟩ = some (.int .i64 x.does) ∧ w'.cell? ⟨b', o' + k * 7 + 5, none⟩ = some (.string (mk x.ref)) ∧ w'.cell? ⟨b', o' + k * 7 + 6, none⟩ = some ((.slice na' x.lines.length nc'))) (go_keep) (first | (go_at_call 18; refine (HS.out _ (by with_reducible exact HBe.out)).mono ?_; rintro e wb ⟨rfl, hb⟩; have HBb := Lib.hid (below_trans HBe.out hb); obtain ⟨r0, r1, r2, r3, r4, r5, r6, r7, r8, r9, r10, r11, r12, r13, r14, r15⟩ := HCe.out _ HBb.out; clear hb))
      all_goals
        go_wp2
        go_roundg (l1.length - (k + 1))
        case rel => exact ⟨k + 1, by omega, rfl, by go_num, below_trans HBf.out HBb.out⟩
        case measure => omega

/-! ### the row's step -/
theorem laidOut : laidOutB Tryz.prog = true := by kernel_rfl
set_option maxRecDepth 100000 in
theorem lifted (os : Os) (started : os.Started) (H : Type) (enc : TypeId × Value → H) :
    ReturnsInHanded {} Tryz.checked os 8 .any (fun w args => (Rows.eightPartsSpec.pre enc Tryz.prog Tryz.f8 [] false w args ∧ laidMetH Tryz.prog laidL w) ∧ sizedMet enc Tryz.prog Tryz.f8 (OpenSpec.ofChange Rows.eightPartsSpec) false w args) (Rows.eightPartsSpec.post enc Tryz.prog Tryz.f8 false true false false) := by
  refine lift own started (by kernel_rfl) Tryz.func8
    (ChangeSpec.witness_shaped (enc := enc) (C := Tryz.checked) (os := os) (X := fun w _ => laidMetH Tryz.prog laidL w) false (World.laidAll Tryz.prog os laidL) #[.agg #[.int .u8 0, .int .u8 0, .int .u8 0], .agg #[.int .i64 0, .slice none 0 0]] 8 (World.laidAll_os _ _ _)
      (World.shaped_of_ZipB (by kernel_rfl) (by kernel_rfl)) (by kernel_rfl) (by kernel_rfl) (by kernel_rfl)
      (by rw [MakeChecks.laidMetH_plain _ _ _ (by kernel_rfl)]; exact laidMet_laidAll _ (by kernel_rfl) (by kernel_rfl))) ?_
  intro W base args ds gs before hval0 hW hwt hT
  have hval : ∀ (j : Nat) t v, Tryz.f8.params[j]? = some t → args[j]? = some v → Value.okWide Tryz.prog W .any base t v := hval0
  have hW' := hW
  obtain ⟨p, q, hA0, hV, rfl, hfz, hnd⟩ := hW
  have hA : DataW.TrodAll enc Tryz.prog W 0 (fun _ => true) true Tryz.f8.params.toList args.toList ds p := hA0
  rw [Tryz.params8] at hA hval hwt
  obtain ⟨v0, vs0, d0, ds0, p0, q0, hargs, rfl, rfl, h0, r0⟩ := trodAll_cons hA
  obtain ⟨v1, vs1, d1, ds1, p1, q1, rfl, rfl, rfl, h1, r1⟩ := trodAll_cons r0
  obtain ⟨rfl, rfl, rfl⟩ := trodAll_nil r1
  obtain rfl : args = #[v0, v1] := by cases args; simp_all
  obtain ⟨rfl, rfl⟩ := trodVars_none hV
  have hwl : ∀ z, (z ∈ d0.weights Tryz.prog 23 → z ≤ reachBytes) ∧ (z ∈ d1.weights Tryz.prog 26 → z ≤ reachBytes) := fun z => by
    have h := List.all_eq_true.1 hwt z
    simp only [decide_eq_true_eq] at h
    refine ⟨fun hz => h ?_, fun hz => h ?_⟩
    all_goals
      simp only [List.cons_append, List.nil_append, List.toList_toArray, List.append_nil, DataW.weightsEach, List.mem_append]
      simp [hz]
  have k0 := h0
  have lt0 : ∀ x ∈ p0, x.block < W.heap.size := by obtain ⟨m, hm⟩ := k0; exact DataW.trod_lt m _ _ _ hm
  obtain ⟨e0, pp0, s0, rfl⟩ := open_delims (hval 0 23 v0 rfl rfl) h0
  have k1 := h1
  have lt1 : ∀ x ∈ p1, x.block < W.heap.size := by obtain ⟨m, hm⟩ := k1; exact DataW.trod_lt m _ _ _ hm
  obtain ⟨n1, l1, m1, rfl, g1, z1⟩ := open_batch (hval 1 26 v1 rfl rfl) h1 (fun z hz => (hwl z).2 hz)
  clear hA0 hval0
  refine (walk W e0 pp0 s0 n1 l1 m1 g1 z1 hT.1 hT.2).mono fun e W' ⟨he, bel⟩ => ?_
  subst he
  exact ⟨_, rfl, _, _, _, [], _, [], hW', (trodAll_cons_mk (shut_bool Tryz.underlying4 _) trodAll_mk0), (trodAll_cons_mk (Below.trod laidOut (by kernel_rfl) (of_decide_eq_true (by kernel_rfl)) k0 bel lt0) (trodAll_cons_mk (Below.trod laidOut (by kernel_rfl) (of_decide_eq_true (by kernel_rfl)) k1 bel lt1) trodAll_mk0)), rfl, bel.frame _, fun h => by cases h⟩

theorem over : Rows.eightPartsRow.holds Tryz.pinned (OpenSpec.ofChange Rows.eightPartsSpec) :=
  OpenClaim.holds_of_wide 8 Tryz.f8 rfl rfl rfl rfl rfl rfl rfl ⟨rfl, rfl, rfl, rfl, rfl⟩ rfl rfl rfl rfl rfl (by kernel_rfl) Tryz.func8 (by kernel_rfl)
    (of_decide_eq_true (by kernel_rfl)) (by unfold Func.isWrapper; first | (rw [if_pos (by decide +kernel)]; kernel_rfl) | (rw [if_neg (by decide +kernel)]; exact ⟨rfl, rfl⟩))
    (fun os started H enc _ => lifted os started H enc)

/-- The row's statement. -/
theorem proved : Rows.EightPartsSaid := over
end Go.Proofs.YtpmnepihaljamaaGreatDoor.eightParts
namespace Go.Proofs.YtpmnepihaljamaaGreatDoor
theorem eightParts_holds : Rows.EightPartsCardSaid :=
  Claim7.holds_tied_plain_at .later [] [.data, .data, .data, .data, .data, .pinned] true (true, "122e963fb66ddac7511cf8e03ec72daa6168b7b23aebada0a115fea26b40cd7f") false
    eightParts.proved (fun _ h => by cases h) (by kernel_rfl) (fun _ h => by cases h) eightParts_row_tie rfl ⟨rfl, rfl⟩ (by kernel_rfl) rfl
    (fun f fn hf hfn => by
      obtain rfl : f = 8 := Option.some.inj ((show Tryz.prog.funcNamed "leechbook/leechbooklaw08.EightParts" = some 8 by kernel_rfl).symm.trans hf) |>.symm
      obtain rfl : fn = Tryz.f8 := (Option.some.inj (Tryz.func8.symm.trans hfn)).symm
      exact ⟨by kernel_rfl, fun j t ht => by
        rw [Tryz.params8] at ht
        have hm : t ∈ [23, 26] := by simpa using Array.mem_of_getElem? ht
        have hall : ([23, 26].all fun u => !Tryz.prog.wantsStandIn u) = true := by kernel_rfl
        exact (show Tryz.prog.wantsStandIn t = false by simpa using List.all_eq_true.1 hall t hm)⟩)
    (by kernel_rfl)
#print axioms eightParts_holds
end Go.Proofs.YtpmnepihaljamaaGreatDoor
