/-
  Texts put together (merge.py): EClm, KWrap.
-/
import Derived.Lib.ItoaLen
import Derived.Test.YtpmnepihaljamaaGreatDoorM31
import Derived.Test.YtpmnepihaljamaaGreatDoorM5
import Derived.Test.YtpmnepihaljamaaGreatDoorM18
import Derived.Test.YtpmnepihaljamaaGreatDoorM15
import Derived.Test.YtpmnepihaljamaaGreatDoorM27
/-
  What eight.claimSegs answers, as a contract: a claim's segments, in new memory.
-/
section
set_option linter.unusedSimpArgs false
set_option maxRecDepth 100000
namespace Go.Proofs.YtpmnepihaljamaaGreatDoor
open Go.RowKit
open Cm (Ln Cl LnsAt ClBox clv ClOk LnOk)

theorem tx_blk {w : World} {q : Nat} (ts : List Tx) (h : w.heap[q]? = some (.cells (ts.map fun t => Value.string (mk t)).toArray 9 (0, 0))) (hm : ts.length ≤ maxLen) : TxAt All w (.slice (some ⟨q, 0, none⟩) ts.length ts.length) ts := by
  refine ⟨_, _, rfl, Nat.le_refl _, hm, Or.inr ⟨q, 0, rfl, trivial, (Array.getElem?_eq_some_iff.1 h).1, fun j x hj => ⟨.string (mk x), ?_, rfl⟩⟩⟩
  rw [Nat.zero_add, cell_of_row w q j _ 9 (0, 0) h, List.getElem?_toArray, List.getElem?_map, hj]
  rfl
theorem eseg_blk {B : Nat} (ts : List Tx) (hn : ts.length ≤ 1000) (W : World) (q : Nat) (hB : B ≤ W.heap.size) (h : W.heap[q]? = some (.cells (ts.map fun t => Value.string (mk t)).toArray 9 (0, 0))) :
    Calls Tryz.prog 21 #[.slice (some ⟨q, 0, none⟩) ts.length ts.length] W fun x w' => (∃ ga gc, x = .returned (.agg #[.slice ga ts.length gc]) ∧ SegAt B ts (.slice ga ts.length gc) w') ∧ Below W.heap.size W w' := by
  refine (eseg_any _ ts _ (tx_blk ts h (by simp only [maxLen]; omega)) hn).mono ?_
  rintro _ _ ⟨⟨u, hx, he⟩, hb⟩
  obtain ⟨ga, gc, rfl⟩ : ∃ ga gc, u = .slice ga ts.length gc := by obtain ⟨ps, h1, _⟩ := he; exact own_form h1
  exact ⟨⟨ga, gc, hx, he.mono hB⟩, hb⟩

theorem NewAt.opn {B : Nat} {gs : List Sg} {lv : Value} {w : World} (h : NewAt B gs lv w) (hne : 0 < gs.length) : ∃ (g cap : Nat) (cs : List Value), lv = .slice (some ⟨g, 0, none⟩) gs.length cap ∧ cs.length = gs.length ∧ (∀ j u, cs[j]? = some u → w.cell? ((⟨g, 0, none⟩ : Addr).add j) = some u) ∧ (∀ u ∈ cs, u.oneCell' = true) ∧ ∀ (j : Nat) u g', cs[j]? = some u → gs[j]? = some g' → ElAt (fun b => B ≤ b) w u g' := by
  obtain ⟨cs, h1, h2⟩ := h
  obtain ⟨g, cap, rfl, _, _⟩ := h1.form hne
  have hl : cs.length = gs.length := by have := h1.1; omega
  have hE : ∀ (j : Nat) u g', cs[j]? = some u → gs[j]? = some g' → ElAt (fun b => B ≤ b) w u g' := fun j u g' hu hg => by
    obtain ⟨u', hu', he⟩ := h2 j g' hg
    rw [hu] at hu'
    obtain rfl := Option.some.inj hu'
    exact ElAt.move he (moves_weak w fun _ _ hk => hk.1)
  refine ⟨g, cap, cs, rfl, hl, h1.cells rfl, fun u hu => ?_, hE⟩
  obtain ⟨j, hj⟩ := List.getElem?_of_mem hu
  have hjl : j < gs.length := by rw [← hl]; exact (List.getElem?_eq_some_iff.1 hj).1
  obtain ⟨_, _, rfl, _⟩ := hE j u _ hj (List.getElem?_eq_getElem hjl)
  rfl
theorem tot_bd (ls : List Ln) : -9223372036854775808 ≤ Cm.totV ls ∧ Cm.totV ls ≤ 9223372036854775807 := by
  unfold Cm.totV
  split
  · next h =>
    unfold Ce.sumV
    obtain ⟨g, t⟩ := (Cm.sumE_zero _ _).1 h
    have := Ce.tot_le (Cm.bil ls) ls.length g ls.length 0 (by omega)
    simp only [Ce.tot] at this
    rw [if_pos ⟨g, t⟩]
    omega
  · omega

set_option maxHeartbeats 4000000 in
theorem clm_any (k : Nat) (c : Cl) (m : Value) (w : World) (hm : LnsAt All w m c.lines) (hz : ClOk c) (hT : Tab w) (hk : k ≤ 1000000) (hml : ∀ x ∈ c.lines, x.mods.length ≤ 1000) (hll : c.lines.length ≤ 1000) :
    Calls Tryz.prog 23 #[.int .i64 (k : Int), clv c m] w fun e w' => (∃ u, e = .returned u ∧ NewAt w.heap.size (Et.clS k c) u w') ∧ Below w.heap.size w w' := by
  obtain ⟨am, cm, rfl, f1, f2⟩ := Cm.LnsAt.form hm
  have HB0 := Lib.hid (Cm.below_alloc w (.cells #[.string (mk c.id), .string (mk c.mem), .string (mk c.fam), .int .i64 c.net, .int .i64 c.does, .string (mk c.ref), .slice am c.lines.length cm] 43))
  have HBX := Lib.hid (ClBox.new w c (.slice am c.lines.length cm) 43)
  have hsz : w.heap.size < (w.alloc (.cells #[.string (mk c.id), .string (mk c.mem), .string (mk c.fam), .int .i64 c.net, .int .i64 c.does, .string (mk c.ref), .slice am c.lines.length cm] 43)).heap.size := by simp
  have HM := Lib.hid hm
  have HTo : Hid (∀ W, Below w.heap.size w W → Calls Tryz.prog 42 #[clv c (.slice am c.lines.length cm)] W fun e w' => e = .returned (.tuple #[.int .i64 (Cm.totV c.lines), .int .i64 (Cm.totE c.lines)]) ∧ Below W.heap.size W w') := fun W hW => Cm.total_any c _ W (LnsAt.move HM.out (Below.moves hW)) (by omega)
  have HEQ : Hid (Et.clS k c = [ones [Et.tHL, Lib.itoa (k : Int)], ones [Et.tNM, c.mem, c.fam], ones [Et.tCLM, c.id, Nu.moneyL (Cm.totV c.lines), Lib.itoa c.net, Lib.itoa c.does, c.ref]] ++ Et.lnsS 0 c.lines) := rfl
  have hzz := hz
  obtain ⟨z1, z2, -, -, -, -, -, z8⟩ := hzz
  have HTV : Hid (-9223372036854775808 ≤ Cm.totV c.lines ∧ Cm.totV c.lines ≤ 9223372036854775807) := tot_bd c.lines
  go_enter Tryz.func23, Tryz.ntmps23
  go_upto_region 2 with (first | (go_at_call 42; refine (HTo.out _ HB0.out).mono ?_; rintro e w0 ⟨rfl, hb⟩; have HBT := Lib.hid (below_trans HB0.out hb); have HCB := Lib.hid (HBX.out.grw hb); have hs0 := hb.size; clear hb))
  have HT0 := Lib.hid (tab_grw hT HBT.out)
  have HWk : Hid (∀ W, Below w0.heap.size w0 W → Calls Tryz.prog 22 #[.int .i64 (k : Int)] W fun e w' => e = .returned (.string (mk (Lib.itoa (k : Int)))) ∧ Below W.heap.size W w') := fun W hW => whole_any _ W (tab_grw HT0.out hW) (by omega) (by omega)
  have HWn : Hid (∀ W, Below w0.heap.size w0 W → Calls Tryz.prog 22 #[.int .i64 c.net] W fun e w' => e = .returned (.string (mk (Lib.itoa c.net))) ∧ Below W.heap.size W w') := fun W hW => whole_any _ W (tab_grw HT0.out hW) z1.1 z1.2
  have HWd : Hid (∀ W, Below w0.heap.size w0 W → Calls Tryz.prog 22 #[.int .i64 c.does] W fun e w' => e = .returned (.string (mk (Lib.itoa c.does))) ∧ Below W.heap.size W w') := fun W hW => whole_any _ W (tab_grw HT0.out hW) z2.1 z2.2
  have HMo : Hid (∀ W, Below w0.heap.size w0 W → Calls Tryz.prog 43 #[.int .i64 (Cm.totV c.lines)] W fun e w' => e = .returned (.string (mk (Nu.moneyL (Cm.totV c.lines)))) ∧ Below W.heap.size W w') := fun W hW => Nu.money_any _ HTV.out.1 HTV.out.2 W (tab_grw HT0.out hW).2.2
  generalize Lib.itoa (k : Int) = tk at *
  generalize Lib.itoa c.net = tn at *
  generalize Lib.itoa c.does = td at *
  generalize Nu.moneyL (Cm.totV c.lines) = tm at *
  generalize Cm.totV c.lines = TV at *
  generalize Cm.totE c.lines = TE at *
  have hB0 : w.heap.size ≤ w0.heap.size := by omega
  have HSh : Hid (∀ (V : World) (H : Nat), V.heap.size = H → Below w0.heap.size w0 V → ∀ W, Below (V.alloc (.cells #[.string ⟨#[72, 76]⟩, .string (mk tk)] 9)).heap.size (V.alloc (.cells #[.string ⟨#[72, 76]⟩, .string (mk tk)] 9)) W → Calls Tryz.prog 21 #[.slice (some ⟨H, 0, none⟩) 2 2] W fun x w' => (∃ ga gc, x = .returned (.agg #[.slice ga 2 gc]) ∧ SegAt w.heap.size [Et.tHL, tk] (.slice ga 2 gc) w') ∧ Below W.heap.size W w') := fun V H hH hV W hW => eseg_row (w0 := w0) (B := w.heap.size) [Et.tHL, tk] (by simp) hB0 V H hH hV W hW
  have HSc : Hid (∀ (V : World) (H : Nat), V.heap.size = H → Below w0.heap.size w0 V → ∀ W, Below (V.alloc (.cells #[.string ⟨#[67, 76, 77]⟩, .string (mk c.id), .string (mk tm), .string (mk tn), .string (mk td), .string (mk c.ref)] 9)).heap.size (V.alloc (.cells #[.string ⟨#[67, 76, 77]⟩, .string (mk c.id), .string (mk tm), .string (mk tn), .string (mk td), .string (mk c.ref)] 9)) W → Calls Tryz.prog 21 #[.slice (some ⟨H, 0, none⟩) 6 6] W fun x w' => (∃ ga gc, x = .returned (.agg #[.slice ga 6 gc]) ∧ SegAt w.heap.size [Et.tCLM, c.id, tm, tn, td, c.ref] (.slice ga 6 gc) w') ∧ Below W.heap.size W w') := fun V H hH hV W hW => eseg_row (w0 := w0) (B := w.heap.size) [Et.tCLM, c.id, tm, tn, td, c.ref] (by simp) hB0 V H hH hV W hW
  have HSn : Hid (∀ (W : World) (q : Nat), Below w0.heap.size w0 W → W.heap[q]? = some (.cells #[.string ⟨#[78, 77]⟩, .string (mk c.mem), .string (mk c.fam)] 9 (0, 0)) → Calls Tryz.prog 21 #[.slice (some ⟨q, 0, none⟩) 3 3] W fun x w' => (∃ ga gc, x = .returned (.agg #[.slice ga 3 gc]) ∧ SegAt w.heap.size [Et.tNM, c.mem, c.fam] (.slice ga 3 gc) w') ∧ Below W.heap.size W w') := fun W q hW hq => eseg_blk (B := w.heap.size) [Et.tNM, c.mem, c.fam] (by simp) W q (by have := hW.size; omega) hq
  have HCs : Hid (∀ W, Below w0.heap.size w0 W → ClBox W w.heap.size c (.slice am c.lines.length cm) ∧ w.heap.size < W.heap.size) := fun W hW => ⟨HCB.out.grw hW, by have := hW.size; omega⟩
  have HDR : Hid ((w0.alloc (.cells #[.string ⟨#[78, 77]⟩, .string (mk c.mem), .string (mk c.fam)] 9)).drew.heap[w0.heap.size]? = some (.cells #[.string ⟨#[78, 77]⟩, .string (mk c.mem), .string (mk c.fam)] 9 (0, 0))) := heap_alloc_new w0 _
  have HDA : Hid (∀ (W : World) (o : Obj), (W.alloc o).heap.size = W.heap.size + 1) := fun W o => by simp
  have HBd := Lib.hid (Below.drew (Below.refl w0.heap.size w0))
  have HBn := Lib.hid (Below.drew (below_alloc w0 (.cells #[.string ⟨#[78, 77]⟩, .string (mk c.mem), .string (mk c.fam)] 9)))
  obtain ⟨⟨c0, c1, c2, c3, c4, c5, c6⟩, -⟩ := HCs.out _ (Below.refl _ _)
  have n0 : w.heap.size ≠ w0.heap.size := by omega
  go_cut [7] (fun s7 wx => ∃ q7 : Nat, s7 = .slice (some ⟨q7, 0, none⟩) 3 3 ∧ Hid (NewAt w.heap.size [ones [Et.tHL, tk], ones [Et.tNM, c.mem, c.fam], ones [Et.tCLM, c.id, tm, tn, td, c.ref]] (.slice (some ⟨q7, 0, none⟩) 3 3) wx) ∧ Hid (Below w0.heap.size w0 wx))
  case first =>
    go_region_held3 (fun w' => w'.cell? ⟨w.heap.size, 0, none⟩ = some (.string (mk c.id)) ∧ w'.cell? ⟨w.heap.size, 1, none⟩ = some (.string (mk c.mem)) ∧ w'.cell? ⟨w.heap.size, 2, none⟩ = some (.string (mk c.fam)) ∧ w'.cell? ⟨w.heap.size, 3, none⟩ = some (.int .i64 c.net) ∧ w'.cell? ⟨w.heap.size, 4, none⟩ = some (.int .i64 c.does) ∧ w'.cell? ⟨w.heap.size, 5, none⟩ = some (.string (mk c.ref))) (go_keep) (first | (go_at_call 22; refine (HWd.out w5 HB5.out).mono ?_; rintro e w6 ⟨rfl, hb⟩; have HB6 := Lib.hid (below_trans HB5.out hb); have HH6 := Lib.hid (HH5.out.grw hb); have HN6 := Lib.hid (HN5.out.grw hb); obtain ⟨⟨e60, e61, e62, e63, e64, e65, -⟩, e67⟩ := HCs.out _ HB6.out; clear hb) | (go_at_call 22; refine (HWn.out w4 HB4.out).mono ?_; rintro e w5 ⟨rfl, hb⟩; have HB5 := Lib.hid (below_trans HB4.out hb); have HH5 := Lib.hid (HH4.out.grw hb); have HN5 := Lib.hid (HN4.out.grw hb); obtain ⟨⟨e50, e51, e52, e53, e54, e55, -⟩, e57⟩ := HCs.out _ HB5.out; clear hb) | (go_at_call 22; refine (HWk.out _ ?_).mono ?_; (first | with_reducible exact HBd.out | with_reducible exact HBn.out); rintro e w1 ⟨rfl, hb⟩; have HB1 := Lib.hid (below_trans (show Below w0.heap.size w0 _ by first | with_reducible exact HBd.out | with_reducible exact HBn.out) hb); obtain ⟨⟨e10, e11, e12, e13, e14, e15, -⟩, e17⟩ := HCs.out _ HB1.out; have n1 : w.heap.size ≠ w1.heap.size := (by omega); (first | have HZ1 : Hid (w1.heap[w0.heap.size]? = some (.cells #[.string ⟨#[78, 77]⟩, .string (mk c.mem), .string (mk c.fam)] 9 (0, 0))) := (by with_reducible exact Lib.hid (keepB HDR.out hb)) | have HZ1 := Lib.hid trivial); clear hb) | (go_at_call 21; refine (HSc.out w6 _ rfl HB6.out _ (Below.refl _ _)).mono ?_; rintro e w7 ⟨⟨ga7, gc7, rfl, hs⟩, hb⟩; have HE7 := Lib.hid hs; clear hs; have hbb := below_trans (below_alloc w6 _) hb; have HB7 := Lib.hid (below_trans HB6.out hbb); have HH7 := Lib.hid (HH6.out.grw hbb); have HN7 := Lib.hid (HN6.out.grw hbb); obtain ⟨⟨e70, e71, e72, e73, e74, e75, -⟩, e77⟩ := HCs.out _ HB7.out; clear hb hbb) | (go_at_call 21; (first | refine (HSn.out w2 _ HB2.out HZ2.out).mono ?_ | refine (HSn.out (w2.alloc (.cells #[.string ⟨#[78, 77]⟩, .string (mk c.mem), .string (mk c.fam)] 9)) _ (below_trans HB2.out (below_alloc _ _)) (new_at w2 (.cells #[.string ⟨#[78, 77]⟩, .string (mk c.mem), .string (mk c.fam)] 9) w2.heap.size rfl)).mono ?_); rintro e w3 ⟨⟨ga3, gc3, rfl, hs⟩, hb⟩; have HE3 := Lib.hid hs; clear hs; have hbb : Below w2.heap.size w2 w3 := (by first | with_reducible exact hb | with_reducible exact below_trans (below_alloc _ _) hb); have HB3 := Lib.hid (below_trans HB2.out hbb); have HH3 := Lib.hid (HE2.out.grw hbb); obtain ⟨⟨e30, e31, e32, e33, e34, e35, -⟩, e37⟩ := HCs.out _ HB3.out; clear hb hbb) | (go_at_call 21; (first | (refine (HSh.out w1 _ ?_ HB1.out _ ?_).mono ?_; (first | with_reducible rfl | (simp; done)); (first | with_reducible exact Below.refl _ _ | with_reducible exact below_alloc _ _)) | (refine (HSh.out (w1.alloc (.cells #[.string ⟨#[78, 77]⟩, .string (mk c.mem), .string (mk c.fam)] 9)) _ ?_ (below_trans HB1.out (below_alloc _ _)) _ ?_).mono ?_; exact HDA.out _ _; (first | with_reducible exact Below.refl _ _ | with_reducible exact below_alloc _ _))); rintro e w2 ⟨⟨ga2, gc2, rfl, hs⟩, hb⟩; have HE2 := Lib.hid hs; clear hs; have HB2 : Hid (Below w0.heap.size w0 w2) := Lib.hid (by first | with_reducible exact below_trans HB1.out (below_trans (below_alloc _ _) hb) | with_reducible exact below_trans HB1.out (below_trans (below_alloc _ _) (below_trans (below_alloc _ _) hb))); obtain ⟨⟨e20, e21, e22, e23, e24, e25, -⟩, e27⟩ := HCs.out _ HB2.out; have n2 : w.heap.size ≠ w2.heap.size := (by omega); (first | have HZ2 : Hid (w2.heap[w0.heap.size]? = some (.cells #[.string ⟨#[78, 77]⟩, .string (mk c.mem), .string (mk c.fam)] 9 (0, 0))) := (by with_reducible exact Lib.hid (keepB (keepB HZ1.out (below_alloc _ _)) hb)) | have HZ2 : Hid (w2.heap[w1.heap.size]? = some (.cells #[.string ⟨#[78, 77]⟩, .string (mk c.mem), .string (mk c.fam)] 9 (0, 0))) := (by with_reducible exact Lib.hid (keepB (keepB (new_at w1 (.cells #[.string ⟨#[78, 77]⟩, .string (mk c.mem), .string (mk c.fam)] 9) w1.heap.size rfl) (below_alloc _ _)) hb)) | have HZ2 : Hid (w2.heap[w1.heap.size + 1]? = some (.cells #[.string ⟨#[78, 77]⟩, .string (mk c.mem), .string (mk c.fam)] 9 (0, 0))) := (by with_reducible exact Lib.hid (keepB (new_at (w1.alloc _) (.cells #[.string ⟨#[78, 77]⟩, .string (mk c.mem), .string (mk c.fam)] 9) (w1.heap.size + 1) (HDA.out _ _)) hb)) | have HZ2 := Lib.hid trivial); clear hb) | (go_at_call 43; refine (HMo.out w3 HB3.out).mono ?_; rintro e w4 ⟨rfl, hb⟩; have HB4 := Lib.hid (below_trans HB3.out hb); have HH4 := Lib.hid (HH3.out.grw hb); have HN4 := Lib.hid (HE3.out.grw hb); obtain ⟨⟨e40, e41, e42, e43, e44, e45, -⟩, e47⟩ := HCs.out _ HB4.out; clear hb))
    all_goals
      go_wp2_with fail
      go_meet
      refine ⟨w7.heap.size, rfl, ?_, below_trans HB7.out (below_alloc _ _)⟩
      refine NewAt.laid [.slice ga2 2 gc2, .slice ga3 3 gc3, .slice ga7 6 gc7] _ (by have := HB7.out.size; omega) rfl (by simp [maxLen]) fun j u gg hu hg => ?_
      match j, hu, hg with
      | 0, hu, hg => simp at hu hg; subst hu hg; exact HH7.out.els
      | 1, hu, hg => simp at hu hg; subst hu hg; exact HN7.out.els
      | 2, hu, hg => simp at hu hg; subst hu hg; exact HE7.out.els
  case rest =>
    obtain ⟨q7, rfl, HN7, HB7⟩ := hcut
    clear HSh HSc HSn HCs HDR HDA HBd HBn HWk HWn HWd HMo HTo n0 c0 c1 c2 c3 c4 c5 c6
    obtain ⟨i47, j1, j2, j3, j4⟩ := info47
    have HSv : Hid (∀ (W : World) (j : Nat) (x : Ln) (mv : Value), Below w.heap.size w W → TxAt All W mv x.mods → x ∈ c.lines → j ≤ 1000000 → Calls Tryz.prog 44 #[.int .i64 (j : Int), Cm.lnv x mv] W fun e w' => (∃ u, e = .returned u ∧ NewAt W.heap.size (Et.lnS j x) u w') ∧ Below W.heap.size W w') := fun W j x mv hW hx hxm hj => svc_any j x mv W hx (z8 x hxm) (tab_grw hT hW) hj (hml x hxm)
    have HLs : Hid (∀ W, Below w.heap.size w W → LnsAt All W (.slice am c.lines.length cm) c.lines) := fun W hW => LnsAt.move HM.out (Below.moves hW)
    have HBx : Hid (∀ W, Below w0.heap.size w0 W → W.cell? ⟨w.heap.size, 6, none⟩ = some (.slice am c.lines.length cm)) := fun W hW => (HCB.out.grw hW).2.2.2.2.2.2
    have v6 := HBx.out _ HB7.out
    have HBW := Lib.hid (below_trans HBT.out HB7.out)
    obtain ⟨G3, hG3, hG3l⟩ : ∃ G3 : List Sg, G3 = [ones [Et.tHL, tk], ones [Et.tNM, c.mem, c.fam], ones [Et.tCLM, c.id, tm, tn, td, c.ref]] ∧ G3.length = 3 := ⟨_, rfl, rfl⟩
    rw [← hG3] at HN7 HEQ
    clear hG3 z1 z2 z8 hT hz hml hm
    go_wp2
    go_loopg [7, 43] (c.lines.length) (fun gg lv i wr => ∃ (j : Nat) (gs : List Sg), j ≤ c.lines.length ∧ gg = c.lines.length - j ∧ i = .int .i64 j ∧ gs.length ≤ 3 + 4 * j ∧ w.heap.size ≤ wr.heap.size ∧ Hid (gs = G3 ++ Et.lnsS 0 (c.lines.take j)) ∧ Hid (NewAt w.heap.size gs lv wr) ∧ Hid (Below w.heap.size w wr))
    case atStart => exact ⟨0, G3, Nat.zero_le _, rfl, rfl, by omega, HBW.out.size, by show _ = _; simp [Et.lnsS], HN7.out, HBW.out⟩
    case round =>
      obtain ⟨j, gs, hj, hgj, rfl, hgl, hsw, HGS, HN, HB⟩ := hrel
      obtain ⟨la, lc, rfl⟩ := HN.out.form
      by_cases hlt : j < c.lines.length
      case neg =>
        have hall : c.lines.take j = c.lines := List.take_of_length_le (by omega)
        have HF : Hid (gs = Et.clS k c) := by show _ = _; rw [HGS.out, hall, HEQ.out]
        clear hall
        go_wp2
        go_ret
        exact ⟨⟨_, rfl, by rw [← HF.out]; exact HN.out⟩, HB.out⟩
      obtain ⟨bl, ol, mv, ha, hx, hc, hr⟩ := LnsAt.get (HLs.out _ HB.out) j hlt
      obtain rfl := ha
      have HXM := Lib.hid (List.mem_of_getElem? hx)
      have HSN := Lib.hid (Et.lnsS_snoc c.lines j _ hx)
      obtain ⟨c0, c1, c2, c3, c4, c5⟩ := hc
      obtain ⟨ma, mc, rfl, g1, g2⟩ := Cm.TxAt.form hr
      have HR := Lib.hid hr
      clear hx hr
      have hbx := below_alloc wr (.cells #[.string (mk c.lines[j].proc), .slice ma c.lines[j].mods.length mc, .int .i64 c.lines[j].date, .int .i64 c.lines[j].units, .int .i64 c.lines[j].billed, .int .i64 c.lines[j].prior] 47)
      have HBb := Lib.hid (below_trans HB.out hbx)
      have HNb := Lib.hid (HN.out.grw hbx)
      have HCall := Lib.hid (HSv.out _ (j + 1) c.lines[j] _ HBb.out (TxAt.move HR.out (Below.moves hbx)) HXM.out (by omega))
      have HLL := Et.lnS_len (j + 1) c.lines[j]
      have hlp : 0 < (Et.lnS (j + 1) c.lines[j]).length ∧ (Et.lnS (j + 1) c.lines[j]).length ≤ 4 := by rw [HLL]; split <;> omega
      have HHL := Lib.hid hlp
      clear HLL hlp hbx
      generalize hLS : Et.lnS (j + 1) c.lines[j] = LS at *
      have HLS := Lib.hid hLS
      clear hLS
      go_wp2_with fail
      go_at_call 44
      refine HCall.out.mono ?_
      rintro e w1 ⟨⟨u, rfl, hnew⟩, hb⟩
      have HB1 := Lib.hid (below_trans HBb.out hb)
      have HN1 := Lib.hid (HNb.out.grw hb)
      obtain ⟨gu, cu, ns, rfl, e1, e2, e3, e4⟩ := NewAt.opn hnew HHL.out.1
      have E1 := Lib.hid e1
      have E2 := Lib.hid e2
      have E3 := Lib.hid e3
      have E4 := Lib.hid e4
      obtain ⟨cs, d1, d2⟩ := HN1.out
      have HO := Lib.hid d1
      have HP := Lib.hid d2
      have hsz := HB1.out.size
      have hln := HHL.out.2
      clear hnew hb e1 e2 e3 e4 d1 d2
      go_wp2_with (at_builtin; refine wpList_append_own_at _ (by rfl) _ _ 53 (by rfl) w.heap.size 50 i47 (.agg #[.slice none 0 0]) 1 24 Tryz.underlying53 j1 j2 j3 j4 (by rfl) (by omega) (.slice la gs.length lc) gs.length cs (by rfl) HO.out ⟨gu, 0, none⟩ LS.length cu ns (by rfl) ?c1 E2.out E3.out ?c3 ?c4 ?c5 ?_)
      case c1 => rw [E1.out, Nat.mul_one]
      case c3 => simp only [maxLen]; omega
      case c4 => omega
      case c5 => exact hsz
      intro lv2 w2 hown hgrow hnil hat
      have HD2 := Lib.hid (NewAt.app (l := LS) (news := ns) HO.out HP.out E1.out (fun j u g hu hg => new_apart HNb.out (E4.out j u g hu hg) (by have := HBb.out.size; exact this)) hown hgrow (by simpa using hat))
      have HB2 := Lib.hid (HB1.out.grown hgrow hsz fun k hk => (HO.out.lt k hk).1)
      have hgl2 : (gs ++ LS).length ≤ 3 + 4 * (j + 1) := by rw [List.length_append]; omega
      have HG2 := Lib.hid hgl2
      obtain ⟨la2, lc2, rfl⟩ := own_form hown
      clear hown hgrow hnil hat hgl2
      go_wp2
      go_roundg (c.lines.length - (j + 1))
      case rel => exact ⟨j + 1, gs ++ LS, by omega, rfl, by go_num, HG2.out, HB2.out.size, by show _ = _; rw [HSN.out, HGS.out, List.append_assoc], HD2.out, HB2.out⟩
      case measure => omega
end Go.Proofs.YtpmnepihaljamaaGreatDoor
end

/-
  What cover.Wrap answers, as a contract.
-/
section
set_option linter.unusedSimpArgs false
namespace Go.Proofs.YtpmnepihaljamaaGreatDoor
open Go.RowKit

theorem ln_append (a b : List Sg) : ln (a ++ b) = ln a + ln b := by simp [ln]
theorem ln_seg3 (a b c : Tx) : ln [seg3 a b c] = 3 + a.length + b.length + c.length := by simp [ln, seg3]; omega
theorem kind_len {k : Tx} (h : kindB k = true) : k.length = 3 := by
  simp only [kindB, Bool.and_eq_true, decide_eq_true_eq] at h
  exact h.1
theorem ln_abt (k : Tx) (n : Int) (l : List Sg) (hk : k.length = 3) (h0 : 0 ≤ n) (h1 : n ≤ 999999999) (hl : l.length ≤ 100000) : ln (abt k n l) ≤ ln l + 200 := by
  have e : abt k n l = [seg3 tGS k (Lib.itoa n)] ++ ([seg3 tST k (Lib.itoa n)] ++ (l ++ ([seg3 tSE (Lib.itoa ((l.length : Int) + 2)) (Lib.itoa n)] ++ ([seg3 tGE t1 (Lib.itoa n)] ++ [seg3 tIEA t1 (Lib.itoa n)])))) := rfl
  have l1 := Lib.itoa_length_le n (by omega) (by omega)
  have l2 := Lib.itoa_length_le ((l.length : Int) + 2) (by omega) (by omega)
  rw [e, ln_append, ln_append, ln_append, ln_append, ln_append, ln_seg3, ln_seg3, ln_seg3, ln_seg3, ln_seg3, hk]
  have e1 : tGS.length = 2 := rfl
  have e2 : tST.length = 2 := rfl
  have e3 : tSE.length = 2 := rfl
  have e4 : tGE.length = 2 := rfl
  have e5 : tIEA.length = 3 := rfl
  have e6 : t1.length = 1 := rfl
  omega
theorem wp_notOk {e p s : UInt8} {k : Tx} {n : Int} (l : List Sg) (h : wpOk e p s k n = false) : wpV e p s k n l = [] ∧ wpE e p s k n l = 1 := by
  have : wpE e p s k n l = 1 := by unfold wpE; rw [if_pos h]
  exact ⟨wp_bad (by rw [this]; decide), this⟩
theorem wp_ok {e p s : UInt8} {k : Tx} {n : Int} (hg : goodB e p s = true) (hk : kindB k = true) (h0 : 0 ≤ n) (h1 : n ≤ 999999999) : wpOk e p s k n = true := by simp [wpOk, hg, hk, h0, h1]
theorem wp_notW {e p s : UInt8} {k : Tx} {n : Int} {l : List Sg} (h : wpOk e p s k n = true) (hw : wrOk e p s (abt k n l) = false) : wpV e p s k n l = [] ∧ wpE e p s k n l = 1 := by
  have : wpE e p s k n l = 1 := by unfold wpE; rw [h, hw]; rfl
  exact ⟨wp_bad (by rw [this]; decide), this⟩
theorem wp_long {e p s : UInt8} {k : Tx} {n : Int} {l : List Sg} (h : wpOk e p s k n = true) (hw : wrOk e p s (abt k n l) = true) (hl : 65536 < (wrT e p s (abt k n l)).length + 6) : wpV e p s k n l = [] ∧ wpE e p s k n l = 10 := by
  have : wpE e p s k n l = 10 := by unfold wpE; rw [h, hw, if_pos hl]; rfl
  exact ⟨wp_bad (by rw [this]; decide), this⟩
theorem sgs_three {w : World} {v1 v2 v3 : Value} {l1 l2 l3 : List Sg} (h1 : SgAt All w v1 l1) (h2 : SgAt All w v2 l2) (h3 : SgAt All w v3 l3) : SgsAt (w.alloc (.cells #[v1, v2, v3] 53)) (.slice (some ⟨w.heap.size, 0, none⟩) 3 3) [l1, l2, l3] := by
  refine row_new (R := SgAt All) w [v1, v2, v3] [l1, l2, l3] 53 rfl (by simp only [maxLen]; simp) fun j u x hu hx => ?_
  have hm := Below.moves (below_alloc w (.cells #[v1, v2, v3] 53))
  match j, hu, hx with
  | 0, hu, hx => simp at hu hx; subst hu hx; exact SgAt.move h1 hm
  | 1, hu, hx => simp at hu hx; subst hu hx; exact SgAt.move h2 hm
  | 2, hu, hx => simp at hu hx; subst hu hx; exact SgAt.move h3 hm
theorem abt_flat (k : Tx) (n : Int) (l : List Sg) : [fore k (Lib.itoa n), l, aft l.length (Lib.itoa n)].flatten = abt k n l := by simp [abt]

set_option maxHeartbeats 4000000 in
set_option maxRecDepth 100000 in
theorem wrap_any (e p s : UInt8) (kk : ByteArray) (n : Int) (v : Value) (l : List Sg) (w : World) (h : SgAt All w v l) (hT : Tab w) (n0 : -9223372036854775808 ≤ n) (n1 : n ≤ 9223372036854775807) (hl : l.length ≤ 100000) (hln : ln l ≤ 90000) :
    Calls Tryz.prog 24 #[dv e p s, .string kk, .int .i64 n, v] w fun x w' => x = .returned (.tuple #[.string (mk (wpV e p s kk.data.toList n l)), .int .i64 (wpE e p s kk.data.toList n l)]) ∧ Below w.heap.size w w' := by
  have HGd := Lib.hid fun W => good_any e p s W
  have HKi := Lib.hid fun W => kind_any kk W
  have HBa := Lib.hid (below_alloc w (.cells #[.int .u8 e.toNat, .int .u8 p.toNat, .int .u8 s.toNat] 23))
  have HBX := Lib.hid (DBox.new w e p s)
  have HSg : Hid (SgAt All w v l) := h
  have HTb := Lib.hid hT
  obtain ⟨av, cv, rfl, hc1, hc2, -⟩ := h
  unfold maxLen at hc2
  clear hT
  cases hg : goodB e p s
  · rw [hg] at HGd
    have HV := Lib.hid (wp_notOk (k := kk.data.toList) (n := n) l (show wpOk e p s kk.data.toList n = false by simp [wpOk, hg]))
    clear hg
    go_enter Tryz.func24, Tryz.ntmps24
    go_wp2_with (first | (go_at_call 45; refine (HGd.out _).mono ?_; rintro x w1 ⟨rfl, hb⟩; have HB1 := Lib.hid (below_trans HBa.out hb); clear hb))
    go_ret2
    exact ⟨by rw [HV.out.1, HV.out.2]; rfl, HB1.out⟩
  rw [hg] at HGd
  cases hk : kindB kk.data.toList
  · rw [hk] at HKi
    have HV := Lib.hid (wp_notOk (k := kk.data.toList) (n := n) l (show wpOk e p s kk.data.toList n = false by simp [wpOk, hk]))
    clear hg hk
    go_enter Tryz.func24, Tryz.ntmps24
    go_wp2_with (first | (go_at_call 45; refine (HGd.out _).mono ?_; rintro x w1 ⟨rfl, hb⟩; have HB1 := Lib.hid (below_trans HBa.out hb); clear hb) | (go_at_call 46; refine (HKi.out _).mono ?_; rintro x w2 ⟨rfl, rfl⟩))
    go_ret2
    exact ⟨by rw [HV.out.1, HV.out.2]; rfl, HB1.out⟩
  rw [hk] at HKi
  by_cases h0 : n < 0
  · have HV := Lib.hid (wp_notOk (k := kk.data.toList) (n := n) l (show wpOk e p s kk.data.toList n = false by simp [wpOk]; omega))
    clear hg hk
    go_enter Tryz.func24, Tryz.ntmps24
    go_wp2_with (first | (go_at_call 45; refine (HGd.out _).mono ?_; rintro x w1 ⟨rfl, hb⟩; have HB1 := Lib.hid (below_trans HBa.out hb); clear hb) | (go_at_call 46; refine (HKi.out _).mono ?_; rintro x w2 ⟨rfl, rfl⟩))
    go_ret2
    exact ⟨by rw [HV.out.1, HV.out.2]; rfl, HB1.out⟩
  by_cases h9 : 999999999 < n
  · have HV := Lib.hid (wp_notOk (k := kk.data.toList) (n := n) l (show wpOk e p s kk.data.toList n = false by simp [wpOk]; omega))
    clear hg hk
    go_enter Tryz.func24, Tryz.ntmps24
    go_wp2_with (first | (go_at_call 45; refine (HGd.out _).mono ?_; rintro x w1 ⟨rfl, hb⟩; have HB1 := Lib.hid (below_trans HBa.out hb); clear hb) | (go_at_call 46; refine (HKi.out _).mono ?_; rintro x w2 ⟨rfl, rfl⟩))
    go_ret2
    exact ⟨by rw [HV.out.1, HV.out.2]; rfl, HB1.out⟩
  have hok := wp_ok hg hk (show 0 ≤ n by omega) (show n ≤ 999999999 by omega)
  have hla := ln_abt kk.data.toList n l (kind_len hk) (by omega) (by omega) hl
  have HIn : Hid (∀ W, Below w.heap.size w W → Calls Tryz.prog 41 #[.int .i64 n] W fun e w' => e = .returned (.string (mk (Lib.itoa n))) ∧ Below W.heap.size W w') := fun W hW => Nu.int_any n n0 n1 W (tab_grw HTb.out hW).2.2
  have hA := fun W => ahead_any kk.data.toList (Lib.itoa n) W
  rw [mk_of] at hA
  have HAh := Lib.hid hA
  have HBh : Hid (∀ W, Below w.heap.size w W → Calls Tryz.prog 50 #[.int .i64 l.length, .string (mk (Lib.itoa n))] W fun x w' => (∃ b, x = .returned (.slice (some ⟨b, 0, none⟩) 3 3) ∧ SgAt All w' (.slice (some ⟨b, 0, none⟩) 3 3) (aft l.length (Lib.itoa n))) ∧ Below W.heap.size W w') := fun W hW => behind_any l.length (Lib.itoa n) W (tab_grw HTb.out hW) (by omega)
  have HCc : Hid (∀ W v1 v2, SgAt All W v1 (fore kk.data.toList (Lib.itoa n)) → SgAt All W (.slice av l.length cv) l → SgAt All W v2 (aft l.length (Lib.itoa n)) → Calls Tryz.prog 48 #[.slice (some ⟨W.heap.size, 0, none⟩) 3 3] (W.alloc (.cells #[v1, .slice av l.length cv, v2] 53)) fun x w' => (∃ u, x = .returned u ∧ SgAt All w' u (abt kk.data.toList n l)) ∧ Below W.heap.size W w') := fun W v1 v2 h1 h2 h3 => by
    have hc := concat_any _ _ _ (sgs_three h1 h2 h3) (by rw [abt_flat, abt_len]; omega) (by rw [abt_flat, abt_len]; omega)
    rw [abt_flat] at hc
    exact hc.mono fun x w' ⟨a, b⟩ => ⟨a, below_trans (below_alloc W _) b⟩
  have HWr := Lib.hid fun W u h => write_any e p s u (abt kk.data.toList n l) W h (by omega)
  have HHd := Lib.hid fun W => head_any e p s W
  have HSW : Hid (∀ W, Below w.heap.size w W → SgAt All W (.slice av l.length cv) l) := fun W hW => SgAt.move HSg.out (Below.moves hW)
  have HDX : Hid (∀ W, Below (w.alloc (.cells #[.int .u8 e.toNat, .int .u8 p.toNat, .int .u8 s.toNat] 23)).heap.size (w.alloc (.cells #[.int .u8 e.toNat, .int .u8 p.toNat, .int .u8 s.toNat] 23)) W → (W.cell? ⟨w.heap.size, 0, none⟩ = some (.int .u8 e.toNat) ∧ W.cell? ⟨w.heap.size, 1, none⟩ = some (.int .u8 p.toNat) ∧ W.cell? ⟨w.heap.size, 2, none⟩ = some (.int .u8 s.toNat)) ∧ Below w.heap.size w W) := fun W hW => ⟨(DBox.grw HBX.out hW).2, below_trans HBa.out hW⟩
  have HRef : Hid (∀ W : World, Below W.heap.size W W.drew) := fun W => Below.drew (Below.refl _ W)
  have HE0 := Lib.hid (Below.refl (w.alloc (.cells #[.int .u8 e.toNat, .int .u8 p.toNat, .int .u8 s.toNat] 23)).heap.size (w.alloc (.cells #[.int .u8 e.toNat, .int .u8 p.toNat, .int .u8 s.toNat] 23)))
  have HLA := Lib.hid hla
  clear hA hg hk hla
  go_enter Tryz.func24, Tryz.ntmps24
  go_upto_region 4 with (first | (go_at_call 45; refine (HGd.out _).mono ?_; rintro x w1 ⟨rfl, hb⟩; have HB1 := Lib.hid (below_trans HE0.out hb); clear hb) | (go_at_call 46; refine (HKi.out _).mono ?_; rintro x w2 ⟨rfl, rfl⟩) | (go_at_call 41; refine (HIn.out _ (HDX.out _ HB1.out).2).mono ?_; rintro x w3 ⟨rfl, hb⟩; have HB3 := Lib.hid (below_trans HB1.out hb); clear hb))
  obtain ⟨⟨d0, d1, d2⟩, -⟩ := HDX.out _ HB3.out
  have HB3d := Lib.hid (below_trans HB3.out (HRef.out w3))
  go_region_held3 (fun w' => w'.cell? ⟨w.heap.size, 0, none⟩ = some (.int .u8 e.toNat) ∧ w'.cell? ⟨w.heap.size, 1, none⟩ = some (.int .u8 p.toNat) ∧ w'.cell? ⟨w.heap.size, 2, none⟩ = some (.int .u8 s.toNat)) (go_keep) (first | (go_at_call 49; refine (HAh.out _).mono ?_; rintro x w4 ⟨⟨ab, rfl, hs⟩, hb⟩; have HS4 := Lib.hid hs; have HB4 := Lib.hid (below_trans HB3d.out hb); obtain ⟨⟨r0, r1, r2⟩, -⟩ := HDX.out _ HB4.out; clear hb hs) | (go_at_call 50; refine (HBh.out _ (HDX.out _ HB4.out).2).mono ?_; rintro x w5 ⟨⟨bb, rfl, hs⟩, hb⟩; have HS5 := Lib.hid hs; have HS4b := Lib.hid (SgAt.move HS4.out (Below.moves hb)); have HB5 := Lib.hid (below_trans HB4.out hb); obtain ⟨⟨r0, r1, r2⟩, -⟩ := HDX.out _ HB5.out; clear hb hs) | (go_at_call 48; refine (HCc.out _ _ _ HS4b.out (HSW.out _ (HDX.out _ HB5.out).2) HS5.out).mono ?_; rintro x w6 ⟨⟨u, rfl, hs⟩, hb⟩; have HS6 := Lib.hid hs; have HB6 := Lib.hid (below_trans HB5.out hb); obtain ⟨⟨r0, r1, r2⟩, -⟩ := HDX.out _ HB6.out; clear hb; obtain ⟨ua, uc, rfl, -, -, -⟩ := hs) | (go_at_call 47; refine (HWr.out _ _ HS6.out).mono ?_; rintro x w7 ⟨rfl, hb⟩; have HB7 := Lib.hid (below_trans HB6.out hb); obtain ⟨⟨r0, r1, r2⟩, -⟩ := HDX.out _ HB7.out; clear hb))
  clear d0 d1 d2
  obtain ⟨⟨d0, d1, d2⟩, hbw⟩ := HDX.out _ HB7.out
  have HBw := Lib.hid hbw
  clear hbw
  cases hw : wrOk e p s (abt kk.data.toList n l)
  · have HV := Lib.hid (wp_notW hok hw)
    rw [(wr_bad hw).1, (wr_bad hw).2]
    clear hw hok
    go_wp2
    go_ret2
    exact ⟨by rw [HV.out.1, HV.out.2]; rfl, HBw.out⟩
  · rw [(wr_good hw).1, (wr_good hw).2]
    have hlen := wrT_len (abt kk.data.toList n l) (wr_ok hw).2.2
    have hlz := HLA.out
    have hsz := mk_size (wrT e p s (abt kk.data.toList n l))
    have hsh := mk_size (headL e p s)
    have hmm := mk_app (headL e p s) (wrT e p s (abt kk.data.toList n l))
    have HM := Lib.hid hmm
    by_cases hlong : 65536 < (wrT e p s (abt kk.data.toList n l)).length + 6
    · have HV := Lib.hid (wp_long hok hw hlong)
      clear hw hok hmm
      rw [← hsz] at hlong hlen
      generalize mk (wrT e p s (abt kk.data.toList n l)) = T at *
      generalize mk (headL e p s) = H at *
      have hsh6 : H.size = 6 := hsh
      clear hsh hsz
      have hlb : (65536 : Int) < 6 + (T.size : Int) := by omega
      have hla : (T.size : Int) ≤ 100000 := by omega
      go_wp2_with (go_at_call 51; refine (HHd.out _).mono ?_; rintro x w8 ⟨rfl, hb⟩; have HB8 := Lib.hid (below_trans HBw.out hb); clear hb)
      go_ret2
      exact ⟨by rw [HV.out.1, HV.out.2]; rfl, HB8.out⟩
    · have hz := wp_of (k := kk.data.toList) (n := n) (l := l) (by simp only [wpOk, Bool.and_eq_true] at hok; exact hok.1.1.1) (by simp only [wpOk, Bool.and_eq_true] at hok; exact hok.1.1.2) (by omega) (by omega) hw (by omega)
      have HV := Lib.hid (wp_zero hz).2.2.2.2.2.2
      have HE := Lib.hid hz
      clear hw hok hmm hz
      rw [← hsz] at hlong hlen
      generalize mk (wrT e p s (abt kk.data.toList n l)) = T at *
      generalize mk (headL e p s) = H at *
      have hsh6 : H.size = 6 := hsh
      clear hsh hsz
      have hlb : ¬ (65536 : Int) < 6 + (T.size : Int) := by omega
      have hla : (T.size : Int) ≤ 100000 := by omega
      go_wp2_with (go_at_call 51; refine (HHd.out _).mono ?_; rintro x w8 ⟨rfl, hb⟩; have HB8 := Lib.hid (below_trans HBw.out hb); clear hb)
      go_ret2
      exact ⟨by rw [HV.out, HE.out, ← HM.out]; rfl, HB8.out⟩
end Go.Proofs.YtpmnepihaljamaaGreatDoor
end
