/-
  What accs.Get answers for rows in order, as a contract.
-/
import Derived.Test.YtdppelkfcnbgbaaYBin
set_option linter.unusedSimpArgs false
set_option linter.unusedVariables false
set_option maxRecDepth 100000
namespace Go.Proofs.Ytdppelkfcnbgbaa.Ac
open Go.RowKit

set_option maxHeartbeats 4000000 in
theorem get_any (l : List Row) (wh : Tx) (f : Bool) (y : Int) (v : Value) (w : World) (h : RwsAt All w v l) (hl : l.length ≤ 281474976710656) (hU : Up l) :
    Calls Try.prog 17 #[v, .string (mk wh), .bool f, .int .i64 y] w fun e w' => e = .returned (rwv (getV l wh f y)) ∧ Below w.heap.size w w' := by
  have hb1 := below_alloc w (.cells #[.string ⟨#[]⟩, .bool false, .int .i64 0, .int .i64 0, .int .i64 0] TA)
  have hz1 := heap_alloc_new w (.cells #[.string ⟨#[]⟩, .bool false, .int .i64 0, .int .i64 0, .int .i64 0] TA)
  have hs1 : (w.alloc (.cells #[.string ⟨#[]⟩, .bool false, .int .i64 0, .int .i64 0, .int .i64 0] TA)).heap.size = w.heap.size + 1 := by simp
  have hb2 := below_alloc (w.alloc (.cells #[.string ⟨#[]⟩, .bool false, .int .i64 0, .int .i64 0, .int .i64 0] TA)) (.cells #[.string (mk wh), .bool f, .int .i64 y, .int .i64 0, .int .i64 0] TA)
  have hz2 := heap_alloc_new (w.alloc (.cells #[.string ⟨#[]⟩, .bool false, .int .i64 0, .int .i64 0, .int .i64 0] TA)) (.cells #[.string (mk wh), .bool f, .int .i64 y, .int .i64 0, .int .i64 0] TA)
  rw [hs1] at hz2
  have HR := Lib.hid (keepB hz1 hb2)
  have HZ := Lib.hid hz2
  have HB := Lib.hid (below_trans hb1 hb2)
  have HF := Lib.hid (h.grw (below_trans hb1 hb2))
  have HU := Lib.hid hU
  have HFi : Hid (∀ W, RwsAt All W v l → Calls Try.prog 33 #[v, .agg #[.string (mk wh), .bool f, .int .i64 y, .int .i64 0, .int .i64 0]] W fun e w' => BsV l ⟨wh, f, y, 0, 0⟩ e ∧ Below W.heap.size W w') := fun W hW => find_any l ⟨wh, f, y, 0, 0⟩ v W hW hl hU
  obtain ⟨fa, fk, rfl, hm1, hm2⟩ := h.form
  obtain ⟨G, HG⟩ : ∃ G, Hid (getV l wh f y = G) := ⟨_, (rfl : getV l wh f y = _)⟩
  rw [HG.out]
  clear h hU hb1 hz1 hb2 hz2 hs1
  go_enter Try.func17, Try.ntmps17
  go_upto_region 2 with fail
  generalize (w.alloc (.cells #[.string ⟨#[]⟩, .bool false, .int .i64 0, .int .i64 0, .int .i64 0] TA)).alloc (.cells #[.string (mk wh), .bool f, .int .i64 y, .int .i64 0, .int .i64 0] TA) = W at *
  obtain ⟨q, hq⟩ : ∃ q, q = w.heap.size + 1 := ⟨_, rfl⟩
  rw [← hq] at HZ ⊢
  have hqp : w.heap.size ≠ q := by omega
  generalize hp : w.heap.size = p at *
  clear hq
  obtain ⟨z0, z1, z2, z3, z4⟩ := cells5 HZ.out
  go_wp2_with fail
  go_at_call 33
  refine (HFi.out W HF.out).mono ?_
  rintro e w1 ⟨⟨i, fb, rfl, hs⟩, hb1⟩
  have HB1 := Lib.hid (below_tr hp HB.out hb1)
  have HR1 := Lib.hid (keepB HR.out hb1)
  have HZ1 := Lib.hid (keepB HZ.out hb1)
  have HF1 := Lib.hid (HF.out.grw hb1)
  have HS := Lib.hid hs
  clear hb1 hs HFi HZ HR HF HB z0 z1 z2 z3 z4
  cases fb with
  | true =>
    obtain ⟨hi, hgv⟩ := get_found HU.out HS.out
    obtain ⟨b, oo, rfl, -, -, hc⟩ := RwsAt.get HF1.out i hi
    have hGe : l[i] = G := by rw [← hgv]; exact HG.out
    rw [hGe] at hc
    obtain ⟨x0, x1, x2, x3, x4⟩ := hc
    have hiz : (i : Int) < (l.length : Int) := by omega
    obtain ⟨r0, r1, r2, r3, r4⟩ := cells5 HR1.out
    obtain ⟨t0, t1, t2, t3, t4⟩ := frz5 HR1.out
    have HXF : Hid ((((((w1.setCell ⟨p, 0, none⟩ (.string (mk G.who))).setCell ⟨p, 1, none⟩ (.bool G.fam)).setCell ⟨p, 2, none⟩ (.int .i64 G.year)).setCell ⟨p, 3, none⟩ (.int .i64 G.de)).setCell ⟨p, 4, none⟩ (.int .i64 G.oo)).heap[p]? = some (.cells #[.string (mk G.who), .bool G.fam, .int .i64 G.year, .int .i64 G.de, .int .i64 G.oo] TA (0, 0))) := put5_heap HR1.out
    have HBF : Hid (Below p w (((((w1.setCell ⟨p, 0, none⟩ (.string (mk G.who))).setCell ⟨p, 1, none⟩ (.bool G.fam)).setCell ⟨p, 2, none⟩ (.int .i64 G.year)).setCell ⟨p, 3, none⟩ (.int .i64 G.de)).setCell ⟨p, 4, none⟩ (.int .i64 G.oo))) := put5_below HB1.out p (Nat.le_refl _) _ _ _ _ _
    clear hgv hGe HG HS HU
    go_wp2
    clear r0 r1 r2 r3 r4 t0 t1 t2 t3 t4 x0 x1 x2 x3 x4
    generalize (((((w1.setCell ⟨p, 0, none⟩ (.string (mk G.who))).setCell ⟨p, 1, none⟩ (.bool G.fam)).setCell ⟨p, 2, none⟩ (.int .i64 G.year)).setCell ⟨p, 3, none⟩ (.int .i64 G.de)).setCell ⟨p, 4, none⟩ (.int .i64 G.oo)) = WF at *
    obtain ⟨r0, r1, r2, r3, r4⟩ := cells5 HXF.out
    refine bodyPost_ret (v := rwv G) (by simp [results, Try.results17, go_sem, r0, r1, r2, r3, r4]) rfl ?_
    exact ⟨rfl, by first | exact HBF.out | (rw [hp]; exact HBF.out)⟩
  | false =>
    have hgv := get_none HU.out HS.out
    have hGe : G = ⟨wh, f, y, 0, 0⟩ := by rw [← hgv]; exact HG.out.symm
    subst hGe
    obtain ⟨z0, z1, z2, z3, z4⟩ := cells5 HZ1.out
    obtain ⟨r0, r1, r2, r3, r4⟩ := cells5 HR1.out
    obtain ⟨t0, t1, t2, t3, t4⟩ := frz5 HR1.out
    have HXF : Hid ((((((w1.setCell ⟨p, 0, none⟩ (.string (mk wh))).setCell ⟨p, 1, none⟩ (.bool f)).setCell ⟨p, 2, none⟩ (.int .i64 y)).setCell ⟨p, 3, none⟩ (.int .i64 0)).setCell ⟨p, 4, none⟩ (.int .i64 0)).heap[p]? = some (.cells #[.string (mk wh), .bool f, .int .i64 y, .int .i64 0, .int .i64 0] TA (0, 0))) := put5_heap HR1.out
    have HBF : Hid (Below p w (((((w1.setCell ⟨p, 0, none⟩ (.string (mk wh))).setCell ⟨p, 1, none⟩ (.bool f)).setCell ⟨p, 2, none⟩ (.int .i64 y)).setCell ⟨p, 3, none⟩ (.int .i64 0)).setCell ⟨p, 4, none⟩ (.int .i64 0))) := put5_below HB1.out p (Nat.le_refl _) _ _ _ _ _
    clear hgv HG HS HU
    go_wp2
    clear r0 r1 r2 r3 r4 t0 t1 t2 t3 t4 z0 z1 z2 z3 z4
    generalize (((((w1.setCell ⟨p, 0, none⟩ (.string (mk wh))).setCell ⟨p, 1, none⟩ (.bool f)).setCell ⟨p, 2, none⟩ (.int .i64 y)).setCell ⟨p, 3, none⟩ (.int .i64 0)).setCell ⟨p, 4, none⟩ (.int .i64 0)) = WF at *
    obtain ⟨r0, r1, r2, r3, r4⟩ := cells5 HXF.out
    refine bodyPost_ret (v := .agg #[.string (mk wh), .bool f, .int .i64 y, .int .i64 0, .int .i64 0]) (by simp [results, Try.results17, go_sem, r0, r1, r2, r3, r4]) rfl ?_
    exact ⟨rfl, by first | exact HBF.out | (rw [hp]; exact HBF.out)⟩
end Go.Proofs.Ytdppelkfcnbgbaa.Ac
