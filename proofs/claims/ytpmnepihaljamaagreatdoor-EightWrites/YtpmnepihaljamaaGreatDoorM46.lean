/-
  Texts put together (merge.py): ERWt.
-/
import Derived.Test.YtpmnepihaljamaaGreatDoorM43
import Derived.Test.YtpmnepihaljamaaGreatDoorM9
import Derived.Test.YtpmnepihaljamaaGreatDoorM45
/-
  What the reference's Write answers, as a contract. (Written by gen_rcm.py.)
-/
section
set_option linter.unusedSimpArgs false
set_option linter.unusedVariables false
set_option maxRecDepth 100000
namespace Go.Proofs.YtpmnepihaljamaaGreatDoor
open Go.RowKit
open Cm (Ln Cl ClsAt clv ClOk btv)

set_option maxHeartbeats 4000000 in
theorem rwt_any (e p s : UInt8) (n : Int) (m : Value) (l : List Cl) (w : World) (hm : ClsAt All w m l) (hz : ∀ c ∈ l, ClOk c) (hlz : ∀ c ∈ l, c.lines.length ≤ 1000000) (hb : Cm.batchE n l = 0 → ln (Et.segs l) ≤ 90000 ∧ (Et.segs l).length ≤ 100000) :
    Calls Tryz.prog 12 #[dv e p s, btv n m] w fun x w' => x = .returned (.tuple #[.string (mk (Et.wtV e p s n l)), .int .i64 (Et.wtE e p s n l)]) ∧ Below w.heap.size w w' := by
  obtain ⟨am, cm, rfl, f1, f2⟩ := Cm.ClsAt.form hm
  have hB0 := below_trans (below_alloc w (.cells #[.int .u8 e.toNat, .int .u8 p.toNat, .int .u8 s.toNat] 23)) (below_alloc _ (.cells #[.int .i64 n, .slice am l.length cm] 26))
  have HX : Hid (((w.alloc (.cells #[.int .u8 e.toNat, .int .u8 p.toNat, .int .u8 s.toNat] 23)).alloc (.cells #[.int .i64 n, .slice am l.length cm] 26)).heap[w.heap.size]? = some (.cells #[.int .u8 e.toNat, .int .u8 p.toNat, .int .u8 s.toNat] 23 (0, 0))) := keepB (heap_alloc_new w _) (below_alloc _ _)
  have HY : Hid (((w.alloc (.cells #[.int .u8 e.toNat, .int .u8 p.toNat, .int .u8 s.toNat] 23)).alloc (.cells #[.int .i64 n, .slice am l.length cm] 26)).heap[w.heap.size + 1]? = some (.cells #[.int .i64 n, .slice am l.length cm] 26 (0, 0))) := new_at _ _ _ (by simp)
  have HB0 := Lib.hid hB0
  have HCB := Lib.hid fun W (hW : Below w.heap.size w W) => Cm.rbatch_any n (.slice am l.length cm) l W (ClsAt.move hm (Below.moves hW)) hz hlz
  have HCl := Lib.hid fun W (hW : Below w.heap.size w W) => ClsAt.move hm (Below.moves hW)
  have HZ := Lib.hid hz
  clear hB0 hm hz hlz
  go_enter Tryz.func12, Tryz.ntmps12
  go_upto_region 1 with fail
  generalize (w.alloc (.cells #[.int .u8 e.toNat, .int .u8 p.toNat, .int .u8 s.toNat] 23)).alloc (.cells #[.int .i64 n, .slice am l.length cm] 26) = w0 at *
  obtain ⟨y0, y1⟩ := box2 HY.out
  by_cases hbe : Cm.batchE n l = 0
  case neg =>
    have HV : Hid (Et.wtV e p s n l = [] ∧ Et.wtE e p s n l = Cm.batchE n l) := ⟨by unfold Et.wtV; rw [if_neg hbe], by unfold Et.wtE; rw [if_neg hbe]⟩
    have hne : (Cm.batchE n l != 0) = true := by simpa using hbe
    clear hb hbe
    generalize Cm.batchE n l = E at *
    go_wp2_with (first | (go_at_call 16; refine (HCB.out _ HB0.out).mono ?_; rintro x w1 ⟨rfl, hb1⟩; have HB1 := Lib.hid (below_trans HB0.out hb1); clear hb1))
    go_ret2
    exact ⟨by rw [HV.out.1, HV.out.2]; rfl, HB1.out⟩
  obtain ⟨hl1, hl2⟩ := hb hbe
  obtain ⟨b0, b1, b2, b3⟩ := Et.batch_facts hbe
  have HV : Hid (Et.wtV e p s n l = wpV e p s Et.t837 n (Et.segs l) ∧ Et.wtE e p s n l = wpE e p s Et.t837 n (Et.segs l)) := ⟨by unfold Et.wtV; rw [if_pos hbe], by unfold Et.wtE; rw [if_pos hbe]⟩
  have HCk := Lib.hid b3
  have HWr : Hid (∀ W v, SgAt All W v (Et.segs l) → Below w.heap.size w W → Calls Tryz.prog 28 #[dv e p s, .string ⟨#[56, 51, 55]⟩, .int .i64 n, v] W fun x w' => x = .returned (.tuple #[.string (mk (wpV e p s Et.t837 n (Et.segs l))), .int .i64 (wpE e p s Et.t837 n (Et.segs l))]) ∧ Below W.heap.size W w') := fun W v hv hW => rwrap_any e p s ⟨#[56, 51, 55]⟩ n v (Et.segs l) W hv (by omega) (by omega) hl2 hl1
  rw [hbe] at HCB
  have HSG : Hid (Et.segs l = [ones [Et.tBHT, Lib.itoa (l.length : Int)]] ++ Et.clsS 0 l) := rfl
  have HWh : Hid (∀ W, Below w.heap.size w W → Calls Tryz.prog 26 #[.int .i64 (l.length : Int)] W fun e w' => e = .returned (.string (mk (Lib.itoa (l.length : Int)))) ∧ Below W.heap.size W w') := fun W hW => rnum_any _ W (by omega) (by omega)
  clear hb hbe b3 hl1
  generalize Lib.itoa (l.length : Int) = tk at *
  generalize wpV e p s Et.t837 n (Et.segs l) = WV at *
  generalize wpE e p s Et.t837 n (Et.segs l) = WE at *
  have HSb : Hid (∀ (V W : World), Below (V.alloc (.cells #[.string ⟨#[66, 72, 84]⟩, .string (mk tk)] 9)).heap.size (V.alloc (.cells #[.string ⟨#[66, 72, 84]⟩, .string (mk tk)] 9)) W → Calls Tryz.prog 25 #[.slice (some ⟨V.heap.size, 0, none⟩) 2 2] W fun x w' => (∃ ga gc, x = .returned (.agg #[.slice ga 2 gc]) ∧ SegAt V.heap.size [Et.tBHT, tk] (.slice ga 2 gc) w') ∧ Below W.heap.size W w') := fun V W hW => rpl_row (w0 := V) (B := V.heap.size) [Et.tBHT, tk] (by simp) (Nat.le_refl _) V _ rfl (Below.refl _ _) W hW
  go_wp2_with (first | (go_at_call 16; refine (HCB.out _ HB0.out).mono ?_; rintro x w1 ⟨rfl, hb1⟩; have HS1 := Lib.hid hb1; have HB1 := Lib.hid (below_trans HB0.out hb1); have z1 := (box2 (keepB HY.out hb1)).2; clear hb1) | (go_at_call 26; refine (HWh.out _ HB1.out).mono ?_; rintro x w2 ⟨rfl, hb2⟩; have HS2 := Lib.hid (below_trans HS1.out hb2); have HB2 := Lib.hid (below_trans HB1.out hb2); clear hb2) | (go_at_call 25; refine (HSb.out w2 _ (Below.refl _ _)).mono ?_; rintro x w3 ⟨⟨ga, gc, rfl, hs⟩, hb3⟩; have HE3 := Lib.hid hs; have HS3 := Lib.hid (below_trans HS2.out (below_trans (below_alloc _ _) (below_trans hb3 (below_alloc w3 (.cells #[.slice ga 2 gc] 50))))); have HB3 := Lib.hid (below_trans HB2.out (below_trans (below_alloc _ _) hb3)); have z3 := (box2 (keepB HY.out HS3.out)).2; have hsz3 := HB3.out.size; clear hb3 hs))
  have HN3 : Hid (NewAt w.heap.size [ones [Et.tBHT, tk]] (.slice (some ⟨w3.heap.size, 0, none⟩) 1 1) (w3.alloc (.cells #[.slice ga 2 gc] 50))) := by
    refine NewAt.laid [.slice ga 2 gc] _ hsz3 rfl (by simp [maxLen]) fun j u gg hu hg => ?_
    match j, hu, hg with
    | 0, hu, hg => simp at hu hg; subst hu hg; exact ElAt.move HE3.out.els (moves_weak _ fun b _ hk => by have := HB2.out.size; omega)
  have HB4 := Lib.hid (below_trans HB3.out (below_alloc w3 (.cells #[.slice ga 2 gc] 50)))
  obtain ⟨i47, j1, j2, j3, j4⟩ := info47
  have HX4 := Lib.hid (keepB HX.out HS3.out)
  have HY4 := Lib.hid (keepB HY.out HS3.out)
  have HCm : Hid (∀ (W : World) (j : Nat) (c : Cl) (mv : Value), Below w.heap.size w W → Cm.LnsAt All W mv c.lines → c ∈ l → j ≤ 1000000 → Calls Tryz.prog 27 #[.int .i64 (j : Int), clv c mv] W fun e w' => (∃ u, e = .returned u ∧ NewAt W.heap.size (Et.clS j c) u w') ∧ Below W.heap.size W w') := fun W j c mv hW hx hxm hj => by
    obtain ⟨-, -, -, -, -, -, k7, k8, -⟩ := Et.check_facts (HCk.out c hxm)
    exact rclm_any j c mv W hx (HZ.out c hxm) hj (fun x hx => by have := (Et.line_facts (k8 x hx)).2.1; omega) (by omega)
  have HLc : Hid (∀ c ∈ l, c.lines.length ≤ 999) := fun c hc => by
    obtain ⟨-, -, -, -, -, -, k7, -⟩ := Et.check_facts (HCk.out c hc)
    exact k7
  obtain ⟨G1, hG1, hG1l⟩ : ∃ G1 : List Sg, G1 = [ones [Et.tBHT, tk]] ∧ G1.length = 1 := ⟨_, rfl, rfl⟩
  rw [← hG1] at HN3 HSG
  clear hG1 HCB HWh HSb HE3 HS1 HS2 HS3 HB1 HB2 HB3 z1 y0 y1
  go_wp2
  go_loopg [7, 8] (l.length) (fun gg lv i wr => ∃ (j : Nat) (gs : List Sg), j ≤ l.length ∧ gg = l.length - j ∧ i = .int .i64 j ∧ gs.length ≤ 1 + 4000 * j ∧ w.heap.size ≤ wr.heap.size ∧ Hid (gs = G1 ++ Et.clsS 0 (l.take j)) ∧ Hid (NewAt w.heap.size gs lv wr) ∧ Hid (Below w.heap.size w wr) ∧ Hid (wr.heap[w.heap.size]? = some (.cells #[.int .u8 e.toNat, .int .u8 p.toNat, .int .u8 s.toNat] 23 (0, 0))) ∧ Hid (wr.heap[w.heap.size + 1]? = some (.cells #[.int .i64 n, .slice am l.length cm] 26 (0, 0))))
  case atStart => exact ⟨0, G1, Nat.zero_le _, rfl, rfl, by omega, HB4.out.size, by show _ = _; simp [Et.clsS], HN3.out, HB4.out, HX4.out, HY4.out⟩
  case round =>
    obtain ⟨j, gs, hj, hgj, rfl, hgl, hsw, HGS, HN, HB, HXr, HYr⟩ := hrel
    obtain ⟨la, lc, rfl⟩ := HN.out.form
    obtain ⟨-, y1⟩ := box2 HYr.out
    by_cases hlt : j < l.length
    case neg =>
      have hall : l.take j = l := List.take_of_length_le (by omega)
      have HF : Hid (gs = Et.segs l) := by show _ = _; rw [HGS.out, hall, HSG.out]
      obtain ⟨x0, x1, x2⟩ := box3 HXr.out
      obtain ⟨x3, x4⟩ := box2 HYr.out
      have HCW := Lib.hid (HWr.out wr (.slice la gs.length lc) (by rw [← HF.out]; exact HN.out.all) HB.out)
      clear hall
      go_wp2_with (first | (go_at_call 28; refine HCW.out.mono ?_; rintro x w9 ⟨rfl, hb9⟩; have HB9 := Lib.hid (below_trans HB.out hb9); clear hb9))
      go_ret2
      exact ⟨by rw [HV.out.1, HV.out.2]; rfl, HB9.out⟩
    obtain ⟨bl, ol, mv, ha, hx, hc, hr⟩ := ClsAt.get (HCl.out _ HB.out) j hlt
    obtain rfl := ha
    have HXM := Lib.hid (List.mem_of_getElem? hx)
    have HSN := Lib.hid (Et.clsS_snoc l j _ hx)
    obtain ⟨c0, c1, c2, c3, c4, c5, c6⟩ := hc
    obtain ⟨ma, mc, rfl, g1, g2⟩ := Cm.LnsAt.form hr
    have HR := Lib.hid hr
    clear hx hr
    have hbx := Below.refl wr.heap.size wr
    have HBb := Lib.hid (below_trans HB.out hbx)
    have HNb := Lib.hid (HN.out.grw hbx)
    have HXb := Lib.hid (keepB HXr.out hbx)
    have HYb := Lib.hid (keepB HYr.out hbx)
    have HCall := Lib.hid (HCm.out _ (j + 1) l[j] _ HBb.out (Cm.LnsAt.move HR.out (Below.moves hbx)) HXM.out (by omega))
    have hlp := clS_len (j + 1) l[j]
    have hl9 := HLc.out _ HXM.out
    have HHL : Hid (0 < (Et.clS (j + 1) l[j]).length ∧ (Et.clS (j + 1) l[j]).length ≤ 4000) := ⟨hlp.1, by omega⟩
    clear hlp hl9 hbx
    generalize hLS : Et.clS (j + 1) l[j] = LS at *
    have HLS := Lib.hid hLS
    clear hLS
    go_wp2_with fail
    go_at_call 27
    refine HCall.out.mono ?_
    rintro x w1 ⟨⟨u, rfl, hnew⟩, hb⟩
    have HB1 := Lib.hid (below_trans HBb.out hb)
    have HN1 := Lib.hid (HNb.out.grw hb)
    have HX1 := Lib.hid (keepB HXb.out hb)
    have HY1 := Lib.hid (keepB HYb.out hb)
    obtain ⟨gu, cu, ns, rfl, e1, e2, e3, e4⟩ := NewAt.opn hnew HHL.out.1
    have E1 := Lib.hid e1
    have E2 := Lib.hid e2
    have E3 := Lib.hid e3
    have E4 := Lib.hid e4
    obtain ⟨cs, d1, d2⟩ := HN1.out
    have HO := Lib.hid d1
    have HP := Lib.hid d2
    have hsz := HB1.out.size
    have hln := HHL.out.2
    clear hnew hb e1 e2 e3 e4 d1 d2
    go_wp2_with (at_builtin; refine wpList_append_own_at _ (by rfl) _ _ 53 (by rfl) w.heap.size 50 i47 (.agg #[.slice none 0 0]) 1 24 Tryz.underlying53 j1 j2 j3 j4 (by rfl) (by omega) (.slice la gs.length lc) gs.length cs (by rfl) HO.out ⟨gu, 0, none⟩ LS.length cu ns (by rfl) ?c1 E2.out E3.out ?c3 ?c4 ?c5 ?_)
    case c1 => rw [E1.out, Nat.mul_one]
    case c3 => simp only [maxLen]; omega
    case c4 => omega
    case c5 => exact hsz
    intro lv2 w2 hown hgrow hnil hat
    have HD2 := Lib.hid (NewAt.app (l := LS) (news := ns) HO.out HP.out E1.out (fun j u g hu hg => new_apart HNb.out (E4.out j u g hu hg) (by have := HBb.out.size; exact this)) hown hgrow (by simpa using hat))
    have HB2 := Lib.hid (HB1.out.grown hgrow hsz fun k hk => (HO.out.lt k hk).1)
    have HX2 := Lib.hid (kept_by HX1.out HO.out (by decide) hgrow)
    have HY2 := Lib.hid (kept_by HY1.out HO.out (by decide) hgrow)
    have hgl2 : (gs ++ LS).length ≤ 1 + 4000 * (j + 1) := by rw [List.length_append]; omega
    have HG2 := Lib.hid hgl2
    obtain ⟨la2, lc2, rfl⟩ := own_form hown
    clear hown hgrow hnil hat hgl2
    go_wp2
    go_roundg (l.length - (j + 1))
    case rel => exact ⟨j + 1, gs ++ LS, by omega, rfl, by go_num, HG2.out, HB2.out.size, by show _ = _; rw [HSN.out, HGS.out, List.append_assoc], HD2.out, HB2.out, HX2.out, HY2.out⟩
    case measure => omega
end Go.Proofs.YtpmnepihaljamaaGreatDoor
end
