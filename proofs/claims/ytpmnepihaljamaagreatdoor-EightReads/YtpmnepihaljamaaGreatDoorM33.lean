/-
  Texts put together (merge.py): EWrt, EWorks.
-/
import Derived.Deep.DeepCutAuto
import Derived.Test.YtpmnepihaljamaaGreatDoorM32
import Derived.Test.YtpmnepihaljamaaGreatDoorM5
import Derived.Test.YtpmnepihaljamaaGreatDoorM30
/-
  What eight.Write answers, as a contract.
-/
section
set_option linter.unusedSimpArgs false
set_option maxRecDepth 100000
namespace Go.Proofs.YtpmnepihaljamaaGreatDoor
open Go.RowKit
open Cm (Ln Cl ClsAt clv ClOk btv)

theorem box3 {w : World} {b : Nat} {c0 c1 c2 : Value} {T : TypeId} (h : w.heap[b]? = some (.cells #[c0, c1, c2] T (0, 0))) : w.cell? ⟨b, 0, none⟩ = some c0 ∧ w.cell? ⟨b, 1, none⟩ = some c1 ∧ w.cell? ⟨b, 2, none⟩ = some c2 := by
  refine ⟨?_, ?_, ?_⟩ <;> rw [cell_of_row w b _ _ T (0, 0) h] <;> rfl
theorem box2 {w : World} {b : Nat} {c0 c1 : Value} {T : TypeId} (h : w.heap[b]? = some (.cells #[c0, c1] T (0, 0))) : w.cell? ⟨b, 0, none⟩ = some c0 ∧ w.cell? ⟨b, 1, none⟩ = some c1 := by
  refine ⟨?_, ?_⟩ <;> rw [cell_of_row w b _ _ T (0, 0) h] <;> rfl
theorem kept_by {w w' : World} {b B n : Nat} {cs : Array Value} {T U : TypeId} {v : Value} {xs : List Value} (h : w.heap[b]? = some (.cells cs T (0, 0))) (ho : w.ownsRow B U 1 v n xs) (hT : T ≠ U) (hg : w.grownBy w' v.ownBlock) : w'.heap[b]? = some (.cells cs T (0, 0)) := by
  rw [hg.block b (Array.getElem?_eq_some_iff.1 h).1 (Ne.symm (Lib.ownBlock_ne ho h hT))]; exact h
theorem clS_len (k : Nat) (c : Cl) : 0 < (Et.clS k c).length ∧ (Et.clS k c).length ≤ 3 + 4 * c.lines.length := by
  have := Et.lnsS_le 0 c.lines
  unfold Et.clS Et.hdS
  simp
  omega

set_option maxHeartbeats 4000000 in
theorem ewrite_any (e p s : UInt8) (n : Int) (m : Value) (l : List Cl) (w : World) (hm : ClsAt All w m l) (hz : ∀ c ∈ l, ClOk c) (hT : Tab w) (hD : Da.Tab w) (hb : Cm.batchE n l = 0 → ln (Et.segs l) ≤ 90000 ∧ (Et.segs l).length ≤ 100000) :
    Calls Tryz.prog 11 #[dv e p s, btv n m] w fun x w' => x = .returned (.tuple #[.string (mk (Et.wtV e p s n l)), .int .i64 (Et.wtE e p s n l)]) ∧ Below w.heap.size w w' := by
  obtain ⟨am, cm, rfl, f1, f2⟩ := Cm.ClsAt.form hm
  have hB0 := below_trans (below_alloc w (.cells #[.int .u8 e.toNat, .int .u8 p.toNat, .int .u8 s.toNat] 23)) (below_alloc _ (.cells #[.int .i64 n, .slice am l.length cm] 26))
  have HX : Hid (((w.alloc (.cells #[.int .u8 e.toNat, .int .u8 p.toNat, .int .u8 s.toNat] 23)).alloc (.cells #[.int .i64 n, .slice am l.length cm] 26)).heap[w.heap.size]? = some (.cells #[.int .u8 e.toNat, .int .u8 p.toNat, .int .u8 s.toNat] 23 (0, 0))) := keepB (heap_alloc_new w _) (below_alloc _ _)
  have HY : Hid (((w.alloc (.cells #[.int .u8 e.toNat, .int .u8 p.toNat, .int .u8 s.toNat] 23)).alloc (.cells #[.int .i64 n, .slice am l.length cm] 26)).heap[w.heap.size + 1]? = some (.cells #[.int .i64 n, .slice am l.length cm] 26 (0, 0))) := new_at _ _ _ (by simp)
  have HB0 := Lib.hid hB0
  have HCB := Lib.hid fun W (hW : Below w.heap.size w W) => Cm.batch_any n (.slice am l.length cm) l W (ClsAt.move hm (Below.moves hW)) hz (Cm.tab_below hD hW)
  have HTb := Lib.hid fun W (hW : Below w.heap.size w W) => tab_grw hT hW
  have HCl := Lib.hid fun W (hW : Below w.heap.size w W) => ClsAt.move hm (Below.moves hW)
  have HZ := Lib.hid hz
  clear hB0 hm hz hT hD
  go_enter Tryz.func11, Tryz.ntmps11
  go_upto_region 1 with fail
  generalize (w.alloc (.cells #[.int .u8 e.toNat, .int .u8 p.toNat, .int .u8 s.toNat] 23)).alloc (.cells #[.int .i64 n, .slice am l.length cm] 26) = w0 at *
  obtain ⟨y0, y1⟩ := box2 HY.out
  by_cases hbe : Cm.batchE n l = 0
  case neg =>
    have HV : Hid (Et.wtV e p s n l = [] ∧ Et.wtE e p s n l = Cm.batchE n l) := ⟨by unfold Et.wtV; rw [if_neg hbe], by unfold Et.wtE; rw [if_neg hbe]⟩
    have hne : (Cm.batchE n l != 0) = true := by simpa using hbe
    clear hb hbe
    generalize Cm.batchE n l = E at *
    go_wp2_with (first | (go_at_call 20; refine (HCB.out _ HB0.out).mono ?_; rintro x w1 ⟨rfl, hb1⟩; have HB1 := Lib.hid (below_trans HB0.out hb1); clear hb1))
    go_ret2
    exact ⟨by rw [HV.out.1, HV.out.2]; rfl, HB1.out⟩
  obtain ⟨hl1, hl2⟩ := hb hbe
  obtain ⟨b0, b1, b2, b3⟩ := Et.batch_facts hbe
  have HV : Hid (Et.wtV e p s n l = wpV e p s Et.t837 n (Et.segs l) ∧ Et.wtE e p s n l = wpE e p s Et.t837 n (Et.segs l)) := ⟨by unfold Et.wtV; rw [if_pos hbe], by unfold Et.wtE; rw [if_pos hbe]⟩
  have HCk := Lib.hid b3
  have HWr : Hid (∀ W v, SgAt All W v (Et.segs l) → Below w.heap.size w W → Calls Tryz.prog 24 #[dv e p s, .string ⟨#[56, 51, 55]⟩, .int .i64 n, v] W fun x w' => x = .returned (.tuple #[.string (mk (wpV e p s Et.t837 n (Et.segs l))), .int .i64 (wpE e p s Et.t837 n (Et.segs l))]) ∧ Below W.heap.size W w') := fun W v hv hW => wrap_any e p s ⟨#[56, 51, 55]⟩ n v (Et.segs l) W hv (HTb.out W hW) (by omega) (by omega) hl2 hl1
  rw [hbe] at HCB
  have HSG : Hid (Et.segs l = [ones [Et.tBHT, Lib.itoa (l.length : Int)]] ++ Et.clsS 0 l) := rfl
  have HWh : Hid (∀ W, Below w.heap.size w W → Calls Tryz.prog 22 #[.int .i64 (l.length : Int)] W fun e w' => e = .returned (.string (mk (Lib.itoa (l.length : Int)))) ∧ Below W.heap.size W w') := fun W hW => whole_any _ W (HTb.out W hW) (by omega) (by omega)
  clear hb hbe b3 hl1
  generalize Lib.itoa (l.length : Int) = tk at *
  generalize wpV e p s Et.t837 n (Et.segs l) = WV at *
  generalize wpE e p s Et.t837 n (Et.segs l) = WE at *
  have HSb : Hid (∀ (V W : World), Below (V.alloc (.cells #[.string ⟨#[66, 72, 84]⟩, .string (mk tk)] 9)).heap.size (V.alloc (.cells #[.string ⟨#[66, 72, 84]⟩, .string (mk tk)] 9)) W → Calls Tryz.prog 21 #[.slice (some ⟨V.heap.size, 0, none⟩) 2 2] W fun x w' => (∃ ga gc, x = .returned (.agg #[.slice ga 2 gc]) ∧ SegAt V.heap.size [Et.tBHT, tk] (.slice ga 2 gc) w') ∧ Below W.heap.size W w') := fun V W hW => eseg_row (w0 := V) (B := V.heap.size) [Et.tBHT, tk] (by simp) (Nat.le_refl _) V _ rfl (Below.refl _ _) W hW
  go_wp2_with (first | (go_at_call 20; refine (HCB.out _ HB0.out).mono ?_; rintro x w1 ⟨rfl, hb1⟩; have HS1 := Lib.hid hb1; have HB1 := Lib.hid (below_trans HB0.out hb1); have z1 := (box2 (keepB HY.out hb1)).2; clear hb1) | (go_at_call 22; refine (HWh.out _ HB1.out).mono ?_; rintro x w2 ⟨rfl, hb2⟩; have HS2 := Lib.hid (below_trans HS1.out hb2); have HB2 := Lib.hid (below_trans HB1.out hb2); clear hb2) | (go_at_call 21; refine (HSb.out w2 _ (Below.refl _ _)).mono ?_; rintro x w3 ⟨⟨ga, gc, rfl, hs⟩, hb3⟩; have HE3 := Lib.hid hs; have HS3 := Lib.hid (below_trans HS2.out (below_trans (below_alloc _ _) (below_trans hb3 (below_alloc w3 (.cells #[.slice ga 2 gc] 50))))); have HB3 := Lib.hid (below_trans HB2.out (below_trans (below_alloc _ _) hb3)); have z3 := (box2 (keepB HY.out HS3.out)).2; have hsz3 := HB3.out.size; clear hb3 hs))
  have HN3 : Hid (NewAt w.heap.size [ones [Et.tBHT, tk]] (.slice (some ⟨w3.heap.size, 0, none⟩) 1 1) (w3.alloc (.cells #[.slice ga 2 gc] 50))) := by
    refine NewAt.laid [.slice ga 2 gc] _ hsz3 rfl (by simp [maxLen]) fun j u gg hu hg => ?_
    match j, hu, hg with
    | 0, hu, hg => simp at hu hg; subst hu hg; exact ElAt.move HE3.out.els (moves_weak _ fun b _ hk => by have := HB2.out.size; omega)
  have HB4 := Lib.hid (below_trans HB3.out (below_alloc w3 (.cells #[.slice ga 2 gc] 50)))
  obtain ⟨i47, j1, j2, j3, j4⟩ := info47
  have HX4 := Lib.hid (keepB HX.out HS3.out)
  have HY4 := Lib.hid (keepB HY.out HS3.out)
  have HCm : Hid (∀ (W : World) (j : Nat) (c : Cl) (mv : Value), Below w.heap.size w W → Cm.LnsAt All W mv c.lines → c ∈ l → j ≤ 1000000 → Calls Tryz.prog 23 #[.int .i64 (j : Int), clv c mv] W fun e w' => (∃ u, e = .returned u ∧ NewAt W.heap.size (Et.clS j c) u w') ∧ Below W.heap.size W w') := fun W j c mv hW hx hxm hj => by
    obtain ⟨-, -, -, -, -, -, k7, k8, -⟩ := Et.check_facts (HCk.out c hxm)
    exact clm_any j c mv W hx (HZ.out c hxm) (HTb.out W hW) hj (fun x hx => by have := (Et.line_facts (k8 x hx)).2.1; omega) (by omega)
  have HLc : Hid (∀ c ∈ l, c.lines.length ≤ 999) := fun c hc => by
    obtain ⟨-, -, -, -, -, -, k7, -⟩ := Et.check_facts (HCk.out c hc)
    exact k7
  obtain ⟨G1, hG1, hG1l⟩ : ∃ G1 : List Sg, G1 = [ones [Et.tBHT, tk]] ∧ G1.length = 1 := ⟨_, rfl, rfl⟩
  rw [← hG1] at HN3 HSG
  clear hG1 HCB HWh HSb HE3 HS1 HS2 HS3 HB1 HB2 HB3 z1 y0 y1
  go_wp2
  go_loopg [7, 25] (l.length) (fun gg lv i wr => ∃ (j : Nat) (gs : List Sg), j ≤ l.length ∧ gg = l.length - j ∧ i = .int .i64 j ∧ gs.length ≤ 1 + 4000 * j ∧ w.heap.size ≤ wr.heap.size ∧ Hid (gs = G1 ++ Et.clsS 0 (l.take j)) ∧ Hid (NewAt w.heap.size gs lv wr) ∧ Hid (Below w.heap.size w wr) ∧ Hid (wr.heap[w.heap.size]? = some (.cells #[.int .u8 e.toNat, .int .u8 p.toNat, .int .u8 s.toNat] 23 (0, 0))) ∧ Hid (wr.heap[w.heap.size + 1]? = some (.cells #[.int .i64 n, .slice am l.length cm] 26 (0, 0))))
  case atStart => exact ⟨0, G1, Nat.zero_le _, rfl, rfl, by omega, HB4.out.size, by show _ = _; simp [Et.clsS], HN3.out, HB4.out, HX4.out, HY4.out⟩
  case round =>
    obtain ⟨j, gs, hj, hgj, rfl, hgl, hsw, HGS, HN, HB, HXr, HYr⟩ := hrel
    obtain ⟨la, lc, rfl⟩ := HN.out.form
    by_cases hlt : j < l.length
    case neg =>
      have hall : l.take j = l := List.take_of_length_le (by omega)
      have HF : Hid (gs = Et.segs l) := by show _ = _; rw [HGS.out, hall, HSG.out]
      obtain ⟨x0, x1, x2⟩ := box3 HXr.out
      obtain ⟨x3, x4⟩ := box2 HYr.out
      have HCW := Lib.hid (HWr.out wr (.slice la gs.length lc) (by rw [← HF.out]; exact HN.out.all) HB.out)
      clear hall
      go_wp2_with (first | (go_at_call 24; refine HCW.out.mono ?_; rintro x w9 ⟨rfl, hb9⟩; have HB9 := Lib.hid (below_trans HB.out hb9); clear hb9))
      go_ret2
      exact ⟨by rw [HV.out.1, HV.out.2]; rfl, HB9.out⟩
    obtain ⟨bl, ol, mv, ha, hx, hc, hr⟩ := ClsAt.get (HCl.out _ HB.out) j hlt
    obtain rfl := ha
    have HXM := Lib.hid (List.mem_of_getElem? hx)
    have HSN := Lib.hid (Et.clsS_snoc l j _ hx)
    obtain ⟨c0, c1, c2, c3, c4, c5, c6⟩ := hc
    obtain ⟨ma, mc, rfl, g1, g2⟩ := Cm.LnsAt.form hr
    have HR := Lib.hid hr
    clear hx hr
    have hbx := below_alloc wr (.cells #[.string (mk l[j].id), .string (mk l[j].mem), .string (mk l[j].fam), .int .i64 l[j].net, .int .i64 l[j].does, .string (mk l[j].ref), .slice ma l[j].lines.length mc] 43)
    have HBb := Lib.hid (below_trans HB.out hbx)
    have HNb := Lib.hid (HN.out.grw hbx)
    have HXb := Lib.hid (keepB HXr.out hbx)
    have HYb := Lib.hid (keepB HYr.out hbx)
    have HCall := Lib.hid (HCm.out _ (j + 1) l[j] _ HBb.out (Cm.LnsAt.move HR.out (Below.moves hbx)) HXM.out (by omega))
    have hlp := clS_len (j + 1) l[j]
    have hl9 := HLc.out _ HXM.out
    have HHL : Hid (0 < (Et.clS (j + 1) l[j]).length ∧ (Et.clS (j + 1) l[j]).length ≤ 4000) := ⟨hlp.1, by omega⟩
    clear hlp hl9 hbx
    generalize hLS : Et.clS (j + 1) l[j] = LS at *
    have HLS := Lib.hid hLS
    clear hLS
    go_wp2_with fail
    go_at_call 23
    refine HCall.out.mono ?_
    rintro x w1 ⟨⟨u, rfl, hnew⟩, hb⟩
    have HB1 := Lib.hid (below_trans HBb.out hb)
    have HN1 := Lib.hid (HNb.out.grw hb)
    have HX1 := Lib.hid (keepB HXb.out hb)
    have HY1 := Lib.hid (keepB HYb.out hb)
    obtain ⟨gu, cu, ns, rfl, e1, e2, e3, e4⟩ := NewAt.opn hnew HHL.out.1
    have E1 := Lib.hid e1
    have E2 := Lib.hid e2
    have E3 := Lib.hid e3
    have E4 := Lib.hid e4
    obtain ⟨cs, d1, d2⟩ := HN1.out
    have HO := Lib.hid d1
    have HP := Lib.hid d2
    have hsz := HB1.out.size
    have hln := HHL.out.2
    clear hnew hb e1 e2 e3 e4 d1 d2
    go_wp2_with (at_builtin; refine wpList_append_own_at _ (by rfl) _ _ 53 (by rfl) w.heap.size 50 i47 (.agg #[.slice none 0 0]) 1 24 Tryz.underlying53 j1 j2 j3 j4 (by rfl) (by omega) (.slice la gs.length lc) gs.length cs (by rfl) HO.out ⟨gu, 0, none⟩ LS.length cu ns (by rfl) ?c1 E2.out E3.out ?c3 ?c4 ?c5 ?_)
    case c1 => rw [E1.out, Nat.mul_one]
    case c3 => simp only [maxLen]; omega
    case c4 => omega
    case c5 => exact hsz
    intro lv2 w2 hown hgrow hnil hat
    have HD2 := Lib.hid (NewAt.app (l := LS) (news := ns) HO.out HP.out E1.out (fun j u g hu hg => new_apart HNb.out (E4.out j u g hu hg) (by have := HBb.out.size; exact this)) hown hgrow (by simpa using hat))
    have HB2 := Lib.hid (HB1.out.grown hgrow hsz fun k hk => (HO.out.lt k hk).1)
    have HX2 := Lib.hid (kept_by HX1.out HO.out (by decide) hgrow)
    have HY2 := Lib.hid (kept_by HY1.out HO.out (by decide) hgrow)
    have hgl2 : (gs ++ LS).length ≤ 1 + 4000 * (j + 1) := by rw [List.length_append]; omega
    have HG2 := Lib.hid hgl2
    obtain ⟨la2, lc2, rfl⟩ := own_form hown
    clear hown hgrow hnil hat hgl2
    go_wp2
    go_roundg (l.length - (j + 1))
    case rel => exact ⟨j + 1, gs ++ LS, by omega, rfl, by go_num, HG2.out, HB2.out.size, by show _ = _; rw [HSN.out, HGS.out, List.append_assoc], HD2.out, HB2.out, HX2.out, HY2.out⟩
    case measure => omega
end Go.Proofs.YtpmnepihaljamaaGreatDoor
end

/-
  The example of the statements holds.
-/
section
set_option linter.unusedSimpArgs false
set_option linter.unusedVariables false
set_option maxRecDepth 100000
namespace Go.Proofs.YtpmnepihaljamaaGreatDoor
open Go.RowKit
open Cm (Ln lnv ln0 Cl clv cl0 btv exC exLn exS)

abbrev wA (w : World) : World := w.alloc (.cells #[.int .u8 42, .int .u8 58, .int .u8 126] 23)
abbrev wB (w : World) : World := (wA w).alloc (.cells #[.string ⟨#[50, 53]⟩] 9)
abbrev wC (w : World) : World := (wB w).alloc (.cells #[.string ⟨#[57, 57, 50, 49, 51]⟩, .slice (some ⟨w.heap.size + 1, 0, none⟩) 1 1, .int .i64 20240301, .int .i64 1, .int .i64 100, .int .i64 0] 47)
abbrev wD (w : World) : World := (wC w).alloc (.cells #[.string ⟨#[67, 49]⟩, .string ⟨#[77, 49]⟩, .string ⟨#[70, 49]⟩, .int .i64 0, .int .i64 1, .string ByteArray.empty, .slice (some ⟨w.heap.size + 2, 0, none⟩) 1 1] 43)
abbrev wE (w : World) : World := (wD w).alloc (.cells #[.int .i64 7, .slice (some ⟨w.heap.size + 3, 0, none⟩) 1 1] 26)
theorem new_at' (w : World) (o : Obj) (q : Nat) (hq : w.heap.size = q) : (w.alloc o).heap[q]? = some o := by subst hq; exact heap_alloc_new w o
theorem ex_at (w : World) : Cm.ClsAt All (wE w) (.slice (some ⟨w.heap.size + 3, 0, none⟩) 1 1) [exC] ∧ (wE w).heap[w.heap.size]? = some (.cells #[.int .u8 42, .int .u8 58, .int .u8 126] 23 (0, 0)) ∧ (wE w).heap[w.heap.size + 4]? = some (.cells #[.int .i64 7, .slice (some ⟨w.heap.size + 3, 0, none⟩) 1 1] 26 (0, 0)) ∧ Below w.heap.size w (wE w) := by
  have b1 := below_alloc w (.cells #[.int .u8 42, .int .u8 58, .int .u8 126] 23)
  have b2 := below_alloc (wA w) (.cells #[.string ⟨#[50, 53]⟩] 9)
  have b3 := below_alloc (wB w) (.cells #[.string ⟨#[57, 57, 50, 49, 51]⟩, .slice (some ⟨w.heap.size + 1, 0, none⟩) 1 1, .int .i64 20240301, .int .i64 1, .int .i64 100, .int .i64 0] 47)
  have b4 := below_alloc (wC w) (.cells #[.string ⟨#[67, 49]⟩, .string ⟨#[77, 49]⟩, .string ⟨#[70, 49]⟩, .int .i64 0, .int .i64 1, .string ByteArray.empty, .slice (some ⟨w.heap.size + 2, 0, none⟩) 1 1] 43)
  have b5 := below_alloc (wD w) (.cells #[.int .i64 7, .slice (some ⟨w.heap.size + 3, 0, none⟩) 1 1] 26)
  have h1 := keepB (heap_alloc_new w (.cells #[.int .u8 42, .int .u8 58, .int .u8 126] 23)) (below_trans b2 (below_trans b3 (below_trans b4 b5)))
  have h2 := keepB (new_at' (wA w) (.cells #[.string ⟨#[50, 53]⟩] 9) (w.heap.size + 1) (by simp)) (below_trans b3 (below_trans b4 b5))
  have h3 := keepB (new_at' (wB w) (.cells #[.string ⟨#[57, 57, 50, 49, 51]⟩, .slice (some ⟨w.heap.size + 1, 0, none⟩) 1 1, .int .i64 20240301, .int .i64 1, .int .i64 100, .int .i64 0] 47) (w.heap.size + 2) (by simp)) (below_trans b4 b5)
  have h4 := keepB (new_at' (wC w) (.cells #[.string ⟨#[67, 49]⟩, .string ⟨#[77, 49]⟩, .string ⟨#[70, 49]⟩, .int .i64 0, .int .i64 1, .string ByteArray.empty, .slice (some ⟨w.heap.size + 2, 0, none⟩) 1 1] 43) (w.heap.size + 3) (by simp)) b5
  have h5 := new_at' (wD w) (.cells #[.int .i64 7, .slice (some ⟨w.heap.size + 3, 0, none⟩) 1 1] 26) (w.heap.size + 4) (by simp)
  refine ⟨⟨_, 1, rfl, by simp, by simp [maxLen], Or.inr ⟨w.heap.size + 3, 0, rfl, trivial, (Array.getElem?_eq_some_iff.1 h4).1, fun j x hj => ?_⟩⟩, h1, h5, below_trans b1 (below_trans b2 (below_trans b3 (below_trans b4 b5)))⟩
  match j, hj with
  | 0, hj =>
    simp at hj
    subst hj
    obtain ⟨c0, c1, c2, c3, c4, c5, c6⟩ := claim_cells h4
    refine ⟨_, ⟨c0, c1, c2, c3, c4, c5, c6⟩, ⟨_, 1, rfl, by simp [exC], by simp [maxLen], Or.inr ⟨w.heap.size + 2, 0, rfl, trivial, (Array.getElem?_eq_some_iff.1 h3).1, fun j x hj => ?_⟩⟩⟩
    match j, hj with
    | 0, hj =>
      simp [exC] at hj
      subst hj
      obtain ⟨d0, d1, d2, d3, d4, d5⟩ := line_cells h3
      refine ⟨_, ⟨d0, d1, d2, d3, d4, d5⟩, ⟨_, 1, rfl, by simp [exLn], by simp [maxLen], Or.inr ⟨w.heap.size + 1, 0, rfl, trivial, (Array.getElem?_eq_some_iff.1 h2).1, fun j x hj => ?_⟩⟩⟩
      match j, hj with
      | 0, hj =>
        simp [exLn] at hj
        subst hj
        exact ⟨_, by rw [cell_of_row _ _ _ _ _ (0, 0) h2]; rfl, rfl⟩
theorem ex_ok : ∀ c ∈ [exC], Cm.ClOk c := fun c hc => by
  rw [List.mem_singleton.1 hc]
  refine ⟨by unfold Cm.I64 exC; decide, by unfold Cm.I64 exC; decide, by decide, by decide, by decide, by decide, by decide, fun x hx => ?_⟩
  have hx' : x ∈ [exLn] := hx
  rw [List.mem_singleton.1 hx']
  refine ⟨by unfold Cm.I64 exLn; decide, by unfold Cm.I64 exLn; decide, by unfold Cm.I64 exLn; decide, by unfold Cm.I64 exLn; decide, by decide, by decide, fun t ht => ?_⟩
  have ht' : t ∈ [[50, 53]] := ht
  rw [List.mem_singleton.1 ht']
  decide

set_option maxHeartbeats 8000000 in
theorem works_any (w : World) (hT : Tab w) (hD : Da.Tab w) :
    Calls Tryz.prog 10 #[] w fun x w' => x = .returned (.bool true) ∧ Below w.heap.size w w' := by
  obtain ⟨x1, x2, x3, x4⟩ := ex_at w
  obtain ⟨r1, r2, r3, r4⟩ := Et.eight_back ex_wt.1
  rw [ex_wt.2] at r1 r2 r3 r4
  have HW := Lib.hid (ewrite_any 42 58 126 7 _ [exC] (wE w) x1 ex_ok (tab_grw hT x4) (Cm.tab_below hD x4) (fun _ => ex_sg))
  rw [ex_wt.1, ex_wt.2] at HW
  have HW2 : Hid (Calls Tryz.prog 11 #[.agg #[.int .u8 42, .int .u8 58, .int .u8 126], .agg #[.int .i64 7, .slice (some ⟨w.heap.size + 3, 0, none⟩) 1 1]] (wE w) fun x w' => x = .returned (.tuple #[.string (mk exS), .int .i64 0]) ∧ Below (wE w).heap.size (wE w) w') := HW.out
  have HR : Hid (∀ W, Below w.heap.size w W → Calls Tryz.prog 13 #[.string (mk exS)] W fun x w' => (∃ u, x = .returned (.tuple #[.agg #[.int .u8 42, .int .u8 58, .int .u8 126], .agg #[.int .i64 7, u], .int .i64 0]) ∧ Cm.ClsAt (fun b => W.heap.size ≤ b) w' u [exC]) ∧ Below W.heap.size W w') := fun W hW => by
    have := eread_any (mk exS) W (tab_grw hT hW) (Cm.tab_below hD hW) (by rw [mk_size]; simp only [maxLen]; decide)
    rw [mk_list, r1, r2, r3, r4] at this
    exact this
  obtain ⟨n1, n2, n3⟩ := r_no (s := [73, 83, 65, 42, 58, 126]) (by rw [ex_no]; decide)
  have HN : Hid (∀ W, Below w.heap.size w W → Calls Tryz.prog 13 #[.string ⟨#[73, 83, 65, 42, 58, 126]⟩] W fun x w' => (∃ u, x = .returned (.tuple #[.agg #[.int .u8 0, .int .u8 0, .int .u8 0], .agg #[.int .i64 0, u], .int .i64 5]) ∧ Cm.ClsAt (fun b => W.heap.size ≤ b) w' u []) ∧ Below W.heap.size W w') := fun W hW => by
    have := eread_any ⟨#[73, 83, 65, 42, 58, 126]⟩ W (tab_grw hT hW) (Cm.tab_below hD hW) (by decide)
    rw [show (⟨#[73, 83, 65, 42, 58, 126]⟩ : ByteArray).data.toList = [73, 83, 65, 42, 58, 126] from rfl, ex_no, n1, n2, n3] at this
    exact this
  have hms : (mk exS).toList = [73, 83, 65, 42, 58, 126, 71, 83, 42, 56, 51, 55, 42, 55, 126, 83, 84, 42, 56, 51, 55, 42, 55, 126, 66, 72, 84, 42, 49, 126, 72, 76, 42, 49, 126, 78, 77, 42, 77, 49, 42, 70, 49, 126, 67, 76, 77, 42, 67, 49, 42, 49, 46, 48, 48, 42, 48, 42, 49, 42, 126, 76, 88, 42, 49, 126, 83, 86, 42, 72, 67, 58, 57, 57, 50, 49, 51, 58, 50, 53, 42, 49, 46, 48, 48, 42, 49, 126, 68, 84, 80, 42, 52, 55, 50, 42, 50, 48, 50, 52, 48, 51, 48, 49, 126, 83, 69, 42, 57, 42, 55, 126, 71, 69, 42, 49, 42, 55, 126, 73, 69, 65, 42, 49, 42, 55, 126] := by rw [Lib.toList_data, mk_list]; rfl
  have HX := Lib.hid (And.intro x1 (And.intro x2 (And.intro x3 x4)))
  obtain ⟨a0, a1, a2, -⟩ := cells3 x2
  obtain ⟨b0, b1, -⟩ := cells2 x3
  clear hT hD x1 x2 x3 x4 r1 r2 r3 r4 HW n1 n2 n3
  generalize mk exS = T at *
  go_enter Tryz.func10, Tryz.ntmps10
  go_upto_region 3 with fail
  have HY : Hid (Cm.ClsAt All (((((w.alloc (.cells #[.int .u8 42, .int .u8 58, .int .u8 126] 23)).alloc (.cells #[.string ⟨#[50, 53]⟩] 9)).alloc (.cells #[.string ⟨#[57, 57, 50, 49, 51]⟩, .slice (some ⟨w.heap.size + 1, 0, none⟩) 1 1, .int .i64 20240301, .int .i64 1, .int .i64 100, .int .i64 0] 47)).alloc (.cells #[.string ⟨#[67, 49]⟩, .string ⟨#[77, 49]⟩, .string ⟨#[70, 49]⟩, .int .i64 0, .int .i64 1, .string ⟨#[]⟩, .slice (some ⟨w.heap.size + 1 + 1, 0, none⟩) 1 1] 43)).alloc (.cells #[.int .i64 7, .slice (some ⟨w.heap.size + 1 + 1 + 1, 0, none⟩) 1 1] 26)) (.slice (some ⟨w.heap.size + 1 + 1 + 1, 0, none⟩) 1 1) [exC] ∧ (((((w.alloc (.cells #[.int .u8 42, .int .u8 58, .int .u8 126] 23)).alloc (.cells #[.string ⟨#[50, 53]⟩] 9)).alloc (.cells #[.string ⟨#[57, 57, 50, 49, 51]⟩, .slice (some ⟨w.heap.size + 1, 0, none⟩) 1 1, .int .i64 20240301, .int .i64 1, .int .i64 100, .int .i64 0] 47)).alloc (.cells #[.string ⟨#[67, 49]⟩, .string ⟨#[77, 49]⟩, .string ⟨#[70, 49]⟩, .int .i64 0, .int .i64 1, .string ⟨#[]⟩, .slice (some ⟨w.heap.size + 1 + 1, 0, none⟩) 1 1] 43)).alloc (.cells #[.int .i64 7, .slice (some ⟨w.heap.size + 1 + 1 + 1, 0, none⟩) 1 1] 26)).heap[w.heap.size]? = some (.cells #[.int .u8 42, .int .u8 58, .int .u8 126] 23 (0, 0)) ∧ (((((w.alloc (.cells #[.int .u8 42, .int .u8 58, .int .u8 126] 23)).alloc (.cells #[.string ⟨#[50, 53]⟩] 9)).alloc (.cells #[.string ⟨#[57, 57, 50, 49, 51]⟩, .slice (some ⟨w.heap.size + 1, 0, none⟩) 1 1, .int .i64 20240301, .int .i64 1, .int .i64 100, .int .i64 0] 47)).alloc (.cells #[.string ⟨#[67, 49]⟩, .string ⟨#[77, 49]⟩, .string ⟨#[70, 49]⟩, .int .i64 0, .int .i64 1, .string ⟨#[]⟩, .slice (some ⟨w.heap.size + 1 + 1, 0, none⟩) 1 1] 43)).alloc (.cells #[.int .i64 7, .slice (some ⟨w.heap.size + 1 + 1 + 1, 0, none⟩) 1 1] 26)).heap[w.heap.size + 1 + 1 + 1 + 1]? = some (.cells #[.int .i64 7, .slice (some ⟨w.heap.size + 1 + 1 + 1, 0, none⟩) 1 1] 26 (0, 0)) ∧ Below w.heap.size w (((((w.alloc (.cells #[.int .u8 42, .int .u8 58, .int .u8 126] 23)).alloc (.cells #[.string ⟨#[50, 53]⟩] 9)).alloc (.cells #[.string ⟨#[57, 57, 50, 49, 51]⟩, .slice (some ⟨w.heap.size + 1, 0, none⟩) 1 1, .int .i64 20240301, .int .i64 1, .int .i64 100, .int .i64 0] 47)).alloc (.cells #[.string ⟨#[67, 49]⟩, .string ⟨#[77, 49]⟩, .string ⟨#[70, 49]⟩, .int .i64 0, .int .i64 1, .string ⟨#[]⟩, .slice (some ⟨w.heap.size + 1 + 1, 0, none⟩) 1 1] 43)).alloc (.cells #[.int .i64 7, .slice (some ⟨w.heap.size + 1 + 1 + 1, 0, none⟩) 1 1] 26))) := HX.out
  have HW3 : Hid (Calls Tryz.prog 11 #[.agg #[.int .u8 42, .int .u8 58, .int .u8 126], .agg #[.int .i64 7, .slice (some ⟨w.heap.size + 1 + 1 + 1, 0, none⟩) 1 1]] (((((w.alloc (.cells #[.int .u8 42, .int .u8 58, .int .u8 126] 23)).alloc (.cells #[.string ⟨#[50, 53]⟩] 9)).alloc (.cells #[.string ⟨#[57, 57, 50, 49, 51]⟩, .slice (some ⟨w.heap.size + 1, 0, none⟩) 1 1, .int .i64 20240301, .int .i64 1, .int .i64 100, .int .i64 0] 47)).alloc (.cells #[.string ⟨#[67, 49]⟩, .string ⟨#[77, 49]⟩, .string ⟨#[70, 49]⟩, .int .i64 0, .int .i64 1, .string ⟨#[]⟩, .slice (some ⟨w.heap.size + 1 + 1, 0, none⟩) 1 1] 43)).alloc (.cells #[.int .i64 7, .slice (some ⟨w.heap.size + 1 + 1 + 1, 0, none⟩) 1 1] 26)) fun x w' => x = .returned (.tuple #[.string T, .int .i64 0]) ∧ Below (((((w.alloc (.cells #[.int .u8 42, .int .u8 58, .int .u8 126] 23)).alloc (.cells #[.string ⟨#[50, 53]⟩] 9)).alloc (.cells #[.string ⟨#[57, 57, 50, 49, 51]⟩, .slice (some ⟨w.heap.size + 1, 0, none⟩) 1 1, .int .i64 20240301, .int .i64 1, .int .i64 100, .int .i64 0] 47)).alloc (.cells #[.string ⟨#[67, 49]⟩, .string ⟨#[77, 49]⟩, .string ⟨#[70, 49]⟩, .int .i64 0, .int .i64 1, .string ⟨#[]⟩, .slice (some ⟨w.heap.size + 1 + 1, 0, none⟩) 1 1] 43)).alloc (.cells #[.int .i64 7, .slice (some ⟨w.heap.size + 1 + 1 + 1, 0, none⟩) 1 1] 26)).heap.size (((((w.alloc (.cells #[.int .u8 42, .int .u8 58, .int .u8 126] 23)).alloc (.cells #[.string ⟨#[50, 53]⟩] 9)).alloc (.cells #[.string ⟨#[57, 57, 50, 49, 51]⟩, .slice (some ⟨w.heap.size + 1, 0, none⟩) 1 1, .int .i64 20240301, .int .i64 1, .int .i64 100, .int .i64 0] 47)).alloc (.cells #[.string ⟨#[67, 49]⟩, .string ⟨#[77, 49]⟩, .string ⟨#[70, 49]⟩, .int .i64 0, .int .i64 1, .string ⟨#[]⟩, .slice (some ⟨w.heap.size + 1 + 1, 0, none⟩) 1 1] 43)).alloc (.cells #[.int .i64 7, .slice (some ⟨w.heap.size + 1 + 1 + 1, 0, none⟩) 1 1] 26)) w') := HW2.out
  clear a0 a1 a2 b0 b1 HX HW2
  generalize (((((w.alloc (.cells #[.int .u8 42, .int .u8 58, .int .u8 126] 23)).alloc (.cells #[.string ⟨#[50, 53]⟩] 9)).alloc (.cells #[.string ⟨#[57, 57, 50, 49, 51]⟩, .slice (some ⟨w.heap.size + 1, 0, none⟩) 1 1, .int .i64 20240301, .int .i64 1, .int .i64 100, .int .i64 0] 47)).alloc (.cells #[.string ⟨#[67, 49]⟩, .string ⟨#[77, 49]⟩, .string ⟨#[70, 49]⟩, .int .i64 0, .int .i64 1, .string ⟨#[]⟩, .slice (some ⟨w.heap.size + 1 + 1, 0, none⟩) 1 1] 43)).alloc (.cells #[.int .i64 7, .slice (some ⟨w.heap.size + 1 + 1 + 1, 0, none⟩) 1 1] 26)) = w0 at *
  obtain ⟨a0, a1, a2, -⟩ := cells3 HY.out.2.1
  obtain ⟨b0, b1, -⟩ := cells2 HY.out.2.2.1
  go_wp2_with fail
  go_at_call 11
  refine HW3.out.mono ?_
  rintro x w1 ⟨rfl, hb1⟩
  have HB1 := Lib.hid (below_trans HY.out.2.2.2 hb1)
  have HW1 := Lib.hid hb1
  clear hb1 a0 a1 a2 b0 b1
  go_wp2_with fail
  go_at_call 13
  refine (HR.out _ HB1.out).mono ?_
  rintro x w2 ⟨⟨u, rfl, hu⟩, hb2⟩
  have HU := Lib.hid hu
  obtain ⟨ua, uc, rfl, -, -, -⟩ := hu
  have hb3 := below_trans (below_alloc w2 (.cells #[.int .u8 42, .int .u8 58, .int .u8 126] 23)) (below_alloc _ (.cells #[.int .i64 7, .slice ua 1 uc] 26))
  have HB3 := Lib.hid (below_trans HB1.out (below_trans hb2 hb3))
  have HW3 := Lib.hid (below_trans HW1.out (below_trans hb2 hb3))
  have HU3 := Lib.hid (Cm.ClsAt.move (K' := All) HU.out (Moves.trans (moves_weak _ fun _ _ _ => trivial) (Below.moves hb3)))
  have HD3 := Lib.hid (keepB (heap_alloc_new w2 (.cells #[.int .u8 42, .int .u8 58, .int .u8 126] 23)) (below_alloc (w2.alloc (.cells #[.int .u8 42, .int .u8 58, .int .u8 126] 23)) (.cells #[.int .i64 7, .slice ua 1 uc] 26)))
  have HE3 := Lib.hid (new_at' (w2.alloc (.cells #[.int .u8 42, .int .u8 58, .int .u8 126] 23)) (.cells #[.int .i64 7, .slice ua 1 uc] 26) (w2.heap.size + 1) (by simp))
  clear hb2 hb3 HU
  go_upto_region 5 with fail
  have hl1 : [exC].length = 1 := rfl
  generalize (w2.alloc (.cells #[.int .u8 42, .int .u8 58, .int .u8 126] 23)).alloc (.cells #[.int .i64 7, .slice ua 1 uc] 26) = w4 at *
  go_wp2_with fail
  go_at_call 13
  refine (HN.out _ HB3.out).mono ?_
  rintro x w5 ⟨⟨u5, rfl, hu5⟩, hb5⟩
  obtain ⟨va, vc, rfl, -, -, -⟩ := hu5
  have hb6 := below_trans (below_alloc w5 (.cells #[.int .u8 0, .int .u8 0, .int .u8 0] 23)) (below_alloc _ (.cells #[.int .i64 0, .slice va 0 vc] 26))
  have hb56 := below_trans hb5 hb6
  have HB6 := Lib.hid (below_trans HB3.out hb56)
  have HU6 := Lib.hid (Cm.ClsAt.move HU3.out (Below.moves hb56))
  have HD6 := Lib.hid (keepB HD3.out hb56)
  have HE6 := Lib.hid (keepB HE3.out hb56)
  have hb06 := below_trans HW3.out hb56
  have HX6 := Lib.hid (Cm.ClsAt.move HY.out.1 (Below.moves hb06))
  have HP6 := Lib.hid (keepB HY.out.2.1 hb06)
  have HQ6 := Lib.hid (keepB HY.out.2.2.1 hb06)
  clear hb5 hb6 hb56 hb06
  go_upto_region 6 with fail
  generalize (w5.alloc (.cells #[.int .u8 0, .int .u8 0, .int .u8 0] 23)).alloc (.cells #[.int .i64 0, .slice va 0 vc] 26) = w6 at *
  obtain ⟨a0, a1, a2, -⟩ := cells3 HP6.out
  obtain ⟨b0, b1, -⟩ := cells2 HQ6.out
  obtain ⟨c0, c1, c2, -⟩ := cells3 HD6.out
  obtain ⟨d0, d1, -⟩ := cells2 HE6.out
  have HSm := Lib.hid (Cm.bsame_eq 7 _ _ [exC] w6 HX6.out HU6.out)
  have HSm2 : Hid (Calls Tryz.prog 15 #[.agg #[.int .i64 7, .slice (some ⟨w.heap.size + 1 + 1 + 1, 0, none⟩) 1 1], .agg #[.int .i64 7, .slice ua 1 uc]] w6 fun e w' => e = .returned (.bool true) ∧ Below w6.heap.size w6 w') := HSm.out
  clear HSm
  go_wp2_with (go_at_call 15; refine HSm2.out.mono ?_; rintro x w7 ⟨rfl, hb7⟩; have HB7 := Lib.hid (below_trans HB6.out hb7); clear hb7)
  go_ret
  exact ⟨rfl, HB7.out⟩
end Go.Proofs.YtpmnepihaljamaaGreatDoor
end
