/-
  Texts put together (merge.py): ERLn.
-/
import Derived.Test.YtpmnepihaljamaaGreatDoorM41
/-
  What the reference's Line answers, as a contract: a service's segments, in new memory.
-/
section
set_option linter.unusedSimpArgs false
set_option linter.unusedVariables false
set_option maxRecDepth 100000
namespace Go.Proofs.YtpmnepihaljamaaGreatDoor
open Go.RowKit
open Cm (Ln LnBox lnv LnOk)

def svAt (N g pA pB pC : Nat) (pv : Value) (tm tu : Tx) (w : World) : Prop := (N ≤ g ∧ N ≤ pA ∧ N ≤ pB ∧ N ≤ pC) ∧ w.heap[g]? = some (.cells #[slc pA, pv, slc pB, slc pC] 45 (0, 0)) ∧ w.heap[pA]? = some (.cells #[.string (mk Et.tSV)] 9 (0, 0)) ∧ w.heap[pB]? = some (.cells #[.string (mk tm)] 9 (0, 0)) ∧ w.heap[pC]? = some (.cells #[.string (mk tu)] 9 (0, 0))
def rsF (N lb : Nat) (bi un : Int) (tm tu : Tx) (pv : Value) : Nat → (Nat → Value) → World → Prop
  | 0, vs, w => ∃ q, vs 0 = slc q ∧ N ≤ q ∧ w.heap[q]? = some (.cells #[.string (mk Et.tSV)] 9 (0, 0))
  | 1, vs, _ => vs 1 = pv
  | 2, vs, _ => vs 2 = .pointer (some ⟨lb, 4, none⟩)
  | 3, vs, _ => vs 3 = .int .i64 bi
  | 4, vs, _ => vs 4 = .string (mk tm)
  | 5, vs, w => ∃ q, vs 5 = slc q ∧ N ≤ q ∧ w.heap[q]? = some (.cells #[.string (mk tm)] 9 (0, 0))
  | 6, vs, _ => vs 6 = .pointer (some ⟨lb, 3, none⟩)
  | 7, vs, _ => vs 7 = .int .i64 un
  | 8, vs, _ => vs 8 = .string (mk tu)
  | 9, vs, w => ∃ q, vs 9 = slc q ∧ N ≤ q ∧ w.heap[q]? = some (.cells #[.string (mk tu)] 9 (0, 0))
  | 10, vs, w => ∃ g pA pB pC, vs 10 = .slice (some ⟨g, 0, none⟩) 4 4 ∧ svAt N g pA pB pC pv tm tu w
  | 11, vs, w => ∃ g pA pB pC, vs 11 = .agg #[.slice (some ⟨g, 0, none⟩) 4 4] ∧ svAt N g pA pB pC pv tm tu w
  | 12, vs, w => ∃ q c, vs 12 = .pointer (some ⟨q, 0, none⟩) ∧ N ≤ q ∧ w.heap[q]? = some (.cells #[c] 50 (0, 0))
  | 13, vs, w => ∃ q g pA pB pC, vs 12 = .pointer (some ⟨q, 0, none⟩) ∧ N ≤ q ∧ w.heap[q]? = some (.cells #[.slice (some ⟨g, 0, none⟩) 4 4] 50 (0, 0)) ∧ svAt N g pA pB pC pv tm tu w
  | _, _, _ => True
def rsD : Nat → List Nat
  | 13 => [12, 13]
  | j => [j]
theorem rsF_loc {N lb : Nat} {bi un : Int} {tm tu : Tx} {pv : Value} (j : Nat) (vs : Nat → Value) (i : Nat) (v : Value) (w : World) (hi : i ∉ rsD j) (h : rsF N lb bi un tm tu pv j vs w) : rsF N lb bi un tm tu pv j (Ri.upd vs i v) w := by
  match j, h with
  | 0, h => have e := Ri.upd_ne vs v (show 0 ≠ i from fun e => hi (by subst e; decide)); simp only [rsF, e] at h ⊢; exact h
  | 1, h => have e := Ri.upd_ne vs v (show 1 ≠ i from fun e => hi (by subst e; decide)); simp only [rsF, e] at h ⊢; exact h
  | 2, h => have e := Ri.upd_ne vs v (show 2 ≠ i from fun e => hi (by subst e; decide)); simp only [rsF, e] at h ⊢; exact h
  | 3, h => have e := Ri.upd_ne vs v (show 3 ≠ i from fun e => hi (by subst e; decide)); simp only [rsF, e] at h ⊢; exact h
  | 4, h => have e := Ri.upd_ne vs v (show 4 ≠ i from fun e => hi (by subst e; decide)); simp only [rsF, e] at h ⊢; exact h
  | 5, h => have e := Ri.upd_ne vs v (show 5 ≠ i from fun e => hi (by subst e; decide)); simp only [rsF, e] at h ⊢; exact h
  | 6, h => have e := Ri.upd_ne vs v (show 6 ≠ i from fun e => hi (by subst e; decide)); simp only [rsF, e] at h ⊢; exact h
  | 7, h => have e := Ri.upd_ne vs v (show 7 ≠ i from fun e => hi (by subst e; decide)); simp only [rsF, e] at h ⊢; exact h
  | 8, h => have e := Ri.upd_ne vs v (show 8 ≠ i from fun e => hi (by subst e; decide)); simp only [rsF, e] at h ⊢; exact h
  | 9, h => have e := Ri.upd_ne vs v (show 9 ≠ i from fun e => hi (by subst e; decide)); simp only [rsF, e] at h ⊢; exact h
  | 10, h => have e := Ri.upd_ne vs v (show 10 ≠ i from fun e => hi (by subst e; decide)); simp only [rsF, e] at h ⊢; exact h
  | 11, h => have e := Ri.upd_ne vs v (show 11 ≠ i from fun e => hi (by subst e; decide)); simp only [rsF, e] at h ⊢; exact h
  | 12, h => have e := Ri.upd_ne vs v (show 12 ≠ i from fun e => hi (by subst e; decide)); simp only [rsF, e] at h ⊢; exact h
  | 13, h => have e := Ri.upd_ne vs v (show 12 ≠ i from fun e => hi (by subst e; decide)); simp only [rsF, e] at h ⊢; exact h
  | n + 14, h => exact trivial
theorem svAt.grw {N g pA pB pC : Nat} {pv : Value} {tm tu : Tx} {w w' : World} (h : svAt N g pA pB pC pv tm tu w) (hk : ∀ (q : Nat) (cs : Array Value) (T : TypeId), T ≠ 50 → w.heap[q]? = some (.cells cs T (0, 0)) → w'.heap[q]? = some (.cells cs T (0, 0))) : svAt N g pA pB pC pv tm tu w' :=
  ⟨h.1, hk _ _ _ (by decide) h.2.1, hk _ _ _ (by decide) h.2.2.1, hk _ _ _ (by decide) h.2.2.2.1, hk _ _ _ (by decide) h.2.2.2.2⟩
theorem rsF_move {N lb : Nat} {bi un : Int} {tm tu : Tx} {pv : Value} {w w' : World} (hk : ∀ (q : Nat) (cs : Array Value) (T : TypeId), T ≠ 50 → w.heap[q]? = some (.cells cs T (0, 0)) → w'.heap[q]? = some (.cells cs T (0, 0))) (hs : ∀ (q : Nat) (c : Value), w.heap[q]? = some (.cells #[c] 50 (0, 0)) → ∃ c', w'.heap[q]? = some (.cells #[c'] 50 (0, 0))) (j : Nat) (vs : Nat → Value) (hj : j ≠ 13) (h : rsF N lb bi un tm tu pv j vs w) : rsF N lb bi un tm tu pv j vs w' := by
  match j, h with
  | 0, ⟨q, a, b, c⟩ => exact ⟨q, a, b, hk _ _ _ (by decide) c⟩
  | 1, h => exact h
  | 2, h => exact h
  | 3, h => exact h
  | 4, h => exact h
  | 5, ⟨q, a, b, c⟩ => exact ⟨q, a, b, hk _ _ _ (by decide) c⟩
  | 6, h => exact h
  | 7, h => exact h
  | 8, h => exact h
  | 9, ⟨q, a, b, c⟩ => exact ⟨q, a, b, hk _ _ _ (by decide) c⟩
  | 10, ⟨g, pA, pB, pC, a, b⟩ => exact ⟨g, pA, pB, pC, a, b.grw hk⟩
  | 11, ⟨g, pA, pB, pC, a, b⟩ => exact ⟨g, pA, pB, pC, a, b.grw hk⟩
  | 12, ⟨q, c, a, b, d⟩ => obtain ⟨c', d'⟩ := hs q c d; exact ⟨q, c', a, b, d'⟩
  | 13, _ => exact absurd rfl hj
  | n + 14, h => exact trivial
theorem rsF_grw {N lb : Nat} {bi un : Int} {tm tu : Tx} {pv : Value} {w w' : World} (hb : Below w.heap.size w w') (j : Nat) (vs : Nat → Value) (h : rsF N lb bi un tm tu pv j vs w) : rsF N lb bi un tm tu pv j vs w' := by
  by_cases hj : j = 13
  · subst hj
    obtain ⟨q, g, pA, pB, pC, a, b, c, d⟩ := h
    exact ⟨q, g, pA, pB, pC, a, b, keepB c hb, d.grw fun q cs T _ h => keepB h hb⟩
  · exact rsF_move (fun q cs T _ h => keepB h hb) (fun q c h => ⟨c, keepB h hb⟩) j vs hj h

set_option maxHeartbeats 8000000 in
theorem rln_any (k : Nat) (x : Ln) (m : Value) (w : World) (hm : TxAt All w m x.mods) (hz : LnOk x) (hk : k ≤ 1000000) (hml : x.mods.length ≤ 1000) :
    Calls Tryz.prog 55 #[.int .i64 (k : Int), lnv x m] w fun e w' => (∃ u, e = .returned u ∧ NewAt w.heap.size (Et.lnS k x) u w') ∧ Below w.heap.size w w' := by
  obtain ⟨am, cm, rfl, f1, f2⟩ := Cm.TxAt.form hm
  obtain ⟨z1, z2, z3, z4, z5⟩ := hz
  have hb1 := Cm.below_alloc w (.cells #[.string (mk x.proc), .slice am x.mods.length cm, .int .i64 x.date, .int .i64 x.units, .int .i64 x.billed, .int .i64 x.prior] 47)
  have HB0 := Lib.hid (below_trans hb1 (below_alloc _ (.cells #[.string ⟨#[72, 67]⟩, .string (mk x.proc)] 9)))
  have HLH := Lib.hid (keepB (heap_alloc_new w (.cells #[.string (mk x.proc), .slice am x.mods.length cm, .int .i64 x.date, .int .i64 x.units, .int .i64 x.billed, .int .i64 x.prior] 47)) (below_alloc (w.alloc (.cells #[.string (mk x.proc), .slice am x.mods.length cm, .int .i64 x.date, .int .i64 x.units, .int .i64 x.billed, .int .i64 x.prior] 47)) (.cells #[.string ⟨#[72, 67]⟩, .string (mk x.proc)] 9)))
  have HPR : Hid (((w.alloc (.cells #[.string (mk x.proc), .slice am x.mods.length cm, .int .i64 x.date, .int .i64 x.units, .int .i64 x.billed, .int .i64 x.prior] 47)).alloc (.cells #[.string ⟨#[72, 67]⟩, .string (mk x.proc)] 9)).ownsRow w.heap.size 9 1 (.slice (some ⟨w.heap.size + 1, 0, none⟩) 2 2) 2 [.string (mk Et.tHC), .string (mk x.proc)]) :=
    ⟨rfl, Or.inr ⟨w.heap.size + 1, 2, _, rfl, by omega, new_at _ _ _ (by simp), Nat.le_refl _, by simp [maxLen], rfl, rfl⟩⟩
  have HM := Lib.hid (TxAt.move hm (Below.moves HB0.out))
  have HNB : Hid (w.heap.size ≠ w.heap.size + 1) := by show ¬ _; omega
  have HZ := Lib.hid (And.intro z1 z4)
  have HEA := Lib.hid z2
  have HEB := Lib.hid z3
  obtain ⟨i9, k1, k2, k3, k4⟩ := infoT
  clear hb1 z1 z2 z3 z4 z5
  go_enter Tryz.func55, Tryz.ntmps55
  go_upto_region 2 with fail
  generalize (w.alloc (.cells #[.string (mk x.proc), .slice am x.mods.length cm, .int .i64 x.date, .int .i64 x.units, .int .i64 x.billed, .int .i64 x.prior] 47)).alloc (.cells #[.string ⟨#[72, 67]⟩, .string (mk x.proc)] 9) = w0 at *
  obtain ⟨l0, l1, -⟩ := line_cells HLH.out
  have HLE : Hid (w.heap.size ≤ w0.heap.size) := HB0.out.size
  go_cut [5] (fun s5 wx => ∃ (ap : Option Addr) (cp : Nat), s5 = .slice ap (2 + x.mods.length) cp ∧ Hid (TxAt (fun b => w.heap.size ≤ b) wx (.slice ap (2 + x.mods.length) cp) (Et.tHC :: x.proc :: x.mods)) ∧ Hid (wx.heap[w.heap.size]? = some (.cells #[.string (mk x.proc), .slice am x.mods.length cm, .int .i64 x.date, .int .i64 x.units, .int .i64 x.billed, .int .i64 x.prior] 47 (0, 0))) ∧ Hid (Below w.heap.size w wx))
  case first =>
    by_cases hmo : x.mods.length = 0
    · have HM0 : Hid (x.mods = []) := List.length_eq_zero_iff.1 hmo
      have HAZ : Hid (∀ ty, (Builtin.append_ #[45, 45] ty #[.slice (some ⟨w.heap.size + 1, 0, none⟩) 2 2, .slice am x.mods.length cm]).run Tryz.prog w0 = .ok (.slice (some ⟨w.heap.size + 1, 0, none⟩) 2 2) w0) := fun ty => by
        rw [hmo]
        exact app_zero ty cm am _ 2 _ HPR.out
      have HTX : Hid (TxAt (fun b => w.heap.size ≤ b) w0 (.slice (some ⟨w.heap.size + 1, 0, none⟩) (2 + x.mods.length) 2) (Et.tHC :: x.proc :: x.mods)) := by
        rw [HM0.out]
        exact row_of_own (ys := [Et.tHC, x.proc]) HPR.out (fun b hb => (HPR.out.lt b hb).1) fun j u y hu hy => by
          match j, hu, hy with
          | 0, hu, hy => simp at hu hy; subst hu hy; rfl
          | 1, hu, hy => simp at hu hy; subst hu hy; rfl
      clear hmo
      go_wp2_with (at_builtin; refine wpList_append_run rfl _ _ 45 rfl (.slice (some ⟨w.heap.size + 1, 0, none⟩) 2 2) (.slice am x.mods.length cm) _ (by simp [Act.eval, Act.put]) (by simp [Act.eval, Act.put]) (HAZ.out _) ?_)
      go_meet
      exact ⟨_, 2, by rw [HM0.out]; rfl, HTX.out, HLH.out, HB0.out⟩
    · have HNE : Hid (x.mods ≠ []) := fun e => hmo (by rw [e]; rfl)
      obtain ⟨ad, cc, hadv, hnw⟩ := tx_cells HM.out HNE.out
      simp only [Value.slice.injEq] at hadv
      obtain ⟨rfl, -, rfl⟩ := hadv
      have HNW := Lib.hid hnw
      have HON : Hid (∀ u ∈ (x.mods.map fun t => Value.string (mk t)), u.oneCell' = true) := fun u hu => by
        obtain ⟨t, -, rfl⟩ := List.mem_map.1 hu
        rfl
      have HLM : Hid ((x.mods.map fun t => Value.string (mk t)).length = x.mods.length * 1) := by show _ = _; simp
      have hpos : 0 < x.mods.length := by omega
      clear hnw hmo
      go_wp2_with (at_builtin; refine wpList_append_lies _ rfl _ _ 45 rfl w.heap.size 9 i9 (.string ByteArray.empty) 1 16 Tryz.underlying45 k1 k2 k3 k4 rfl (by omega) (.slice (some ⟨w.heap.size + 1, 0, none⟩) 2 2) 2 [.string (mk Et.tHC), .string (mk x.proc)] (by simp [Act.eval, Act.put]) HPR.out ad x.mods.length cm (x.mods.map fun t => Value.string (mk t)) (by simp [Act.eval, Act.put]) HLM.out HNW.out HON.out hpos (by simp only [maxLen]; omega) (by omega) HLE.out w0.heap.size rfl ?_)
      intro g1 cap1 w1 hown hgrow hat hlt
      have HL1 := Lib.hid (kept_other HLH.out HPR.out (by decide) hgrow)
      have HT1 : Hid (TxAt (fun b => w.heap.size ≤ b) w1 (.slice (some ⟨g1, 0, none⟩) (2 + x.mods.length) cap1) (Et.tHC :: x.proc :: x.mods)) := by
        have hl : (Et.tHC :: x.proc :: x.mods).length = 2 + x.mods.length := by simp; omega
        rw [← hl] at hown ⊢
        exact row_of_own hown (fun b hb => (hown.lt b hb).1) fun j u y hu hy => by
          have hu' : ((Et.tHC :: x.proc :: x.mods).map fun t => Value.string (mk t))[j]? = some u := hu
          rw [List.getElem?_map, hy] at hu'
          simp at hu'
          subst hu'
          rfl
      have HB1 := Lib.hid (HB0.out.grown hgrow HLE.out fun k hk => (HPR.out.lt k hk).1)
      clear hown hgrow hat hlt
      go_wp2_with fail
      go_meet
      exact ⟨_, _, rfl, HT1.out, HL1.out, HB1.out⟩
  case rest =>
    clear HB0 HLH HPR HM HNB HLE l0 l1
    obtain ⟨ap, cp, rfl, HT1, HL1, HB1'⟩ := hcut
    have HBX := HB1'
    clear HB1'
    have hBw : w.heap.size < wc.heap.size := (Array.getElem?_eq_some_iff.1 HL1.out).1
    have HMo : Hid (∀ W, Below wc.heap.size wc W → Calls Tryz.prog 54 #[.int .i64 x.billed] W fun e w' => e = .returned (.string (mk (Nu.moneyL x.billed))) ∧ Below W.heap.size W w') := fun W _ => Nu.rmoney_any x.billed HEB.out.1 HEB.out.2 W
    have HUn : Hid (∀ W, Below wc.heap.size wc W → Calls Tryz.prog 26 #[.int .i64 x.units] W fun e w' => e = .returned (.string (mk (Lib.itoa x.units))) ∧ Below W.heap.size W w') := fun W _ => rnum_any x.units W HEA.out.1 HEA.out.2
    have HLB : Hid (∀ W, Below wc.heap.size wc W → W.cell? ⟨w.heap.size, 3, none⟩ = some (.int .i64 x.units) ∧ W.cell? ⟨w.heap.size, 4, none⟩ = some (.int .i64 x.billed) ∧ w.heap.size < W.heap.size) := fun W hW => ⟨(line_cells (keepB HL1.out hW)).2.2.2.1, (line_cells (keepB HL1.out hW)).2.2.2.2.1, by have := hW.size; omega⟩
    obtain ⟨tm, htm⟩ : ∃ tm, tm = Nu.moneyL x.billed := ⟨_, rfl⟩
    obtain ⟨tu, htu⟩ : ∃ tu, tu = Lib.itoa x.units := ⟨_, rfl⟩
    rw [← htm] at HMo
    rw [← htu] at HUn
    have HTM := Lib.hid htm
    have HTU := Lib.hid htu
    clear htm htu HEA HEB
    have HKP : Hid (∀ W, Below wc.heap.size wc W → W.cell? ⟨w.heap.size, 3, none⟩ = some (.int .i64 x.units) ∧ W.cell? ⟨w.heap.size, 4, none⟩ = some (.int .i64 x.billed)) := fun W hW => ⟨(HLB.out W hW).1, (HLB.out W hW).2.1⟩
    obtain ⟨b3, b4, -⟩ := HLB.out _ (Below.refl _ _)
    have HBd := Lib.hid (Below.drew (Below.refl wc.heap.size wc))
    have n0 : w.heap.size ≠ wc.heap.size := by omega
    have n01 : w.heap.size ≠ wc.heap.size + 1 := by omega
    go_upto_region 3 with fail
    go_cut [6] (fun s6 wx => ∃ (q g : Nat), s6 = .pointer (some ⟨q, 0, none⟩) ∧ Hid (ElAt (fun b => w.heap.size ≤ b) wx (.slice (some ⟨g, 0, none⟩) 4 4) [[Et.tSV], Et.tHC :: x.proc :: x.mods, [tm], [tu]]) ∧ Hid (wx.heap[q]? = some (.cells #[.slice (some ⟨g, 0, none⟩) 4 4] 50 (0, 0))) ∧ Hid (Below wc.heap.size wc wx))
    case first =>
      refine Ri.wp_region_lasting (by kernel_rfl) (by kernel_rfl) (by kernel_rfl) (fun W => Below wc.heap.size wc W) (rsF wc.heap.size w.heap.size x.billed x.units tm tu (.slice ap (2 + x.mods.length) cp)) rsD (by kernel_rfl) rsF_loc HBd.out ⟨⟨rfl, ?_⟩, ⟨rfl, ?_⟩, ⟨rfl, ?_⟩, ⟨rfl, ?_⟩, ⟨rfl, ?_⟩, ⟨rfl, ?_⟩, ⟨rfl, ?_⟩, ⟨rfl, ?_⟩, ⟨rfl, ?_⟩, ⟨rfl, ?_⟩, ⟨rfl, ?_⟩, ⟨rfl, ?_⟩, ⟨rfl, ?_⟩, ⟨rfl, ?_⟩, trivial⟩ ?_
      · intro vs W A hA hB hpre K hK
        clear hA
        go_simp
        have hb := below_alloc W (.cells #[.string ⟨#[83, 86]⟩] 9)
        exact hK _ _ (below_trans hB hb) ⟨_, rfl, hB.size, heap_alloc_new W _⟩ (fun j _ h => rsF_grw hb j vs h)
      · intro vs W A hA hB hpre K hK
        have e5 := (hA 5).trans (show _ = Value.slice ap (2 + x.mods.length) cp by kernel_rfl)
        clear hA
        go_simp
        exact hK _ _ hB rfl (fun _ _ h => h)
      · intro vs W A hA hB hpre K hK
        have e3 := (hA 3).trans (show _ = Value.pointer (some ⟨w.heap.size, 0, none⟩) by kernel_rfl)
        clear hA
        go_simp
        exact hK _ _ hB rfl (fun _ _ h => h)
      · intro vs W A hA hB hpre K hK
        obtain ⟨p0, -⟩ := hpre
        have e17 := ((hA 17).trans (show _ = vs 2 by kernel_rfl)).trans (p0 rfl)
        obtain ⟨b3, b4⟩ := HKP.out W hB
        clear hA p0
        go_simp
        exact hK _ _ hB rfl (fun _ _ h => h)
      · intro vs W A hA hB hpre K hK
        obtain ⟨p0, -⟩ := hpre
        have e18 := ((hA 18).trans (show _ = vs 3 by kernel_rfl)).trans (p0 rfl)
        clear hA p0
        go_simp
        refine (HMo.out W hB).mono ?_
        rintro e w1 ⟨rfl, hb⟩
        exact hK _ _ (below_trans hB hb) rfl (fun j _ h => rsF_grw hb j vs h)
      · intro vs W A hA hB hpre K hK
        obtain ⟨p0, -⟩ := hpre
        have e19 := ((hA 19).trans (show _ = vs 4 by kernel_rfl)).trans (p0 rfl)
        clear hA p0
        go_simp
        have hb := below_alloc W (.cells #[.string (mk tm)] 9)
        exact hK _ _ (below_trans hB hb) ⟨_, rfl, hB.size, heap_alloc_new W _⟩ (fun j _ h => rsF_grw hb j vs h)
      · intro vs W A hA hB hpre K hK
        have e3 := (hA 3).trans (show _ = Value.pointer (some ⟨w.heap.size, 0, none⟩) by kernel_rfl)
        clear hA
        go_simp
        exact hK _ _ hB rfl (fun _ _ h => h)
      · intro vs W A hA hB hpre K hK
        obtain ⟨p0, -⟩ := hpre
        have e21 := ((hA 21).trans (show _ = vs 6 by kernel_rfl)).trans (p0 rfl)
        obtain ⟨b3, b4⟩ := HKP.out W hB
        clear hA p0
        go_simp
        exact hK _ _ hB rfl (fun _ _ h => h)
      · intro vs W A hA hB hpre K hK
        obtain ⟨p0, -⟩ := hpre
        have e22 := ((hA 22).trans (show _ = vs 7 by kernel_rfl)).trans (p0 rfl)
        clear hA p0
        go_simp
        refine (HUn.out W hB).mono ?_
        rintro e w1 ⟨rfl, hb⟩
        exact hK _ _ (below_trans hB hb) rfl (fun j _ h => rsF_grw hb j vs h)
      · intro vs W A hA hB hpre K hK
        obtain ⟨p0, -⟩ := hpre
        have e23 := ((hA 23).trans (show _ = vs 8 by kernel_rfl)).trans (p0 rfl)
        clear hA p0
        go_simp
        have hb := below_alloc W (.cells #[.string (mk tu)] 9)
        exact hK _ _ (below_trans hB hb) ⟨_, rfl, hB.size, heap_alloc_new W _⟩ (fun j _ h => rsF_grw hb j vs h)
      · intro vs W A hA hB hpre K hK
        obtain ⟨p0, p1, p2, p3, -⟩ := hpre
        obtain ⟨qa, ha, na, ca⟩ := p0 rfl
        obtain ⟨qb, hb, nb, cb⟩ := p2 rfl
        obtain ⟨qc, hc, nc, cc⟩ := p3 rfl
        have e15 := ((hA 15).trans (show _ = vs 0 by kernel_rfl)).trans ha
        have e16 := ((hA 16).trans (show _ = vs 1 by kernel_rfl)).trans (p1 rfl)
        have e20 := ((hA 20).trans (show _ = vs 5 by kernel_rfl)).trans hb
        have e24 := ((hA 24).trans (show _ = vs 9 by kernel_rfl)).trans hc
        have CA := Lib.hid ca
        have CB := Lib.hid cb
        have CC := Lib.hid cc
        clear hA p0 p1 p2 p3 ha hb hc ca cb cc
        go_simp
        have hb := below_alloc W (.cells #[slc qa, .slice ap (2 + x.mods.length) cp, slc qb, slc qc] 45)
        exact hK _ _ (below_trans hB hb) ⟨_, qa, qb, qc, rfl, ⟨hB.size, na, nb, nc⟩, heap_alloc_new W _, keepB CA.out hb, keepB CB.out hb, keepB CC.out hb⟩ (fun j _ h => rsF_grw hb j vs h)
      · intro vs W A hA hB hpre K hK
        obtain ⟨p0, -⟩ := hpre
        obtain ⟨g, pA, pB, pC, hv, hs⟩ := p0 rfl
        have e25 := ((hA 25).trans (show _ = vs 10 by kernel_rfl)).trans hv
        have HS := Lib.hid hs
        clear hA p0 hv hs
        go_simp
        exact hK _ _ hB ⟨g, pA, pB, pC, rfl, HS.out⟩ (fun _ _ h => h)
      · intro vs W A hA hB hpre K hK
        clear hA
        go_simp
        have hb := below_alloc W (.cells #[.slice none 0 0] 50)
        exact hK _ _ (below_trans hB hb) ⟨_, _, rfl, hB.size, heap_alloc_new W _⟩ (fun j _ h => rsF_grw hb j vs h)
      · intro vs W A hA hB hpre K hK
        obtain ⟨p0, p1, -⟩ := hpre
        obtain ⟨q, c, hq, nq, cq⟩ := p0 rfl
        obtain ⟨g, pA, pB, pC, hv, hs⟩ := p1 rfl
        have e6 := ((hA 6).trans (show _ = vs 12 by kernel_rfl)).trans hq
        have e26 := ((hA 26).trans (show _ = vs 11 by kernel_rfl)).trans hv
        obtain ⟨x1, x2⟩ := box_cell cq
        have CQ := Lib.hid cq
        have HS := Lib.hid hs
        clear hA p0 p1 hv hs cq
        go_simp
        have hk : ∀ (q1 : Nat) (cs : Array Value) (T : TypeId), T ≠ 50 → W.heap[q1]? = some (.cells cs T (0, 0)) → (W.setCell ⟨q, 0, none⟩ (.slice (some ⟨g, 0, none⟩) 4 4)).heap[q1]? = some (.cells cs T (0, 0)) := fun q1 cs T hT h => heap_far h (other_block h CQ.out hT)
        have h9 : (W.setCell ⟨q, 0, none⟩ (.slice (some ⟨g, 0, none⟩) 4 4)).heap[q]? = some (.cells #[.slice (some ⟨g, 0, none⟩) 4 4] 50 (0, 0)) := by rw [heap_set CQ.out]; rfl
        exact hK undef _ (hB.setCell (p := ⟨q, 0, none⟩) nq _) ⟨q, g, pA, pB, pC, hq, nq, h9, HS.out.grw hk⟩ (fun j hj h => rsF_move hk (fun q1 c1 h => by
          by_cases e : q1 = q
          · subst e; exact ⟨_, h9⟩
          · exact ⟨c1, heap_far h e⟩) j vs hj h)
      · intro vs W hB hF
        obtain ⟨q, g, pA, pB, pC, hq, nq, h9, lo, hs⟩ := hF 13 (by decide)
        have hbs : wc.heap.size ≤ W.heap.size := hB.size
        have HS := Lib.hid (rsv_els (B := w.heap.size) hs.1 hs.2.1 hs.2.2.1 hs.2.2.2 (TxAt.move HT1.out ⟨hB.size, fun b hb hk => ⟨hk, hB.block b hb⟩⟩) ⟨by omega, by omega, by omega, by omega⟩)
        have H9 := Lib.hid h9
        have HBW := Lib.hid hB
        clear hF hs h9 hB
        simp only [Ri.puts]
        go_simp
        go_wp2_with fail
        go_meet
        exact ⟨q, g, rfl, HS.out, H9.out, HBW.out⟩
    case rest =>
      obtain ⟨q, g, rfl, HE4, HQ4, HB4'⟩ := hcut
      have HL4 := Lib.hid (keepB HL1.out HB4'.out)
      have HB4 := Lib.hid (below_trans HBX.out HB4'.out)
      clear HB4' HT1 HL1 HBX HMo HUn HLB HKP b3 b4 HBd n0 n01
      have HWk : Hid (∀ W, Below wc.heap.size wc W → Calls Tryz.prog 26 #[.int .i64 (k : Int)] W fun e w' => e = .returned (.string (mk (Lib.itoa (k : Int)))) ∧ Below W.heap.size W w') := fun W hW => rnum_any _ W (by omega) (by omega)
      have HWd : Hid (∀ W, Below wc.heap.size wc W → Calls Tryz.prog 26 #[.int .i64 x.date] W fun e w' => e = .returned (.string (mk (Lib.itoa x.date))) ∧ Below W.heap.size W w') := fun W hW => rnum_any _ W HZ.out.1.1 HZ.out.1.2
      have HMp : Hid (∀ W, Below wc.heap.size wc W → Calls Tryz.prog 54 #[.int .i64 x.prior] W fun e w' => e = .returned (.string (mk (Nu.moneyL x.prior))) ∧ Below W.heap.size W w') := fun W hW => Nu.rmoney_any x.prior HZ.out.2.1 HZ.out.2.2 W
      have HLn : Hid (Et.lnS k x = [ones [Et.tLX, Lib.itoa (k : Int)], [[Et.tSV], Et.tHC :: x.proc :: x.mods, [tm], [tu]], ones [Et.tDTP, Et.t472, Lib.itoa x.date]] ++ (if 0 < x.prior then [ones [Et.tAMT, Et.tD, Nu.moneyL x.prior]] else [])) := by
        show _ = _
        rw [HTM.out, HTU.out]
        rfl
      generalize Lib.itoa (k : Int) = tk at *
      generalize Lib.itoa x.date = td at *
      generalize Nu.moneyL x.prior = tp at *
      have HSl : Hid (∀ (V : World) (H : Nat), V.heap.size = H → Below wc.heap.size wc V → ∀ W, Below (V.alloc (.cells #[.string ⟨#[76, 88]⟩, .string (mk tk)] 9)).heap.size (V.alloc (.cells #[.string ⟨#[76, 88]⟩, .string (mk tk)] 9)) W → Calls Tryz.prog 25 #[.slice (some ⟨H, 0, none⟩) 2 2] W fun x w' => (∃ ga gc, x = .returned (.agg #[.slice ga 2 gc]) ∧ SegAt w.heap.size [Et.tLX, tk] (.slice ga 2 gc) w') ∧ Below W.heap.size W w') := fun V H hH hV W hW => rpl_row (w0 := wc) (B := w.heap.size) [Et.tLX, tk] (by simp) HB4.out.size V H hH hV W hW
      have HSt : Hid (∀ (V : World) (H : Nat), V.heap.size = H → Below wc.heap.size wc V → ∀ W, Below (V.alloc (.cells #[.string ⟨#[68, 84, 80]⟩, .string ⟨#[52, 55, 50]⟩, .string (mk td)] 9)).heap.size (V.alloc (.cells #[.string ⟨#[68, 84, 80]⟩, .string ⟨#[52, 55, 50]⟩, .string (mk td)] 9)) W → Calls Tryz.prog 25 #[.slice (some ⟨H, 0, none⟩) 3 3] W fun x w' => (∃ ga gc, x = .returned (.agg #[.slice ga 3 gc]) ∧ SegAt w.heap.size [Et.tDTP, Et.t472, td] (.slice ga 3 gc) w') ∧ Below W.heap.size W w') := fun V H hH hV W hW => rpl_row (w0 := wc) (B := w.heap.size) [Et.tDTP, Et.t472, td] (by simp) HB4.out.size V H hH hV W hW
      have HSm : Hid (∀ (V : World) (H : Nat), V.heap.size = H → Below wc.heap.size wc V → ∀ W, Below (V.alloc (.cells #[.string ⟨#[65, 77, 84]⟩, .string ⟨#[68]⟩, .string (mk tp)] 9)).heap.size (V.alloc (.cells #[.string ⟨#[65, 77, 84]⟩, .string ⟨#[68]⟩, .string (mk tp)] 9)) W → Calls Tryz.prog 25 #[.slice (some ⟨H, 0, none⟩) 3 3] W fun x w' => (∃ ga gc, x = .returned (.agg #[.slice ga 3 gc]) ∧ SegAt w.heap.size [Et.tAMT, Et.tD, tp] (.slice ga 3 gc) w') ∧ Below W.heap.size W w') := fun V H hH hV W hW => rpl_row (w0 := wc) (B := w.heap.size) [Et.tAMT, Et.tD, tp] (by simp) HB4.out.size V H hH hV W hW
      have HCs : Hid (∀ W, Below wc.heap.size wc W → W.cell? ⟨q, 0, none⟩ = some (.slice (some ⟨g, 0, none⟩) 4 4) ∧ W.cell? ⟨w.heap.size, 2, none⟩ = some (.int .i64 x.date) ∧ W.cell? ⟨w.heap.size, 5, none⟩ = some (.int .i64 x.prior)) := fun W hW => ⟨(box_cell (keepB HQ4.out hW)).1, (line_cells (keepB HL4.out hW)).2.2.1, (line_cells (keepB HL4.out hW)).2.2.2.2.2⟩
      obtain ⟨y1, y2, -⟩ := HCs.out _ (Below.refl _ _)
      have HBd := Lib.hid (Below.drew (Below.refl wc.heap.size wc))
      have ml : w.heap.size < wc.heap.size := (Array.getElem?_eq_some_iff.1 HL4.out).1
      have mq : q < wc.heap.size := (Array.getElem?_eq_some_iff.1 HQ4.out).1
      go_upto_region 4 with fail
      go_region_held3 (fun w' => w'.cell? ⟨q, 0, none⟩ = some (.slice (some ⟨g, 0, none⟩) 4 4) ∧ w'.cell? ⟨w.heap.size, 2, none⟩ = some (.int .i64 x.date)) (go_keep) (first | (go_at_call 26; with_reducible refine (HWk.out _ HBd.out).mono ?_; rintro e w5 ⟨rfl, hb⟩; have HB5 := Lib.hid (below_trans HBd.out hb); obtain ⟨r1, r2, -⟩ := HCs.out _ HB5.out; have r3 := HB5.out.size; clear hb) | (go_at_call 25; with_reducible refine (HSl.out w5 _ rfl HB5.out _ (Below.refl _ _)).mono ?_; rintro e w6 ⟨⟨ga6, gc6, rfl, hs⟩, hb⟩; have HE6 := Lib.hid hs; have HB6 := Lib.hid (below_trans HB5.out (below_trans (below_alloc _ _) hb)); obtain ⟨r4, r5, -⟩ := HCs.out _ HB6.out; have r6 := HB6.out.size; clear hb hs) | (go_at_call 26; with_reducible refine (HWd.out _ HB6.out).mono ?_; rintro e w7 ⟨rfl, hb⟩; have HB7 := Lib.hid (below_trans HB6.out hb); have HE7 := Lib.hid (HE6.out.grw hb); obtain ⟨r7, r8, -⟩ := HCs.out _ HB7.out; have r9 := HB7.out.size; clear hb) | (go_at_call 25; with_reducible refine (HSt.out w7 _ rfl HB7.out _ (Below.refl _ _)).mono ?_; rintro e w8 ⟨⟨ga8, gc8, rfl, hs⟩, hb⟩; have HE8 := Lib.hid hs; have HF8 := Lib.hid (HE7.out.grw (below_trans (below_alloc _ _) hb)); have HB8 := Lib.hid (below_trans HB7.out (below_trans (below_alloc _ _) hb)); obtain ⟨v1, v2, v3⟩ := HCs.out _ HB8.out; have v4 := HB8.out.size; clear hb hs))
      have HN8 : Hid (NewAt w.heap.size [ones [Et.tLX, tk], [[Et.tSV], Et.tHC :: x.proc :: x.mods, [tm], [tu]], ones [Et.tDTP, Et.t472, td]] (.slice (some ⟨w8.heap.size, 0, none⟩) 3 3) (w8.alloc (.cells #[.slice ga6 2 gc6, .slice (some ⟨g, 0, none⟩) 4 4, .slice ga8 3 gc8] 50))) := by
        refine NewAt.laid [.slice ga6 2 gc6, .slice (some ⟨g, 0, none⟩) 4 4, .slice ga8 3 gc8] _ (by omega) rfl (by simp [maxLen]) fun j u gg hu hg => ?_
        match j, hu, hg with
        | 0, hu, hg => simp at hu hg; subst hu hg; exact HF8.out.els
        | 1, hu, hg => simp at hu hg; subst hu hg; exact ElAt.move HE4.out ⟨HB8.out.size, fun b hb hk => ⟨hk, HB8.out.block b hb⟩⟩
        | 2, hu, hg => simp at hu hg; subst hu hg; exact HE8.out.els
      have HB9 := Lib.hid (below_trans HB8.out (below_alloc w8 (.cells #[.slice ga6 2 gc6, .slice (some ⟨g, 0, none⟩) 4 4, .slice ga8 3 gc8] 50)))
      obtain ⟨-, -, v5⟩ := HCs.out _ HB9.out
      by_cases hp : 0 < x.prior
      case neg =>
        have HL9 : Hid (Et.lnS k x = [ones [Et.tLX, tk], [[Et.tSV], Et.tHC :: x.proc :: x.mods, [tm], [tu]], ones [Et.tDTP, Et.t472, td]]) := by show _ = _; rw [HLn.out, if_neg hp]; rfl
        go_wp2
        go_ret
        exact ⟨⟨_, rfl, by rw [HL9.out]; exact HN8.out⟩, below_trans HB4.out HB9.out⟩
      have HL9 : Hid (Et.lnS k x = [ones [Et.tLX, tk], [[Et.tSV], Et.tHC :: x.proc :: x.mods, [tm], [tu]], ones [Et.tDTP, Et.t472, td]] ++ [ones [Et.tAMT, Et.tD, tp]]) := by show _ = _; rw [HLn.out, if_pos hp]
      generalize ([ones [Et.tLX, tk], [[Et.tSV], Et.tHC :: x.proc :: x.mods, [tm], [tu]], ones [Et.tDTP, Et.t472, td]] : List Sg) = G3 at *
      obtain ⟨i47, j1, j2, j3, j4⟩ := info47
      have hG3 : G3.length = 3 := by
        obtain ⟨cs, d1, -⟩ := HN8.out
        rcases d1.2 with ⟨h, _⟩ | ⟨g', cap, cur, h, _⟩
        · cases h
        · simp only [Value.slice.injEq] at h
          exact h.2.1.symm
      have HSm2 : Hid (∀ (V W : World), Below (V.alloc (.cells #[.string ⟨#[65, 77, 84]⟩, .string ⟨#[68]⟩, .string (mk tp)] 9)).heap.size (V.alloc (.cells #[.string ⟨#[65, 77, 84]⟩, .string ⟨#[68]⟩, .string (mk tp)] 9)) W → Calls Tryz.prog 25 #[.slice (some ⟨V.heap.size, 0, none⟩) 3 3] W fun x w' => (∃ ga gc, x = .returned (.agg #[.slice ga 3 gc]) ∧ SegAt V.heap.size [Et.tAMT, Et.tD, tp] (.slice ga 3 gc) w') ∧ Below W.heap.size W w') := fun V W hW => rpl_row (w0 := V) (B := V.heap.size) [Et.tAMT, Et.tD, tp] (by simp) (Nat.le_refl _) V _ rfl (Below.refl _ _) W hW
      go_wp2_with fail
      go_at_call 54
      refine (HMp.out _ HB9.out).mono ?_
      rintro e yA ⟨rfl, hb⟩
      have HBA := Lib.hid (below_trans HB9.out hb)
      have HNA := Lib.hid (HN8.out.grw hb)
      clear hb
      go_wp2_with fail
      go_at_call 25
      refine (HSm2.out yA _ (Below.refl _ _)).mono ?_
      rintro e yB ⟨⟨gaB, gcB, rfl, hs⟩, hb⟩
      have hAB := below_trans (below_alloc yA _) hb
      have hBC := below_trans hAB (below_alloc yB (.cells #[.slice gaB 3 gcB] 50))
      have HEB := Lib.hid (ElAt.move (new_apart HNA.out hs.els (by have := HBA.out.size; omega)) (moves_alloc _ yB (.cells #[.slice gaB 3 gcB] 50)))
      have HBC := Lib.hid (below_trans HB4.out (below_trans HBA.out hBC))
      obtain ⟨cs, d1, d2⟩ := HNA.out.grw hBC
      have HO := Lib.hid d1
      have HP := Lib.hid d2
      rw [hG3] at d1
      have HO3 := Lib.hid d1
      have hsz := HBC.out.size
      clear hb hs hAB hBC d1 d2
      go_wp2_with (at_builtin; refine wpList_append_own_at _ (by rfl) _ _ 53 (by rfl) w.heap.size 50 i47 (.agg #[.slice none 0 0]) 1 24 Tryz.underlying53 j1 j2 j3 j4 (by rfl) (by omega) (.slice (some ⟨w8.heap.size, 0, none⟩) 3 3) 3 cs (by rfl) HO3.out ⟨yB.heap.size, 0, none⟩ 1 1 [.slice gaB 3 gcB] (by rfl) (by rfl) (cell_one_new yB _ 50) ?c2 ?c3 ?c4 ?c5 ?_)
      case c2 => intro u hu; simp at hu; subst hu; rfl
      case c3 => simp [maxLen]
      case c4 => omega
      case c5 => exact hsz
      intro lv wz hown hgrow hnil hat
      have HDZ := Lib.hid (NewAt.app (l := [ones [Et.tAMT, Et.tD, tp]]) (news := [.slice gaB 3 gcB]) HO.out HP.out rfl (fun j u g' hu hg' => by
        match j, hu, hg' with
        | 0, hu, hg' => simp at hu hg'; subst hu hg'; exact HEB.out) (by rw [hG3]; exact hown) hgrow (by simpa using hat))
      have HBZ := Lib.hid (HBC.out.grown hgrow hsz fun k hk => (HO.out.lt k hk).1)
      obtain ⟨la, lc, rfl⟩ := own_form hown
      clear hown hgrow hnil hat
      go_wp2
      go_ret
      exact ⟨⟨_, rfl, by rw [HL9.out]; exact HDZ.out⟩, HBZ.out⟩
end Go.Proofs.YtpmnepihaljamaaGreatDoor
end
