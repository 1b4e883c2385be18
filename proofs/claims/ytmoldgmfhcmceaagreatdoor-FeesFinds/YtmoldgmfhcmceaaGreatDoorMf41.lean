/-
  Texts put together (merge.py): ZRAllow.
-/
import Derived.Test.YtmoldgmfhcmceaaGreatDoorMf39
import Derived.Test.YtmoldgmfhcmceaaGreatDoorMf34
import Derived.Test.YtmoldgmfhcmceaaGreatDoorMf31
import Derived.Test.YtmoldgmfhcmceaaGreatDoorMf40
/-
  What the reference's Allowed answers, as a contract: for every table.
-/
section
set_option linter.unusedSimpArgs false
set_option linter.unusedVariables false
set_option maxRecDepth 100000
namespace Go.Proofs.YtmoldgmfhcmceaaGreatDoor.Fe
open Go.RowKit
open Wo (Wd WdsAt keepB box_cell box_two heap_far below_alloc below_trans)
open Cm (Ln)

theorem app0T {w : World} {B : Nat} (ty : Nat) (ad : Option Addr) (c : Nat) (v : Value) (n : Nat) (xs : List Value) (hown : w.ownsRow B 9 1 v n xs) : (Builtin.append_ #[35, 35] ty #[v, .slice ad 0 c]).run Tryz.prog w = .ok v w := by
  obtain ⟨i, q1, _, q2, _⟩ := infoS
  rcases hown.2 with ⟨rfl, rfl⟩ | ⟨g, cap, cur, rfl, _, _, hnc, _⟩
  · cases ad <;> simp [Builtin.append_, run_underlying Tryz.underlying35, sizeOf, typeInfo, q1, Builtin.lenOf, Builtin.firstCells, loadCells, loadCellsFrom]
  · cases ad <;> simp [Builtin.append_, run_underlying Tryz.underlying35, sizeOf, typeInfo, q1, Builtin.lenOf, Builtin.firstCells, hnc, storeCells, loadCells, loadCellsFrom]
/-- append(v, x...) over texts, whatever x holds. -/
theorem wp_appT0 {o : Oper} {a : Act} {w : World} {K : Act → World → Prop} {Q : Exit → Act → World → Prop} (s x : Operand) (ho : o.op = .call { callee := .builtin .append, args := #[s, x], argTypes := #[35, 35] })
    (B : Nat) (v : Value) (L : List Tx) (hs : a.eval s = v) (hown : w.ownsRow B 9 1 v L.length (txc L)) (ad : Option Addr) (c : Nat) (ts : List Tx) (hx : a.eval x = .slice ad ts.length c) (ht : TxAt All w (.slice ad ts.length c) ts) (hbd : L.length + ts.length ≤ 1000000) (hB : B ≤ w.heap.size)
    (h : ∀ v' w', w'.ownsRow B 9 1 v' (L ++ ts).length (txc (L ++ ts)) → w.grownBy w' v.ownBlock → (v'.ownBlock = v.ownBlock ∨ v'.ownBlock = some w.heap.size) → K (a.put o.dst v') w') : o.wp Tryz.prog a w K Q := by
  by_cases hm0 : ts.length = 0
  · have e2 : ts = [] := List.length_eq_zero_iff.1 hm0
    subst e2
    have hrun := app0T (w := w) o.type ad c v L.length (txc L) hown
    have hh := h v w (by rw [List.append_nil]; exact hown) ⟨rfl, rfl, rfl, Nat.le_refl _, fun _ _ _ => rfl⟩ (Or.inl rfl)
    unfold Oper.wp
    simp only [List.length_nil] at hx
    simp [execOp, ho, resolve, invoke, builtin, hs, hx, hrun, Result.andThen]
    exact hh
  · obtain ⟨b, oo, rfl, -, -⟩ := Cm.tx_get ht 0 (by omega)
    refine wp_appT s x ho B v L hs hown ⟨b, oo, none⟩ ts.length c ts hx rfl (by omega) (fun j u hj => ?_) hbd hB h
    rw [show (⟨b, oo, none⟩ : Addr).add j = ⟨b, oo + j, none⟩ by unfold Addr.add; split <;> simp_all]
    unfold txc at hj
    rw [List.getElem?_map] at hj
    cases hq : ts[j]? with
    | none => rw [hq] at hj; cases hj
    | some t =>
      rw [hq] at hj
      obtain rfl := Option.some.inj hj
      have hjl := (List.getElem?_eq_some_iff.1 hq).1
      obtain ⟨b1, o1, e1, e2, e3⟩ := Cm.tx_get ht j hjl
      simp only [Option.some.injEq, Addr.mk.injEq, and_true] at e1
      obtain ⟨rfl, rfl⟩ := e1
      rw [e3]
      have : ts[j] = t := Option.some.inj (e2.symm.trans hq)
      rw [this]
theorem tx_cell {w : World} {b oo n c : Nat} {xs : List Tx} (h : TxAt All w (.slice (some ⟨b, oo, none⟩) n c) xs) (k : Nat) (hk : k < xs.length) : w.cell? ⟨b, oo + k, none⟩ = some (.string (mk xs[k])) := by
  obtain ⟨b1, o1, e1, -, e3⟩ := Cm.tx_get h k hk
  simp only [Option.some.injEq, Addr.mk.injEq, and_true] at e1
  obtain ⟨rfl, rfl⟩ := e1
  exact e3
theorem firstF_drop (l : List Fee) (x : Ln) (net : Int) (L : List Tx) (n : Nat) (h : n < L.length) : firstF l x net (L.drop n) = if lookB ⟨x.proc, L[n], net, x.date⟩ l = true then lookF ⟨x.proc, L[n], net, x.date⟩ l else firstF l x net (L.drop (n + 1)) := by
  rw [List.drop_eq_getElem_cons h]; rfl
theorem grow_box {w w' : World} {v : Value} {B q : Nat} {e : TypeId} {z n : Nat} {xs : List Value} {o : Obj} (hg : w.grownBy w' v.ownBlock) (ho : w.ownsRow B e z v n xs) (hq : q < B) (h : w.heap[q]? = some o) : w'.heap[q]? = some o := by
  rw [hg.block q (Array.getElem?_eq_some_iff.1 h).1 (fun e => by have := (ho.lt q e.symm).1; omega)]
  exact h
set_option maxHeartbeats 16000000 in
theorem rallowed_any (l : List Fee) (v : Value) (x : Ln) (m : Value) (net : Int) (w : World) (h : FesAt All w v l) (hl : l.length ≤ 281474976710656) (hm : TxAt All w m x.mods) (hml : x.mods.length ≤ 1000) (hu : x.units ≤ 9223372036854775807) (hu0 : -9223372036854775808 ≤ x.units) :
    Calls Tryz.prog 19 #[v, Cm.lnv x m, .int .i64 net] w fun e w' => e = .returned (.tuple #[.int .i64 (allowV l x net), .bool (priceB l x net)]) ∧ Below w.heap.size w w' := by
  obtain ⟨ma, mc, rfl, hm1, hm2⟩ := Cm.TxAt.form hm
  have hb0 := below_alloc w (.cells #[.string (mk x.proc), .slice ma x.mods.length mc, .int .i64 x.date, .int .i64 x.units, .int .i64 x.billed, .int .i64 x.prior] 37)
  have HZ := Lib.hid (heap_alloc_new w (.cells #[.string (mk x.proc), .slice ma x.mods.length mc, .int .i64 x.date, .int .i64 x.units, .int .i64 x.billed, .int .i64 x.prior] 37))
  have HB0 := Lib.hid hb0
  have HM := Lib.hid (tx_grw hm hb0)
  have HFw := Lib.hid h
  have HSc := Lib.hid fun (u : Int) W' => Ce.rscale_any u x.units 1 W' hu (by omega)
  have HS0 : Hid (w.heap.size + 1 ≤ (w.alloc (.cells #[.string (mk x.proc), .slice ma x.mods.length mc, .int .i64 x.date, .int .i64 x.units, .int .i64 x.billed, .int .i64 x.prior] 37)).heap.size) := by show _ ≤ _; simp
  obtain ⟨fa, fk, rfl, -, -⟩ := h.form
  clear h hb0 hm
  go_enter Tryz.func19, Tryz.ntmps19
  go_upto_region 1 with fail
  generalize w.alloc (.cells #[.string (mk x.proc), .slice ma x.mods.length mc, .int .i64 x.date, .int .i64 x.units, .int .i64 x.billed, .int .i64 x.prior] 37) = W at *
  generalize hp : w.heap.size = p at *
  obtain ⟨c0, c1, c2, c3, c4, c5⟩ := cells6 HZ.out
  have HNil : Hid (W.ownsRow (p + 1) 9 1 (.slice none 0 0) ([] : List Tx).length (txc [])) := World.ownsRow_nil _ _ _ _
  have hbd0 : ([] : List Tx).length + x.mods.length ≤ 1000000 := by simp; omega
  go_wp2_with (at_builtin; refine wpList_plain (by rfl) (fun K hK => ?_); refine wp_appT0 _ _ (by rfl) (p + 1) (.slice none 0 0) [] (by rfl) HNil.out ma mc x.mods (by rfl) HM.out hbd0 HS0.out ?_)
  intro v1 w1 hown hgr hat
  have hlow := grow_low HNil.out hgr HS0.out
  have HB1 := Lib.hid (HB0.out.trans (hlow.mono (Nat.le_succ p)))
  have HZ1 := Lib.hid (grow_box hgr HNil.out (Nat.lt_succ_self p) HZ.out)
  have HS1 : Hid (p + 1 ≤ w1.heap.size) := Nat.le_trans HS0.out hlow.size
  obtain ⟨a1, k1, rfl⟩ := own_form hown
  have HO1 : Hid (w1.ownsRow (p + 1) 9 1 (.slice a1 x.mods.length k1) x.mods.length (txc x.mods)) := hown
  refine hK _ _ ?_
  clear hK hown hgr hat hlow HNil hbd0 c0 c1 c2 c3 c4 c5 HB0 HZ HS0 HM
  have hb2 := below_alloc w1 (.cells #[.string ⟨#[]⟩] 9)
  have HO2 := Lib.hid (own_far HO1.out hb2)
  have HZ2 := Lib.hid (keepB HZ1.out hb2)
  have HB2 := Lib.hid (HB1.out.trans (hb2.mono (by have := HS1.out; omega)))
  have HS2 : Hid (p + 1 ≤ (w1.alloc (.cells #[.string ⟨#[]⟩] 9)).heap.size) := Nat.le_trans HS1.out hb2.size
  have HT2 : Hid (TxAt All (w1.alloc (.cells #[.string ⟨#[]⟩] 9)) (.slice (some ⟨w1.heap.size, 0, none⟩) ([[]] : List Tx).length 1) [[]]) := by
    refine ⟨some ⟨w1.heap.size, 0, none⟩, 1, rfl, by simp, by simp [maxLen], Or.inr ⟨w1.heap.size, 0, rfl, trivial, (Array.getElem?_eq_some_iff.1 (heap_alloc_new w1 (.cells #[.string ⟨#[]⟩] 9))).1, fun j t hj => ?_⟩⟩
    match j, hj with
    | 0, hj =>
      obtain rfl : [] = t := Option.some.inj hj
      exact ⟨_, (box_cell (heap_alloc_new w1 (.cells #[.string ⟨#[]⟩] 9))).1, rfl⟩
    | n + 1, hj => simp at hj
  have hbd1 : x.mods.length + ([[]] : List Tx).length ≤ 1000000 := by simp; omega
  clear hb2
  go_wp2_with (at_builtin; refine wpList_plain (by rfl) (fun K hK => ?_); refine wp_appT0 _ _ (by rfl) (p + 1) (.slice a1 x.mods.length k1) x.mods (by rfl) HO2.out (some ⟨w1.heap.size, 0, none⟩) 1 [[]] (by rfl) HT2.out hbd1 HS2.out ?_)
  intro v3 w3 hown hgr hat
  have hlow := grow_low HO2.out hgr HS2.out
  have HB3 := Lib.hid (HB2.out.trans (hlow.mono (Nat.le_succ p)))
  have HZ3 := Lib.hid (grow_box hgr HO2.out (Nat.lt_succ_self p) HZ2.out)
  obtain ⟨a3, k3, rfl⟩ := own_form hown
  have HT3 : Hid (TxAt All w3 (.slice a3 (x.mods.length + 1) k3) (x.mods ++ [[]])) := by
    show TxAt _ _ _ _
    have e : x.mods.length + 1 = (x.mods ++ [[]]).length := by simp
    rw [e] at hown ⊢
    exact tx_own hown
  have HPF : Hid (priceF l x net = firstF l x net (x.mods ++ [[]])) := (rfl : priceF l x net = firstF l x net (x.mods ++ [[]]))
  obtain ⟨L, HL⟩ : ∃ L, Hid (x.mods ++ [[]] = L) := ⟨x.mods ++ [[]], (rfl : x.mods ++ [[]] = x.mods ++ [[]])⟩
  rw [HL.out] at HT3 HPF
  obtain ⟨N, hN0⟩ : ∃ N, x.mods.length + 1 = N := ⟨_, rfl⟩
  have hNl : L.length = N := by
    have := congrArg List.length HL.out
    rw [List.length_append] at this
    simp at this
    omega
  have hN1 : N ≤ 2000 := by omega
  rw [hN0] at HT3 ⊢
  clear hN0
  refine hK _ _ ?_
  clear hK hown hgr hat hlow HO2 HZ2 HB2 HS2 HT2 hbd1 HO1 HZ1 HB1 HS1 HL
  have HLN := Lib.hid hNl
  clear hNl
  go_wp2
  go_loopg [9] N (fun g i wr => ∃ n : Nat, n ≤ N ∧ g = N - n ∧ i = .int .i64 (n : Nat) ∧ Hid (Below w3.heap.size w3 wr) ∧ Hid (firstF l x net (L.drop n) = firstF l x net L))
  case atStart => exact ⟨0, Nat.zero_le _, rfl, rfl, Below.refl _ _, rfl⟩
  case round =>
    obtain ⟨n, hn, hgk, rfl, HBn, HE⟩ := hrel
    by_cases hlt : n < N
    · have hltz : (n : Int) < (N : Int) := by omega
      have hltL : n < L.length := by rw [HLN.out]; exact hlt
      have HFD := Lib.hid (firstF_drop l x net L n hltL)
      obtain ⟨b, oo, rfl, -, -⟩ := Cm.tx_get HT3.out n hltL
      have HXK := Lib.hid fun W' (hW : Below wr.heap.size wr W') => And.intro (cells6 (keepB HZ3.out (below_trans HBn.out hW))) (tx_cell (tx_grw HT3.out (below_trans HBn.out hW)) n hltL)
      have HLk := Lib.hid fun W' (hW : Below wr.heap.size wr W') => rlook_any l ⟨x.proc, L[n], net, x.date⟩ _ W' (HFw.out.grw (show Below w.heap.size w W' by subst hp; exact below_trans (below_trans HB3.out HBn.out) hW)) hl
      generalize L[n] = t at *
      obtain ⟨LB, HLB⟩ : ∃ B, Hid (lookB ⟨x.proc, t, net, x.date⟩ l = B) := ⟨_, rfl⟩
      obtain ⟨LV, HLV⟩ : ∃ B, Hid (lookV ⟨x.proc, t, net, x.date⟩ l = B) := ⟨_, rfl⟩
      rw [HLB.out] at HFD HLk
      rw [HLV.out] at HLk
      have HD := Lib.hid (Below.drew (Below.refl wr.heap.size wr))
      obtain ⟨wo, hwo⟩ : ∃ z, z = wr := ⟨_, rfl⟩
      subst hwo
      go_upto_region 7 with fail
      refine Ri.wp_region_lastingB (by kernel_rfl) (by kernel_rfl) (by kernel_rfl) (fun Wx => Below wo.heap.size wo Wx) (fun kz vs wz => (fun kx vx wx => match kx with | 0 => vx = .slice fa l.length fk | 1 => vx = .pointer (some ⟨p, 0, none⟩) | 2 => vx = .string (mk x.proc) | 3 => vx = .slice (some ⟨b, oo, none⟩) N k3 | 4 => vx = .int .i64 (n : Nat) | 5 => vx = .pointer (some ⟨b, oo + n, none⟩) | 6 => vx = .string (mk t) | 7 => vx = .int .i64 net | 8 => vx = .pointer (some ⟨p, 2, none⟩) | 9 => vx = .int .i64 x.date | 10 => vx = .tuple #[.int .i64 LV, .bool LB] | 11 => vx = .tuple #[.int .i64 LV, .bool LB] | 12 => vx = .int .i64 LV | 13 => vx = .bool LB | 14 => vx = .int .i64 LV | 15 => vx = .bool LB | _ => True : Nat → Value → World → Prop) kz (vs kz) wz) (fun kz => [kz]) (by kernel_rfl) (fun jz vs iz vz wz hiz hz => Ri.loc_own (F := (fun kx vx wx => match kx with | 0 => vx = .slice fa l.length fk | 1 => vx = .pointer (some ⟨p, 0, none⟩) | 2 => vx = .string (mk x.proc) | 3 => vx = .slice (some ⟨b, oo, none⟩) N k3 | 4 => vx = .int .i64 (n : Nat) | 5 => vx = .pointer (some ⟨b, oo + n, none⟩) | 6 => vx = .string (mk t) | 7 => vx = .int .i64 net | 8 => vx = .pointer (some ⟨p, 2, none⟩) | 9 => vx = .int .i64 x.date | 10 => vx = .tuple #[.int .i64 LV, .bool LB] | 11 => vx = .tuple #[.int .i64 LV, .bool LB] | 12 => vx = .int .i64 LV | 13 => vx = .bool LB | 14 => vx = .int .i64 LV | 15 => vx = .bool LB | _ => True : Nat → Value → World → Prop)) jz vs iz vz wz hiz hz) HD.out ⟨⟨rfl, ?_⟩, ⟨rfl, ?_⟩, ⟨rfl, ?_⟩, ⟨rfl, ?_⟩, ⟨rfl, ?_⟩, ⟨rfl, ?_⟩, ⟨rfl, ?_⟩, ⟨rfl, ?_⟩, ⟨rfl, ?_⟩, ⟨rfl, ?_⟩, ⟨rfl, ?_⟩, ⟨rfl, ?_⟩, ⟨rfl, ?_⟩, ⟨rfl, ?_⟩, ⟨rfl, ?_⟩, ⟨rfl, ?_⟩, trivial⟩ ?_
      · intro vs Wx A hA hB hpre K hK
        have e0 := (hA 0).trans (show _ = Value.slice fa l.length fk by kernel_rfl)
        clear hA hpre
        go_simp
        first | exact hK _ _ hB rfl (fun _ _ h => h) | exact hK _ _ hB trivial (fun _ _ h => h) | (rw [if_neg (by omega)]; go_simp; exact hK _ _ hB rfl (fun _ _ h => h))
      · intro vs Wx A hA hB hpre K hK
        have e4 := (hA 4).trans (show _ = Value.pointer (some ⟨p, 0, none⟩) by kernel_rfl)
        clear hA hpre
        go_simp
        first | exact hK _ _ hB rfl (fun _ _ h => h) | exact hK _ _ hB trivial (fun _ _ h => h) | (rw [if_neg (by omega)]; go_simp; exact hK _ _ hB rfl (fun _ _ h => h))
      · intro vs Wx A hA hB hpre K hK
        have e29 := ((hA 29).trans (show _ = vs 1 by kernel_rfl)).trans (by first | exact hpre.1 rfl | exact hpre.2.1 rfl | exact hpre.2.2.1 rfl | exact hpre.2.2.2.1 rfl | exact hpre.2.2.2.2.1 rfl | exact hpre.2.2.2.2.2.1 rfl | exact hpre.2.2.2.2.2.2.1 rfl | exact hpre.2.2.2.2.2.2.2.1 rfl | exact hpre.2.2.2.2.2.2.2.2.1 rfl | exact hpre.2.2.2.2.2.2.2.2.2.1 rfl)
        obtain ⟨⟨c0, c1, c2, c3, c4, c5⟩, d0⟩ := HXK.out Wx hB
        clear hA hpre
        go_simp
        first | exact hK _ _ hB rfl (fun _ _ h => h) | exact hK _ _ hB trivial (fun _ _ h => h) | (rw [if_neg (by omega)]; go_simp; exact hK _ _ hB rfl (fun _ _ h => h))
      · intro vs Wx A hA hB hpre K hK
        have e8 := (hA 8).trans (show _ = Value.slice (some ⟨b, oo, none⟩) N k3 by kernel_rfl)
        clear hA hpre
        go_simp
        first | exact hK _ _ hB rfl (fun _ _ h => h) | exact hK _ _ hB trivial (fun _ _ h => h) | (rw [if_neg (by omega)]; go_simp; exact hK _ _ hB rfl (fun _ _ h => h))
      · intro vs Wx A hA hB hpre K hK
        have e9 := (hA 9).trans (show _ = Value.int .i64 (n : Nat) by kernel_rfl)
        clear hA hpre
        go_simp
        first | exact hK _ _ hB rfl (fun _ _ h => h) | exact hK _ _ hB trivial (fun _ _ h => h) | (rw [if_neg (by omega)]; go_simp; exact hK _ _ hB rfl (fun _ _ h => h))
      · intro vs Wx A hA hB hpre K hK
        have e31 := ((hA 31).trans (show _ = vs 3 by kernel_rfl)).trans (by first | exact hpre.1 rfl | exact hpre.2.1 rfl | exact hpre.2.2.1 rfl | exact hpre.2.2.2.1 rfl | exact hpre.2.2.2.2.1 rfl | exact hpre.2.2.2.2.2.1 rfl | exact hpre.2.2.2.2.2.2.1 rfl | exact hpre.2.2.2.2.2.2.2.1 rfl | exact hpre.2.2.2.2.2.2.2.2.1 rfl | exact hpre.2.2.2.2.2.2.2.2.2.1 rfl)
        have e32 := ((hA 32).trans (show _ = vs 4 by kernel_rfl)).trans (by first | exact hpre.1 rfl | exact hpre.2.1 rfl | exact hpre.2.2.1 rfl | exact hpre.2.2.2.1 rfl | exact hpre.2.2.2.2.1 rfl | exact hpre.2.2.2.2.2.1 rfl | exact hpre.2.2.2.2.2.2.1 rfl | exact hpre.2.2.2.2.2.2.2.1 rfl | exact hpre.2.2.2.2.2.2.2.2.1 rfl | exact hpre.2.2.2.2.2.2.2.2.2.1 rfl)
        clear hA hpre
        go_simp
        first | exact hK _ _ hB rfl (fun _ _ h => h) | exact hK _ _ hB trivial (fun _ _ h => h) | (rw [if_neg (by omega)]; go_simp; exact hK _ _ hB rfl (fun _ _ h => h))
      · intro vs Wx A hA hB hpre K hK
        have e33 := ((hA 33).trans (show _ = vs 5 by kernel_rfl)).trans (by first | exact hpre.1 rfl | exact hpre.2.1 rfl | exact hpre.2.2.1 rfl | exact hpre.2.2.2.1 rfl | exact hpre.2.2.2.2.1 rfl | exact hpre.2.2.2.2.2.1 rfl | exact hpre.2.2.2.2.2.2.1 rfl | exact hpre.2.2.2.2.2.2.2.1 rfl | exact hpre.2.2.2.2.2.2.2.2.1 rfl | exact hpre.2.2.2.2.2.2.2.2.2.1 rfl)
        obtain ⟨⟨c0, c1, c2, c3, c4, c5⟩, d0⟩ := HXK.out Wx hB
        clear hA hpre
        go_simp
        first | exact hK _ _ hB rfl (fun _ _ h => h) | exact hK _ _ hB trivial (fun _ _ h => h) | (rw [if_neg (by omega)]; go_simp; exact hK _ _ hB rfl (fun _ _ h => h))
      · intro vs Wx A hA hB hpre K hK
        have e2 := (hA 2).trans (show _ = Value.int .i64 net by kernel_rfl)
        clear hA hpre
        go_simp
        first | exact hK _ _ hB rfl (fun _ _ h => h) | exact hK _ _ hB trivial (fun _ _ h => h) | (rw [if_neg (by omega)]; go_simp; exact hK _ _ hB rfl (fun _ _ h => h))
      · intro vs Wx A hA hB hpre K hK
        have e4 := (hA 4).trans (show _ = Value.pointer (some ⟨p, 0, none⟩) by kernel_rfl)
        clear hA hpre
        go_simp
        first | exact hK _ _ hB rfl (fun _ _ h => h) | exact hK _ _ hB trivial (fun _ _ h => h) | (rw [if_neg (by omega)]; go_simp; exact hK _ _ hB rfl (fun _ _ h => h))
      · intro vs Wx A hA hB hpre K hK
        have e36 := ((hA 36).trans (show _ = vs 8 by kernel_rfl)).trans (by first | exact hpre.1 rfl | exact hpre.2.1 rfl | exact hpre.2.2.1 rfl | exact hpre.2.2.2.1 rfl | exact hpre.2.2.2.2.1 rfl | exact hpre.2.2.2.2.2.1 rfl | exact hpre.2.2.2.2.2.2.1 rfl | exact hpre.2.2.2.2.2.2.2.1 rfl | exact hpre.2.2.2.2.2.2.2.2.1 rfl | exact hpre.2.2.2.2.2.2.2.2.2.1 rfl)
        obtain ⟨⟨c0, c1, c2, c3, c4, c5⟩, d0⟩ := HXK.out Wx hB
        clear hA hpre
        go_simp
        first | exact hK _ _ hB rfl (fun _ _ h => h) | exact hK _ _ hB trivial (fun _ _ h => h) | (rw [if_neg (by omega)]; go_simp; exact hK _ _ hB rfl (fun _ _ h => h))
      · intro vs Wx A hA hB hpre K hK
        have e28 := ((hA 28).trans (show _ = vs 0 by kernel_rfl)).trans (by first | exact hpre.1 rfl | exact hpre.2.1 rfl | exact hpre.2.2.1 rfl | exact hpre.2.2.2.1 rfl | exact hpre.2.2.2.2.1 rfl | exact hpre.2.2.2.2.2.1 rfl | exact hpre.2.2.2.2.2.2.1 rfl | exact hpre.2.2.2.2.2.2.2.1 rfl | exact hpre.2.2.2.2.2.2.2.2.1 rfl | exact hpre.2.2.2.2.2.2.2.2.2.1 rfl)
        have e30 := ((hA 30).trans (show _ = vs 2 by kernel_rfl)).trans (by first | exact hpre.1 rfl | exact hpre.2.1 rfl | exact hpre.2.2.1 rfl | exact hpre.2.2.2.1 rfl | exact hpre.2.2.2.2.1 rfl | exact hpre.2.2.2.2.2.1 rfl | exact hpre.2.2.2.2.2.2.1 rfl | exact hpre.2.2.2.2.2.2.2.1 rfl | exact hpre.2.2.2.2.2.2.2.2.1 rfl | exact hpre.2.2.2.2.2.2.2.2.2.1 rfl)
        have e34 := ((hA 34).trans (show _ = vs 6 by kernel_rfl)).trans (by first | exact hpre.1 rfl | exact hpre.2.1 rfl | exact hpre.2.2.1 rfl | exact hpre.2.2.2.1 rfl | exact hpre.2.2.2.2.1 rfl | exact hpre.2.2.2.2.2.1 rfl | exact hpre.2.2.2.2.2.2.1 rfl | exact hpre.2.2.2.2.2.2.2.1 rfl | exact hpre.2.2.2.2.2.2.2.2.1 rfl | exact hpre.2.2.2.2.2.2.2.2.2.1 rfl)
        have e35 := ((hA 35).trans (show _ = vs 7 by kernel_rfl)).trans (by first | exact hpre.1 rfl | exact hpre.2.1 rfl | exact hpre.2.2.1 rfl | exact hpre.2.2.2.1 rfl | exact hpre.2.2.2.2.1 rfl | exact hpre.2.2.2.2.2.1 rfl | exact hpre.2.2.2.2.2.2.1 rfl | exact hpre.2.2.2.2.2.2.2.1 rfl | exact hpre.2.2.2.2.2.2.2.2.1 rfl | exact hpre.2.2.2.2.2.2.2.2.2.1 rfl)
        have e37 := ((hA 37).trans (show _ = vs 9 by kernel_rfl)).trans (by first | exact hpre.1 rfl | exact hpre.2.1 rfl | exact hpre.2.2.1 rfl | exact hpre.2.2.2.1 rfl | exact hpre.2.2.2.2.1 rfl | exact hpre.2.2.2.2.2.1 rfl | exact hpre.2.2.2.2.2.2.1 rfl | exact hpre.2.2.2.2.2.2.2.1 rfl | exact hpre.2.2.2.2.2.2.2.2.1 rfl | exact hpre.2.2.2.2.2.2.2.2.2.1 rfl)
        clear hA hpre
        go_simp
        go_at_call 17
        refine (HLk.out _ hB).mono ?_
        rintro e w4 ⟨rfl, hg⟩
        exact hK _ _ (below_trans hB hg) rfl (fun _ _ h => h)
      · intro vs Wx A hA hB hpre K hK
        have e38 := ((hA 38).trans (show _ = vs 10 by kernel_rfl)).trans (by first | exact hpre.1 rfl | exact hpre.2.1 rfl | exact hpre.2.2.1 rfl | exact hpre.2.2.2.1 rfl | exact hpre.2.2.2.2.1 rfl | exact hpre.2.2.2.2.2.1 rfl | exact hpre.2.2.2.2.2.2.1 rfl | exact hpre.2.2.2.2.2.2.2.1 rfl | exact hpre.2.2.2.2.2.2.2.2.1 rfl | exact hpre.2.2.2.2.2.2.2.2.2.1 rfl)
        clear hA hpre
        go_simp
        first | exact hK _ _ hB rfl (fun _ _ h => h) | exact hK _ _ hB trivial (fun _ _ h => h) | (rw [if_neg (by omega)]; go_simp; exact hK _ _ hB rfl (fun _ _ h => h))
      · intro vs Wx A hA hB hpre K hK
        have e27 := ((hA 27).trans (show _ = vs 11 by kernel_rfl)).trans (by first | exact hpre.1 rfl | exact hpre.2.1 rfl | exact hpre.2.2.1 rfl | exact hpre.2.2.2.1 rfl | exact hpre.2.2.2.2.1 rfl | exact hpre.2.2.2.2.2.1 rfl | exact hpre.2.2.2.2.2.2.1 rfl | exact hpre.2.2.2.2.2.2.2.1 rfl | exact hpre.2.2.2.2.2.2.2.2.1 rfl | exact hpre.2.2.2.2.2.2.2.2.2.1 rfl)
        clear hA hpre
        go_simp
        first | exact hK _ _ hB rfl (fun _ _ h => h) | exact hK _ _ hB trivial (fun _ _ h => h) | (rw [if_neg (by omega)]; go_simp; exact hK _ _ hB rfl (fun _ _ h => h))
      · intro vs Wx A hA hB hpre K hK
        have e27 := ((hA 27).trans (show _ = vs 11 by kernel_rfl)).trans (by first | exact hpre.1 rfl | exact hpre.2.1 rfl | exact hpre.2.2.1 rfl | exact hpre.2.2.2.1 rfl | exact hpre.2.2.2.2.1 rfl | exact hpre.2.2.2.2.2.1 rfl | exact hpre.2.2.2.2.2.2.1 rfl | exact hpre.2.2.2.2.2.2.2.1 rfl | exact hpre.2.2.2.2.2.2.2.2.1 rfl | exact hpre.2.2.2.2.2.2.2.2.2.1 rfl)
        clear hA hpre
        go_simp
        first | exact hK _ _ hB rfl (fun _ _ h => h) | exact hK _ _ hB trivial (fun _ _ h => h) | (rw [if_neg (by omega)]; go_simp; exact hK _ _ hB rfl (fun _ _ h => h))
      · intro vs Wx A hA hB hpre K hK
        have e39 := ((hA 39).trans (show _ = vs 12 by kernel_rfl)).trans (by first | exact hpre.1 rfl | exact hpre.2.1 rfl | exact hpre.2.2.1 rfl | exact hpre.2.2.2.1 rfl | exact hpre.2.2.2.2.1 rfl | exact hpre.2.2.2.2.2.1 rfl | exact hpre.2.2.2.2.2.2.1 rfl | exact hpre.2.2.2.2.2.2.2.1 rfl | exact hpre.2.2.2.2.2.2.2.2.1 rfl | exact hpre.2.2.2.2.2.2.2.2.2.1 rfl)
        clear hA hpre
        go_simp
        first | exact hK _ _ hB rfl (fun _ _ h => h) | exact hK _ _ hB trivial (fun _ _ h => h) | (rw [if_neg (by omega)]; go_simp; exact hK _ _ hB rfl (fun _ _ h => h))
      · intro vs Wx A hA hB hpre K hK
        have e40 := ((hA 40).trans (show _ = vs 13 by kernel_rfl)).trans (by first | exact hpre.1 rfl | exact hpre.2.1 rfl | exact hpre.2.2.1 rfl | exact hpre.2.2.2.1 rfl | exact hpre.2.2.2.2.1 rfl | exact hpre.2.2.2.2.2.1 rfl | exact hpre.2.2.2.2.2.2.1 rfl | exact hpre.2.2.2.2.2.2.2.1 rfl | exact hpre.2.2.2.2.2.2.2.2.1 rfl | exact hpre.2.2.2.2.2.2.2.2.2.1 rfl)
        clear hA hpre
        go_simp
        first | exact hK _ _ hB rfl (fun _ _ h => h) | exact hK _ _ hB trivial (fun _ _ h => h) | (rw [if_neg (by omega)]; go_simp; exact hK _ _ hB rfl (fun _ _ h => h))
      · intro vs Wx hB hF
        have hL1 : vs 14 = .int .i64 LV := hF 14 (by decide)
        have hL2 : vs 15 = .bool LB := hF 15 (by decide)
        have HBW := Lib.hid (below_trans HBn.out hB)
        clear hF hB
        simp only [Ri.puts]
        rw [hL1, hL2]
        clear hL1 hL2 HXK HLk HD
        cases LB with
        | false =>
          have HE2 : Hid (firstF l x net (L.drop (n + 1)) = firstF l x net L) := by show _ = _; rw [← HE.out, HFD.out]; rfl
          clear HE HFD HLB HLV
          go_simp
          go_wp2
          go_roundg (N - (n + 1))
          case measure => omega
          case rel => exact ⟨n + 1, by omega, rfl, by first | rfl | go_num | (congr 1; omega), HBW.out, HE2.out⟩
        | true =>
          obtain ⟨e1, e2⟩ : priceV l x net = LV ∧ priceB l x net = true := by
            unfold priceV priceB
            rw [HPF.out, ← HE.out, HFD.out, if_pos rfl]
            exact ⟨HLV.out, HLB.out⟩
          have HPB := Lib.hid e2
          have HV : Hid (allowV l x net = if Ce.scaleE LV x.units 1 ≠ 0 ∨ x.billed < Ce.scaleV LV x.units 1 then x.billed else Ce.scaleV LV x.units 1) := by show _ = _; unfold allowV; rw [e2, e1]; rfl
          have HS := Lib.hid (HSc.out LV)
          obtain ⟨SE, HSE⟩ : ∃ B, Hid (Ce.scaleE LV x.units 1 = B) := ⟨_, rfl⟩
          obtain ⟨SV, HSV⟩ : ∃ B, Hid (Ce.scaleV LV x.units 1 = B) := ⟨_, rfl⟩
          rw [HSE.out, HSV.out] at HV HS
          have HBE := Lib.hid (below_tr hp HB3.out HBW.out)
          obtain ⟨c0, c1, c2, c3, c4, c5⟩ := cells6 (keepB HZ3.out HBW.out)
          clear HSc e1 e2 HE HFD HLB HLV HPF HSE HSV
          go_simp
          by_cases hse : SE = 0
          · have q1 : (SE != 0) = false := by rw [hse]; rfl
            by_cases hbl : x.billed < SV
            · have HV2 : Hid (allowV l x net = x.billed) := by show _ = _; rw [HV.out, if_pos (Or.inr hbl)]
              clear HV hse
              go_wp2_with (go_at_call 45; refine (HS.out _).mono ?_; rintro e w5 ⟨rfl, hw5⟩; rw [hw5]; clear hw5 w5)
              go_ret2
              exact ⟨by rw [HV2.out, HPB.out]; first | done | rfl, by first | exact HBE.out | (rw [hp]; exact HBE.out)⟩
            · have HV2 : Hid (allowV l x net = SV) := by show _ = _; rw [HV.out, if_neg (by omega)]
              clear HV hse
              go_wp2_with (go_at_call 45; refine (HS.out _).mono ?_; rintro e w5 ⟨rfl, hw5⟩; rw [hw5]; clear hw5 w5)
              go_ret2
              exact ⟨by rw [HV2.out, HPB.out]; first | done | rfl, by first | exact HBE.out | (rw [hp]; exact HBE.out)⟩
          · have q1 : (SE != 0) = true := by simpa using hse
            have HV2 : Hid (allowV l x net = x.billed) := by show _ = _; rw [HV.out, if_pos (Or.inl hse)]
            clear HV hse
            go_wp2_with (go_at_call 45; refine (HS.out _).mono ?_; rintro e w5 ⟨rfl, hw5⟩; rw [hw5]; clear hw5 w5)
            go_ret2
            exact ⟨by rw [HV2.out, HPB.out]; first | done | rfl, by first | exact HBE.out | (rw [hp]; exact HBE.out)⟩
    · have hltz : ¬ (n : Int) < (N : Int) := by omega
      obtain ⟨e1, e2⟩ : priceB l x net = false ∧ allowV l x net = 0 := by
        have hd : L.drop n = [] := List.drop_eq_nil_of_le (by rw [HLN.out]; omega)
        have hz : firstF l x net L = none := by rw [← HE.out, hd]; rfl
        have hb : priceB l x net = false := by unfold priceB; rw [HPF.out, hz]; rfl
        exact ⟨hb, by unfold allowV; rw [hb]; rfl⟩
      have HV := Lib.hid (And.intro e1 e2)
      have HBE := Lib.hid (below_tr hp HB3.out HBn.out)
      clear e1 e2 HE HPF
      go_wp2
      go_ret2
      exact ⟨by rw [HV.out.1, HV.out.2]; first | done | rfl, by first | exact HBE.out | (rw [hp]; exact HBE.out)⟩
end Go.Proofs.YtmoldgmfhcmceaaGreatDoor.Fe
end
