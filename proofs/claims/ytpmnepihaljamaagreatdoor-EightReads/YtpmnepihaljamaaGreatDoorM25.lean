/-
  Texts put together (merge.py): ERcl.
-/
import Derived.Test.YtpmnepihaljamaaGreatDoorM23
import Derived.Test.YtpmnepihaljamaaGreatDoorM24
import Derived.Test.YtpmnepihaljamaaGreatDoorM5
/-
  What eight.readClaim answers, as a contract. (Written by gen_rcl.py.)
-/
section
set_option linter.unusedSimpArgs false
set_option linter.unusedVariables false
set_option maxRecDepth 100000
namespace Go.Proofs.YtpmnepihaljamaaGreatDoor
open Go.RowKit
open Et
open Cm (Ln lnv ln0 Cl clv cl0 checkE totV totE)

theorem lns_nil (K : Nat → Prop) (w : World) : Cm.LnsAt K w (.slice none 0 0) [] := ⟨none, 0, rfl, by simp, by simp [maxLen], Or.inl rfl⟩
theorem put7_moves (W : World) (B : Nat) (a0 a1 a2 a3 a4 a5 a6 : Value) {K K' : Nat → Prop} (hk : ∀ b, K b → K' b ∧ b ≠ B) : Moves K K' W (put7 W B a0 a1 a2 a3 a4 a5 a6) := by
  refine ⟨by simp [World.setCell], fun b _ h => ⟨(hk b h).1, ?_⟩⟩
  have hne := (hk b h).2
  rw [Below.heap_setCell _ _ _ _ hne, Below.heap_setCell _ _ _ _ hne, Below.heap_setCell _ _ _ _ hne, Below.heap_setCell _ _ _ _ hne, Below.heap_setCell _ _ _ _ hne, Below.heap_setCell _ _ _ _ hne, Below.heap_setCell _ _ _ _ hne]
theorem el_len {l : List Sg} (h : Qs l) (i : Nat) : (el l i).length ≤ 100000 := by
  unfold el
  cases l with
  | nil => simp
  | cons g r =>
    simp only [List.headD_cons, List.getD_eq_getElem?_getD]
    cases e : g[i]? with
    | none => simp
    | some ps => exact h g (by simp) ps (List.mem_of_getElem? e)
theorem el_mem {l : List Sg} (h : Sh l) (i : Nat) : ∀ t ∈ el l i, t.length ≤ 65536 := by
  unfold el
  cases l with
  | nil => simp
  | cons g r =>
    simp only [List.headD_cons, List.getD_eq_getElem?_getD]
    cases e : g[i]? with
    | none => simp
    | some ps => exact h g (by simp) ps (List.mem_of_getElem? e)
theorem i64_ri (t : Tx) (m : Int) : Cm.I64 (Nu.riV t m) := by have := Nu.ri_bd t m; unfold Cm.I64; omega
theorem i64_mn (t : Tx) : Cm.I64 (Nu.mnV t) := by have := Nu.mn_bd t; unfold Cm.I64; omega
theorem i64_0 : Cm.I64 0 := by unfold Cm.I64; omega
theorem svX_ok {l : List Sg} (hs : Sh l) (hq : Qs l) : Cm.LnOk (svX l) := by
  refine ⟨?_, i64_ri _ _, i64_mn _, ?_, ?_, ?_, ?_⟩
  · show Cm.I64 (dyV l.tail)
    unfold dyV
    split
    · exact i64_ri _ _
    · exact i64_0
  · show Cm.I64 (if amB l.tail.tail = true then Nu.mnV (tx l.tail.tail 2) else 0)
    split
    · exact i64_mn _
    · exact i64_0
  · show ((el l 1).getD 1 []).length ≤ _
    rw [List.getD_eq_getElem?_getD]
    cases e : (el l 1)[1]? with
    | none => simp
    | some t => have := el_mem hs 1 t (List.mem_of_getElem? e); simp; omega
  · show ((el l 1).drop 2).length ≤ _
    have := el_len hq 1
    rw [List.length_drop]; omega
  · intro t ht
    have := el_mem hs 1 t (List.mem_of_mem_drop ht)
    omega
theorem svs_ok : ∀ (f : Nat) (acc : List Ln) (l : List Sg), (∀ x ∈ acc, Cm.LnOk x) → Sh l → Qs l → (∀ x ∈ (svsA f acc l).2.1, Cm.LnOk x) ∧ (svsA f acc l).2.1.length ≤ acc.length + l.length
  | 0, acc, l, h, _, _ => ⟨h, by simp [svsA]⟩
  | f + 1, acc, l, h, hs, hq => by
    rw [svsA]
    split
    · split
      · split
        · obtain ⟨i1, i2⟩ := svs_ok f (acc ++ [svX l.tail]) (svN l.tail) (fun x hx => by
            rcases List.mem_append.1 hx with hx | hx
            · exact h x hx
            · rw [List.mem_singleton.1 hx]; exact svX_ok hs.tail hq.tail) (Sh.svN hs.tail) (Qs.svN hq.tail)
          refine ⟨i1, Nat.le_trans i2 ?_⟩
          rename_i hx _ _
          obtain ⟨g, r, rfl⟩ := lx_cons hx
          have := svN_len r
          simp only [List.tail_cons, List.length_append, List.length_cons, List.length_nil]
          omega
        · exact ⟨by simp, by simp⟩
      · exact ⟨by simp, by simp⟩
    · exact ⟨h, by simp⟩
theorem cl_ok {l : List Sg} (hs : Sh l) (hq : Qs l) (hl : l.length ≤ 100000) : Cm.ClOk (clC l) ∧ (clC l).lines.length ≤ 100000 := by
  obtain ⟨i1, i2⟩ := svs_ok l.length [] l.tail.tail.tail (by simp) hs.tail.tail.tail hq.tail.tail.tail
  have i3 : (clC l).lines.length ≤ 100000 := by
    refine Nat.le_trans i2 ?_
    simp only [List.length_nil, List.length_tail]
    omega
  refine ⟨⟨i64_ri _ _, i64_ri _ _, ?_, ?_, ?_, ?_, ?_, i1⟩, i3⟩
  · have := hs.tail.tail.tx 1; exact Nat.le_trans this (by omega)
  · have := hs.tail.tx 1; exact Nat.le_trans this (by omega)
  · have := hs.tail.tx 2; exact Nat.le_trans this (by omega)
  · have := hs.tail.tail.tx 5; exact Nat.le_trans this (by omega)
  · omega
def clV (k : Nat) (l : List Sg) : Cl := if clE k l = 0 then clC l else cl0
def clR (k : Nat) (l : List Sg) : List Sg := if clE k l = 0 then (clP l).2.2 else []
theorem cl_bad {k : Nat} {l : List Sg} {e : Int} (h : clE k l = e) (h0 : e ≠ 0) : clE k l = e ∧ clV k l = cl0 ∧ clR k l = [] := by
  have : ¬ clE k l = 0 := by rw [h]; exact h0
  exact ⟨h, by unfold clV; rw [if_neg this], by unfold clR; rw [if_neg this]⟩
theorem cl_good {k : Nat} {l : List Sg} (h : clE k l = 0) : clE k l = 0 ∧ clV k l = clC l ∧ clR k l = (clP l).2.2 := ⟨h, by unfold clV; rw [if_pos h], by unfold clR; rw [if_pos h]⟩
theorem pl_cons {l : List Sg} {t : Tx} {k : Nat} (h : plB l t k = true) : ∃ g r, l = g :: r := by
  cases l with
  | nil => simp [plB, txB, behB] at h
  | cons g r => exact ⟨g, r, rfl⟩
theorem hd_cons {l : List Sg} (h : hdE l = 0) : ∃ g r, l = g :: r := by
  cases l with
  | nil => exact absurd h (by decide)
  | cons g r => exact ⟨g, r, rfl⟩

set_option maxHeartbeats 8000000 in
theorem eclaim_any (K : Nat → Prop) (v : Value) (l : List Sg) (k : Nat) (w : World) (hK : SgAt K w v l) (hn : Nm l) (hs : Sh l) (hq : Qs l) (hT : Tab w) (hD : Da.Tab w) (hl : l.length ≤ 100000) (hk : k ≤ 1000000) :
    Calls Tryz.prog 65 #[v, .int .i64 (k : Int)] w fun e w' => (∃ m u, e = .returned (.tuple #[clv (clV k l) m, u, .int .i64 (clE k l)]) ∧ Cm.LnsAt (fun b => w.heap.size < b) w' m (clV k l).lines ∧ SgAt K w' u (clR k l)) ∧ Below w.heap.size w w' := by
  have h : SgAt All w v l := SgAt.move hK (moves_weak _ fun _ _ _ => trivial)
  obtain ⟨K2, hKK, hK2⟩ : ∃ K2 : Nat → Prop, (∀ b, K2 b → K b ∧ b < w.heap.size) ∧ SgAt K2 w v l := ⟨fun b => K b ∧ b < w.heap.size, fun _ hb => hb, SgAt.move hK ⟨Nat.le_refl _, fun b hb hk => ⟨⟨hk, hb⟩, rfl⟩⟩⟩
  have HSK := Lib.hid fun W (hW : Below w.heap.size w W) => SgAt.move hK2 (Below.movesK K2 hW)
  have HKK := Lib.hid hKK
  clear hK2 hKK
  have HP := Lib.hid (eplaced_any v l tHL k (w.alloc (.cells #[.string ByteArray.empty, .string ByteArray.empty, .string ByteArray.empty, .int .i64 0, .int .i64 0, .string ByteArray.empty, .slice none 0 0] 43)) (SgAt.move h (Below.moves (below_alloc w _))) hn (tab_grw hT (below_alloc w _)) hk)
  have HTb := Lib.hid (And.intro hT hD)
  obtain ⟨okc, okl⟩ := cl_ok hs hq hl
  have HOk := Lib.hid (And.intro okc okl)
  clear hK hk hT hD okc okl
  cases hA : plB l tHL k
  · have HX := Lib.hid (cl_bad (k := k) (l := l) (show clE k l = 11 by unfold clE; rw [hA]; rfl) (by decide))
    rw [hA] at HP
    obtain ⟨va, vc, rfl, -, -, -⟩ := h
    have HP' : Hid (Calls Tryz.prog 101 #[.slice va l.length vc, .string ⟨#[72, 76]⟩, .int .i64 (k : Int)] (w.alloc (.cells #[.string ByteArray.empty, .string ByteArray.empty, .string ByteArray.empty, .int .i64 0, .int .i64 0, .string ByteArray.empty, .slice none 0 0] 43)) fun e w' => e = .returned (.bool false) ∧ Below (w.alloc (.cells #[.string ByteArray.empty, .string ByteArray.empty, .string ByteArray.empty, .int .i64 0, .int .i64 0, .string ByteArray.empty, .slice none 0 0] 43)).heap.size (w.alloc (.cells #[.string ByteArray.empty, .string ByteArray.empty, .string ByteArray.empty, .int .i64 0, .int .i64 0, .string ByteArray.empty, .slice none 0 0] 43)) w') := HP.out
    clear hA hn hs hq HSK HP HOk
    have HP := HP'
    clear HP'
    go_enter Tryz.func65, Tryz.ntmps65
    go_wp2_with fail
    go_at_call 101
    refine (HP.out).mono ?_
    rintro x w1 ⟨rfl, hb1⟩
    have HB1 := Lib.hid (below_trans (below_alloc w _) hb1)
    have HZ1 := Lib.hid (keepB (heap_alloc_new w (.cells #[.string ByteArray.empty, .string ByteArray.empty, .string ByteArray.empty, .int .i64 0, .int .i64 0, .string ByteArray.empty, .slice none 0 0] 43)) hb1)
    clear hb1
    have HZq := HZ1
    have HBq := HB1
    obtain ⟨d0, d1, d2, d3, d4, d5, d6⟩ := claim_cells HZq.out
    obtain ⟨f0, f1, f2, f3, f4, f5, f6⟩ := claim_frozen HZq.out
    go_wp2
    refine bodyPost_ret (v := .tuple #[clv cl0 (.slice none 0 0), .slice none 0 0, .int .i64 11]) (by simp [results, Tryz.results65, go_sem, d0, d1, d2, d3, d4, d5, d6]; first | done | exact ⟨rfl, rfl, rfl, rfl, rfl, rfl⟩) rfl ?_
    exact ⟨⟨.slice none 0 0, .slice none 0 0, by rw [HX.out.1, HX.out.2.1], by rw [HX.out.2.1]; exact lns_nil _ _, by rw [HX.out.2.2]; exact SgAt.nil _ _⟩, put7_below HBq.out w.heap.size (Nat.le_refl _) _ _ _ _ _ _ _⟩
  obtain ⟨g, r, rfl⟩ := pl_cons hA
  rw [hA] at HP
  obtain ⟨b, o, c, u0, rfl, p1, p2, -, -⟩ := sg_open h
  have HP' : Hid (Calls Tryz.prog 101 #[.slice (some ⟨b, o, none⟩) (r.length + 1) c, .string ⟨#[72, 76]⟩, .int .i64 (k : Int)] (w.alloc (.cells #[.string ByteArray.empty, .string ByteArray.empty, .string ByteArray.empty, .int .i64 0, .int .i64 0, .string ByteArray.empty, .slice none 0 0] 43)) fun e w' => e = .returned (.bool true) ∧ Below (w.alloc (.cells #[.string ByteArray.empty, .string ByteArray.empty, .string ByteArray.empty, .int .i64 0, .int .i64 0, .string ByteArray.empty, .slice none 0 0] 43)).heap.size (w.alloc (.cells #[.string ByteArray.empty, .string ByteArray.empty, .string ByteArray.empty, .int .i64 0, .int .i64 0, .string ByteArray.empty, .slice none 0 0] 43)) w') := HP.out
  clear HP
  have HP := HP'
  clear HP'
  have HNm := Lib.hid hn.tail
  have HSh := Lib.hid hs.tail
  have HQs := Lib.hid hq.tail
  rw [List.tail_cons] at HNm HSh HQs
  have hcl1 : clE k (g :: r) = (if hdE r = 0 then (if (clP (g :: r)).1 = 0 then (if checkE (clC (g :: r)) = 0 then (if totV (clC (g :: r)).lines = hdT r then 0 else 17) else checkE (clC (g :: r))) else (clP (g :: r)).1) else hdE r) := by unfold clE; rw [hA]; rfl
  by_cases he : hdE r = 0
  case neg =>
    have HX := Lib.hid (cl_bad (k := k) (hcl1.trans (if_neg he)) he)
    have hne : (hdE r != 0) = true := by simpa using he
    by_cases hc : c = 1
    · have hr0 : r.length = 0 := by omega
      have HH : Hid (∀ W, Below w.heap.size w W → Calls Tryz.prog 102 #[.slice (some ⟨b, o, none⟩) 0 0] W fun e w' => (∃ u, e = .returned (.tuple #[clv (hdV r) (.slice none 0 0), .int .i64 (hdM r), u, .int .i64 (hdE r)]) ∧ SgAt K2 w' u (hdR r)) ∧ Below W.heap.size W w') := fun W hW => ehead_any _ _ r W (by rw [List.length_eq_zero_iff.1 hr0]; exact RowAt.nil_of (by simp [maxLen])) HNm.out HSh.out
      subst hc
      clear hA hn hs hq HSK h he hcl1 hl
      generalize hdE r = E at *
      generalize hdV r = X at *
      generalize hdM r = MM at *
      generalize hdR r = R at *
      rw [hr0] at *
      go_enter Tryz.func65, Tryz.ntmps65
      go_wp2_with fail
      go_at_call 101
      refine (HP.out).mono ?_
      rintro x w1 ⟨rfl, hb1⟩
      have HB1 := Lib.hid (below_trans (below_alloc w _) hb1)
      have HZ1 := Lib.hid (keepB (heap_alloc_new w (.cells #[.string ByteArray.empty, .string ByteArray.empty, .string ByteArray.empty, .int .i64 0, .int .i64 0, .string ByteArray.empty, .slice none 0 0] 43)) hb1)
      clear hb1
      go_wp2_with fail
      go_at_call 102
      refine (HH.out _ HB1.out).mono ?_
      rintro x w2 ⟨⟨u2, rfl, hu2⟩, hb2⟩
      have HB2 := Lib.hid (below_trans HB1.out hb2)
      have HZ2 := Lib.hid (keepB HZ1.out hb2)
      have HU2 := Lib.hid hu2
      obtain ⟨ra, rc, rfl, -, -, -⟩ := hu2
      clear hb2
      have HB3 := Lib.hid (below_trans HB2.out (below_alloc w2 (.cells #[.string (mk X.id), .string (mk X.mem), .string (mk X.fam), .int .i64 X.net, .int .i64 X.does, .string (mk X.ref), .slice none 0 0] 43)))
      have HZ3 := Lib.hid (keepB HZ2.out (below_alloc w2 (.cells #[.string (mk X.id), .string (mk X.mem), .string (mk X.fam), .int .i64 X.net, .int .i64 X.does, .string (mk X.ref), .slice none 0 0] 43)))
      have HC3 := Lib.hid (heap_alloc_new w2 (.cells #[.string (mk X.id), .string (mk X.mem), .string (mk X.fam), .int .i64 X.net, .int .i64 X.does, .string (mk X.ref), .slice none 0 0] 43))
      have HU3 := Lib.hid (SgAt.move HU2.out (Below.movesK _ (below_alloc w2 (.cells #[.string (mk X.id), .string (mk X.mem), .string (mk X.fam), .int .i64 X.net, .int .i64 X.does, .string (mk X.ref), .slice none 0 0] 43))))
      have hz2 : w.heap.size < w2.heap.size := (Array.getElem?_eq_some_iff.1 HZ2.out).1
      have hs3 : (w2.alloc (.cells #[.string (mk X.id), .string (mk X.mem), .string (mk X.fam), .int .i64 X.net, .int .i64 X.does, .string (mk X.ref), .slice none 0 0] 43)).heap.size = w2.heap.size + 1 := by simp
      go_upto_if 27 with fail
      generalize w2.alloc (.cells #[.string (mk X.id), .string (mk X.mem), .string (mk X.fam), .int .i64 X.net, .int .i64 X.does, .string (mk X.ref), .slice none 0 0] 43) = w3 at *
      have HZq := HZ3
      have HBq := HB3
      obtain ⟨d0, d1, d2, d3, d4, d5, d6⟩ := claim_cells HZq.out
      obtain ⟨f0, f1, f2, f3, f4, f5, f6⟩ := claim_frozen HZq.out
      go_wp2
      refine bodyPost_ret (v := .tuple #[clv cl0 (.slice none 0 0), .slice none 0 0, .int .i64 E]) (by simp [results, Tryz.results65, go_sem, d0, d1, d2, d3, d4, d5, d6]; first | done | exact ⟨rfl, rfl, rfl, rfl, rfl, rfl⟩) rfl ?_
      exact ⟨⟨.slice none 0 0, .slice none 0 0, by rw [HX.out.1, HX.out.2.1], by rw [HX.out.2.1]; exact lns_nil _ _, by rw [HX.out.2.2]; exact SgAt.nil _ _⟩, put7_below HBq.out w.heap.size (Nat.le_refl _) _ _ _ _ _ _ _⟩
    · have HH : Hid (∀ W, Below w.heap.size w W → Calls Tryz.prog 102 #[.slice (some ⟨b, o + 1, none⟩) r.length (c - 1)] W fun e w' => (∃ u, e = .returned (.tuple #[clv (hdV r) (.slice none 0 0), .int .i64 (hdM r), u, .int .i64 (hdE r)]) ∧ SgAt K2 w' u (hdR r)) ∧ Below W.heap.size W w') := fun W hW => ehead_any _ _ r W (RowAt.tail (HSK.out W hW)) HNm.out HSh.out
      clear hA hn hs hq HSK h he hcl1 hl
      generalize hdE r = E at *
      generalize hdV r = X at *
      generalize hdM r = MM at *
      generalize hdR r = R at *
      go_enter Tryz.func65, Tryz.ntmps65
      go_wp2_with fail
      go_at_call 101
      refine (HP.out).mono ?_
      rintro x w1 ⟨rfl, hb1⟩
      have HB1 := Lib.hid (below_trans (below_alloc w _) hb1)
      have HZ1 := Lib.hid (keepB (heap_alloc_new w (.cells #[.string ByteArray.empty, .string ByteArray.empty, .string ByteArray.empty, .int .i64 0, .int .i64 0, .string ByteArray.empty, .slice none 0 0] 43)) hb1)
      clear hb1
      go_wp2_with fail
      go_at_call 102
      refine (HH.out _ HB1.out).mono ?_
      rintro x w2 ⟨⟨u2, rfl, hu2⟩, hb2⟩
      have HB2 := Lib.hid (below_trans HB1.out hb2)
      have HZ2 := Lib.hid (keepB HZ1.out hb2)
      have HU2 := Lib.hid hu2
      obtain ⟨ra, rc, rfl, -, -, -⟩ := hu2
      clear hb2
      have HB3 := Lib.hid (below_trans HB2.out (below_alloc w2 (.cells #[.string (mk X.id), .string (mk X.mem), .string (mk X.fam), .int .i64 X.net, .int .i64 X.does, .string (mk X.ref), .slice none 0 0] 43)))
      have HZ3 := Lib.hid (keepB HZ2.out (below_alloc w2 (.cells #[.string (mk X.id), .string (mk X.mem), .string (mk X.fam), .int .i64 X.net, .int .i64 X.does, .string (mk X.ref), .slice none 0 0] 43)))
      have HC3 := Lib.hid (heap_alloc_new w2 (.cells #[.string (mk X.id), .string (mk X.mem), .string (mk X.fam), .int .i64 X.net, .int .i64 X.does, .string (mk X.ref), .slice none 0 0] 43))
      have HU3 := Lib.hid (SgAt.move HU2.out (Below.movesK _ (below_alloc w2 (.cells #[.string (mk X.id), .string (mk X.mem), .string (mk X.fam), .int .i64 X.net, .int .i64 X.does, .string (mk X.ref), .slice none 0 0] 43))))
      have hz2 : w.heap.size < w2.heap.size := (Array.getElem?_eq_some_iff.1 HZ2.out).1
      have hs3 : (w2.alloc (.cells #[.string (mk X.id), .string (mk X.mem), .string (mk X.fam), .int .i64 X.net, .int .i64 X.does, .string (mk X.ref), .slice none 0 0] 43)).heap.size = w2.heap.size + 1 := by simp
      go_upto_if 27 with fail
      generalize w2.alloc (.cells #[.string (mk X.id), .string (mk X.mem), .string (mk X.fam), .int .i64 X.net, .int .i64 X.does, .string (mk X.ref), .slice none 0 0] 43) = w3 at *
      have HZq := HZ3
      have HBq := HB3
      obtain ⟨d0, d1, d2, d3, d4, d5, d6⟩ := claim_cells HZq.out
      obtain ⟨f0, f1, f2, f3, f4, f5, f6⟩ := claim_frozen HZq.out
      go_wp2
      refine bodyPost_ret (v := .tuple #[clv cl0 (.slice none 0 0), .slice none 0 0, .int .i64 E]) (by simp [results, Tryz.results65, go_sem, d0, d1, d2, d3, d4, d5, d6]; first | done | exact ⟨rfl, rfl, rfl, rfl, rfl, rfl⟩) rfl ?_
      exact ⟨⟨.slice none 0 0, .slice none 0 0, by rw [HX.out.1, HX.out.2.1], by rw [HX.out.2.1]; exact lns_nil _ _, by rw [HX.out.2.2]; exact SgAt.nil _ _⟩, put7_below HBq.out w.heap.size (Nat.le_refl _) _ _ _ _ _ _ _⟩
  obtain ⟨-, v1, v2, v3⟩ := hd_good he
  rw [if_pos he] at hcl1
  obtain ⟨g', r', hr'⟩ := hd_cons he
  have hrl : r.length = r'.length + 1 := by rw [hr']; rfl
  have hcc : ¬ c = 1 := by omega
  have HH : Hid (∀ W, Below w.heap.size w W → Calls Tryz.prog 102 #[.slice (some ⟨b, o + 1, none⟩) r.length (c - 1)] W fun e w' => (∃ u, e = .returned (.tuple #[clv (hdC r) (.slice none 0 0), .int .i64 (hdT r), u, .int .i64 0]) ∧ SgAt K2 w' u r.tail.tail) ∧ Below W.heap.size W w') := fun W hW => by
    have := ehead_any _ _ r W (RowAt.tail (HSK.out W hW)) HNm.out HSh.out
    rw [he, v1, v2, v3] at this
    exact this
  obtain ⟨PE, PL, PR, hP⟩ : ∃ PE PL PR, clP (g :: r) = (PE, PL, PR) := ⟨_, _, _, rfl⟩
  have HVs : Hid (∀ u W, Below w.heap.size w W → SgAt K2 W u r.tail.tail → Calls Tryz.prog 103 #[u] W fun e w' => (∃ m u, e = .returned (.tuple #[m, u, .int .i64 PE]) ∧ SrvAt W.heap.size w' m PL ∧ SgAt K2 w' u PR) ∧ Below W.heap.size W w') := fun u W hW hu => by
    have hll : r.tail.tail.length ≤ r.length := by simp only [List.length_tail]; omega
    simp only [List.length_cons] at hl
    have := esvs_any K2 u r.tail.tail (g :: r).length W hu HNm.out.tail.tail HSh.out.tail.tail HQs.out.tail.tail (tab_grw HTb.out.1 hW) (by omega) (by simp only [List.length_cons]; omega)
    rw [show svsA (g :: r).length [] r.tail.tail = (PE, PL, PR) from hP] at this
    exact this
  have hC : clC (g :: r) = { hdC r with lines := PL } := by unfold clC; rw [hP]; rfl
  rw [hP, hC] at hcl1
  rw [hC] at HOk
  have HPR : Hid ((clP (g :: r)).2.2 = PR) := by show _ = _; rw [hP]
  have HCC := Lib.hid hC
  have hcl : clE k (g :: r) = (if PE = 0 then (if checkE { hdC r with lines := PL } = 0 then (if totV PL = hdT r then 0 else 17) else checkE { hdC r with lines := PL }) else PE) := hcl1
  have hRR : ∀ n, r.tail.tail.length = n → True := fun _ _ => trivial
  clear hcl1 hA hn hs hq HSK h he v1 v2 v3 hP hC hr' hRR hrl
  generalize hdC r = X at *
  generalize hdT r = MM at *
  generalize r.tail.tail = R at *
  by_cases hE : PE = 0
  case neg =>
    have HX := Lib.hid (cl_bad (k := k) (hcl.trans (if_neg hE)) hE)
    have hne : (PE != 0) = true := by simpa using hE
    clear hE hcl
    generalize PL = L at *
    go_enter Tryz.func65, Tryz.ntmps65
    go_wp2_with fail
    go_at_call 101
    refine (HP.out).mono ?_
    rintro x w1 ⟨rfl, hb1⟩
    have HB1 := Lib.hid (below_trans (below_alloc w _) hb1)
    have HZ1 := Lib.hid (keepB (heap_alloc_new w (.cells #[.string ByteArray.empty, .string ByteArray.empty, .string ByteArray.empty, .int .i64 0, .int .i64 0, .string ByteArray.empty, .slice none 0 0] 43)) hb1)
    clear hb1
    go_wp2_with fail
    go_at_call 102
    refine (HH.out _ HB1.out).mono ?_
    rintro x w2 ⟨⟨u2, rfl, hu2⟩, hb2⟩
    have HB2 := Lib.hid (below_trans HB1.out hb2)
    have HZ2 := Lib.hid (keepB HZ1.out hb2)
    have HU2 := Lib.hid hu2
    obtain ⟨ra, rc, rfl, -, -, -⟩ := hu2
    clear hb2
    have HB3 := Lib.hid (below_trans HB2.out (below_alloc w2 (.cells #[.string (mk X.id), .string (mk X.mem), .string (mk X.fam), .int .i64 X.net, .int .i64 X.does, .string (mk X.ref), .slice none 0 0] 43)))
    have HZ3 := Lib.hid (keepB HZ2.out (below_alloc w2 (.cells #[.string (mk X.id), .string (mk X.mem), .string (mk X.fam), .int .i64 X.net, .int .i64 X.does, .string (mk X.ref), .slice none 0 0] 43)))
    have HC3 := Lib.hid (heap_alloc_new w2 (.cells #[.string (mk X.id), .string (mk X.mem), .string (mk X.fam), .int .i64 X.net, .int .i64 X.does, .string (mk X.ref), .slice none 0 0] 43))
    have HU3 := Lib.hid (SgAt.move HU2.out (Below.movesK _ (below_alloc w2 (.cells #[.string (mk X.id), .string (mk X.mem), .string (mk X.fam), .int .i64 X.net, .int .i64 X.does, .string (mk X.ref), .slice none 0 0] 43))))
    have hz2 : w.heap.size < w2.heap.size := (Array.getElem?_eq_some_iff.1 HZ2.out).1
    have hs3 : (w2.alloc (.cells #[.string (mk X.id), .string (mk X.mem), .string (mk X.fam), .int .i64 X.net, .int .i64 X.does, .string (mk X.ref), .slice none 0 0] 43)).heap.size = w2.heap.size + 1 := by simp
    go_upto_if 27 with fail
    generalize w2.alloc (.cells #[.string (mk X.id), .string (mk X.mem), .string (mk X.fam), .int .i64 X.net, .int .i64 X.does, .string (mk X.ref), .slice none 0 0] 43) = w3 at *
    have HV := Lib.hid (HVs.out _ _ HB3.out HU3.out)
    go_wp2_with fail
    go_at_call 103
    refine (HV.out).mono ?_
    rintro x w4 ⟨⟨m, u4, rfl, hm, hu4⟩, hb4⟩
    have HB4 := Lib.hid (below_trans HB3.out hb4)
    have HZ4 := Lib.hid (keepB HZ3.out hb4)
    have HC4 := Lib.hid (keepB HC3.out hb4)
    have hml := Cm.LnsAt.form hm.lns
    obtain ⟨ma, mc, rfl, -, -⟩ := hml
    have HM4 := Lib.hid hm.lns
    have HU4 := Lib.hid hu4
    obtain ⟨rb, rd, rfl, -, -, -⟩ := hu4
    clear hb4 hm
    have nz : w.heap.size ≠ w2.heap.size := by omega
    have HZ5 := Lib.hid (heap_far (j := 6) (u := .slice ma L.length mc) HZ4.out nz)
    have HC5 : Hid ((w4.setCell ⟨w2.heap.size, 6, none⟩ (.slice ma L.length mc)).heap[w2.heap.size]? = some (.cells #[.string (mk X.id), .string (mk X.mem), .string (mk X.fam), .int .i64 X.net, .int .i64 X.does, .string (mk X.ref), .slice ma L.length mc] 43 (0, 0))) := by show _ = _; rw [heap_set HC4.out]; rfl
    have HB5 := Lib.hid (HB4.out.setCell (p := ⟨w2.heap.size, 6, none⟩) (Nat.le_of_lt hz2) (.slice ma L.length mc))
    have hmv : Moves (fun b => w2.heap.size < b) (fun b => w2.heap.size < b) w4 (w4.setCell ⟨w2.heap.size, 6, none⟩ (.slice ma L.length mc)) := ⟨by simp [World.setCell], fun b _ hk => ⟨hk, Below.heap_setCell _ _ _ _ (show b ≠ w2.heap.size by omega)⟩⟩
    have HM5 := Lib.hid (Cm.LnsAt.move (Cm.LnsAt.move HM4.out (moves_weak (K' := fun b => w2.heap.size < b) _ fun b _ hk => by have : w3.heap.size ≤ b := hk; omega)) hmv)
    have HU5 := Lib.hid (SgAt.move (K' := K2) HU4.out (w' := w4.setCell ⟨w2.heap.size, 6, none⟩ (.slice ma L.length mc)) ⟨by simp [World.setCell], fun b _ hk => ⟨hk, Below.heap_setCell _ _ _ _ (show b ≠ w2.heap.size by have := (HKK.out b hk).2; omega)⟩⟩)
    obtain ⟨l0, l1, l2, l3, l4, l5, l6⟩ := claim_cells HC4.out
    have lf := Lib.frozen_of_heap HC4.out 6
    go_upto_if 38 with fail
    clear l0 l1 l2 l3 l4 l5 l6 lf hmv
    generalize w4.setCell ⟨w2.heap.size, 6, none⟩ (.slice ma L.length mc) = w5 at *
    have HZq := HZ5
    have HBq := HB5
    obtain ⟨d0, d1, d2, d3, d4, d5, d6⟩ := claim_cells HZq.out
    obtain ⟨f0, f1, f2, f3, f4, f5, f6⟩ := claim_frozen HZq.out
    go_wp2
    refine bodyPost_ret (v := .tuple #[clv cl0 (.slice none 0 0), .slice none 0 0, .int .i64 PE]) (by simp [results, Tryz.results65, go_sem, d0, d1, d2, d3, d4, d5, d6]; first | done | exact ⟨rfl, rfl, rfl, rfl, rfl, rfl⟩) rfl ?_
    exact ⟨⟨.slice none 0 0, .slice none 0 0, by rw [HX.out.1, HX.out.2.1], by rw [HX.out.2.1]; exact lns_nil _ _, by rw [HX.out.2.2]; exact SgAt.nil _ _⟩, put7_below HBq.out w.heap.size (Nat.le_refl _) _ _ _ _ _ _ _⟩
  subst hE
  rw [if_pos rfl] at hcl
  have HCk : Hid (∀ m W, Below w.heap.size w W → Cm.LnsAt All W m PL → Calls Tryz.prog 40 #[clv { X with lines := PL } m] W fun e w' => e = .returned (.int .i64 (checkE { X with lines := PL })) ∧ Below W.heap.size W w') := fun m W hW hm => Cm.check_any _ m W hm HOk.out.1 (Cm.tab_below HTb.out.2 hW)
  by_cases hc0 : checkE { X with lines := PL } = 0
  case neg =>
    have HX := Lib.hid (cl_bad (k := k) (hcl.trans (if_neg hc0)) hc0)
    have hne : (checkE { X with lines := PL } != 0) = true := by simpa using hc0
    clear hc0 hcl
    generalize checkE { X with lines := PL } = CE at *
    generalize PL = L at *
    go_enter Tryz.func65, Tryz.ntmps65
    go_wp2_with fail
    go_at_call 101
    refine (HP.out).mono ?_
    rintro x w1 ⟨rfl, hb1⟩
    have HB1 := Lib.hid (below_trans (below_alloc w _) hb1)
    have HZ1 := Lib.hid (keepB (heap_alloc_new w (.cells #[.string ByteArray.empty, .string ByteArray.empty, .string ByteArray.empty, .int .i64 0, .int .i64 0, .string ByteArray.empty, .slice none 0 0] 43)) hb1)
    clear hb1
    go_wp2_with fail
    go_at_call 102
    refine (HH.out _ HB1.out).mono ?_
    rintro x w2 ⟨⟨u2, rfl, hu2⟩, hb2⟩
    have HB2 := Lib.hid (below_trans HB1.out hb2)
    have HZ2 := Lib.hid (keepB HZ1.out hb2)
    have HU2 := Lib.hid hu2
    obtain ⟨ra, rc, rfl, -, -, -⟩ := hu2
    clear hb2
    have HB3 := Lib.hid (below_trans HB2.out (below_alloc w2 (.cells #[.string (mk X.id), .string (mk X.mem), .string (mk X.fam), .int .i64 X.net, .int .i64 X.does, .string (mk X.ref), .slice none 0 0] 43)))
    have HZ3 := Lib.hid (keepB HZ2.out (below_alloc w2 (.cells #[.string (mk X.id), .string (mk X.mem), .string (mk X.fam), .int .i64 X.net, .int .i64 X.does, .string (mk X.ref), .slice none 0 0] 43)))
    have HC3 := Lib.hid (heap_alloc_new w2 (.cells #[.string (mk X.id), .string (mk X.mem), .string (mk X.fam), .int .i64 X.net, .int .i64 X.does, .string (mk X.ref), .slice none 0 0] 43))
    have HU3 := Lib.hid (SgAt.move HU2.out (Below.movesK _ (below_alloc w2 (.cells #[.string (mk X.id), .string (mk X.mem), .string (mk X.fam), .int .i64 X.net, .int .i64 X.does, .string (mk X.ref), .slice none 0 0] 43))))
    have hz2 : w.heap.size < w2.heap.size := (Array.getElem?_eq_some_iff.1 HZ2.out).1
    have hs3 : (w2.alloc (.cells #[.string (mk X.id), .string (mk X.mem), .string (mk X.fam), .int .i64 X.net, .int .i64 X.does, .string (mk X.ref), .slice none 0 0] 43)).heap.size = w2.heap.size + 1 := by simp
    go_upto_if 27 with fail
    generalize w2.alloc (.cells #[.string (mk X.id), .string (mk X.mem), .string (mk X.fam), .int .i64 X.net, .int .i64 X.does, .string (mk X.ref), .slice none 0 0] 43) = w3 at *
    have HV := Lib.hid (HVs.out _ _ HB3.out HU3.out)
    go_wp2_with fail
    go_at_call 103
    refine (HV.out).mono ?_
    rintro x w4 ⟨⟨m, u4, rfl, hm, hu4⟩, hb4⟩
    have HB4 := Lib.hid (below_trans HB3.out hb4)
    have HZ4 := Lib.hid (keepB HZ3.out hb4)
    have HC4 := Lib.hid (keepB HC3.out hb4)
    have hml := Cm.LnsAt.form hm.lns
    obtain ⟨ma, mc, rfl, -, -⟩ := hml
    have HM4 := Lib.hid hm.lns
    have HU4 := Lib.hid hu4
    obtain ⟨rb, rd, rfl, -, -, -⟩ := hu4
    clear hb4 hm
    have nz : w.heap.size ≠ w2.heap.size := by omega
    have HZ5 := Lib.hid (heap_far (j := 6) (u := .slice ma L.length mc) HZ4.out nz)
    have HC5 : Hid ((w4.setCell ⟨w2.heap.size, 6, none⟩ (.slice ma L.length mc)).heap[w2.heap.size]? = some (.cells #[.string (mk X.id), .string (mk X.mem), .string (mk X.fam), .int .i64 X.net, .int .i64 X.does, .string (mk X.ref), .slice ma L.length mc] 43 (0, 0))) := by show _ = _; rw [heap_set HC4.out]; rfl
    have HB5 := Lib.hid (HB4.out.setCell (p := ⟨w2.heap.size, 6, none⟩) (Nat.le_of_lt hz2) (.slice ma L.length mc))
    have hmv : Moves (fun b => w2.heap.size < b) (fun b => w2.heap.size < b) w4 (w4.setCell ⟨w2.heap.size, 6, none⟩ (.slice ma L.length mc)) := ⟨by simp [World.setCell], fun b _ hk => ⟨hk, Below.heap_setCell _ _ _ _ (show b ≠ w2.heap.size by omega)⟩⟩
    have HM5 := Lib.hid (Cm.LnsAt.move (Cm.LnsAt.move HM4.out (moves_weak (K' := fun b => w2.heap.size < b) _ fun b _ hk => by have : w3.heap.size ≤ b := hk; omega)) hmv)
    have HU5 := Lib.hid (SgAt.move (K' := K2) HU4.out (w' := w4.setCell ⟨w2.heap.size, 6, none⟩ (.slice ma L.length mc)) ⟨by simp [World.setCell], fun b _ hk => ⟨hk, Below.heap_setCell _ _ _ _ (show b ≠ w2.heap.size by have := (HKK.out b hk).2; omega)⟩⟩)
    obtain ⟨l0, l1, l2, l3, l4, l5, l6⟩ := claim_cells HC4.out
    have lf := Lib.frozen_of_heap HC4.out 6
    go_upto_if 38 with fail
    clear l0 l1 l2 l3 l4 l5 l6 lf hmv
    generalize w4.setCell ⟨w2.heap.size, 6, none⟩ (.slice ma L.length mc) = w5 at *
    obtain ⟨y0, y1, y2, y3, y4, y5, y6⟩ := claim_cells HC5.out
    have HK6 := Lib.hid (HCk.out _ _ HB5.out (Cm.LnsAt.move HM5.out (moves_weak _ fun _ _ _ => trivial)))
    go_wp2_with fail
    go_at_call 40
    refine (HK6.out).mono ?_
    rintro x w6 ⟨rfl, hb6⟩
    have HB6 := Lib.hid (below_trans HB5.out hb6)
    have HZ6 := Lib.hid (keepB HZ5.out hb6)
    have HC6 := Lib.hid (keepB HC5.out hb6)
    have HM6 := Lib.hid (Cm.LnsAt.move HM5.out (Below.movesK _ hb6))
    clear hb6 y0 y1 y2 y3 y4 y5 y6
    have HZq := HZ6
    have HBq := HB6
    obtain ⟨d0, d1, d2, d3, d4, d5, d6⟩ := claim_cells HZq.out
    obtain ⟨f0, f1, f2, f3, f4, f5, f6⟩ := claim_frozen HZq.out
    go_wp2
    refine bodyPost_ret (v := .tuple #[clv cl0 (.slice none 0 0), .slice none 0 0, .int .i64 CE]) (by simp [results, Tryz.results65, go_sem, d0, d1, d2, d3, d4, d5, d6]; first | done | exact ⟨rfl, rfl, rfl, rfl, rfl, rfl⟩) rfl ?_
    exact ⟨⟨.slice none 0 0, .slice none 0 0, by rw [HX.out.1, HX.out.2.1], by rw [HX.out.2.1]; exact lns_nil _ _, by rw [HX.out.2.2]; exact SgAt.nil _ _⟩, put7_below HBq.out w.heap.size (Nat.le_refl _) _ _ _ _ _ _ _⟩
  obtain ⟨-, -, -, -, -, -, -, -, tE, -, -⟩ := check_facts hc0
  rw [if_pos hc0] at hcl
  rw [hc0] at HCk
  have HTt : Hid (∀ m W, Cm.LnsAt All W m PL → Calls Tryz.prog 42 #[clv { X with lines := PL } m] W fun e w' => e = .returned (.tuple #[.int .i64 (totV PL), .int .i64 0]) ∧ Below W.heap.size W w') := fun m W hm => by
    have tE2 : totE PL = 0 := tE
    have this : Calls Tryz.prog 42 #[clv { X with lines := PL } m] W fun e w' => e = .returned (.tuple #[.int .i64 (totV PL), .int .i64 (totE PL)]) ∧ Below W.heap.size W w' := Cm.total_any { X with lines := PL } m W hm (Nat.le_trans HOk.out.2 (by omega))
    rw [tE2] at this
    exact this
  clear tE hc0
  by_cases ht : totV PL = MM
  case neg =>
    have HX := Lib.hid (cl_bad (k := k) (hcl.trans (if_neg ht)) (by decide))
    have hne : (totV PL != MM) = true := by simpa using ht
    clear ht hcl
    generalize totV PL = TV at *
    generalize PL = L at *
    go_enter Tryz.func65, Tryz.ntmps65
    go_wp2_with fail
    go_at_call 101
    refine (HP.out).mono ?_
    rintro x w1 ⟨rfl, hb1⟩
    have HB1 := Lib.hid (below_trans (below_alloc w _) hb1)
    have HZ1 := Lib.hid (keepB (heap_alloc_new w (.cells #[.string ByteArray.empty, .string ByteArray.empty, .string ByteArray.empty, .int .i64 0, .int .i64 0, .string ByteArray.empty, .slice none 0 0] 43)) hb1)
    clear hb1
    go_wp2_with fail
    go_at_call 102
    refine (HH.out _ HB1.out).mono ?_
    rintro x w2 ⟨⟨u2, rfl, hu2⟩, hb2⟩
    have HB2 := Lib.hid (below_trans HB1.out hb2)
    have HZ2 := Lib.hid (keepB HZ1.out hb2)
    have HU2 := Lib.hid hu2
    obtain ⟨ra, rc, rfl, -, -, -⟩ := hu2
    clear hb2
    have HB3 := Lib.hid (below_trans HB2.out (below_alloc w2 (.cells #[.string (mk X.id), .string (mk X.mem), .string (mk X.fam), .int .i64 X.net, .int .i64 X.does, .string (mk X.ref), .slice none 0 0] 43)))
    have HZ3 := Lib.hid (keepB HZ2.out (below_alloc w2 (.cells #[.string (mk X.id), .string (mk X.mem), .string (mk X.fam), .int .i64 X.net, .int .i64 X.does, .string (mk X.ref), .slice none 0 0] 43)))
    have HC3 := Lib.hid (heap_alloc_new w2 (.cells #[.string (mk X.id), .string (mk X.mem), .string (mk X.fam), .int .i64 X.net, .int .i64 X.does, .string (mk X.ref), .slice none 0 0] 43))
    have HU3 := Lib.hid (SgAt.move HU2.out (Below.movesK _ (below_alloc w2 (.cells #[.string (mk X.id), .string (mk X.mem), .string (mk X.fam), .int .i64 X.net, .int .i64 X.does, .string (mk X.ref), .slice none 0 0] 43))))
    have hz2 : w.heap.size < w2.heap.size := (Array.getElem?_eq_some_iff.1 HZ2.out).1
    have hs3 : (w2.alloc (.cells #[.string (mk X.id), .string (mk X.mem), .string (mk X.fam), .int .i64 X.net, .int .i64 X.does, .string (mk X.ref), .slice none 0 0] 43)).heap.size = w2.heap.size + 1 := by simp
    go_upto_if 27 with fail
    generalize w2.alloc (.cells #[.string (mk X.id), .string (mk X.mem), .string (mk X.fam), .int .i64 X.net, .int .i64 X.does, .string (mk X.ref), .slice none 0 0] 43) = w3 at *
    have HV := Lib.hid (HVs.out _ _ HB3.out HU3.out)
    go_wp2_with fail
    go_at_call 103
    refine (HV.out).mono ?_
    rintro x w4 ⟨⟨m, u4, rfl, hm, hu4⟩, hb4⟩
    have HB4 := Lib.hid (below_trans HB3.out hb4)
    have HZ4 := Lib.hid (keepB HZ3.out hb4)
    have HC4 := Lib.hid (keepB HC3.out hb4)
    have hml := Cm.LnsAt.form hm.lns
    obtain ⟨ma, mc, rfl, -, -⟩ := hml
    have HM4 := Lib.hid hm.lns
    have HU4 := Lib.hid hu4
    obtain ⟨rb, rd, rfl, -, -, -⟩ := hu4
    clear hb4 hm
    have nz : w.heap.size ≠ w2.heap.size := by omega
    have HZ5 := Lib.hid (heap_far (j := 6) (u := .slice ma L.length mc) HZ4.out nz)
    have HC5 : Hid ((w4.setCell ⟨w2.heap.size, 6, none⟩ (.slice ma L.length mc)).heap[w2.heap.size]? = some (.cells #[.string (mk X.id), .string (mk X.mem), .string (mk X.fam), .int .i64 X.net, .int .i64 X.does, .string (mk X.ref), .slice ma L.length mc] 43 (0, 0))) := by show _ = _; rw [heap_set HC4.out]; rfl
    have HB5 := Lib.hid (HB4.out.setCell (p := ⟨w2.heap.size, 6, none⟩) (Nat.le_of_lt hz2) (.slice ma L.length mc))
    have hmv : Moves (fun b => w2.heap.size < b) (fun b => w2.heap.size < b) w4 (w4.setCell ⟨w2.heap.size, 6, none⟩ (.slice ma L.length mc)) := ⟨by simp [World.setCell], fun b _ hk => ⟨hk, Below.heap_setCell _ _ _ _ (show b ≠ w2.heap.size by omega)⟩⟩
    have HM5 := Lib.hid (Cm.LnsAt.move (Cm.LnsAt.move HM4.out (moves_weak (K' := fun b => w2.heap.size < b) _ fun b _ hk => by have : w3.heap.size ≤ b := hk; omega)) hmv)
    have HU5 := Lib.hid (SgAt.move (K' := K2) HU4.out (w' := w4.setCell ⟨w2.heap.size, 6, none⟩ (.slice ma L.length mc)) ⟨by simp [World.setCell], fun b _ hk => ⟨hk, Below.heap_setCell _ _ _ _ (show b ≠ w2.heap.size by have := (HKK.out b hk).2; omega)⟩⟩)
    obtain ⟨l0, l1, l2, l3, l4, l5, l6⟩ := claim_cells HC4.out
    have lf := Lib.frozen_of_heap HC4.out 6
    go_upto_if 38 with fail
    clear l0 l1 l2 l3 l4 l5 l6 lf hmv
    generalize w4.setCell ⟨w2.heap.size, 6, none⟩ (.slice ma L.length mc) = w5 at *
    obtain ⟨y0, y1, y2, y3, y4, y5, y6⟩ := claim_cells HC5.out
    have HK6 := Lib.hid (HCk.out _ _ HB5.out (Cm.LnsAt.move HM5.out (moves_weak _ fun _ _ _ => trivial)))
    go_wp2_with fail
    go_at_call 40
    refine (HK6.out).mono ?_
    rintro x w6 ⟨rfl, hb6⟩
    have HB6 := Lib.hid (below_trans HB5.out hb6)
    have HZ6 := Lib.hid (keepB HZ5.out hb6)
    have HC6 := Lib.hid (keepB HC5.out hb6)
    have HM6 := Lib.hid (Cm.LnsAt.move HM5.out (Below.movesK _ hb6))
    have HU6 := Lib.hid (SgAt.move HU5.out (Below.movesK _ hb6))
    clear hb6 y0 y1 y2 y3 y4 y5 y6
    obtain ⟨y0, y1, y2, y3, y4, y5, y6⟩ := claim_cells HC6.out
    have HK7 := Lib.hid (HTt.out _ _ (Cm.LnsAt.move HM6.out (moves_weak _ fun _ _ _ => trivial)))
    go_wp2_with fail
    go_at_call 42
    refine (HK7.out).mono ?_
    rintro x w7 ⟨rfl, hb7⟩
    have HB7 := Lib.hid (below_trans HB6.out hb7)
    have HZ7 := Lib.hid (keepB HZ6.out hb7)
    have HC7 := Lib.hid (keepB HC6.out hb7)
    have HM7 := Lib.hid (Cm.LnsAt.move HM6.out (Below.movesK _ hb7))
    have HU7 := Lib.hid (SgAt.move HU6.out (Below.movesK _ hb7))
    clear hb7 y0 y1 y2 y3 y4 y5 y6
    have HZq := HZ7
    have HBq := HB7
    obtain ⟨d0, d1, d2, d3, d4, d5, d6⟩ := claim_cells HZq.out
    obtain ⟨f0, f1, f2, f3, f4, f5, f6⟩ := claim_frozen HZq.out
    go_wp2
    refine bodyPost_ret (v := .tuple #[clv cl0 (.slice none 0 0), .slice none 0 0, .int .i64 17]) (by simp [results, Tryz.results65, go_sem, d0, d1, d2, d3, d4, d5, d6]; first | done | exact ⟨rfl, rfl, rfl, rfl, rfl, rfl⟩) rfl ?_
    exact ⟨⟨.slice none 0 0, .slice none 0 0, by rw [HX.out.1, HX.out.2.1], by rw [HX.out.2.1]; exact lns_nil _ _, by rw [HX.out.2.2]; exact SgAt.nil _ _⟩, put7_below HBq.out w.heap.size (Nat.le_refl _) _ _ _ _ _ _ _⟩
  have HX := Lib.hid (cl_good (k := k) (hcl.trans (if_pos ht)))
  have hne : (totV PL != MM) = false := by simpa using ht
  clear ht hcl
  generalize totV PL = TV at *
  generalize PL = L at *
  go_enter Tryz.func65, Tryz.ntmps65
  go_wp2_with fail
  go_at_call 101
  refine (HP.out).mono ?_
  rintro x w1 ⟨rfl, hb1⟩
  have HB1 := Lib.hid (below_trans (below_alloc w _) hb1)
  have HZ1 := Lib.hid (keepB (heap_alloc_new w (.cells #[.string ByteArray.empty, .string ByteArray.empty, .string ByteArray.empty, .int .i64 0, .int .i64 0, .string ByteArray.empty, .slice none 0 0] 43)) hb1)
  clear hb1
  go_wp2_with fail
  go_at_call 102
  refine (HH.out _ HB1.out).mono ?_
  rintro x w2 ⟨⟨u2, rfl, hu2⟩, hb2⟩
  have HB2 := Lib.hid (below_trans HB1.out hb2)
  have HZ2 := Lib.hid (keepB HZ1.out hb2)
  have HU2 := Lib.hid hu2
  obtain ⟨ra, rc, rfl, -, -, -⟩ := hu2
  clear hb2
  have HB3 := Lib.hid (below_trans HB2.out (below_alloc w2 (.cells #[.string (mk X.id), .string (mk X.mem), .string (mk X.fam), .int .i64 X.net, .int .i64 X.does, .string (mk X.ref), .slice none 0 0] 43)))
  have HZ3 := Lib.hid (keepB HZ2.out (below_alloc w2 (.cells #[.string (mk X.id), .string (mk X.mem), .string (mk X.fam), .int .i64 X.net, .int .i64 X.does, .string (mk X.ref), .slice none 0 0] 43)))
  have HC3 := Lib.hid (heap_alloc_new w2 (.cells #[.string (mk X.id), .string (mk X.mem), .string (mk X.fam), .int .i64 X.net, .int .i64 X.does, .string (mk X.ref), .slice none 0 0] 43))
  have HU3 := Lib.hid (SgAt.move HU2.out (Below.movesK _ (below_alloc w2 (.cells #[.string (mk X.id), .string (mk X.mem), .string (mk X.fam), .int .i64 X.net, .int .i64 X.does, .string (mk X.ref), .slice none 0 0] 43))))
  have hz2 : w.heap.size < w2.heap.size := (Array.getElem?_eq_some_iff.1 HZ2.out).1
  have hs3 : (w2.alloc (.cells #[.string (mk X.id), .string (mk X.mem), .string (mk X.fam), .int .i64 X.net, .int .i64 X.does, .string (mk X.ref), .slice none 0 0] 43)).heap.size = w2.heap.size + 1 := by simp
  go_upto_if 27 with fail
  generalize w2.alloc (.cells #[.string (mk X.id), .string (mk X.mem), .string (mk X.fam), .int .i64 X.net, .int .i64 X.does, .string (mk X.ref), .slice none 0 0] 43) = w3 at *
  have HV := Lib.hid (HVs.out _ _ HB3.out HU3.out)
  go_wp2_with fail
  go_at_call 103
  refine (HV.out).mono ?_
  rintro x w4 ⟨⟨m, u4, rfl, hm, hu4⟩, hb4⟩
  have HB4 := Lib.hid (below_trans HB3.out hb4)
  have HZ4 := Lib.hid (keepB HZ3.out hb4)
  have HC4 := Lib.hid (keepB HC3.out hb4)
  have hml := Cm.LnsAt.form hm.lns
  obtain ⟨ma, mc, rfl, -, -⟩ := hml
  have HM4 := Lib.hid hm.lns
  have HU4 := Lib.hid hu4
  obtain ⟨rb, rd, rfl, -, -, -⟩ := hu4
  clear hb4 hm
  have nz : w.heap.size ≠ w2.heap.size := by omega
  have HZ5 := Lib.hid (heap_far (j := 6) (u := .slice ma L.length mc) HZ4.out nz)
  have HC5 : Hid ((w4.setCell ⟨w2.heap.size, 6, none⟩ (.slice ma L.length mc)).heap[w2.heap.size]? = some (.cells #[.string (mk X.id), .string (mk X.mem), .string (mk X.fam), .int .i64 X.net, .int .i64 X.does, .string (mk X.ref), .slice ma L.length mc] 43 (0, 0))) := by show _ = _; rw [heap_set HC4.out]; rfl
  have HB5 := Lib.hid (HB4.out.setCell (p := ⟨w2.heap.size, 6, none⟩) (Nat.le_of_lt hz2) (.slice ma L.length mc))
  have hmv : Moves (fun b => w2.heap.size < b) (fun b => w2.heap.size < b) w4 (w4.setCell ⟨w2.heap.size, 6, none⟩ (.slice ma L.length mc)) := ⟨by simp [World.setCell], fun b _ hk => ⟨hk, Below.heap_setCell _ _ _ _ (show b ≠ w2.heap.size by omega)⟩⟩
  have HM5 := Lib.hid (Cm.LnsAt.move (Cm.LnsAt.move HM4.out (moves_weak (K' := fun b => w2.heap.size < b) _ fun b _ hk => by have : w3.heap.size ≤ b := hk; omega)) hmv)
  have HU5 := Lib.hid (SgAt.move (K' := K2) HU4.out (w' := w4.setCell ⟨w2.heap.size, 6, none⟩ (.slice ma L.length mc)) ⟨by simp [World.setCell], fun b _ hk => ⟨hk, Below.heap_setCell _ _ _ _ (show b ≠ w2.heap.size by have := (HKK.out b hk).2; omega)⟩⟩)
  obtain ⟨l0, l1, l2, l3, l4, l5, l6⟩ := claim_cells HC4.out
  have lf := Lib.frozen_of_heap HC4.out 6
  go_upto_if 38 with fail
  clear l0 l1 l2 l3 l4 l5 l6 lf hmv
  generalize w4.setCell ⟨w2.heap.size, 6, none⟩ (.slice ma L.length mc) = w5 at *
  obtain ⟨y0, y1, y2, y3, y4, y5, y6⟩ := claim_cells HC5.out
  have HK6 := Lib.hid (HCk.out _ _ HB5.out (Cm.LnsAt.move HM5.out (moves_weak _ fun _ _ _ => trivial)))
  go_wp2_with fail
  go_at_call 40
  refine (HK6.out).mono ?_
  rintro x w6 ⟨rfl, hb6⟩
  have HB6 := Lib.hid (below_trans HB5.out hb6)
  have HZ6 := Lib.hid (keepB HZ5.out hb6)
  have HC6 := Lib.hid (keepB HC5.out hb6)
  have HM6 := Lib.hid (Cm.LnsAt.move HM5.out (Below.movesK _ hb6))
  have HU6 := Lib.hid (SgAt.move HU5.out (Below.movesK _ hb6))
  clear hb6 y0 y1 y2 y3 y4 y5 y6
  obtain ⟨y0, y1, y2, y3, y4, y5, y6⟩ := claim_cells HC6.out
  have HK7 := Lib.hid (HTt.out _ _ (Cm.LnsAt.move HM6.out (moves_weak _ fun _ _ _ => trivial)))
  go_wp2_with fail
  go_at_call 42
  refine (HK7.out).mono ?_
  rintro x w7 ⟨rfl, hb7⟩
  have HB7 := Lib.hid (below_trans HB6.out hb7)
  have HZ7 := Lib.hid (keepB HZ6.out hb7)
  have HC7 := Lib.hid (keepB HC6.out hb7)
  have HM7 := Lib.hid (Cm.LnsAt.move HM6.out (Below.movesK _ hb7))
  have HU7 := Lib.hid (SgAt.move HU6.out (Below.movesK _ hb7))
  clear hb7 y0 y1 y2 y3 y4 y5 y6
  obtain ⟨t0, t1, t2, t3, t4, t5, t6⟩ := claim_cells HC7.out
  obtain ⟨d0, d1, d2, d3, d4, d5, d6⟩ := claim_cells HZ7.out
  obtain ⟨f0, f1, f2, f3, f4, f5, f6⟩ := claim_frozen HZ7.out
  have nz' := Ne.symm nz
  go_upto_region 15 with fail
  go_wp2
  clear d0 d1 d2 d3 d4 d5 d6 f0 f1 f2 f3 f4 f5 f6 t0 t1 t2 t3 t4 t5 t6
  have HBF : Hid (Below w.heap.size w (((((((w7.setCell ⟨w.heap.size, 0, none⟩ (.string (mk X.id))).setCell ⟨w.heap.size, 1, none⟩ (.string (mk X.mem))).setCell ⟨w.heap.size, 2, none⟩ (.string (mk X.fam))).setCell ⟨w.heap.size, 3, none⟩ (.int .i64 X.net)).setCell ⟨w.heap.size, 4, none⟩ (.int .i64 X.does)).setCell ⟨w.heap.size, 5, none⟩ (.string (mk X.ref))).setCell ⟨w.heap.size, 6, none⟩ (.slice ma L.length mc))) := put7_below HB7.out w.heap.size (Nat.le_refl _) _ _ _ _ _ _ _
  have HZF : Hid ((((((((w7.setCell ⟨w.heap.size, 0, none⟩ (.string (mk X.id))).setCell ⟨w.heap.size, 1, none⟩ (.string (mk X.mem))).setCell ⟨w.heap.size, 2, none⟩ (.string (mk X.fam))).setCell ⟨w.heap.size, 3, none⟩ (.int .i64 X.net)).setCell ⟨w.heap.size, 4, none⟩ (.int .i64 X.does)).setCell ⟨w.heap.size, 5, none⟩ (.string (mk X.ref))).setCell ⟨w.heap.size, 6, none⟩ (.slice ma L.length mc)).heap[w.heap.size]? = some (.cells #[.string (mk X.id), .string (mk X.mem), .string (mk X.fam), .int .i64 X.net, .int .i64 X.does, .string (mk X.ref), .slice ma L.length mc] 43 (0, 0))) := put7_heap HZ7.out
  have HMF : Hid (Cm.LnsAt (fun b => w.heap.size < b) (((((((w7.setCell ⟨w.heap.size, 0, none⟩ (.string (mk X.id))).setCell ⟨w.heap.size, 1, none⟩ (.string (mk X.mem))).setCell ⟨w.heap.size, 2, none⟩ (.string (mk X.fam))).setCell ⟨w.heap.size, 3, none⟩ (.int .i64 X.net)).setCell ⟨w.heap.size, 4, none⟩ (.int .i64 X.does)).setCell ⟨w.heap.size, 5, none⟩ (.string (mk X.ref))).setCell ⟨w.heap.size, 6, none⟩ (.slice ma L.length mc)) (.slice ma L.length mc) L) := Cm.LnsAt.move HM7.out (put7_moves w7 w.heap.size _ _ _ _ _ _ _ fun b hb => ⟨by have : w2.heap.size < b := hb; omega, by have : w2.heap.size < b := hb; omega⟩)
  have HUF : Hid (SgAt K (((((((w7.setCell ⟨w.heap.size, 0, none⟩ (.string (mk X.id))).setCell ⟨w.heap.size, 1, none⟩ (.string (mk X.mem))).setCell ⟨w.heap.size, 2, none⟩ (.string (mk X.fam))).setCell ⟨w.heap.size, 3, none⟩ (.int .i64 X.net)).setCell ⟨w.heap.size, 4, none⟩ (.int .i64 X.does)).setCell ⟨w.heap.size, 5, none⟩ (.string (mk X.ref))).setCell ⟨w.heap.size, 6, none⟩ (.slice ma L.length mc)) (.slice rb PR.length rd) PR) := SgAt.move HU7.out (put7_moves w7 w.heap.size _ _ _ _ _ _ _ fun b hb => ⟨(HKK.out b hb).1, by have := (HKK.out b hb).2; omega⟩)
  generalize (((((((w7.setCell ⟨w.heap.size, 0, none⟩ (.string (mk X.id))).setCell ⟨w.heap.size, 1, none⟩ (.string (mk X.mem))).setCell ⟨w.heap.size, 2, none⟩ (.string (mk X.fam))).setCell ⟨w.heap.size, 3, none⟩ (.int .i64 X.net)).setCell ⟨w.heap.size, 4, none⟩ (.int .i64 X.does)).setCell ⟨w.heap.size, 5, none⟩ (.string (mk X.ref))).setCell ⟨w.heap.size, 6, none⟩ (.slice ma L.length mc)) = wz at *
  obtain ⟨e0, e1, e2, e3, e4, e5, e6⟩ := claim_cells HZF.out
  refine bodyPost_ret (v := .tuple #[clv { X with lines := L } (.slice ma L.length mc), .slice rb PR.length rd, .int .i64 0]) (by simp [results, Tryz.results65, go_sem, e0, e1, e2, e3, e4, e5, e6]) rfl ?_
  exact ⟨⟨_, _, by rw [HX.out.1, HX.out.2.1, HCC.out], by rw [HX.out.2.1, HCC.out]; exact HMF.out, by rw [HX.out.2.2, HPR.out]; exact HUF.out⟩, HBF.out⟩
end Go.Proofs.YtpmnepihaljamaaGreatDoor
end
