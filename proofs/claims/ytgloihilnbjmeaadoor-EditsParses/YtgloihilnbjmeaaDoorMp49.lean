/-
  Texts put together (merge.py): XRParse.
-/
import Derived.Test.YtgloihilnbjmeaaDoorMp48
import Derived.Test.YtgloihilnbjmeaaDoorMp36
/-
  What the reference's Parse answers, as a contract: for every text the table, or the first fault.
-/
section
set_option linter.unusedSimpArgs false
set_option linter.unusedVariables false
set_option maxRecDepth 100000
namespace Go.Proofs.YtgloihilnbjmeaaDoor.Ex
open Go.RowKit
open Wo (Wd WdsAt box_cell box_two keepB heap_far below_alloc below_trans)

theorem rows_okd {E f : Nat} {acc : List Ed} {ws r : List Wd} {i : Nat} {e : Ed} (hi : i < ws.length) (h : pRow E (ws.drop i) = .ok (e, r)) : pRows E (f + 1) acc (ws.drop i) = pRows E f (acc ++ [e]) r := by
  rw [List.drop_eq_getElem_cons hi] at h ⊢
  exact rows_ok h
theorem rows_badd {E f : Nat} {acc : List Ed} {ws : List Wd} {i : Nat} {e : Int × Nat} (hi : i < ws.length) (h : pRow E (ws.drop i) = .error e) : pRows E (f + 1) acc (ws.drop i) = .error e := by
  rw [List.drop_eq_getElem_cons hi] at h ⊢
  exact rows_bad h
theorem rows_fulld {E : Nat} {acc : List Ed} {ws : List Wd} {i : Nat} {y : Wd} (h : ws[i]? = some y) : pRows E 0 acc (ws.drop i) = .error (10, y.2) := by
  obtain ⟨hi, rfl⟩ := List.getElem?_eq_some_iff.1 h
  rw [List.drop_eq_getElem_cons hi]
  rfl
theorem wd_cells {w : World} {b oo n c : Nat} {l : List Wd} (h : WdsAt All w (.slice (some ⟨b, oo, none⟩) n c) l) {k : Nat} {x : Wd} (hk : l[k]? = some x) : w.cell? ⟨b, oo + k * 2, none⟩ = some (.string (mk x.1)) ∧ w.cell? ⟨b, oo + k * 2 + 1, none⟩ = some (.int .i64 (x.2 : Nat)) := by
  have hlt := (List.getElem?_eq_some_iff.1 hk).1
  obtain ⟨b1, o1, e1, -, e2, c0, c1⟩ := WdsAt.get h k hlt
  simp only [Option.some.injEq, Addr.mk.injEq, and_true] at e1
  obtain ⟨rfl, rfl⟩ := e1
  have e3 : l[k] = x := Option.some.inj (e2.symm.trans hk)
  rw [e3] at c0 c1
  exact ⟨c0, c1⟩
theorem wds_adr {w : World} {a : Option Addr} {n c : Nat} {l : List Wd} (h : WdsAt All w (.slice a n c) l) {k : Nat} (hk : k < l.length) : ∃ b o, a = some ⟨b, o, none⟩ ∧ b < w.heap.size := by
  obtain ⟨b, o, e, hb, -⟩ := WdsAt.get h k hk
  exact ⟨b, o, e, hb⟩
set_option maxHeartbeats 16000000 in
theorem rparse_any (s : ByteArray) (w : World) (hs : s.size ≤ maxLen) : Calls Tryd.prog 16 #[.string s] w fun e w' => ParV w' (paR s.data.toList) e ∧ Below w.heap.size w w' := by
  have HSP := Lib.hid fun W => Wo.rsplit_any s W hs
  have HB0 := Lib.hid (below_alloc w (.cells #[.int .i64 0, .int .i64 0] 31))
  have HZ0 := Lib.hid (heap_alloc_new w (.cells #[.int .i64 0, .int .i64 0] 31))
  have HSZ : Hid (s.data.toList.length = s.size) := (Lib.size_eq s).symm
  have HPB : Hid (¬ Wo.spE s.data.toList = 0 → paR s.data.toList = .error (Wo.spE s.data.toList, Wo.spA s.data.toList)) := par_bad
  have HPR : Hid (Wo.spE s.data.toList = 0 → paR s.data.toList = pRows s.data.toList.length 256 [] (Wo.spV s.data.toList)) := par_rows
  have HLN := Lib.hid (@spV_lens s.data.toList)
  have HVL := Lib.hid (Wo.spV_len s.data.toList)
  rw [HSZ.out] at HPR HLN
  generalize paR s.data.toList = RES at *
  generalize Wo.spE s.data.toList = xe at *
  generalize Wo.spA s.data.toList = xa at *
  generalize Wo.spV s.data.toList = ws at *
  have hs' : s.size ≤ 9223372036854775807 := by unfold maxLen at hs; exact hs
  clear hs
  go_enter Tryd.func16, Tryd.ntmps16
  go_upto_region 1 with fail
  generalize w.alloc (.cells #[.int .i64 0, .int .i64 0] 31) = W at *
  generalize hp : w.heap.size = p at *
  go_wp2_with fail
  go_at_call 28
  refine (HSP.out _).mono ?_
  rintro e w1 ⟨⟨u, rfl, hu⟩, hb1⟩
  have HB1 := Lib.hid (show Below p w w1 by subst hp; exact below_trans HB0.out hb1)
  have HZ1 := Lib.hid (keepB HZ0.out hb1)
  have HU1 : Hid (WdsAt All w1 u ws) := hu.move (moves_weak _ fun _ _ _ => trivial)
  clear hb1 hu HB0 HZ0 HSP
  obtain ⟨ua, uc, rfl, hu1, hu2⟩ := WdsAt.form HU1.out
  have hb2 := below_alloc w1 (.cells #[.int .i64 xe, .int .i64 (xa : Nat)] 31)
  have hpw : p < w1.heap.size := (Array.getElem?_eq_some_iff.1 HZ1.out).1
  have HB2 := Lib.hid (HB1.out.trans (hb2.mono (by omega)))
  have HZ2 := Lib.hid (keepB HZ1.out hb2)
  have HU2 := Lib.hid (HU1.out.move (Below.moves hb2))
  have HN2 := Lib.hid (heap_alloc_new w1 (.cells #[.int .i64 xe, .int .i64 (xa : Nat)] 31))
  clear hb2 HB1 HZ1 HU1
  go_upto_region 2 with fail
  generalize w1.alloc (.cells #[.int .i64 xe, .int .i64 (xa : Nat)] 31) = W2 at *
  generalize w1.heap.size = q at *
  obtain ⟨v0, v1, -, -⟩ := box_two HN2.out
  by_cases hxe : xe = 0
  rotate_left
  · have q1 : (xe != 0) = true := by simpa using hxe
    have HR : Hid (RES = .error (xe, xa)) := HPB.out hxe
    clear hxe HPB HPR HLN HVL
    have f2 := Lib.frozen_of_heap HZ2.out
    obtain ⟨y0, y1, -, -⟩ := box_two HZ2.out
    go_upto_region 3 with fail
    go_region
    all_goals
      go_wp2
      clear y0 y1 f2 v0 v1
      have hr2 := drew_heap (hp2_same HZ2.out (.int .i64 xe) (.int .i64 (xa : Nat)))
      have hbf := Below.drew (below_p2 HB2.out (Nat.le_refl p) (.int .i64 xe) (.int .i64 (xa : Nat)))
      simp only [put2] at hr2 hbf
      generalize ((W2.setCell ⟨p, 0, none⟩ (.int .i64 xe)).setCell ⟨p, 1, none⟩ (.int .i64 (xa : Nat))).drew = FW at *
      obtain ⟨t0, t1, -, -⟩ := box_two hr2
      refine bodyPost_ret (v := .tuple #[.slice none 0 0, .agg #[.int .i64 xe, .int .i64 (xa : Nat)]]) (by simp [results, Tryd.results16, go_sem, t0, t1]) rfl ?_
      refine ⟨?_, by first | exact hbf | (rw [hp]; exact hbf)⟩
      rw [HR.out]
      exact ⟨none, 0, rfl, EdsAt.nil _ _⟩
  have q1 : (xe != 0) = false := by rw [hxe]; rfl
  have HX := Lib.hid hxe
  have HRW := Lib.hid (HPR.out hxe).symm
  have hwb : Wb ws := ⟨(HLN.out hxe).1, HVL.out⟩
  have HWB := Lib.hid hwb
  have hws : ws.length ≤ 65536 := HVL.out
  have hpB : p < W2.heap.size := (Array.getElem?_eq_some_iff.1 HZ2.out).1
  clear hxe HPB HPR HLN HVL hwb HN2
  go_wp2
  clear v0 v1
  go_loopg [6, 7] (ws.length) (fun g s6 s7 wr => ∃ (i : Nat) (acc : List Ed) (fv : Value), s6 = fv ∧ s7 = .int .i64 (i : Nat) ∧ i ≤ ws.length ∧ g = ws.length - i ∧ acc.length ≤ 256 ∧ Hid (Below W2.heap.size W2 wr) ∧ Hid (wr.ownsRow W2.heap.size 49 5 fv acc.length (ecs acc)) ∧ Hid (pRows s.size (256 - acc.length) acc (ws.drop i) = RES))
  case atStart => exact ⟨0, [], _, rfl, rfl, Nat.zero_le _, rfl, Nat.zero_le _, Below.refl _ _, World.ownsRow_nil _ _ _ _, HRW.out⟩
  case round =>
    clear HRW
    obtain ⟨i, acc, fv, rfl, rfl, hil, hgk, hacc, HBr, HO, HE⟩ := hrel
    obtain ⟨fa, fk, rfl⟩ := own_form HO.out
    have HBp := Lib.hid (HB2.out.trans (HBr.out.mono (Nat.le_of_lt hpB)))
    have HZr := Lib.hid (keepB HZ2.out HBr.out)
    have f2 := Lib.frozen_of_heap HZr.out
    obtain ⟨y0, y1, -, -⟩ := box_two HZr.out
    by_cases hlt : i < ws.length
    rotate_left
    · have hltz : ¬ (i : Int) < (ws.length : Int) := by omega
      have HR : Hid (RES = .ok acc) := by
        show _ = _
        rw [← HE.out, List.drop_eq_nil_of_le (by omega), rows_nil]
      clear HE
      go_wp2
      clear y0 y1 f2
      have hr2 := hp2_same HZr.out (.int .i64 0) (.int .i64 0)
      have hbf := below_p2 HBp.out (Nat.le_refl p) (.int .i64 0) (.int .i64 0)
      have hof := own_set (own_set HO.out hpB 0 (.int .i64 0)) hpB 1 (.int .i64 0)
      simp only [put2] at hr2 hbf
      generalize (wr.setCell ⟨p, 0, none⟩ (.int .i64 0)).setCell ⟨p, 1, none⟩ (.int .i64 0) = FW at *
      obtain ⟨t0, t1, -, -⟩ := box_two hr2
      refine bodyPost_ret (v := .tuple #[.slice fa acc.length fk, .agg #[.int .i64 0, .int .i64 0]]) (by simp [results, Tryd.results16, go_sem, t0, t1]) rfl ?_
      refine ⟨?_, by first | exact hbf | (rw [hp]; exact hbf)⟩
      rw [HR.out]
      exact ⟨fa, fk, rfl, eds_of_own hof (fun _ _ => trivial)⟩
    have hltz : (i : Int) < (ws.length : Int) := by omega
    obtain ⟨wb, wo, rfl, hwbs⟩ := wds_adr HU2.out hlt
    have HUr := Lib.hid (HU2.out.move (Below.moves HBr.out))
    by_cases hfull : acc.length = 256
    · have q2 : ((acc.length : Int) == 256) = true := by rw [beq_iff_eq]; omega
      obtain ⟨V, hV, q2⟩ : ∃ V : Bool, V = true ∧ ((acc.length : Int) == 256) = V := ⟨_, q2, rfl⟩
      have hy := List.getElem?_eq_getElem hlt
      have HR : Hid (RES = .error (10, ws[i].2)) := by
        show _ = _
        rw [← HE.out, hfull, Nat.sub_self, rows_fulld hy]
      obtain ⟨c0, c1⟩ := wd_cells HUr.out hy
      clear HE hfull hy
      generalize ws[i] = y at *
      go_upto_region 8 with fail
      go_region
      all_goals
        go_wp2
        clear y0 y1 f2 c0 c1
        have hr2 := drew_heap (hp2_same HZr.out (.int .i64 10) (.int .i64 (y.2 : Nat)))
        have hbf := Below.drew (below_p2 HBp.out (Nat.le_refl p) (.int .i64 10) (.int .i64 (y.2 : Nat)))
        simp only [put2] at hr2 hbf
        generalize ((wr.setCell ⟨p, 0, none⟩ (.int .i64 10)).setCell ⟨p, 1, none⟩ (.int .i64 (y.2 : Nat))).drew = FW at *
        obtain ⟨t0, t1, -, -⟩ := box_two hr2
        refine bodyPost_ret (v := .tuple #[.slice none 0 0, .agg #[.int .i64 10, .int .i64 (y.2 : Nat)]]) (by simp [results, Tryd.results16, go_sem, t0, t1]) rfl ?_
        refine ⟨?_, by first | exact hbf | (rw [hp]; exact hbf)⟩
        rw [HR.out]
        exact ⟨none, 0, rfl, EdsAt.nil _ _⟩
    have q2 : ((acc.length : Int) == 256) = false := by rw [beq_eq_false_iff_ne]; omega
    obtain ⟨f', hf'⟩ : ∃ f', 256 - acc.length = f' + 1 := ⟨255 - acc.length, by omega⟩
    rw [hf'] at HE
    have HRo := Lib.hid (rrow_any s.size ws _ i wr HUr.out HWB.out hlt)
    go_wp2_with fail
    go_at_call 29
    refine HRo.out.mono ?_
    rintro e w3 ⟨⟨x, n, bad, er, rfl, hrel⟩, hb3⟩
    have hb4 := below_alloc w3 (.cells #[.int .i64 x.kind, .string (mk x.a), .string (mk x.b), .bool x.bypass, .int .i64 x.n] 49)
    have hb34 := below_trans hb3 hb4
    have HB4 := Lib.hid (below_trans HBr.out hb34)
    have HBp4 := Lib.hid (HB2.out.trans (HB4.out.mono (Nat.le_of_lt hpB)))
    have HO4 := Lib.hid (own_far HO.out hb34)
    have HU4 := Lib.hid (HUr.out.move (Below.moves hb34))
    have HN4 := Lib.hid (heap_alloc_new w3 (.cells #[.int .i64 x.kind, .string (mk x.a), .string (mk x.b), .bool x.bypass, .int .i64 x.n] 49))
    have HZ4 := Lib.hid (keepB HZr.out hb34)
    clear hb3 hb4 hb34 HRo HO HUr HZr HBr HBp y0 y1 f2
    go_upto_region 10 with fail
    generalize w3.alloc (.cells #[.int .i64 x.kind, .string (mk x.a), .string (mk x.b), .bool x.bypass, .int .i64 x.n] 49) = W4 at *
    generalize w3.heap.size = b4 at *
    have f2 := Lib.frozen_of_heap HZ4.out
    obtain ⟨y0, y1, -, -⟩ := box_two HZ4.out
    obtain ⟨x0, x1, x2, x3, x4⟩ := cells5 HN4.out
    rcases hrel with ⟨rfl, m, rfl, hm3, hm4, him, hrow⟩ | ⟨b, rfl, hbi, hrow⟩
    · have HE2 : Hid (pRows s.size f' (acc ++ [x]) (ws.drop (i + m)) = RES) := by show _ = _; rw [← HE.out, rows_okd hlt hrow]
      have hlz : ¬ (ws.length : Int) ≤ -1 := by omega
      clear HE hrow
      have hb5 := below_alloc W4 (.cells #[.int .i64 x.kind, .string (mk x.a), .string (mk x.b), .bool x.bypass, .int .i64 x.n] 49)
      have HO5 := Lib.hid (own_far HO4.out hb5)
      have HN5 := Lib.hid (heap_alloc_new W4 (.cells #[.int .i64 x.kind, .string (mk x.a), .string (mk x.b), .bool x.bypass, .int .i64 x.n] 49))
      have HB5 := Lib.hid (below_trans HB4.out hb5)
      have HS5 : Hid (W2.heap.size ≤ (W4.alloc (.cells #[.int .i64 x.kind, .string (mk x.a), .string (mk x.b), .bool x.bypass, .int .i64 x.n] 49)).heap.size) := HB5.out.size
      clear hb5
      have hal : acc.length ≤ 1000000 := by omega
      go_wp2_with (at_builtin; refine wpList_plain (by rfl) (fun K hK => ?_); refine wp_app _ _ (by rfl) W2.heap.size (.slice fa acc.length fk) acc (by rfl) HO5.out W4.heap.size 1 x (by rfl) HN5.out hal HS5.out ?_)
      intro vn w6 hown hgr hat
      have hlow := grow_low HO5.out hgr HS5.out
      have HB6 := Lib.hid (HB5.out.trans hlow)
      have HO6 : Hid (w6.ownsRow W2.heap.size 49 5 vn (acc ++ [x]).length (ecs (acc ++ [x]))) := by
        show World.ownsRow _ _ _ _ _ _ _
        rw [List.length_append]
        exact hown
      refine hK _ _ ?_
      clear hK hown hgr hat hlow x0 x1 x2 x3 x4 y0 y1 f2 HO5 HN5 HB5 HS5 HO4 HN4 HZ4 HU4 HB4
      have hal2 : (acc ++ [x]).length ≤ 256 := by rw [List.length_append]; simp; omega
      have HE3 : Hid (pRows s.size (256 - (acc ++ [x]).length) (acc ++ [x]) (ws.drop (i + m)) = RES) := by
        show _ = _
        rw [List.length_append, show 256 - (acc.length + [x].length) = f' by simp; omega]
        exact HE2.out
      have himz : (i : Int) + (m : Int) ≤ 65536 := by omega
      clear HE2
      go_wp2
      go_roundg (ws.length - (i + m))
      case measure => omega
      case rel => exact ⟨i + m, acc ++ [x], vn, rfl, by first | rfl | simp | (congr 1; omega), him, rfl, hal2, HB6.out, HO6.out, HE3.out⟩
    · have HEb := Lib.hid (HE.out.symm.trans (rows_badd hlt hrow))
      clear HE hrow
      by_cases hbl : ws.length ≤ b
      · have hblz : (ws.length : Int) ≤ (b : Int) := by omega
        have HR : Hid (RES = .error (4, s.size)) := by show _ = _; rw [HEb.out, er_none hbl]
        clear HEb hbl
        go_wp2
        clear y0 y1 f2 x0 x1 x2 x3 x4
        have hr2 := (hp2_same HZ4.out (.int .i64 4) (.int .i64 (s.size : Nat)))
        have hbf := (below_p2 HBp4.out (Nat.le_refl p) (.int .i64 4) (.int .i64 (s.size : Nat)))
        simp only [put2] at hr2 hbf
        generalize ((W4.setCell ⟨p, 0, none⟩ (.int .i64 4)).setCell ⟨p, 1, none⟩ (.int .i64 (s.size : Nat))) = FW at *
        obtain ⟨t0, t1, -, -⟩ := box_two hr2
        refine bodyPost_ret (v := .tuple #[.slice none 0 0, .agg #[.int .i64 4, .int .i64 (s.size : Nat)]]) (by simp [results, Tryd.results16, go_sem, t0, t1]) rfl ?_
        refine ⟨?_, by first | exact hbf | (rw [hp]; exact hbf)⟩
        rw [HR.out]
        exact ⟨none, 0, rfl, EdsAt.nil _ _⟩
      · have hblz : ¬ (ws.length : Int) ≤ (b : Int) := by omega
        have hblz2 : (b : Int) < (ws.length : Int) := by omega
        have hbl2 : b < ws.length := by omega
        have hy := List.getElem?_eq_getElem hbl2
        have HR : Hid (RES = .error (er, ws[b].2)) := by show _ = _; rw [HEb.out, er_some hy]
        obtain ⟨c0, c1⟩ := wd_cells HU4.out hy
        clear HEb hy hbl
        generalize ws[b] = y at *
        go_upto_region 13 with fail
        go_region
        all_goals
          go_wp2
          clear y0 y1 f2 c0 c1 x0 x1 x2 x3 x4
          have hr2 := drew_heap (hp2_same HZ4.out (.int .i64 er) (.int .i64 (y.2 : Nat)))
          have hbf := Below.drew (below_p2 HBp4.out (Nat.le_refl p) (.int .i64 er) (.int .i64 (y.2 : Nat)))
          simp only [put2] at hr2 hbf
          generalize ((W4.setCell ⟨p, 0, none⟩ (.int .i64 er)).setCell ⟨p, 1, none⟩ (.int .i64 (y.2 : Nat))).drew = FW at *
          obtain ⟨t0, t1, -, -⟩ := box_two hr2
          refine bodyPost_ret (v := .tuple #[.slice none 0 0, .agg #[.int .i64 er, .int .i64 (y.2 : Nat)]]) (by simp [results, Tryd.results16, go_sem, t0, t1]) rfl ?_
          refine ⟨?_, by first | exact hbf | (rw [hp]; exact hbf)⟩
          rw [HR.out]
          exact ⟨none, 0, rfl, EdsAt.nil _ _⟩
end Go.Proofs.YtgloihilnbjmeaaDoor.Ex
end
