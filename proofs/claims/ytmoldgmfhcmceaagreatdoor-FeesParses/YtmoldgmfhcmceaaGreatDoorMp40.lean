/-
  Texts put together (merge.py): ZRParse, ZSame.
-/
import Derived.Test.YtmoldgmfhcmceaaGreatDoorMp37
import Derived.Test.YtmoldgmfhcmceaaGreatDoorMp38
import Derived.Test.YtmoldgmfhcmceaaGreatDoorMp28
import Derived.Test.YtmoldgmfhcmceaaGreatDoorMp39
import Derived.Test.YtmoldgmfhcmceaaGreatDoorMp29
import Derived.Test.YtmoldgmfhcmceaaGreatDoorMp32
/-
  Which table a text is, as the reference says: Parse, as a contract. (Written by gen_rparse.py.)
-/
section
set_option linter.unusedSimpArgs false
set_option linter.unusedVariables false
set_option maxRecDepth 100000
namespace Go.Proofs.YtmoldgmfhcmceaaGreatDoor.Fe
open Go.RowKit
open Wo (Wd WdsAt keepB box_cell box_two heap_far below_alloc below_trans)

theorem srt_snoc (acc : List Fee) (f : Fee) : srt (acc ++ [f]) = put (srt acc) f := by unfold srt; rw [List.foldl_append]; rfl
theorem wds_mid {K : Nat → Prop} {w : World} {b o n c m : Nat} {r : List Wd} (h : WdsAt K w (.slice (some ⟨b, o, none⟩) n c) r) (h6 : m + 6 ≤ r.length) : WdsAt K w (.slice (some ⟨b, o + m * 2, none⟩) 6 (c - m)) ((r.drop m).take 6) := by
  obtain ⟨a', c', he, h1, h2, h3⟩ := h
  obtain ⟨rfl, -, rfl⟩ : some ⟨b, o, none⟩ = a' ∧ n = r.length ∧ c = c' := by injection he with e1 e2 e3; exact ⟨e1, e2, e3⟩
  have hl : ((r.drop m).take 6).length = 6 := by rw [List.length_take, List.length_drop]; omega
  refine ⟨_, c - m, by rw [hl], by omega, by omega, Or.inr ?_⟩
  rcases h3 with h | ⟨b', o', ha, hk, hb, hc⟩
  · subst h; simp at h6
  · simp only [Option.some.injEq, Addr.mk.injEq, and_true] at ha
    obtain ⟨rfl, rfl⟩ := ha
    refine ⟨b, o + m * 2, rfl, hk, hb, fun j x hj => ?_⟩
    have hj2 : r[m + j]? = some x := by
      rw [List.getElem?_take] at hj
      split at hj
      · rw [List.getElem?_drop] at hj; exact hj
      · cases hj
    have := hc (m + j) x hj2
    rw [show o + m * 2 + j * 2 = o + (m + j) * 2 by omega]
    exact this
set_option maxHeartbeats 16000000 in
theorem rparse_any (s : ByteArray) (w : World) (hs : s.size ≤ maxLen) :
    Calls Tryz.prog 14 #[.string s] w fun e w' => ParV w' (paR s.data.toList) e ∧ Below w.heap.size w w' := by
  have HSP := Lib.hid fun W => Wo.rsplit_any s W hs
  have HSZ : Hid (s.data.toList.length = s.size) := (Lib.size_eq s).symm
  have HB0 := Lib.hid (below_alloc w (.cells #[.int .i64 0, .int .i64 0] 30))
  have HZ0 := Lib.hid (heap_alloc_new w (.cells #[.int .i64 0, .int .i64 0] 30))
  have HS0 : Hid (w.heap.size + 1 ≤ (w.alloc (.cells #[.int .i64 0, .int .i64 0] 30)).heap.size) := by show _ ≤ _; simp
  have hsz2 : s.size ≤ 9223372036854775807 := by unfold maxLen at hs; exact hs
  have HPB := Lib.hid (@par_bad s.data.toList)
  have HPE : Hid (∀ x, Wo.spE s.data.toList = 0 → pRows s.data.toList.length 512 [] (Wo.spV s.data.toList) = .error x → paR s.data.toList = .error x) := fun x h1 h2 => par_err h1 h2
  have HPO : Hid (∀ l l', Wo.spE s.data.toList = 0 → pRows s.data.toList.length 512 [] (Wo.spV s.data.toList) = .ok l → l'.Perm l → Wk l' → paR s.data.toList = if checkE l' = 0 then .ok l' else .error (checkE l', 0)) := fun l l' h1 h2 h3 h4 => par_ok h1 h2 h3 h4
  have HLN := Lib.hid (@spV_lens s.data.toList)
  have HVL := Lib.hid (Wo.spV_len s.data.toList)
  rw [HSZ.out] at HPE HPO HLN
  generalize paR s.data.toList = RES at *
  generalize Wo.spE s.data.toList = xe at *
  generalize Wo.spA s.data.toList = xa at *
  generalize Wo.spV s.data.toList = ws at *
  clear hs
  go_enter Tryz.func14, Tryz.ntmps14
  go_upto_region 1 with fail
  generalize w.alloc (.cells #[.int .i64 0, .int .i64 0] 30) = W at *
  generalize hp : w.heap.size = p at *
  go_wp2_with fail
  go_at_call 38
  refine (HSP.out _).mono ?_
  rintro e w1 ⟨⟨u, rfl, hu⟩, hb1⟩
  have HB1 := Lib.hid (show Below p w w1 by subst hp; exact below_trans HB0.out hb1)
  have HZ1 := Lib.hid (keepB HZ0.out hb1)
  have HS1 : Hid (p + 1 ≤ w1.heap.size) := Nat.le_trans HS0.out hb1.size
  have HU1 : Hid (WdsAt All w1 u ws) := hu.move (moves_weak _ fun _ _ _ => trivial)
  clear hb1 hu HB0 HZ0 HS0 HSP
  obtain ⟨ua, uc, rfl, huc, huc2⟩ := WdsAt.form HU1.out
  have hb2 := below_alloc w1 (.cells #[.int .i64 xe, .int .i64 (xa : Nat)] 30)
  have HB2 := Lib.hid (HB1.out.trans (hb2.mono (by have := HS1.out; omega)))
  have HZ2 := Lib.hid (keepB HZ1.out hb2)
  have HU2 := Lib.hid (HU1.out.move (Below.moves hb2))
  have HN2 := Lib.hid (heap_alloc_new w1 (.cells #[.int .i64 xe, .int .i64 (xa : Nat)] 30))
  have HS2 : Hid (p + 1 ≤ (w1.alloc (.cells #[.int .i64 xe, .int .i64 (xa : Nat)] 30)).heap.size) := Nat.le_trans HS1.out hb2.size
  clear hb2 HB1 HZ1 HS1 HU1
  go_upto_region 2 with fail
  generalize w1.alloc (.cells #[.int .i64 xe, .int .i64 (xa : Nat)] 30) = W2 at *
  generalize w1.heap.size = q at *
  obtain ⟨v0, v1, -, -⟩ := box_two HN2.out
  by_cases hxe : xe = 0
  rotate_left
  · have q1 : (xe != 0) = true := by simpa using hxe
    have HR : Hid (RES = .error (xe, xa)) := HPB.out hxe
    clear hxe HPB HPE HPO HLN
    have f2 := Lib.frozen_of_heap HZ2.out
    obtain ⟨y0, y1, -, -⟩ := box_two HZ2.out
    go_upto_region 3 with fail
    go_region
    all_goals
      go_wp2
      clear y0 y1 f2 v0 v1
      have hr2 := drew_heap (hp2_same HZ2.out (.int .i64 xe) (.int .i64 (xa : Nat)))
      have hbf := Below.drew (below_p2 HB2.out (Nat.le_refl p) (.int .i64 xe) (.int .i64 (xa : Nat)))
      simp only [put2] at hr2 hbf
      obtain ⟨FW, hFW⟩ : ∃ z, z = ((W2.setCell ⟨p, 0, none⟩ (.int .i64 xe)).setCell ⟨p, 1, none⟩ (.int .i64 (xa : Nat))).drew := ⟨_, rfl⟩
      rw [← hFW] at hr2 hbf ⊢
      clear hFW
      obtain ⟨t0, t1, -, -⟩ := box_two hr2
      refine bodyPost_ret (v := .tuple #[.slice none 0 0, .agg #[.int .i64 xe, .int .i64 (xa : Nat)]]) (by simp [results, Tryz.results14, go_sem, t0, t1]) rfl ?_
      refine ⟨?_, by first | exact hbf | (rw [hp]; exact hbf)⟩
      rw [HR.out]
      rfl
  have q1 : (xe != 0) = false := by rw [hxe]; rfl
  have HLW := Lib.hid (HLN.out hxe).1
  have hs6 : s.size ≤ 65536 := (HLN.out hxe).2
  have hws : ws.length ≤ 70000 := by have := HVL.out; omega
  have HPE2 := Lib.hid (fun x => HPE.out x hxe)
  have HPO2 := Lib.hid (fun l l' => HPO.out l l' hxe)
  clear hxe HPB HPE HPO HLN HVL
  obtain ⟨PR, HPR⟩ : ∃ z, Hid (pRows s.size 512 [] ws = z) := ⟨pRows s.size 512 [] ws, (rfl : pRows s.size 512 [] ws = _)⟩
  rw [HPR.out] at HPE2 HPO2
  go_wp2
  go_loopg [6, 7] (ws.length) (fun g s6 s7 wr => ∃ (m : Nat) (acc L : List Fee) (la : Option Addr) (lc : Nat), s6 = .slice la L.length lc ∧ s7 = .int .i64 (m : Nat) ∧ g = ws.length - m ∧ m ≤ ws.length ∧ L.length ≤ 512 ∧ Hid (srt acc = L) ∧ Hid (L.length = acc.length) ∧ Hid (Below W2.heap.size W2 wr) ∧ Hid (FesAt All wr (.slice la L.length lc) L) ∧ Hid (∀ x ∈ acc, oneE x = 0) ∧ Hid (pRows s.size (512 - acc.length) acc (ws.drop m) = PR))
  case atStart => exact ⟨0, [], [], none, 0, rfl, rfl, rfl, Nat.zero_le _, Nat.zero_le _, rfl, rfl, Below.refl _ _, FesAt.nil _ _, (fun x hx => by cases hx), HPR.out⟩
  case round =>
    clear v0 v1 HPR
    obtain ⟨m, acc, L, la, lc, rfl, rfl, hgk, hm, hL5, HL, HLL, HBr, HFr, HOn, HE⟩ := hrel
    have HZr := Lib.hid (keepB HZ2.out HBr.out)
    have HPw := Lib.hid (HB2.out.trans (HBr.out.mono (by have := HS2.out; omega)))
    have HUr := Lib.hid (HU2.out.move (Below.moves HBr.out))
    have HSr : Hid (p + 1 ≤ wr.heap.size) := Nat.le_trans HS2.out HBr.out.size
    obtain ⟨f0, f1, -, -⟩ := box_two (keepB HN2.out HBr.out)
    by_cases hlt : m < ws.length
    · have hltz : (m : Int) < (ws.length : Int) := by omega
      have hdl : (ws.drop m).length = ws.length - m := List.length_drop
      have hpos : 0 < (ws.drop m).length := by omega
      obtain ⟨b, oo, rfl, -, -, c0, c1⟩ := WdsAt.get HUr.out m hlt
      by_cases hfull : L.length = 512
      · have q2 : ((L.length : Int) == 512) = true := by rw [beq_iff_eq]; omega
        obtain ⟨x, HX⟩ : ∃ x, Hid (ws[m] = x) := ⟨ws[m], (rfl : ws[m] = ws[m])⟩
        have HR : Hid (RES = .error (10, x.2)) := by
          refine HPE2.out _ ?_
          rw [← HE.out, ← HLL.out, hfull, Nat.sub_self, rows_full hpos, ← HX.out]
          simp
        rw [HX.out] at c1 c0
        clear hfull HE HX hpos hdl
        have f2 := Lib.frozen_of_heap HZr.out
        obtain ⟨y0, y1, -, -⟩ := box_two HZr.out
        go_upto_region 9 with fail
        go_region
        all_goals
          go_wp2
          clear y0 y1 f2 c0 c1
          have hr2 := drew_heap (hp2_same HZr.out (.int .i64 10) (.int .i64 (x.2 : Nat)))
          have hbf := Below.drew (below_p2 HPw.out (Nat.le_refl p) (.int .i64 10) (.int .i64 (x.2 : Nat)))
          simp only [put2] at hr2 hbf
          obtain ⟨FW, hFW⟩ : ∃ z, z = ((wr.setCell ⟨p, 0, none⟩ (.int .i64 10)).setCell ⟨p, 1, none⟩ (.int .i64 (x.2 : Nat))).drew := ⟨_, rfl⟩
          rw [← hFW] at hr2 hbf ⊢
          clear hFW
          obtain ⟨t0, t1, -, -⟩ := box_two hr2
          refine bodyPost_ret (v := .tuple #[.slice none 0 0, .agg #[.int .i64 10, .int .i64 (x.2 : Nat)]]) (by simp [results, Tryz.results14, go_sem, t0, t1]) rfl ?_
          refine ⟨?_, by first | exact hbf | (rw [hp]; exact hbf)⟩
          rw [HR.out]
          rfl
      have q2 : ((L.length : Int) == 512) = false := by rw [beq_eq_false_iff_ne]; omega
      obtain ⟨f', hf'⟩ : ∃ f', 512 - acc.length = f' + 1 := ⟨512 - acc.length - 1, by have := HLL.out; omega⟩
      rw [hf'] at HE
      by_cases hsh : ws.length - m < 6
      · have q3 : (ws.length : Int) - (m : Int) < 6 := by omega
        have HR : Hid (RES = .error (4, s.size)) := by
          refine HPE2.out _ ?_
          rw [← HE.out, rows_short hpos (by omega)]
        clear HE hf' hdl hpos
        have f2 := Lib.frozen_of_heap HZr.out
        obtain ⟨y0, y1, -, -⟩ := box_two HZr.out
        go_wp2
        clear y0 y1 f2 c0 c1
        have hr2 := hp2_same HZr.out (.int .i64 4) (.int .i64 (s.size : Nat))
        have hbf := below_p2 HPw.out (Nat.le_refl p) (.int .i64 4) (.int .i64 (s.size : Nat))
        simp only [put2] at hr2 hbf
        obtain ⟨FW, hFW⟩ : ∃ z, z = (wr.setCell ⟨p, 0, none⟩ (.int .i64 4)).setCell ⟨p, 1, none⟩ (.int .i64 (s.size : Nat)) := ⟨_, rfl⟩
        rw [← hFW] at hr2 hbf ⊢
        clear hFW
        obtain ⟨t0, t1, -, -⟩ := box_two hr2
        refine bodyPost_ret (v := .tuple #[.slice none 0 0, .agg #[.int .i64 4, .int .i64 (s.size : Nat)]]) (by simp [results, Tryz.results14, go_sem, t0, t1]) rfl ?_
        refine ⟨?_, by first | exact hbf | (rw [hp]; exact hbf)⟩
        rw [HR.out]
        rfl
      have q3 : ¬ (ws.length : Int) - (m : Int) < 6 := by omega
      have h6 : m + 6 ≤ ws.length := by omega
      obtain ⟨x0, x1, x2, x3, x4, x5, t, hrt⟩ := six_split (show 6 ≤ (ws.drop m).length by omega)
      have hrt6 : ws.drop (m + 6) = t := by rw [← List.drop_drop, hrt]; rfl
      have HRR := Lib.hid (rread_any x0 x1 x2 x3 x4 x5 (.slice (some ⟨b, oo + m * 2, none⟩) 6 (uc - m)) wr (by have := wds_mid HUr.out h6; rw [hrt] at this; exact this) (fun x hx => HLW.out x (List.mem_of_mem_drop (show x ∈ ws.drop m by rw [hrt]; exact (List.mem_append_left t hx : x ∈ [x0, x1, x2, x3, x4, x5] ++ t)))))
      have HE2 : Hid ((match pRow x0 x1 x2 x3 x4 x5 with | .error x => .error x | .ok x => pRows s.size f' (acc ++ [x]) t) = PR) := by show _ = _; rw [← HE.out, hrt, rows_six] <;> rfl
      have HAt : Hid (∀ (k : Nat) (hk : k < 6), ∃ z, [x0, x1, x2, x3, x4, x5][k]? = some z ∧ ws[m + k]? = some z) := fun k hk => by
        have e : ws[m + k]? = (ws.drop m)[k]? := by rw [List.getElem?_drop]
        rw [e, hrt]
        match k, hk with
        | 0, _ => exact ⟨x0, rfl, rfl⟩
        | 1, _ => exact ⟨x1, rfl, rfl⟩
        | 2, _ => exact ⟨x2, rfl, rfl⟩
        | 3, _ => exact ⟨x3, rfl, rfl⟩
        | 4, _ => exact ⟨x4, rfl, rfl⟩
        | 5, _ => exact ⟨x5, rfl, rfl⟩
      have HRO := Lib.hid (fun x => @row_one x0 x1 x2 x3 x4 x5 x)
      have HT6 := Lib.hid hrt6
      have HF' := Lib.hid hf'
      generalize pRow x0 x1 x2 x3 x4 x5 = RW at *
      clear hrt hrt6 hf' HE hdl hpos
      have g1 : (m : Int) + 6 ≤ (uc : Int) := by omega
      have g2 : ¬ (m : Int) = (uc : Int) := by omega
      have g3 : ¬ m = uc := by omega
      have g4 : (m : Int) ≤ (m : Int) + 6 := by omega
      have g5 : (0 : Int) ≤ (m : Int) := by omega
      go_wp2_with fail
      go_at_call 39
      refine HRR.out.mono ?_
      rintro e w3 ⟨hrv, hb3⟩
      clear g1 g2 g3 g4 g5 c0 c1 HRR f0 f1
      cases RW with
      | error y =>
        have HR : Hid (RES = .error y) := HPE2.out _ HE2.out.symm
        obtain ⟨uf, k, rfl, hk, hz⟩ := hrv
        have hb4 := below_trans hb3 (below_alloc w3 (.cells #[.string (mk uf.proc), .string (mk uf.mod), .int .i64 uf.net, .int .i64 uf.frm, .int .i64 uf.cents] 45))
        have HZ4 := Lib.hid (keepB HZr.out hb4)
        have HB4 := Lib.hid (HPw.out.trans (hb4.mono (by have := HSr.out; omega)))
        have hmk : m + k < ws.length := by omega
        obtain ⟨b1, o1, e1, -, hx1, c0, c1⟩ := WdsAt.get (HUr.out.move (Below.moves hb4)) (m + k) hmk
        simp only [Option.some.injEq, Addr.mk.injEq, and_true] at e1
        obtain ⟨rfl, rfl⟩ := e1
        obtain ⟨z, hz1, hz2⟩ := HAt.out k hk
        have hzy : ws[m + k].2 = y.2 := by
          rw [hz2] at hx1
          rw [← Option.some.inj hx1]
          exact hz z hz1
        rw [hzy] at c1
        clear hz hz1 hz2 hx1 hzy hb4 hb3 HE2 HAt HRO
        go_upto_region 13 with fail
        generalize w3.alloc (.cells #[.string (mk uf.proc), .string (mk uf.mod), .int .i64 uf.net, .int .i64 uf.frm, .int .i64 uf.cents] 45) = W4 at *
        have f2 := Lib.frozen_of_heap HZ4.out
        obtain ⟨y0, y1, -, -⟩ := box_two HZ4.out
        have g1 : (0 : Int) ≤ (k : Int) := by omega
        have g2 : (m : Int) + (k : Int) < (ws.length : Int) := by omega
        have g3 : (0 : Int) ≤ (m : Int) + (k : Int) := by omega
        go_upto_region 14 with fail
        go_region
        all_goals
          go_wp2
          clear y0 y1 f2 c0 c1 g1 g2 g3
          have hr2 := drew_heap (hp2_same HZ4.out (.int .i64 y.1) (.int .i64 (y.2 : Nat)))
          have hbf := Below.drew (below_p2 HB4.out (Nat.le_refl p) (.int .i64 y.1) (.int .i64 (y.2 : Nat)))
          simp only [put2] at hr2 hbf
          obtain ⟨FW, hFW⟩ : ∃ z, z = ((W4.setCell ⟨p, 0, none⟩ (.int .i64 y.1)).setCell ⟨p, 1, none⟩ (.int .i64 (y.2 : Nat))).drew := ⟨_, rfl⟩
          rw [← hFW] at hr2 hbf ⊢
          clear hFW
          obtain ⟨t0, t1, -, -⟩ := box_two hr2
          refine bodyPost_ret (v := .tuple #[.slice none 0 0, .agg #[.int .i64 y.1, .int .i64 (y.2 : Nat)]]) (by simp [results, Tryz.results14, go_sem, t0, t1]) rfl ?_
          refine ⟨?_, by first | exact hbf | (rw [hp]; exact hbf)⟩
          rw [HR.out]
          rfl
      | ok f =>
        obtain rfl := hrv
        have hone := HRO.out f rfl
        have HE3 : Hid (pRows s.size f' (acc ++ [f]) t = PR) := HE2.out
        have hb4 := below_trans hb3 (below_alloc w3 (.cells #[.string (mk f.proc), .string (mk f.mod), .int .i64 f.net, .int .i64 f.frm, .int .i64 f.cents] 45))
        have HB4 := Lib.hid (below_trans HBr.out hb4)
        have HPu := Lib.hid (rput_any L f _ (w3.alloc (.cells #[.string (mk f.proc), .string (mk f.mod), .int .i64 f.net, .int .i64 f.frm, .int .i64 f.cents] 45)) (HFr.out.grw hb4) (by omega))
        have HZ4 := Lib.hid (heap_alloc_new w3 (.cells #[.string (mk f.proc), .string (mk f.mod), .int .i64 f.net, .int .i64 f.frm, .int .i64 f.cents] 45))
        have hpl : (put L f).length = L.length + 1 := (put_perm L f).length_eq
        have HO2 : Hid (∀ x ∈ acc ++ [f], oneE x = 0) := fun x hx => by
          rcases List.mem_append.1 hx with hx | hx
          · exact HOn.out x hx
          · rw [List.mem_singleton.1 hx]; exact hone
        have HL2 : Hid (srt (acc ++ [f]) = put L f) := by show _ = _; rw [srt_snoc, HL.out]
        have HN2' : Hid (pRows s.size (512 - (acc ++ [f]).length) (acc ++ [f]) (ws.drop (m + 6)) = PR) := by
          show _ = _
          have := HF'.out
          rw [HT6.out, List.length_append, show 512 - (acc.length + [f].length) = f' by simp; omega]
          exact HE3.out
        have HLL2 : Hid ((put L f).length = (acc ++ [f]).length) := by show _ = _; rw [hpl, List.length_append, HLL.out]; rfl
        have hpl5 : (put L f).length ≤ 512 := by omega
        clear hb4 hb3 HE2 HE3 HAt HRO hone hpl HFr HBr
        go_upto_region 13 with fail
        generalize w3.alloc (.cells #[.string (mk f.proc), .string (mk f.mod), .int .i64 f.net, .int .i64 f.frm, .int .i64 f.cents] 45) = W4 at *
        generalize w3.heap.size = q4 at *
        obtain ⟨u0, u1, u2, u3, u4⟩ := cells5 HZ4.out
        go_wp2_with fail
        go_at_call 40
        refine HPu.out.mono ?_
        rintro e w5 ⟨⟨pa, pc, rfl, hfp⟩, hb5⟩
        have HB5 := Lib.hid (below_trans HB4.out hb5)
        have HF5 := Lib.hid hfp
        clear hb5 hfp HPu HB4 HZ4 u0 u1 u2 u3 u4
        go_wp2
        go_roundg (ws.length - (m + 6))
        case measure => omega
        case rel => exact ⟨m + 6, acc ++ [f], put L f, pa, pc, rfl, by first | rfl | go_num | (congr 1; omega), rfl, by omega, hpl5, HL2.out, HLL2.out, HB5.out, HF5.out, HO2.out, HN2'.out⟩
    · have hltz : ¬ (m : Int) < (ws.length : Int) := by omega
      have hdr : ws.drop m = [] := List.drop_eq_nil_of_le (by omega)
      have HRS : Hid (RES = if checkE L = 0 then .ok L else .error (checkE L, 0)) := by
        refine HPO2.out acc L ?_ ?_ ?_
        · rw [← HE.out, hdr, rows_nil]
        · rw [← HL.out]; exact srt_perm acc
        · rw [← HL.out]; exact srt_wk acc
      have HOK : Hid (∀ f ∈ L, FeOk f) := fun f hf => ok_of_one (HOn.out f ((srt_perm acc).mem_iff.1 (by rw [HL.out]; exact hf)))
      have HCk := Lib.hid (rcheck_any L _ wr HFr.out HOK.out (by omega))
      obtain ⟨ce, HCE⟩ : ∃ z, Hid (checkE L = z) := ⟨checkE L, (rfl : checkE L = checkE L)⟩
      rw [HCE.out] at HCk HRS
      clear hdr HE HOn HL HLL
      go_wp2_with fail
      go_at_call 12
      refine HCk.out.mono ?_
      rintro e w6 ⟨rfl, hb6⟩
      have HB6 := Lib.hid (HPw.out.trans (hb6.mono (by have := HSr.out; omega)))
      have HZ6 := Lib.hid (keepB HZr.out hb6)
      have HF6 := Lib.hid (HFr.out.grw hb6)
      clear hb6 HCk f0 f1
      have f2 := Lib.frozen_of_heap HZ6.out
      obtain ⟨y0, y1, -, -⟩ := box_two HZ6.out
      by_cases hce : ce = 0
      · have q3 : (ce != 0) = false := by rw [hce]; rfl
        have HR : Hid (RES = .ok L) := by show _ = _; rw [HRS.out, if_pos hce]
        clear hce HRS HCE
        go_wp2
        clear y0 y1 f2
        have hr2 := hp2_same HZ6.out (.int .i64 0) (.int .i64 0)
        have hbf := below_p2 HB6.out (Nat.le_refl p) (.int .i64 0) (.int .i64 0)
        have hff : FesAt All (put2 w6 p (.int .i64 0) (.int .i64 0)) (.slice la L.length lc) L := fes_set (fes_set HF6.out HZ6.out 0 (.int .i64 0)) (hp_one HZ6.out) 1 (.int .i64 0)
        simp only [put2] at hr2 hbf hff
        obtain ⟨FW, hFW⟩ : ∃ z, z = (w6.setCell ⟨p, 0, none⟩ (.int .i64 0)).setCell ⟨p, 1, none⟩ (.int .i64 0) := ⟨_, rfl⟩
        rw [← hFW] at hr2 hbf hff ⊢
        clear hFW
        obtain ⟨t0, t1, -, -⟩ := box_two hr2
        refine bodyPost_ret (v := .tuple #[.slice la L.length lc, .agg #[.int .i64 0, .int .i64 0]]) (by simp [results, Tryz.results14, go_sem, t0, t1]) rfl ?_
        refine ⟨?_, by first | exact hbf | (rw [hp]; exact hbf)⟩
        rw [HR.out]
        exact ⟨_, rfl, hff⟩
      · have q3 : (ce != 0) = true := by simpa using hce
        have HR : Hid (RES = .error (ce, 0)) := by show _ = _; rw [HRS.out, if_neg hce]
        clear hce HRS HCE
        go_wp2
        clear y0 y1 f2
        have hr2 := hp2_same HZ6.out (.int .i64 ce) (.int .i64 0)
        have hbf := below_p2 HB6.out (Nat.le_refl p) (.int .i64 ce) (.int .i64 0)
        simp only [put2] at hr2 hbf
        obtain ⟨FW, hFW⟩ : ∃ z, z = (w6.setCell ⟨p, 0, none⟩ (.int .i64 ce)).setCell ⟨p, 1, none⟩ (.int .i64 0) := ⟨_, rfl⟩
        rw [← hFW] at hr2 hbf ⊢
        clear hFW
        obtain ⟨t0, t1, -, -⟩ := box_two hr2
        refine bodyPost_ret (v := .tuple #[.slice none 0 0, .agg #[.int .i64 ce, .int .i64 0]]) (by simp [results, Tryz.results14, go_sem, t0, t1]) rfl ?_
        refine ⟨?_, by first | exact hbf | (rw [hp]; exact hbf)⟩
        rw [HR.out]
        rfl
end Go.Proofs.YtmoldgmfhcmceaaGreatDoor.Fe
end

/-
  What the reference's Same answers of two tables of equal rows, as a contract.
-/
section
set_option linter.unusedSimpArgs false
set_option linter.unusedVariables false
set_option maxRecDepth 100000
namespace Go.Proofs.YtmoldgmfhcmceaaGreatDoor.Fe
open Go.RowKit
open Wo (keepB box_cell box_two heap_far below_alloc below_trans)

set_option maxHeartbeats 8000000 in
theorem same_eq (l : List Fee) (u v : Value) (w : World) (hu : FesAt All w u l) (hv : FesAt All w v l) (hl : l.length ≤ 281474976710656) : Calls Tryz.prog 15 #[u, v] w fun e w' => e = .returned (.bool true) ∧ Below w.heap.size w w' := by
  have HU := Lib.hid hu
  have HV := Lib.hid hv
  obtain ⟨ua, uk, rfl, -, -⟩ := hu.form
  obtain ⟨va, vk, rfl, -, -⟩ := hv.form
  clear hu hv
  go_enter Tryz.func15, Tryz.ntmps15
  go_wp2
  go_loopg [5] (l.length) (fun g i wr => ∃ n : Nat, n ≤ l.length ∧ g = l.length - n ∧ i = .int .i64 (n : Nat) ∧ Hid (Below w.heap.size w wr))
  case atStart => exact ⟨0, Nat.zero_le _, rfl, rfl, Below.refl _ _⟩
  case round =>
    obtain ⟨n, hn, hgk, rfl, HBn⟩ := hrel
    by_cases hlt : n < l.length
    · have hltz : (n : Int) < (l.length : Int) := by omega
      obtain ⟨b, oo, rfl, -, -, -⟩ := FesAt.get HU.out n hlt
      obtain ⟨b2, o2, rfl, -, -, -⟩ := FesAt.get HV.out n hlt
      have HXK := Lib.hid fun W' (hW : Below wr.heap.size wr W') => And.intro (cell_keep (HU.out.grw (below_trans HBn.out hW)) n hlt) (cell_keep (HV.out.grw (below_trans HBn.out hW)) n hlt)
      generalize l[n] = x at *
      have HD := Lib.hid (Below.drew (Below.refl wr.heap.size wr))
      obtain ⟨wo, hwo⟩ : ∃ z, z = wr := ⟨_, rfl⟩
      subst hwo
      go_upto_region 6 with fail
      refine Ri.wp_region_lasting (by kernel_rfl) (by kernel_rfl) (by kernel_rfl) (fun Wx => Below wo.heap.size wo Wx) (fun kz vs wz => (fun kx vx wx => match kx with | 0 => vx = .slice (some ⟨b, oo, none⟩) l.length uk | 1 => vx = .int .i64 (n : Nat) | 2 => vx = .pointer (some ⟨b, oo + n * 5, none⟩) | 3 => vx = fev x | 4 => vx = .slice (some ⟨b2, o2, none⟩) l.length vk | 5 => vx = .int .i64 (n : Nat) | 6 => vx = .pointer (some ⟨b2, o2 + n * 5, none⟩) | 7 => vx = fev x | 8 => vx = .bool false | _ => True : Nat → Value → World → Prop) kz (vs kz) wz) (fun kz => [kz]) (by kernel_rfl) (fun jz vs iz vz wz hiz hz => Ri.loc_own (F := (fun kx vx wx => match kx with | 0 => vx = .slice (some ⟨b, oo, none⟩) l.length uk | 1 => vx = .int .i64 (n : Nat) | 2 => vx = .pointer (some ⟨b, oo + n * 5, none⟩) | 3 => vx = fev x | 4 => vx = .slice (some ⟨b2, o2, none⟩) l.length vk | 5 => vx = .int .i64 (n : Nat) | 6 => vx = .pointer (some ⟨b2, o2 + n * 5, none⟩) | 7 => vx = fev x | 8 => vx = .bool false | _ => True : Nat → Value → World → Prop)) jz vs iz vz wz hiz hz) HD.out ⟨⟨rfl, ?_⟩, ⟨rfl, ?_⟩, ⟨rfl, ?_⟩, ⟨rfl, ?_⟩, ⟨rfl, ?_⟩, ⟨rfl, ?_⟩, ⟨rfl, ?_⟩, ⟨rfl, ?_⟩, ⟨rfl, ?_⟩, trivial⟩ ?_
      · intro vs Wx A hA hB hpre K hK
        have e0 := (hA 0).trans (show _ = Value.slice (some ⟨b, oo, none⟩) l.length uk by kernel_rfl)
        clear hA hpre
        go_simp
        first | exact hK _ _ hB rfl (fun _ _ h => h) | exact hK _ _ hB trivial (fun _ _ h => h) | (rw [if_neg (by omega)]; go_simp; exact hK _ _ hB rfl (fun _ _ h => h))
      · intro vs Wx A hA hB hpre K hK
        have e5 := (hA 5).trans (show _ = Value.int .i64 (n : Nat) by kernel_rfl)
        clear hA hpre
        go_simp
        first | exact hK _ _ hB rfl (fun _ _ h => h) | exact hK _ _ hB trivial (fun _ _ h => h) | (rw [if_neg (by omega)]; go_simp; exact hK _ _ hB rfl (fun _ _ h => h))
      · intro vs Wx A hA hB hpre K hK
        have e17 := ((hA 17).trans (show _ = vs 0 by kernel_rfl)).trans (by first | exact hpre.1 rfl | exact hpre.2.1 rfl | exact hpre.2.2.1 rfl | exact hpre.2.2.2.1 rfl | exact hpre.2.2.2.2.1 rfl | exact hpre.2.2.2.2.2.1 rfl | exact hpre.2.2.2.2.2.2.1 rfl | exact hpre.2.2.2.2.2.2.2.1 rfl | exact hpre.2.2.2.2.2.2.2.2.1 rfl | exact hpre.2.2.2.2.2.2.2.2.2.1 rfl)
        have e18 := ((hA 18).trans (show _ = vs 1 by kernel_rfl)).trans (by first | exact hpre.1 rfl | exact hpre.2.1 rfl | exact hpre.2.2.1 rfl | exact hpre.2.2.2.1 rfl | exact hpre.2.2.2.2.1 rfl | exact hpre.2.2.2.2.2.1 rfl | exact hpre.2.2.2.2.2.2.1 rfl | exact hpre.2.2.2.2.2.2.2.1 rfl | exact hpre.2.2.2.2.2.2.2.2.1 rfl | exact hpre.2.2.2.2.2.2.2.2.2.1 rfl)
        clear hA hpre
        go_simp
        first | exact hK _ _ hB rfl (fun _ _ h => h) | exact hK _ _ hB trivial (fun _ _ h => h) | (rw [if_neg (by omega)]; go_simp; exact hK _ _ hB rfl (fun _ _ h => h))
      · intro vs Wx A hA hB hpre K hK
        have e19 := ((hA 19).trans (show _ = vs 2 by kernel_rfl)).trans (by first | exact hpre.1 rfl | exact hpre.2.1 rfl | exact hpre.2.2.1 rfl | exact hpre.2.2.2.1 rfl | exact hpre.2.2.2.2.1 rfl | exact hpre.2.2.2.2.2.1 rfl | exact hpre.2.2.2.2.2.2.1 rfl | exact hpre.2.2.2.2.2.2.2.1 rfl | exact hpre.2.2.2.2.2.2.2.2.1 rfl | exact hpre.2.2.2.2.2.2.2.2.2.1 rfl)
        obtain ⟨⟨x0, x1, x2, x3, x4⟩, ⟨y0, y1, y2, y3, y4⟩⟩ := HXK.out Wx hB
        clear hA hpre
        go_simp
        first | exact hK _ _ hB rfl (fun _ _ h => h) | exact hK _ _ hB trivial (fun _ _ h => h) | (rw [if_neg (by omega)]; go_simp; exact hK _ _ hB rfl (fun _ _ h => h))
      · intro vs Wx A hA hB hpre K hK
        have e1 := (hA 1).trans (show _ = Value.slice (some ⟨b2, o2, none⟩) l.length vk by kernel_rfl)
        clear hA hpre
        go_simp
        first | exact hK _ _ hB rfl (fun _ _ h => h) | exact hK _ _ hB trivial (fun _ _ h => h) | (rw [if_neg (by omega)]; go_simp; exact hK _ _ hB rfl (fun _ _ h => h))
      · intro vs Wx A hA hB hpre K hK
        have e5 := (hA 5).trans (show _ = Value.int .i64 (n : Nat) by kernel_rfl)
        clear hA hpre
        go_simp
        first | exact hK _ _ hB rfl (fun _ _ h => h) | exact hK _ _ hB trivial (fun _ _ h => h) | (rw [if_neg (by omega)]; go_simp; exact hK _ _ hB rfl (fun _ _ h => h))
      · intro vs Wx A hA hB hpre K hK
        have e21 := ((hA 21).trans (show _ = vs 4 by kernel_rfl)).trans (by first | exact hpre.1 rfl | exact hpre.2.1 rfl | exact hpre.2.2.1 rfl | exact hpre.2.2.2.1 rfl | exact hpre.2.2.2.2.1 rfl | exact hpre.2.2.2.2.2.1 rfl | exact hpre.2.2.2.2.2.2.1 rfl | exact hpre.2.2.2.2.2.2.2.1 rfl | exact hpre.2.2.2.2.2.2.2.2.1 rfl | exact hpre.2.2.2.2.2.2.2.2.2.1 rfl)
        have e22 := ((hA 22).trans (show _ = vs 5 by kernel_rfl)).trans (by first | exact hpre.1 rfl | exact hpre.2.1 rfl | exact hpre.2.2.1 rfl | exact hpre.2.2.2.1 rfl | exact hpre.2.2.2.2.1 rfl | exact hpre.2.2.2.2.2.1 rfl | exact hpre.2.2.2.2.2.2.1 rfl | exact hpre.2.2.2.2.2.2.2.1 rfl | exact hpre.2.2.2.2.2.2.2.2.1 rfl | exact hpre.2.2.2.2.2.2.2.2.2.1 rfl)
        clear hA hpre
        go_simp
        first | exact hK _ _ hB rfl (fun _ _ h => h) | exact hK _ _ hB trivial (fun _ _ h => h) | (rw [if_neg (by omega)]; go_simp; exact hK _ _ hB rfl (fun _ _ h => h))
      · intro vs Wx A hA hB hpre K hK
        have e23 := ((hA 23).trans (show _ = vs 6 by kernel_rfl)).trans (by first | exact hpre.1 rfl | exact hpre.2.1 rfl | exact hpre.2.2.1 rfl | exact hpre.2.2.2.1 rfl | exact hpre.2.2.2.2.1 rfl | exact hpre.2.2.2.2.2.1 rfl | exact hpre.2.2.2.2.2.2.1 rfl | exact hpre.2.2.2.2.2.2.2.1 rfl | exact hpre.2.2.2.2.2.2.2.2.1 rfl | exact hpre.2.2.2.2.2.2.2.2.2.1 rfl)
        obtain ⟨⟨x0, x1, x2, x3, x4⟩, ⟨y0, y1, y2, y3, y4⟩⟩ := HXK.out Wx hB
        clear hA hpre
        go_simp
        first | exact hK _ _ hB rfl (fun _ _ h => h) | exact hK _ _ hB trivial (fun _ _ h => h) | (rw [if_neg (by omega)]; go_simp; exact hK _ _ hB rfl (fun _ _ h => h))
      · intro vs Wx A hA hB hpre K hK
        have e20 := ((hA 20).trans (show _ = vs 3 by kernel_rfl)).trans (by first | exact hpre.1 rfl | exact hpre.2.1 rfl | exact hpre.2.2.1 rfl | exact hpre.2.2.2.1 rfl | exact hpre.2.2.2.2.1 rfl | exact hpre.2.2.2.2.2.1 rfl | exact hpre.2.2.2.2.2.2.1 rfl | exact hpre.2.2.2.2.2.2.2.1 rfl | exact hpre.2.2.2.2.2.2.2.2.1 rfl | exact hpre.2.2.2.2.2.2.2.2.2.1 rfl)
        have e24 := ((hA 24).trans (show _ = vs 7 by kernel_rfl)).trans (by first | exact hpre.1 rfl | exact hpre.2.1 rfl | exact hpre.2.2.1 rfl | exact hpre.2.2.2.1 rfl | exact hpre.2.2.2.2.1 rfl | exact hpre.2.2.2.2.2.1 rfl | exact hpre.2.2.2.2.2.2.1 rfl | exact hpre.2.2.2.2.2.2.2.1 rfl | exact hpre.2.2.2.2.2.2.2.2.1 rfl | exact hpre.2.2.2.2.2.2.2.2.2.1 rfl)
        clear hA hpre
        go_simp
        first | exact hK _ _ hB rfl (fun _ _ h => h) | exact hK _ _ hB trivial (fun _ _ h => h) | (rw [if_neg (by omega)]; go_simp; exact hK _ _ hB rfl (fun _ _ h => h))
      · intro vs Wx hB hF
        have hL : vs 8 = .bool false := hF 8 (by decide)
        have HB3 := Lib.hid (below_trans HBn.out hB)
        clear hF hB HXK HD
        simp only [Ri.puts]
        rw [hL]
        clear hL
        go_simp
        go_wp2
        go_roundg (l.length - (n + 1))
        case measure => omega
        case rel => exact ⟨n + 1, by omega, rfl, by first | rfl | go_num | (congr 1; omega), HB3.out⟩
    · have hltz : ¬ (n : Int) < (l.length : Int) := by omega
      go_wp2
      go_ret
      exact ⟨rfl, HBn.out⟩
end Go.Proofs.YtmoldgmfhcmceaaGreatDoor.Fe
end
