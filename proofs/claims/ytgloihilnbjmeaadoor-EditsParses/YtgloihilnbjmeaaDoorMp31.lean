/-
  Texts put together (merge.py): XParse.
-/
import Derived.Test.YtgloihilnbjmeaaDoorMp29
import Derived.Test.YtgloihilnbjmeaaDoorMp30
/-
  What edits.Parse answers, as a contract: for every text the table, or the first fault.
-/
section
set_option linter.unusedSimpArgs false
set_option linter.unusedVariables false
set_option maxRecDepth 100000
namespace Go.Proofs.YtgloihilnbjmeaaDoor.Ex
open Go.RowKit
open Wo (Wd WdsAt box_cell box_two keepB heap_far below_alloc below_trans)

def resL : Except (Int × Nat) (List Ed) → List Ed
  | .ok l => l
  | .error _ => []
def resE : Except (Int × Nat) (List Ed) → Int
  | .ok _ => 0
  | .error x => x.1
def resA : Except (Int × Nat) (List Ed) → Nat
  | .ok _ => 0
  | .error x => x.2
/-- A table, the fault's number, and where it stands. -/
def ParV (w' : World) (RES : Except (Int × Nat) (List Ed)) (e : Ending) : Prop := ∃ (a : Option Addr) (c : Nat), e = .returned (.tuple #[.slice a (resL RES).length c, .agg #[.int .i64 (resE RES), .int .i64 (resA RES : Nat)]]) ∧ EdsAt All w' (.slice a (resL RES).length c) (resL RES)
theorem par_bad {s : Tx} (h : ¬ Wo.spE s = 0) : paR s = .error (Wo.spE s, Wo.spA s) := by unfold paR; rw [if_neg h]
theorem par_rows {s : Tx} (h : Wo.spE s = 0) : paR s = pRows s.length 256 [] (Wo.spV s) := by unfold paR; rw [if_pos h]
theorem below_grown {w W W' : World} {B b : Nat} (h : Below B w W) (hg : W.grownBy W' (some b)) (hb : B ≤ b) (hB : B ≤ W.heap.size) : Below B w W' :=
  h.trans ⟨hg.os, hg.tape, hg.output, hg.size, fun k hk => hg.block k (by omega) (fun e => by have := Option.some.inj e; omega)⟩
theorem drew_heap {w : World} {k : Nat} {o : Obj} (h : w.heap[k]? = some o) : w.drew.heap[k]? = some o := h
theorem own_drew {w : World} {B : Nat} {e : TypeId} {z : Nat} {v : Value} {n : Nat} {xs : List Value} (h : w.ownsRow B e z v n xs) : w.drew.ownsRow B e z v n xs := h
set_option maxHeartbeats 16000000 in
theorem parse_any (s : ByteArray) (w : World) (hs : s.size ≤ maxLen) : Calls Tryd.prog 15 #[.string s] w fun e w' => ParV w' (paR s.data.toList) e ∧ Below w.heap.size w w' := by
  have HSP := Lib.hid fun W => Wo.split_any s W hs
  have HB0 := Lib.hid (below_alloc w (.cells #[.int .i64 0, .int .i64 0] 31))
  have HZ0 := Lib.hid (heap_alloc_new w (.cells #[.int .i64 0, .int .i64 0] 31))
  have HSZ : Hid (s.data.toList.length = s.size) := (Lib.size_eq s).symm
  have HPB : Hid (¬ Wo.spE s.data.toList = 0 → paR s.data.toList = .error (Wo.spE s.data.toList, Wo.spA s.data.toList)) := par_bad
  have HPR : Hid (Wo.spE s.data.toList = 0 → paR s.data.toList = pRows s.data.toList.length 256 [] (Wo.spV s.data.toList)) := par_rows
  have HLN := Lib.hid (@spV_lens s.data.toList)
  have HVL := Lib.hid (Wo.spV_len s.data.toList)
  rw [HSZ.out] at HPR HLN
  generalize paR s.data.toList = RES at *
  generalize Wo.spE s.data.toList = xe at *
  generalize Wo.spA s.data.toList = xa at *
  generalize Wo.spV s.data.toList = ws at *
  have hs' : s.size ≤ 9223372036854775807 := by unfold maxLen at hs; exact hs
  clear hs
  go_enter Tryd.func15, Tryd.ntmps15
  go_upto_region 1 with fail
  generalize w.alloc (.cells #[.int .i64 0, .int .i64 0] 31) = W at *
  generalize hp : w.heap.size = p at *
  go_wp2_with fail
  go_at_call 26
  refine (HSP.out _).mono ?_
  rintro e w1 ⟨⟨u, rfl, hu⟩, hb1⟩
  have HB1 := Lib.hid (show Below p w w1 by subst hp; exact below_trans HB0.out hb1)
  have HZ1 := Lib.hid (keepB HZ0.out hb1)
  have HU1 : Hid (WdsAt All w1 u ws) := hu.move (moves_weak _ fun _ _ _ => trivial)
  clear hb1 hu HB0 HZ0 HSP
  obtain ⟨ua, uc, rfl, hu1, hu2⟩ := WdsAt.form HU1.out
  have hb2 := below_alloc w1 (.cells #[.int .i64 xe, .int .i64 (xa : Nat)] 31)
  have hpw : p < w1.heap.size := (Array.getElem?_eq_some_iff.1 HZ1.out).1
  have HB2 := Lib.hid (HB1.out.trans (hb2.mono (by omega)))
  have HZ2 := Lib.hid (keepB HZ1.out hb2)
  have HU2 := Lib.hid (HU1.out.move (Below.moves hb2))
  have HN2 := Lib.hid (heap_alloc_new w1 (.cells #[.int .i64 xe, .int .i64 (xa : Nat)] 31))
  clear hb2 HB1 HZ1 HU1
  go_upto_region 2 with fail
  generalize w1.alloc (.cells #[.int .i64 xe, .int .i64 (xa : Nat)] 31) = W2 at *
  generalize w1.heap.size = q at *
  obtain ⟨v0, v1, -, -⟩ := box_two HN2.out
  by_cases hxe : xe = 0
  rotate_left
  · have q1 : (xe != 0) = true := by simpa using hxe
    have HR : Hid (RES = .error (xe, xa)) := HPB.out hxe
    clear hxe HPB HPR HLN HVL
    have f2 := Lib.frozen_of_heap HZ2.out
    obtain ⟨y0, y1, -, -⟩ := box_two HZ2.out
    go_upto_region 3 with fail
    go_region
    all_goals
      go_wp2
      clear y0 y1 f2 v0 v1
      have hr2 := drew_heap (hp2_same HZ2.out (.int .i64 xe) (.int .i64 (xa : Nat)))
      have hbf := Below.drew (below_p2 HB2.out (Nat.le_refl p) (.int .i64 xe) (.int .i64 (xa : Nat)))
      simp only [put2] at hr2 hbf
      generalize ((W2.setCell ⟨p, 0, none⟩ (.int .i64 xe)).setCell ⟨p, 1, none⟩ (.int .i64 (xa : Nat))).drew = FW at *
      obtain ⟨t0, t1, -, -⟩ := box_two hr2
      refine bodyPost_ret (v := .tuple #[.slice none 0 0, .agg #[.int .i64 xe, .int .i64 (xa : Nat)]]) (by simp [results, Tryd.results15, go_sem, t0, t1]) rfl ?_
      refine ⟨?_, by first | exact hbf | (rw [hp]; exact hbf)⟩
      rw [HR.out]
      exact ⟨none, 0, rfl, EdsAt.nil _ _⟩
  have q1 : (xe != 0) = false := by rw [hxe]; rfl
  have HX := Lib.hid hxe
  have HRW := Lib.hid (HPR.out hxe)
  have hwb : Wb ws := ⟨(HLN.out hxe).1, HVL.out⟩
  have hb3 := below_alloc W2 (.cells #[.slice ua ws.length uc, .int .i64 (s.size : Nat), .int .i64 0, .int .i64 0] 58)
  have hb3u : ws.length ≤ 65536 := HVL.out
  clear hxe HPB HPR HLN HVL
  have HB3 := Lib.hid (HB2.out.trans (hb3.mono (by have := HB2.out.size; omega)))
  have HZ3 := Lib.hid (keepB HZ2.out hb3)
  have HN3 := Lib.hid (heap_alloc_new W2 (.cells #[.slice ua ws.length uc, .int .i64 (s.size : Nat), .int .i64 0, .int .i64 0] 58))
  have HU3 : Hid (WdsAt (fun b => b < W2.heap.size) (W2.alloc (.cells #[.slice ua ws.length uc, .int .i64 (s.size : Nat), .int .i64 0, .int .i64 0] 58)) (.slice ua ws.length uc) ws) := HU2.out.move ⟨hb3.size, fun b hb' hk => ⟨hb', hb3.block b hb'⟩⟩
  have hqb : p < W2.heap.size := (Array.getElem?_eq_some_iff.1 HZ2.out).1
  have HRD : Hid (RdAt W2.heap.size s.size ws (0, 0) (W2.alloc (.cells #[.slice ua ws.length uc, .int .i64 (s.size : Nat), .int .i64 0, .int .i64 0] 58))) := ⟨_, HN3.out, HU3.out, hwb⟩
  have HSB : Hid (W2.heap.size < (W2.alloc (.cells #[.slice ua ws.length uc, .int .i64 (s.size : Nat), .int .i64 0, .int .i64 0] 58)).heap.size) := HRD.out.lt
  clear hb3 HB2 HZ2 HU2 HN2 HN3 HU3
  go_upto_region 5 with fail
  clear v0 v1 hwb
  generalize W2.alloc (.cells #[.slice ua ws.length uc, .int .i64 (s.size : Nat), .int .i64 0, .int .i64 0] 58) = W3 at *
  generalize W2.heap.size = b at *
  have HRo := Lib.hid (rows_any b s.size ws W3 HRD.out)
  rw [← HRW.out] at HRo
  clear HRD HRW
  go_wp2_with fail
  go_at_call 27
  refine HRo.out.mono ?_
  rintro e w5 ⟨⟨fv, acc, lr, f, rfl, hacc, hown, hrd, hdn⟩, hg⟩
  obtain ⟨fa, fk, rfl⟩ := own_form hown
  have HB5 := Lib.hid (below_grown HB3.out hg (Nat.le_of_lt hqb) (by have := HB3.out.size; omega))
  have HZ5 := Lib.hid (grown_heap HZ3.out hg (Nat.ne_of_lt hqb))
  have HO5 := Lib.hid hown
  obtain ⟨rv, hr5, -, -⟩ := hrd
  obtain ⟨c0, c1, c2, c3⟩ := cells4 hr5
  have hpB : p < W3.heap.size := by have := HSB.out; omega
  clear hg hown HRo HB3 HZ3 hr5 HSB
  have f2 := Lib.frozen_of_heap HZ5.out
  obtain ⟨y0, y1, -, -⟩ := box_two HZ5.out
  rcases hdn with ⟨hf, hres⟩ | ⟨hf, hres⟩
  rotate_left
  · have q2 : (f.1 != 0) = true := by simpa using hf
    have HR := Lib.hid hres
    clear hf hres
    go_upto_region 7 with fail
    go_region
    all_goals
      go_wp2
      clear y0 y1 f2 c0 c1 c2 c3
      have hr2 := drew_heap (hp2_same HZ5.out (.int .i64 f.1) (.int .i64 (f.2 : Nat)))
      have hbf := Below.drew (below_p2 HB5.out (Nat.le_refl p) (.int .i64 f.1) (.int .i64 (f.2 : Nat)))
      simp only [put2] at hr2 hbf
      generalize ((w5.setCell ⟨p, 0, none⟩ (.int .i64 f.1)).setCell ⟨p, 1, none⟩ (.int .i64 (f.2 : Nat))).drew = FW at *
      obtain ⟨t0, t1, -, -⟩ := box_two hr2
      refine bodyPost_ret (v := .tuple #[.slice none 0 0, .agg #[.int .i64 f.1, .int .i64 (f.2 : Nat)]]) (by simp [results, Tryd.results15, go_sem, t0, t1]) rfl ?_
      refine ⟨?_, by first | exact hbf | (rw [hp]; exact hbf)⟩
      rw [HR.out]
      exact ⟨none, 0, rfl, EdsAt.nil _ _⟩
  · have q2 : (f.1 != 0) = false := by rw [hf]; rfl
    have HR := Lib.hid hres
    clear hf hres
    go_wp2
    clear y0 y1 f2 c0 c1 c2 c3
    have hr2 := hp2_same HZ5.out (.int .i64 0) (.int .i64 0)
    have hbf := below_p2 HB5.out (Nat.le_refl p) (.int .i64 0) (.int .i64 0)
    have hof := own_set (own_set HO5.out hpB 0 (.int .i64 0)) hpB 1 (.int .i64 0)
    simp only [put2] at hr2 hbf
    generalize (w5.setCell ⟨p, 0, none⟩ (.int .i64 0)).setCell ⟨p, 1, none⟩ (.int .i64 0) = FW at *
    obtain ⟨t0, t1, -, -⟩ := box_two hr2
    refine bodyPost_ret (v := .tuple #[.slice fa acc.length fk, .agg #[.int .i64 0, .int .i64 0]]) (by simp [results, Tryd.results15, go_sem, t0, t1]) rfl ?_
    refine ⟨?_, by first | exact hbf | (rw [hp]; exact hbf)⟩
    rw [HR.out]
    exact ⟨fa, fk, rfl, eds_of_own hof (fun _ _ => trivial)⟩
end Go.Proofs.YtgloihilnbjmeaaDoor.Ex
end
