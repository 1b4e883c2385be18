/-
  Texts put together (merge.py): PParse, PWk0.
-/
import Derived.Test.YtfkhehkfeibdpaaGreatDoorMc42
import Derived.Test.YtfkhehkfeibdpaaGreatDoorMc22
import Derived.Test.YtfkhehkfeibdpaaGreatDoorMc36
import Derived.Test.YtfkhehkfeibdpaaGreatDoorMc38
/-
  What plan.Parse answers, as a contract: for every text.
-/
section
set_option linter.unusedSimpArgs false
set_option linter.unusedVariables false
set_option maxRecDepth 100000
namespace Go.Proofs.YtfkhehkfeibdpaaGreatDoor.Pl
open Go.RowKit
open Wo (Wd WdsAt box_cell box_two keepB heap_far)

set_option maxHeartbeats 16000000 in
theorem parse_good (s : ByteArray) (w : World) (hs : s.size ≤ maxLen) (hE : Wo.spE s.data.toList = 0) :
    Calls Tryz.prog 13 #[.string s] w fun e w' => ParV w w' (pPlan s.size (Wo.spV s.data.toList)) e ∧ Below w.heap.size w w' := by
  have HSP := Lib.hid fun W => Wo.split_any s W hs
  have HWB := Lib.hid (spV_wb hE).1
  rw [hE] at HSP
  have HPE := Lib.hid (plan_eq s.size (Wo.spV s.data.toList))
  generalize Wo.spA s.data.toList = xa at *
  generalize Wo.spV s.data.toList = l at *
  generalize pPlan s.size l = RR at *
  have hb0 := below_trans (below_alloc w (.cells z6 24)) (below_alloc _ (.cells #[.int .i64 0, .int .i64 0] 32))
  have hzz : (w.alloc (.cells z6 24)).heap.size = w.heap.size + 1 := by simp
  have HP0 := Lib.hid (keepB (heap_alloc_new w (.cells z6 24)) (below_alloc _ (.cells #[.int .i64 0, .int .i64 0] 32)))
  have HF0 := Lib.hid (heap_alloc_new (w.alloc (.cells z6 24)) (.cells #[.int .i64 0, .int .i64 0] 32))
  rw [hzz] at HF0
  have HB0 := Lib.hid hb0
  have hz0 : ((w.alloc (.cells z6 24)).alloc (.cells #[.int .i64 0, .int .i64 0] 32)).heap.size = w.heap.size + 2 := by simp
  have HZ0 := Lib.hid hz0
  clear hb0 hzz hs hE hz0
  have hmf : ∀ (fn : Fn) (first cap : Array Value) (w : World), (Instr.makeFunc fn first cap).run Tryz.prog w = .ok (.func fn first cap) w := fun _ _ _ _ => rfl
  go_enter_defers Tryz.func13, Tryz.ntmps13
  go_upto_region 1 with fail
  generalize (w.alloc (.cells z6 24)).alloc (.cells #[.int .i64 0, .int .i64 0] 32) = W0 at *
  go_wp2_with fail
  go_at_call 26
  refine (HSP.out _).mono ?_
  rintro e w1 ⟨⟨u, rfl, hu⟩, hb1⟩
  have hs1 := hb1.size
  have HP1 := Lib.hid (keepB HP0.out hb1)
  have HF1 := Lib.hid (keepB HF0.out hb1)
  have HB1 := Lib.hid (below_trans HB0.out hb1)
  rw [HZ0.out] at hs1 hu
  have HU := Lib.hid hu
  obtain ⟨ua, uc, rfl, -, -⟩ := WdsAt.form hu
  obtain ⟨e0, e1, e2, e3⟩ := box_two HF1.out
  have HW1 : Hid (WdsAt (fun b => b < w1.heap.size) (put2 w1 (w.heap.size + 1) (.int .i64 0) (.int .i64 (xa : Nat))) (.slice ua l.length uc) l) := by
    refine (HU.out.move (K' := fun b => w.heap.size + 2 ≤ b) ((moves_set _ _ (by omega)).trans (moves_set _ _ (by omega)))).move (moves_weak _ fun b hb _ => ?_)
    simpa [World.setCell] using hb
  have hzp : (put2 w1 (w.heap.size + 1) (.int .i64 0) (.int .i64 (xa : Nat))).heap.size = w1.heap.size := by simp [World.setCell]
  have HP2 : Hid ((put2 w1 (w.heap.size + 1) (.int .i64 0) (.int .i64 (xa : Nat))).heap[w.heap.size]? = _) := heap_far (heap_far HP1.out (by omega)) (by omega)
  have HF2a := heap_setCell_same w1 (w.heap.size + 1) 0 _ _ (.int .i64 0) HF1.out
  have HF2 : Hid ((put2 w1 (w.heap.size + 1) (.int .i64 0) (.int .i64 (xa : Nat))).heap[w.heap.size + 1]? = some (.cells #[.int .i64 0, .int .i64 (xa : Nat)] 32 (0, 0))) := heap_setCell_same _ (w.heap.size + 1) 1 _ _ (.int .i64 (xa : Nat)) HF2a
  have HB2 := Lib.hid (below_p2 HB1.out (p := w.heap.size + 1) (by omega) (.int .i64 0) (.int .i64 (xa : Nat)))
  have HZP := Lib.hid hzp
  clear hb1 hu HP0 HF0 HB0 HSP HP1 HF1 HZ0 HU HF2a HB1 hzp
  go_upto_region 5 with fail
  clear e0 e1 e2 e3
  simp only [put2] at HW1 HP2 HF2 HB2 HZP
  generalize (w1.setCell ⟨w.heap.size + 1, 0, none⟩ (.int .i64 0)).setCell ⟨w.heap.size + 1, 1, none⟩ (.int .i64 (xa : Nat)) = W1 at *
  have hbr := below_alloc W1 (.cells #[.slice ua l.length uc, .int .i64 (s.size : Nat)] 59)
  have hq : W1.heap.size = w1.heap.size := HZP.out
  have HR : Hid (RdAt W1.heap.size s.size l (W1.alloc (.cells #[.slice ua l.length uc, .int .i64 (s.size : Nat)] 59))) := ⟨_, heap_alloc_new W1 _, (HW1.out.move (moves_new hbr)).move (moves_weak _ fun b _ hk => by rw [hq]; exact hk), HWB.out⟩
  have HPL := Lib.hid (plan_any W1.heap.size s.size l _ HR.out)
  have HP3 := Lib.hid (keepB HP2.out hbr)
  have HF3 := Lib.hid (keepB HF2.out hbr)
  have hzW : w.heap.size + 2 ≤ W1.heap.size := by omega
  have HB3 := Lib.hid (below_trans HB2.out hbr)
  have hz3 : (W1.alloc (.cells #[.slice ua l.length uc, .int .i64 (s.size : Nat)] 59)).heap.size = W1.heap.size + 1 := by simp
  have HZ3 := Lib.hid hz3
  clear hbr HR HW1 HP2 HF2 HB2 HZP hq hz3
  go_upto_region 6 with fail
  generalize W1.alloc (.cells #[.slice ua l.length uc, .int .i64 (s.size : Nat)] 59) = W2 at *
  generalize W1.heap.size = q at *
  go_wp2_with fail
  go_at_call 28
  refine HPL.out.mono ?_
  rintro e w3 ⟨hg3, ha3⟩
  have HP4 := Lib.hid (grown_heap HP3.out hg3 (by omega))
  have HF4 := Lib.hid (grown_heap HF3.out hg3 (by omega))
  have HB4 := Lib.hid (below_grown hg3 HB3.out (by omega) (by have := HZ3.out; omega))
  clear hg3 HP3 HF3 HB3 HPL
  cases hc : pPlanB s.size l with
  | error fl =>
    rw [hc] at ha3 HPE
    obtain rfl := ha3
    refine thrownD ?_
    refine leaves_cons (f := 27) (args := #[.pointer (some ⟨w.heap.size, 0, none⟩), .pointer (some ⟨w.heap.size + 1, 0, none⟩)]) (by simp) (by simp [go_sem]) ?_
    refine (catch_fault w.heap.size (w.heap.size + 1) fl [] w3 _ _ _ _ _ _ _ _ HP4.out HF4.out (by omega)).mono ?_
    rintro e u' w4 ⟨rfl, rfl, rfl⟩
    have hpf := drew_heap (hp2_far (hp6_same HP4.out (.int .i64 0) (.int .i64 0) (.int .i64 0) (.int .i64 0) (.int .i64 0) (.slice none 0 0)) (show w.heap.size ≠ w.heap.size + 1 by omega) (.int .i64 fl.1) (.int .i64 (fl.2 : Nat)))
    have hff := drew_heap (hp2_same (hp6_far HF4.out (show w.heap.size + 1 ≠ w.heap.size by omega) (.int .i64 0) (.int .i64 0) (.int .i64 0) (.int .i64 0) (.int .i64 0) (.slice none 0 0)) (.int .i64 fl.1) (.int .i64 (fl.2 : Nat)))
    have hbf := Below.drew (below_p2 (below_p6 HB4.out (Nat.le_refl _) (.int .i64 0) (.int .i64 0) (.int .i64 0) (.int .i64 0) (.int .i64 0) (.slice none 0 0)) (show w.heap.size ≤ w.heap.size + 1 by omega) (.int .i64 fl.1) (.int .i64 (fl.2 : Nat)))
    obtain ⟨r0, r1, r2, r3, r4, r5⟩ := bsix hpf
    obtain ⟨t0, t1, -, -⟩ := box_two hff
    clear hpf hff
    obtain ⟨F, hF⟩ : ∃ F, F = (put2 (put6 w3 w.heap.size (.int .i64 0) (.int .i64 0) (.int .i64 0) (.int .i64 0) (.int .i64 0) (.slice none 0 0)) (w.heap.size + 1) (.int .i64 fl.1) (.int .i64 (fl.2 : Nat))).drew := ⟨_, rfl⟩
    rw [← hF] at r0 r1 r2 r3 r4 r5 t0 t1 hbf ⊢
    clear hF
    refine ⟨.tuple #[pnv pn0 (.slice none 0 0), ftv fl], by simp [results, Tryz.results13, go_sem, r0, r1, r2, r3, r4, r5, t0, t1, pn0], ?_, hbf⟩
    rw [HPE.out]
    rfl
  | ok z =>
    obtain ⟨p, lz⟩ := z
    rw [hc] at ha3 HPE
    obtain ⟨⟨v, rfl, ra, rn, rc, rfl, hru, hpo⟩, -⟩ := ha3
    have HC := Lib.hid hc
    have HPO := Lib.hid hpo
    have hz2 : w.heap.size + 2 ≤ W2.heap.size := by have := HZ3.out; omega
    have HR5 := Lib.hid (hru.move (moves_put6 w3 (.int .i64 p.mode) (.int .i64 p.indDed) (.int .i64 p.famDed) (.int .i64 p.indOop) (.int .i64 p.famOop) (.slice ra rn rc) (show w.heap.size < W2.heap.size by omega)))
    have HP5 := Lib.hid (hp6_same HP4.out (.int .i64 p.mode) (.int .i64 p.indDed) (.int .i64 p.famDed) (.int .i64 p.indOop) (.int .i64 p.famOop) (.slice ra rn rc))
    have HF5 := Lib.hid (hp6_far HF4.out (show w.heap.size + 1 ≠ w.heap.size by omega) (.int .i64 p.mode) (.int .i64 p.indDed) (.int .i64 p.famDed) (.int .i64 p.indOop) (.int .i64 p.famOop) (.slice ra rn rc))
    have HB5 := Lib.hid (below_p6 HB4.out (Nat.le_refl _) (.int .i64 p.mode) (.int .i64 p.indDed) (.int .i64 p.famDed) (.int .i64 p.indOop) (.int .i64 p.famOop) (.slice ra rn rc))
    obtain ⟨p0, p1, p2, p3, p4, p5⟩ := bsix HP4.out
    have q0 := box_froz HP4.out 0
    have q1 := box_froz HP4.out 1
    have q2 := box_froz HP4.out 2
    have q3 := box_froz HP4.out 3
    have q4 := box_froz HP4.out 4
    have q5 := box_froz HP4.out 5
    clear hc hru hpo HP4 HF4 HB4
    go_upto_region 7 with fail
    simp only [put6] at HR5 HP5 HF5 HB5
    clear p0 p1 p2 p3 p4 p5 q0 q1 q2 q3 q4 q5
    generalize (((((w3.setCell ⟨w.heap.size, 0, none⟩ (.int .i64 p.mode)).setCell ⟨w.heap.size, 1, none⟩ (.int .i64 p.indDed)).setCell ⟨w.heap.size, 2, none⟩ (.int .i64 p.famDed)).setCell ⟨w.heap.size, 3, none⟩ (.int .i64 p.indOop)).setCell ⟨w.heap.size, 4, none⟩ (.int .i64 p.famOop)).setCell ⟨w.heap.size, 5, none⟩ (.slice ra rn rc) = W4 at *
    have HCK := Lib.hid (check_any p (.slice ra rn rc) W4 (HR5.out.move (moves_weak _ fun _ _ _ => trivial)))
    obtain ⟨p0, p1, p2, p3, p4, p5⟩ := bsix HP5.out
    by_cases hpb : planB p = true
    · have he : checkE p = 0 := by unfold checkE; rw [if_pos hpb]
      have hpe := HPE.out
      rw [if_pos hpb] at hpe
      have HPE2 := Lib.hid hpe
      rw [he] at HCK
      clear he hpe HPE hpb
      go_wp2_with fail
      go_at_call 9
      refine HCK.out.mono ?_
      rintro e w5 ⟨rfl, hb5⟩
      have HP6 := Lib.hid (keepB HP5.out hb5)
      have HF6 := Lib.hid (keepB HF5.out hb5)
      have HB6 := Lib.hid (below_trans HB5.out hb5)
      have HR6 := Lib.hid ((HR5.out.move (moves_new hb5)).move (moves_low _ hz2))
      clear hb5 HP5 HF5 HB5 HR5 HCK p0 p1 p2 p3 p4 p5
      obtain ⟨u0, u1, u2, u3, u4, u5⟩ := bsix HP6.out
      obtain ⟨e0, e1, e2, e3⟩ := box_two HF6.out
      have uf0 := box_froz HP6.out 0
      have uf1 := box_froz HP6.out 1
      have uf2 := box_froz HP6.out 2
      have uf3 := box_froz HP6.out 3
      have uf4 := box_froz HP6.out 4
      have uf5 := box_froz HP6.out 5
      go_wp2
      refine leaves_cons (f := 27) (args := #[.pointer (some ⟨w.heap.size, 0, none⟩), .pointer (some ⟨w.heap.size + 1, 0, none⟩)]) (by simp) (by simp [go_sem]) ?_
      refine (catch_idle ⟨w.heap.size, 0, none⟩ ⟨w.heap.size + 1, 0, none⟩ _).mono ?_
      rintro e u' w7 ⟨rfl, rfl, rfl⟩
      have hpf := hp2_far (hp6_same HP6.out (.int .i64 p.mode) (.int .i64 p.indDed) (.int .i64 p.famDed) (.int .i64 p.indOop) (.int .i64 p.famOop) (.slice ra rn rc)) (show w.heap.size ≠ w.heap.size + 1 by omega) (.int .i64 0) (.int .i64 0)
      have hff := hp2_same (hp6_far HF6.out (show w.heap.size + 1 ≠ w.heap.size by omega) (.int .i64 p.mode) (.int .i64 p.indDed) (.int .i64 p.famDed) (.int .i64 p.indOop) (.int .i64 p.famOop) (.slice ra rn rc)) (.int .i64 0) (.int .i64 0)
      have hbf := below_p2 (below_p6 HB6.out (Nat.le_refl _) (.int .i64 p.mode) (.int .i64 p.indDed) (.int .i64 p.famDed) (.int .i64 p.indOop) (.int .i64 p.famOop) (.slice ra rn rc)) (show w.heap.size ≤ w.heap.size + 1 by omega) (.int .i64 0) (.int .i64 0)
      have hmv : Moves (fun b => w.heap.size + 2 ≤ b) (fun b => w.heap.size ≤ b) w5 (put2 (put6 w5 w.heap.size (.int .i64 p.mode) (.int .i64 p.indDed) (.int .i64 p.famDed) (.int .i64 p.indOop) (.int .i64 p.famOop) (.slice ra rn rc)) (w.heap.size + 1) (.int .i64 0) (.int .i64 0)) := ((moves_put6 w5 (.int .i64 p.mode) (.int .i64 p.indDed) (.int .i64 p.famDed) (.int .i64 p.indOop) (.int .i64 p.famOop) (.slice ra rn rc) (show w.heap.size < w.heap.size + 2 by omega)).trans ((moves_set _ _ (by omega)).trans (moves_set _ _ (by omega)))).trans (moves_low _ (by omega))
      have hRu := HR6.out.move hmv
      obtain ⟨r0, r1, r2, r3, r4, r5⟩ := bsix hpf
      obtain ⟨t0, t1, -, -⟩ := box_two hff
      clear hpf hff hmv u0 u1 u2 u3 u4 u5 e0 e1 e2 e3
      simp only [put2, put6] at r0 r1 r2 r3 r4 r5 t0 t1 hbf hRu
      generalize (((((((w5.setCell ⟨w.heap.size, 0, none⟩ (.int .i64 p.mode)).setCell ⟨w.heap.size, 1, none⟩ (.int .i64 p.indDed)).setCell ⟨w.heap.size, 2, none⟩ (.int .i64 p.famDed)).setCell ⟨w.heap.size, 3, none⟩ (.int .i64 p.indOop)).setCell ⟨w.heap.size, 4, none⟩ (.int .i64 p.famOop)).setCell ⟨w.heap.size, 5, none⟩ (.slice ra rn rc)).setCell ⟨w.heap.size + 1, 0, none⟩ (.int .i64 0)).setCell ⟨w.heap.size + 1, 1, none⟩ (.int .i64 0) = F at *
      refine ⟨.tuple #[pnv p (.slice ra rn rc), .agg #[.int .i64 0, .int .i64 0]], by simp [results, Tryz.results13, go_sem, r0, r1, r2, r3, r4, r5, t0, t1, pn0], ?_, hbf⟩
      rw [HPE2.out]
      exact ⟨_, _, _, rfl, hRu, HPO.out⟩
    · have he : checkE p = 15 := by unfold checkE; rw [if_neg hpb]
      have hpe := HPE.out
      rw [if_neg hpb] at hpe
      have HPE2 := Lib.hid hpe
      rw [he] at HCK
      clear he hpe HPE hpb
      go_wp2_with fail
      go_at_call 9
      refine HCK.out.mono ?_
      rintro e w5 ⟨rfl, hb5⟩
      have HP6 := Lib.hid (keepB HP5.out hb5)
      have HF6 := Lib.hid (keepB HF5.out hb5)
      have HB6 := Lib.hid (below_trans HB5.out hb5)
      have HR6 := Lib.hid ((HR5.out.move (moves_new hb5)).move (moves_low _ hz2))
      clear hb5 HP5 HF5 HB5 HR5 HCK p0 p1 p2 p3 p4 p5
      obtain ⟨u0, u1, u2, u3, u4, u5⟩ := bsix HP6.out
      obtain ⟨e0, e1, e2, e3⟩ := box_two HF6.out
      have uf0 := box_froz HP6.out 0
      have uf1 := box_froz HP6.out 1
      have uf2 := box_froz HP6.out 2
      have uf3 := box_froz HP6.out 3
      have uf4 := box_froz HP6.out 4
      have uf5 := box_froz HP6.out 5
      go_wp2
      refine leaves_cons (f := 27) (args := #[.pointer (some ⟨w.heap.size, 0, none⟩), .pointer (some ⟨w.heap.size + 1, 0, none⟩)]) (by simp) (by simp [go_sem]) ?_
      refine (catch_idle ⟨w.heap.size, 0, none⟩ ⟨w.heap.size + 1, 0, none⟩ _).mono ?_
      rintro e u' w7 ⟨rfl, rfl, rfl⟩
      have hpf := hp2_far (hp6_same HP6.out (.int .i64 0) (.int .i64 0) (.int .i64 0) (.int .i64 0) (.int .i64 0) (.slice none 0 0)) (show w.heap.size ≠ w.heap.size + 1 by omega) (.int .i64 15) (.int .i64 0)
      have hff := hp2_same (hp6_far HF6.out (show w.heap.size + 1 ≠ w.heap.size by omega) (.int .i64 0) (.int .i64 0) (.int .i64 0) (.int .i64 0) (.int .i64 0) (.slice none 0 0)) (.int .i64 15) (.int .i64 0)
      have hbf := below_p2 (below_p6 HB6.out (Nat.le_refl _) (.int .i64 0) (.int .i64 0) (.int .i64 0) (.int .i64 0) (.int .i64 0) (.slice none 0 0)) (show w.heap.size ≤ w.heap.size + 1 by omega) (.int .i64 15) (.int .i64 0)
      have hmv : Moves (fun b => w.heap.size + 2 ≤ b) (fun b => w.heap.size ≤ b) w5 (put2 (put6 w5 w.heap.size (.int .i64 0) (.int .i64 0) (.int .i64 0) (.int .i64 0) (.int .i64 0) (.slice none 0 0)) (w.heap.size + 1) (.int .i64 15) (.int .i64 0)) := ((moves_put6 w5 (.int .i64 0) (.int .i64 0) (.int .i64 0) (.int .i64 0) (.int .i64 0) (.slice none 0 0) (show w.heap.size < w.heap.size + 2 by omega)).trans ((moves_set _ _ (by omega)).trans (moves_set _ _ (by omega)))).trans (moves_low _ (by omega))
      have hRu := HR6.out.move hmv
      obtain ⟨r0, r1, r2, r3, r4, r5⟩ := bsix hpf
      obtain ⟨t0, t1, -, -⟩ := box_two hff
      clear hpf hff hmv u0 u1 u2 u3 u4 u5 e0 e1 e2 e3
      simp only [put2, put6] at r0 r1 r2 r3 r4 r5 t0 t1 hbf hRu
      generalize (((((((w5.setCell ⟨w.heap.size, 0, none⟩ (.int .i64 0)).setCell ⟨w.heap.size, 1, none⟩ (.int .i64 0)).setCell ⟨w.heap.size, 2, none⟩ (.int .i64 0)).setCell ⟨w.heap.size, 3, none⟩ (.int .i64 0)).setCell ⟨w.heap.size, 4, none⟩ (.int .i64 0)).setCell ⟨w.heap.size, 5, none⟩ (.slice none 0 0)).setCell ⟨w.heap.size + 1, 0, none⟩ (.int .i64 15)).setCell ⟨w.heap.size + 1, 1, none⟩ (.int .i64 0) = F at *
      refine ⟨.tuple #[pnv pn0 (.slice none 0 0), .agg #[.int .i64 15, .int .i64 0]], by simp [results, Tryz.results13, go_sem, r0, r1, r2, r3, r4, r5, t0, t1, pn0], ?_, hbf⟩
      rw [HPE2.out]
      exact rfl
/-- What Parse answers: every text. -/
theorem parse_any (s : ByteArray) (w : World) (hs : s.size ≤ maxLen) :
    Calls Tryz.prog 13 #[.string s] w fun e w' => ParV w w' (paR s.data.toList) e ∧ Below w.heap.size w w' := by
  by_cases hE : Wo.spE s.data.toList = 0
  · have e : paR s.data.toList = pPlan s.size (Wo.spV s.data.toList) := by unfold paR; rw [if_pos hE, show s.data.toList.length = s.size from (Lib.size_eq s).symm]
    rw [e]
    exact parse_good s w hs hE
  · have e : paR s.data.toList = .error (Wo.spE s.data.toList, Wo.spA s.data.toList) := by unfold paR; rw [if_neg hE]
    rw [e]
    exact parse_bad s w hs hE
end Go.Proofs.YtfkhehkfeibdpaaGreatDoor.Pl
end

/-
  The texts of works, as plans and faults.
-/
section
set_option maxRecDepth 100000
namespace Go.Proofs.YtfkhehkfeibdpaaGreatDoor.Pl
def wkT1 : Tx := [112, 108, 97, 110, 32, 101, 109, 98, 101, 100, 100, 101, 100, 32, 109, 101, 109, 98, 101, 114, 32, 53, 48, 48, 32, 50, 48, 48, 48, 32, 102, 97, 109, 105, 108, 121, 32, 49, 48, 48, 48, 32, 52, 48, 48, 48, 32, 114, 117, 108, 101, 32, 53, 32, 105, 102, 32, 40, 32, 112, 114, 111, 99, 32, 57, 57, 50, 48, 48, 32, 57, 57, 51, 48, 48, 32, 97, 110, 100, 32, 110, 111, 116, 32, 109, 111, 100, 32, 53, 57, 32, 41, 32, 117, 110, 108, 101, 115, 115, 32, 111, 117, 116, 32, 115, 101, 116, 32, 99, 111, 118, 101, 114, 32, 121, 101, 115, 32, 99, 111, 105, 110, 115, 32, 50, 48, 48, 48, 32, 101, 110, 100]
def wkT2 : Tx := [112, 108, 97, 110, 32, 101, 109, 98, 101, 100, 100, 101, 100, 32, 109, 101, 109, 98, 101, 114, 32, 53, 48, 48, 46, 48, 48, 32, 50, 48, 48, 48, 46, 48, 48, 32, 102, 97, 109, 105, 108, 121, 32, 49, 48, 48, 48, 46, 48, 48, 32, 52, 48, 48, 48, 46, 48, 48, 32, 114, 117, 108, 101, 32, 53, 32, 105, 102, 32, 40, 32, 112, 114, 111, 99, 32, 57, 57, 50, 48, 48, 32, 57, 57, 51, 48, 48, 32, 97, 110, 100, 32, 110, 111, 116, 32, 109, 111, 100, 32, 53, 57, 32, 41, 32, 117, 110, 108, 101, 115, 115, 32, 111, 117, 116, 32, 115, 101, 116, 32, 99, 111, 118, 101, 114, 32, 121, 101, 115, 32, 99, 111, 105, 110, 115, 32, 50, 48, 48, 48, 32, 101, 110, 100]
def wkT3 : Tx := [112, 108, 97, 110, 32, 101, 109, 98, 101, 100, 100, 101, 100, 32, 120]
def wkP : Pn := ⟨0, 50000, 100000, 200000, 400000, [⟨5, .mk 7 [] [] 0 [.mk 1 [57, 57, 50, 48, 48] [57, 57, 51, 48, 48] 0 [], .mk 6 [] [] 0 [.mk 2 [53, 57] [] 0 []]], [.mk 5 [] [] 0 []], [⟨1, 1⟩, ⟨4, 2000⟩]⟩]⟩
theorem wk_parse : paR wkT1 = .ok wkP := by kernel_rfl
theorem wk_print : prV wkP = wkT2 := by kernel_rfl
theorem wk_ok : prE wkP = 0 := by kernel_rfl
theorem wk_fault : paR wkT3 = .error (4, 14) := by kernel_rfl
theorem wk_size : szW (planW wkP) ≤ 65536 := by decide +kernel
end Go.Proofs.YtfkhehkfeibdpaaGreatDoor.Pl
end
