/-
  Texts put together (merge.py): PCatch, PParA, PParse.
-/
import Derived.Defers
import Derived.Recover
import Derived.Test.YtoibhgoaibjopaaGreatDoorMj27
import Derived.Test.YtoibhgoaibjopaaGreatDoorMj14
import Derived.Test.YtoibhgoaibjopaaGreatDoorMj23
/-
  What the deferred closure of Parse does: of a frame that panics with a fault it lays the fault; of one that returns it does nothing.
-/
section
set_option linter.unusedSimpArgs false
set_option linter.unusedVariables false
set_option maxRecDepth 100000
namespace Go.Proofs.YtoibhgoaibjopaaGreatDoor.Pl
open Go.RowKit
open Wo (Wd WdsAt box_cell box_two keepB heap_far)

theorem catch_idle (p q : Addr) (w : World) :
    CallsD Tryz.prog 23 #[.pointer (some p), .pointer (some q)] .returning w fun e u' w' => e = .returned (.tuple #[]) ∧ u' = .returning ∧ w' = w := by
  refine callsD_of_wpS Tryz.func23 rfl fun c₀ cs hu => ?_
  apply wpS_seq
  apply wpS_region
  simp [wpOpsS, go_sem, recoverD, hu, Tryz.ntmps23, Exit.thenS]
  have et : (#[Value.pointer (some p), Value.pointer (some q)] ++ ((Array.replicate 7 undef).setIfInBounds 1 Value.nilIface).setIfInBounds 0 Value.nilIface) = #[Value.pointer (some p), Value.pointer (some q), Value.nilIface, Value.nilIface, undef, undef, undef, undef, undef] := rfl
  rw [et]
  refine wpS_of_wp ?_
  have hnil : ∀ w : World, (binOp BinOp.neq 20 .nilIface .nilIface).run Tryz.prog w = .ok (.bool false) w := fun _ => by kernel_rfl
  go_wp2
  cases c₀
  simp_all [bodyPostS, results, Tryz.results23]
abbrev z6 : Array Value := #[.int .i64 0, .int .i64 0, .int .i64 0, .int .i64 0, .int .i64 0, .slice none 0 0]
set_option maxHeartbeats 8000000 in
theorem catch_fault (b c : Nat) (f : Int × Nat) (older : List PanicEntry) (w : World) (a0 a1 a2 a3 a4 a5 e0 e1 : Value) (hb : w.heap[b]? = some (.cells #[a0, a1, a2, a3, a4, a5] 24 (0, 0))) (hc : w.heap[c]? = some (.cells #[e0, e1] 38 (0, 0))) (hbc : b ≠ c) :
    CallsD Tryz.prog 23 #[.pointer (some ⟨b, 0, none⟩), .pointer (some ⟨c, 0, none⟩)] (.panicking ({ v := .iface 38 (ftv f), recovered := false } :: older)) w fun e u' w' =>
      e = .returned (.tuple #[]) ∧ u' = .panicking ({ v := .iface 38 (ftv f), recovered := true } :: older) ∧ w' = (put2 (put6 w b (.int .i64 0) (.int .i64 0) (.int .i64 0) (.int .i64 0) (.int .i64 0) (.slice none 0 0)) c (.int .i64 f.1) (.int .i64 (f.2 : Nat))).drew := by
  refine callsD_of_wpS Tryz.func23 rfl fun c₀ cs hu => ?_
  apply wpS_seq
  apply wpS_region
  simp [wpOpsS, go_sem, recoverD, hu, Tryz.ntmps23, Exit.thenS]
  have et : (#[Value.pointer (some ⟨b, 0, none⟩), Value.pointer (some ⟨c, 0, none⟩)] ++ ((Array.replicate 7 undef).setIfInBounds 1 (.iface 38 (ftv f))).setIfInBounds 0 (.iface 38 (ftv f))) = #[Value.pointer (some ⟨b, 0, none⟩), Value.pointer (some ⟨c, 0, none⟩), .iface 38 (ftv f), .iface 38 (ftv f), undef, undef, undef, undef, undef] := rfl
  rw [et]
  refine wpS_of_wp ?_
  have bc0 : w.cell? ⟨b, 0, none⟩ = some a0 := cell_of_row w b 0 _ _ (0, 0) hb
  have bf0 : w.frozen? ⟨b, 0, none⟩ = false := box_froz hb 0
  have bc1 : w.cell? ⟨b, 1, none⟩ = some a1 := cell_of_row w b 1 _ _ (0, 0) hb
  have bf1 : w.frozen? ⟨b, 1, none⟩ = false := box_froz hb 1
  have bc2 : w.cell? ⟨b, 2, none⟩ = some a2 := cell_of_row w b 2 _ _ (0, 0) hb
  have bf2 : w.frozen? ⟨b, 2, none⟩ = false := box_froz hb 2
  have bc3 : w.cell? ⟨b, 3, none⟩ = some a3 := cell_of_row w b 3 _ _ (0, 0) hb
  have bf3 : w.frozen? ⟨b, 3, none⟩ = false := box_froz hb 3
  have bc4 : w.cell? ⟨b, 4, none⟩ = some a4 := cell_of_row w b 4 _ _ (0, 0) hb
  have bf4 : w.frozen? ⟨b, 4, none⟩ = false := box_froz hb 4
  have bc5 : w.cell? ⟨b, 5, none⟩ = some a5 := cell_of_row w b 5 _ _ (0, 0) hb
  have bf5 : w.frozen? ⟨b, 5, none⟩ = false := box_froz hb 5
  have ec0 : w.cell? ⟨c, 0, none⟩ = some e0 := cell_of_row w c 0 _ _ (0, 0) hc
  have ef0 : w.frozen? ⟨c, 0, none⟩ = false := box_froz hc 0
  have ec1 : w.cell? ⟨c, 1, none⟩ = some e1 := cell_of_row w c 1 _ _ (0, 0) hc
  have ef1 : w.frozen? ⟨c, 1, none⟩ = false := box_froz hc 1
  have n1 : ¬ b = c := hbc
  have n2 : ¬ c = b := fun e => hbc e.symm
  have hta : ∀ (v : Value) (w : World), Sem.run Tryz.prog (Instr.typeAssert (.iface 38 v) 20 38 false) w = .ok v w := fun _ _ => by kernel_rfl
  clear hb hc hbc et
  go_wp2
  go_region
  all_goals exact ⟨rfl, _, rfl, .tuple #[], by simp [results, Tryz.results23, go_sem], rfl, rfl, rfl⟩
end Go.Proofs.YtoibhgoaibjopaaGreatDoor.Pl
end

/-
  What plan.Parse answers, as a contract: for every text.
-/
section
set_option linter.unusedSimpArgs false
set_option linter.unusedVariables false
set_option maxRecDepth 100000
namespace Go.Proofs.YtoibhgoaibjopaaGreatDoor.Pl
open Go.RowKit
open Wo (Wd WdsAt box_cell box_two keepB heap_far)

theorem mem_le_sum : ∀ (l : List Nat) (x : Nat), x ∈ l → x ≤ l.sum
  | [], x, h => by cases h
  | y :: r, x, h => by
    rcases List.mem_cons.1 h with rfl | h
    · simp
    · have := mem_le_sum r x h; simp; omega
theorem below_p6 {B : Nat} {w W : World} (h : Below B w W) {p : Nat} (hp : B ≤ p) (a0 a1 a2 a3 a4 a5 : Value) : Below B w (put6 W p a0 a1 a2 a3 a4 a5) :=
  (((((h.setCell (p := ⟨p, 0, none⟩) hp a0).setCell (p := ⟨p, 1, none⟩) hp a1).setCell (p := ⟨p, 2, none⟩) hp a2).setCell (p := ⟨p, 3, none⟩) hp a3).setCell (p := ⟨p, 4, none⟩) hp a4).setCell (p := ⟨p, 5, none⟩) hp a5
theorem below_p2 {B : Nat} {w W : World} (h : Below B w W) {p : Nat} (hp : B ≤ p) (a0 a1 : Value) : Below B w (put2 W p a0 a1) := (h.setCell (p := ⟨p, 0, none⟩) hp a0).setCell (p := ⟨p, 1, none⟩) hp a1
theorem thrownD {P : Program} {fn : Func} {R : Ending → World → Prop} {a : Act} {w : World} {ch : List PanicEntry} (h : Leaves P fn a.tmps R a.defers (.panicking ch) w) : bodyPostD P fn R (.panic ch) a w := h
theorem below_grown {w W : World} {q : Nat} (h : w.grownBy W (some q)) {B : Nat} {v : World} (hb : Below B v w) (hq : B ≤ q) (hB : B ≤ w.heap.size) : Below B v W :=
  hb.trans ⟨h.os, h.tape, h.output, h.size, fun k hk => h.block k (by omega) (fun e => by have := Option.some.inj e; omega)⟩
theorem drew_heap {w : World} {k : Nat} {x : Option Obj} (h : w.heap[k]? = x) : w.drew.heap[k]? = x := h
theorem hp2_same {w : World} {p : Nat} {x0 x1 : Value} {T : TypeId} (h : w.heap[p]? = some (.cells #[x0, x1] T (0, 0))) (a0 a1 : Value) : (put2 w p a0 a1).heap[p]? = some (.cells #[a0, a1] T (0, 0)) :=
  heap_setCell_same _ p 1 _ _ a1 (heap_setCell_same w p 0 _ _ a0 h)
theorem hp2_far {w : World} {k p : Nat} {o : Obj} (h : w.heap[k]? = some o) (hk : k ≠ p) (a0 a1 : Value) : (put2 w p a0 a1).heap[k]? = some o := heap_far (heap_far h hk) hk
theorem hp6_same {w : World} {p : Nat} {x0 x1 x2 x3 x4 x5 : Value} {T : TypeId} (h : w.heap[p]? = some (.cells #[x0, x1, x2, x3, x4, x5] T (0, 0))) (a0 a1 a2 a3 a4 a5 : Value) : (put6 w p a0 a1 a2 a3 a4 a5).heap[p]? = some (.cells #[a0, a1, a2, a3, a4, a5] T (0, 0)) :=
  heap_setCell_same _ p 5 _ _ a5 (heap_setCell_same _ p 4 _ _ a4 (heap_setCell_same _ p 3 _ _ a3 (heap_setCell_same _ p 2 _ _ a2 (heap_setCell_same _ p 1 _ _ a1 (heap_setCell_same w p 0 _ _ a0 h)))))
theorem hp6_far {w : World} {k p : Nat} {o : Obj} (h : w.heap[k]? = some o) (hk : k ≠ p) (a0 a1 a2 a3 a4 a5 : Value) : (put6 w p a0 a1 a2 a3 a4 a5).heap[k]? = some o := heap_far (heap_far (heap_far (heap_far (heap_far (heap_far h hk) hk) hk) hk) hk) hk
/-- A plan that was parsed, or the fault. -/
def ParV (w w' : World) (res : Except (Int × Nat) Pn) (e : Ending) : Prop := match res with
  | .ok p => ∃ (a : Option Addr) (n c : Nat), e = .returned (.tuple #[pnv p (.slice a n c), .agg #[.int .i64 0, .int .i64 0]]) ∧ RusAt (fun b => w.heap.size ≤ b) w' (.slice a n c) p.rules ∧ PnOk p
  | .error f => e = .returned (.tuple #[pnv pn0 (.slice none 0 0), ftv f])
theorem spV_wb {s : Tx} (h : Wo.spE s = 0) : Wb (Wo.spV s) ∧ s.length ≤ 65536 := by
  have hl : s.length ≤ 65536 := by
    unfold Wo.spE at h
    split at h
    · cases h
    · omega
  have hV : Wo.spV s = Wo.wds 0 s := by
    unfold Wo.spE at h
    unfold Wo.spV
    rw [if_neg (by omega)] at h ⊢
    split at h
    · next hg => rw [if_pos hg]
    · cases h
  have hsum := Wo.wds_sum s 0
  have hlen := Wo.wds_len s 0
  rw [hV]
  refine ⟨⟨fun x hx => ?_, by omega⟩, hl⟩
  have h1 : x.1.length ≤ (((Wo.wds 0 s).map (·.1)).map List.length).sum := mem_le_sum _ _ (List.mem_map_of_mem (List.mem_map_of_mem hx))
  have : (((Wo.wds 0 s).map (·.1)).map List.length).sum ≤ s.length := hsum
  omega
set_option maxHeartbeats 16000000 in
theorem parse_bad (s : ByteArray) (w : World) (hs : s.size ≤ maxLen) (hE : ¬ Wo.spE s.data.toList = 0) :
    Calls Tryz.prog 10 #[.string s] w fun e w' => e = .returned (.tuple #[pnv pn0 (.slice none 0 0), ftv (Wo.spE s.data.toList, Wo.spA s.data.toList)]) ∧ Below w.heap.size w w' := by
  have HSP := Lib.hid fun W => Wo.split_any s W hs
  have hE : (Wo.spE s.data.toList != 0) = true := by simpa using hE
  generalize Wo.spE s.data.toList = xe at *
  generalize Wo.spA s.data.toList = xa at *
  have hb0 := below_trans (below_alloc w (.cells #[.int .i64 0, .int .i64 0, .int .i64 0, .int .i64 0, .int .i64 0, .slice none 0 0] 24)) (below_alloc _ (.cells #[.int .i64 0, .int .i64 0] 38))
  have hzz : (w.alloc (.cells #[.int .i64 0, .int .i64 0, .int .i64 0, .int .i64 0, .int .i64 0, .slice none 0 0] 24)).heap.size = w.heap.size + 1 := by simp
  have HP0 := Lib.hid (keepB (heap_alloc_new w (.cells #[.int .i64 0, .int .i64 0, .int .i64 0, .int .i64 0, .int .i64 0, .slice none 0 0] 24)) (below_alloc _ (.cells #[.int .i64 0, .int .i64 0] 38)))
  have HF0 := Lib.hid (heap_alloc_new (w.alloc (.cells #[.int .i64 0, .int .i64 0, .int .i64 0, .int .i64 0, .int .i64 0, .slice none 0 0] 24)) (.cells #[.int .i64 0, .int .i64 0] 38))
  rw [hzz] at HF0
  have HB0 := Lib.hid hb0
  clear hb0 hzz hs
  go_enter_defers Tryz.func10, Tryz.ntmps10
  go_upto_region 1 with fail
  generalize (w.alloc (.cells #[.int .i64 0, .int .i64 0, .int .i64 0, .int .i64 0, .int .i64 0, .slice none 0 0] 24)).alloc (.cells #[.int .i64 0, .int .i64 0] 38) = W0 at *
  go_wp2_with fail
  go_at_call 22
  refine (HSP.out _).mono ?_
  rintro e w1 ⟨⟨u, rfl, hu⟩, hb1⟩
  have HP1 := Lib.hid (keepB HP0.out hb1)
  have HF1 := Lib.hid (keepB HF0.out hb1)
  have HB1 := Lib.hid (below_trans HB0.out hb1)
  obtain ⟨ua, uc, rfl, -, -⟩ := WdsAt.form hu
  obtain ⟨e0, e1, e2, e3⟩ := box_two HF1.out
  obtain ⟨p0, p1, p2, p3, p4, p5⟩ := bsix HP1.out
  have q0 := box_froz HP1.out 0
  have q1 := box_froz HP1.out 1
  have q2 := box_froz HP1.out 2
  have q3 := box_froz HP1.out 3
  have q4 := box_froz HP1.out 4
  have q5 := box_froz HP1.out 5
  clear hb1 hu HP0 HF0 HB0 HSP
  go_wp2
  go_region
  all_goals
    go_wp2
    have hpf := drew_heap (hp2_far (hp6_same (hp2_far HP1.out (show w.heap.size ≠ w.heap.size + 1 by omega) (.int .i64 xe) (.int .i64 (xa : Nat))) (.int .i64 0) (.int .i64 0) (.int .i64 0) (.int .i64 0) (.int .i64 0) (.slice none 0 0)) (show w.heap.size ≠ w.heap.size + 1 by omega) (.int .i64 xe) (.int .i64 (xa : Nat)))
    have hff := drew_heap (hp2_same (hp6_far (hp2_same HF1.out (.int .i64 xe) (.int .i64 (xa : Nat))) (show w.heap.size + 1 ≠ w.heap.size by omega) (.int .i64 0) (.int .i64 0) (.int .i64 0) (.int .i64 0) (.int .i64 0) (.slice none 0 0)) (.int .i64 xe) (.int .i64 (xa : Nat)))
    have hbf := Below.drew (below_p2 (below_p6 (below_p2 HB1.out (show w.heap.size ≤ w.heap.size + 1 by omega) (.int .i64 xe) (.int .i64 (xa : Nat))) (Nat.le_refl _) (.int .i64 0) (.int .i64 0) (.int .i64 0) (.int .i64 0) (.int .i64 0) (.slice none 0 0)) (show w.heap.size ≤ w.heap.size + 1 by omega) (.int .i64 xe) (.int .i64 (xa : Nat)))
    obtain ⟨r0, r1, r2, r3, r4, r5⟩ := bsix hpf
    obtain ⟨t0, t1, -, -⟩ := box_two hff
    clear hpf hff
    generalize (put2 (put6 (put2 w1 (w.heap.size + 1) (.int .i64 xe) (.int .i64 (xa : Nat))) w.heap.size (.int .i64 0) (.int .i64 0) (.int .i64 0) (.int .i64 0) (.int .i64 0) (.slice none 0 0)) (w.heap.size + 1) (.int .i64 xe) (.int .i64 (xa : Nat))).drew = F at *
    exact ⟨.tuple #[pnv pn0 (.slice none 0 0), ftv (xe, xa)], by simp [results, Tryz.results10, go_sem, r0, r1, r2, r3, r4, r5, t0, t1, pn0], rfl, hbf⟩
end Go.Proofs.YtoibhgoaibjopaaGreatDoor.Pl
end

/-
  What plan.Parse answers, as a contract: for every text.
-/
section
set_option linter.unusedSimpArgs false
set_option linter.unusedVariables false
set_option maxRecDepth 100000
namespace Go.Proofs.YtoibhgoaibjopaaGreatDoor.Pl
open Go.RowKit
open Wo (Wd WdsAt box_cell box_two keepB heap_far)

set_option maxHeartbeats 16000000 in
theorem parse_good (s : ByteArray) (w : World) (hs : s.size ≤ maxLen) (hE : Wo.spE s.data.toList = 0) :
    Calls Tryz.prog 10 #[.string s] w fun e w' => ParV w w' (pPlan s.size (Wo.spV s.data.toList)) e ∧ Below w.heap.size w w' := by
  have HSP := Lib.hid fun W => Wo.split_any s W hs
  have HWB := Lib.hid (spV_wb hE).1
  rw [hE] at HSP
  have HPE := Lib.hid (plan_eq s.size (Wo.spV s.data.toList))
  generalize Wo.spA s.data.toList = xa at *
  generalize Wo.spV s.data.toList = l at *
  generalize pPlan s.size l = RR at *
  have hb0 := below_trans (below_alloc w (.cells z6 24)) (below_alloc _ (.cells #[.int .i64 0, .int .i64 0] 38))
  have hzz : (w.alloc (.cells z6 24)).heap.size = w.heap.size + 1 := by simp
  have HP0 := Lib.hid (keepB (heap_alloc_new w (.cells z6 24)) (below_alloc _ (.cells #[.int .i64 0, .int .i64 0] 38)))
  have HF0 := Lib.hid (heap_alloc_new (w.alloc (.cells z6 24)) (.cells #[.int .i64 0, .int .i64 0] 38))
  rw [hzz] at HF0
  have HB0 := Lib.hid hb0
  have hz0 : ((w.alloc (.cells z6 24)).alloc (.cells #[.int .i64 0, .int .i64 0] 38)).heap.size = w.heap.size + 2 := by simp
  have HZ0 := Lib.hid hz0
  clear hb0 hzz hs hE hz0
  have hmf : ∀ (fn : Fn) (first cap : Array Value) (w : World), (Instr.makeFunc fn first cap).run Tryz.prog w = .ok (.func fn first cap) w := fun _ _ _ _ => rfl
  go_enter_defers Tryz.func10, Tryz.ntmps10
  go_upto_region 1 with fail
  generalize (w.alloc (.cells z6 24)).alloc (.cells #[.int .i64 0, .int .i64 0] 38) = W0 at *
  go_wp2_with fail
  go_at_call 22
  refine (HSP.out _).mono ?_
  rintro e w1 ⟨⟨u, rfl, hu⟩, hb1⟩
  have hs1 := hb1.size
  have HP1 := Lib.hid (keepB HP0.out hb1)
  have HF1 := Lib.hid (keepB HF0.out hb1)
  have HB1 := Lib.hid (below_trans HB0.out hb1)
  rw [HZ0.out] at hs1 hu
  have HU := Lib.hid hu
  obtain ⟨ua, uc, rfl, -, -⟩ := WdsAt.form hu
  obtain ⟨e0, e1, e2, e3⟩ := box_two HF1.out
  have HW1 : Hid (WdsAt (fun b => b < w1.heap.size) (put2 w1 (w.heap.size + 1) (.int .i64 0) (.int .i64 (xa : Nat))) (.slice ua l.length uc) l) := by
    refine (HU.out.move (K' := fun b => w.heap.size + 2 ≤ b) ((moves_set _ _ (by omega)).trans (moves_set _ _ (by omega)))).move (moves_weak _ fun b hb _ => ?_)
    simpa [World.setCell] using hb
  have hzp : (put2 w1 (w.heap.size + 1) (.int .i64 0) (.int .i64 (xa : Nat))).heap.size = w1.heap.size := by simp [World.setCell]
  have HP2 : Hid ((put2 w1 (w.heap.size + 1) (.int .i64 0) (.int .i64 (xa : Nat))).heap[w.heap.size]? = _) := heap_far (heap_far HP1.out (by omega)) (by omega)
  have HF2a := heap_setCell_same w1 (w.heap.size + 1) 0 _ _ (.int .i64 0) HF1.out
  have HF2 : Hid ((put2 w1 (w.heap.size + 1) (.int .i64 0) (.int .i64 (xa : Nat))).heap[w.heap.size + 1]? = some (.cells #[.int .i64 0, .int .i64 (xa : Nat)] 38 (0, 0))) := heap_setCell_same _ (w.heap.size + 1) 1 _ _ (.int .i64 (xa : Nat)) HF2a
  have HB2 := Lib.hid (below_p2 HB1.out (p := w.heap.size + 1) (by omega) (.int .i64 0) (.int .i64 (xa : Nat)))
  have HZP := Lib.hid hzp
  clear hb1 hu HP0 HF0 HB0 HSP HP1 HF1 HZ0 HU HF2a HB1 hzp
  go_upto_region 5 with fail
  clear e0 e1 e2 e3
  simp only [put2] at HW1 HP2 HF2 HB2 HZP
  generalize (w1.setCell ⟨w.heap.size + 1, 0, none⟩ (.int .i64 0)).setCell ⟨w.heap.size + 1, 1, none⟩ (.int .i64 (xa : Nat)) = W1 at *
  have hbr := below_alloc W1 (.cells #[.slice ua l.length uc, .int .i64 (s.size : Nat)] 58)
  have hq : W1.heap.size = w1.heap.size := HZP.out
  have HR : Hid (RdAt W1.heap.size s.size l (W1.alloc (.cells #[.slice ua l.length uc, .int .i64 (s.size : Nat)] 58))) := ⟨_, heap_alloc_new W1 _, (HW1.out.move (moves_new hbr)).move (moves_weak _ fun b _ hk => by rw [hq]; exact hk), HWB.out⟩
  have HPL := Lib.hid (plan_any W1.heap.size s.size l _ HR.out)
  have HP3 := Lib.hid (keepB HP2.out hbr)
  have HF3 := Lib.hid (keepB HF2.out hbr)
  have hzW : w.heap.size + 2 ≤ W1.heap.size := by omega
  have HB3 := Lib.hid (below_trans HB2.out hbr)
  have hz3 : (W1.alloc (.cells #[.slice ua l.length uc, .int .i64 (s.size : Nat)] 58)).heap.size = W1.heap.size + 1 := by simp
  have HZ3 := Lib.hid hz3
  clear hbr HR HW1 HP2 HF2 HB2 HZP hq hz3
  go_upto_region 6 with fail
  generalize W1.alloc (.cells #[.slice ua l.length uc, .int .i64 (s.size : Nat)] 58) = W2 at *
  generalize W1.heap.size = q at *
  go_wp2_with fail
  go_at_call 24
  refine HPL.out.mono ?_
  rintro e w3 ⟨hg3, ha3⟩
  have HP4 := Lib.hid (grown_heap HP3.out hg3 (by omega))
  have HF4 := Lib.hid (grown_heap HF3.out hg3 (by omega))
  have HB4 := Lib.hid (below_grown hg3 HB3.out (by omega) (by have := HZ3.out; omega))
  clear hg3 HP3 HF3 HB3 HPL
  cases hc : pPlanB s.size l with
  | error fl =>
    rw [hc] at ha3 HPE
    obtain rfl := ha3
    refine thrownD ?_
    refine leaves_cons (f := 23) (args := #[.pointer (some ⟨w.heap.size, 0, none⟩), .pointer (some ⟨w.heap.size + 1, 0, none⟩)]) (by simp) (by simp [go_sem]) ?_
    refine (catch_fault w.heap.size (w.heap.size + 1) fl [] w3 _ _ _ _ _ _ _ _ HP4.out HF4.out (by omega)).mono ?_
    rintro e u' w4 ⟨rfl, rfl, rfl⟩
    have hpf := drew_heap (hp2_far (hp6_same HP4.out (.int .i64 0) (.int .i64 0) (.int .i64 0) (.int .i64 0) (.int .i64 0) (.slice none 0 0)) (show w.heap.size ≠ w.heap.size + 1 by omega) (.int .i64 fl.1) (.int .i64 (fl.2 : Nat)))
    have hff := drew_heap (hp2_same (hp6_far HF4.out (show w.heap.size + 1 ≠ w.heap.size by omega) (.int .i64 0) (.int .i64 0) (.int .i64 0) (.int .i64 0) (.int .i64 0) (.slice none 0 0)) (.int .i64 fl.1) (.int .i64 (fl.2 : Nat)))
    have hbf := Below.drew (below_p2 (below_p6 HB4.out (Nat.le_refl _) (.int .i64 0) (.int .i64 0) (.int .i64 0) (.int .i64 0) (.int .i64 0) (.slice none 0 0)) (show w.heap.size ≤ w.heap.size + 1 by omega) (.int .i64 fl.1) (.int .i64 (fl.2 : Nat)))
    obtain ⟨r0, r1, r2, r3, r4, r5⟩ := bsix hpf
    obtain ⟨t0, t1, -, -⟩ := box_two hff
    clear hpf hff
    obtain ⟨F, hF⟩ : ∃ F, F = (put2 (put6 w3 w.heap.size (.int .i64 0) (.int .i64 0) (.int .i64 0) (.int .i64 0) (.int .i64 0) (.slice none 0 0)) (w.heap.size + 1) (.int .i64 fl.1) (.int .i64 (fl.2 : Nat))).drew := ⟨_, rfl⟩
    rw [← hF] at r0 r1 r2 r3 r4 r5 t0 t1 hbf ⊢
    clear hF
    refine ⟨.tuple #[pnv pn0 (.slice none 0 0), ftv fl], by simp [results, Tryz.results10, go_sem, r0, r1, r2, r3, r4, r5, t0, t1, pn0], ?_, hbf⟩
    rw [HPE.out]
    rfl
  | ok z =>
    obtain ⟨p, lz⟩ := z
    rw [hc] at ha3 HPE
    obtain ⟨⟨v, rfl, ra, rn, rc, rfl, hru, hpo⟩, -⟩ := ha3
    have HC := Lib.hid hc
    have HPO := Lib.hid hpo
    have hz2 : w.heap.size + 2 ≤ W2.heap.size := by have := HZ3.out; omega
    have HR5 := Lib.hid (hru.move (moves_put6 w3 (.int .i64 p.mode) (.int .i64 p.indDed) (.int .i64 p.famDed) (.int .i64 p.indOop) (.int .i64 p.famOop) (.slice ra rn rc) (show w.heap.size < W2.heap.size by omega)))
    have HP5 := Lib.hid (hp6_same HP4.out (.int .i64 p.mode) (.int .i64 p.indDed) (.int .i64 p.famDed) (.int .i64 p.indOop) (.int .i64 p.famOop) (.slice ra rn rc))
    have HF5 := Lib.hid (hp6_far HF4.out (show w.heap.size + 1 ≠ w.heap.size by omega) (.int .i64 p.mode) (.int .i64 p.indDed) (.int .i64 p.famDed) (.int .i64 p.indOop) (.int .i64 p.famOop) (.slice ra rn rc))
    have HB5 := Lib.hid (below_p6 HB4.out (Nat.le_refl _) (.int .i64 p.mode) (.int .i64 p.indDed) (.int .i64 p.famDed) (.int .i64 p.indOop) (.int .i64 p.famOop) (.slice ra rn rc))
    obtain ⟨p0, p1, p2, p3, p4, p5⟩ := bsix HP4.out
    have q0 := box_froz HP4.out 0
    have q1 := box_froz HP4.out 1
    have q2 := box_froz HP4.out 2
    have q3 := box_froz HP4.out 3
    have q4 := box_froz HP4.out 4
    have q5 := box_froz HP4.out 5
    clear hc hru hpo HP4 HF4 HB4
    go_upto_region 7 with fail
    simp only [put6] at HR5 HP5 HF5 HB5
    clear p0 p1 p2 p3 p4 p5 q0 q1 q2 q3 q4 q5
    generalize (((((w3.setCell ⟨w.heap.size, 0, none⟩ (.int .i64 p.mode)).setCell ⟨w.heap.size, 1, none⟩ (.int .i64 p.indDed)).setCell ⟨w.heap.size, 2, none⟩ (.int .i64 p.famDed)).setCell ⟨w.heap.size, 3, none⟩ (.int .i64 p.indOop)).setCell ⟨w.heap.size, 4, none⟩ (.int .i64 p.famOop)).setCell ⟨w.heap.size, 5, none⟩ (.slice ra rn rc) = W4 at *
    have HCK := Lib.hid (check_any p (.slice ra rn rc) W4 (HR5.out.move (moves_weak _ fun _ _ _ => trivial)))
    obtain ⟨p0, p1, p2, p3, p4, p5⟩ := bsix HP5.out
    by_cases hpb : planB p = true
    · have he : checkE p = 0 := by unfold checkE; rw [if_pos hpb]
      have hpe := HPE.out
      rw [if_pos hpb] at hpe
      have HPE2 := Lib.hid hpe
      rw [he] at HCK
      clear he hpe HPE hpb
      go_wp2_with fail
      go_at_call 13
      refine HCK.out.mono ?_
      rintro e w5 ⟨rfl, hb5⟩
      have HP6 := Lib.hid (keepB HP5.out hb5)
      have HF6 := Lib.hid (keepB HF5.out hb5)
      have HB6 := Lib.hid (below_trans HB5.out hb5)
      have HR6 := Lib.hid ((HR5.out.move (moves_new hb5)).move (moves_low _ hz2))
      clear hb5 HP5 HF5 HB5 HR5 HCK p0 p1 p2 p3 p4 p5
      obtain ⟨u0, u1, u2, u3, u4, u5⟩ := bsix HP6.out
      obtain ⟨e0, e1, e2, e3⟩ := box_two HF6.out
      have uf0 := box_froz HP6.out 0
      have uf1 := box_froz HP6.out 1
      have uf2 := box_froz HP6.out 2
      have uf3 := box_froz HP6.out 3
      have uf4 := box_froz HP6.out 4
      have uf5 := box_froz HP6.out 5
      go_wp2
      refine leaves_cons (f := 23) (args := #[.pointer (some ⟨w.heap.size, 0, none⟩), .pointer (some ⟨w.heap.size + 1, 0, none⟩)]) (by simp) (by simp [go_sem]) ?_
      refine (catch_idle ⟨w.heap.size, 0, none⟩ ⟨w.heap.size + 1, 0, none⟩ _).mono ?_
      rintro e u' w7 ⟨rfl, rfl, rfl⟩
      have hpf := hp2_far (hp6_same HP6.out (.int .i64 p.mode) (.int .i64 p.indDed) (.int .i64 p.famDed) (.int .i64 p.indOop) (.int .i64 p.famOop) (.slice ra rn rc)) (show w.heap.size ≠ w.heap.size + 1 by omega) (.int .i64 0) (.int .i64 0)
      have hff := hp2_same (hp6_far HF6.out (show w.heap.size + 1 ≠ w.heap.size by omega) (.int .i64 p.mode) (.int .i64 p.indDed) (.int .i64 p.famDed) (.int .i64 p.indOop) (.int .i64 p.famOop) (.slice ra rn rc)) (.int .i64 0) (.int .i64 0)
      have hbf := below_p2 (below_p6 HB6.out (Nat.le_refl _) (.int .i64 p.mode) (.int .i64 p.indDed) (.int .i64 p.famDed) (.int .i64 p.indOop) (.int .i64 p.famOop) (.slice ra rn rc)) (show w.heap.size ≤ w.heap.size + 1 by omega) (.int .i64 0) (.int .i64 0)
      have hmv : Moves (fun b => w.heap.size + 2 ≤ b) (fun b => w.heap.size ≤ b) w5 (put2 (put6 w5 w.heap.size (.int .i64 p.mode) (.int .i64 p.indDed) (.int .i64 p.famDed) (.int .i64 p.indOop) (.int .i64 p.famOop) (.slice ra rn rc)) (w.heap.size + 1) (.int .i64 0) (.int .i64 0)) := ((moves_put6 w5 (.int .i64 p.mode) (.int .i64 p.indDed) (.int .i64 p.famDed) (.int .i64 p.indOop) (.int .i64 p.famOop) (.slice ra rn rc) (show w.heap.size < w.heap.size + 2 by omega)).trans ((moves_set _ _ (by omega)).trans (moves_set _ _ (by omega)))).trans (moves_low _ (by omega))
      have hRu := HR6.out.move hmv
      obtain ⟨r0, r1, r2, r3, r4, r5⟩ := bsix hpf
      obtain ⟨t0, t1, -, -⟩ := box_two hff
      clear hpf hff hmv u0 u1 u2 u3 u4 u5 e0 e1 e2 e3
      simp only [put2, put6] at r0 r1 r2 r3 r4 r5 t0 t1 hbf hRu
      generalize (((((((w5.setCell ⟨w.heap.size, 0, none⟩ (.int .i64 p.mode)).setCell ⟨w.heap.size, 1, none⟩ (.int .i64 p.indDed)).setCell ⟨w.heap.size, 2, none⟩ (.int .i64 p.famDed)).setCell ⟨w.heap.size, 3, none⟩ (.int .i64 p.indOop)).setCell ⟨w.heap.size, 4, none⟩ (.int .i64 p.famOop)).setCell ⟨w.heap.size, 5, none⟩ (.slice ra rn rc)).setCell ⟨w.heap.size + 1, 0, none⟩ (.int .i64 0)).setCell ⟨w.heap.size + 1, 1, none⟩ (.int .i64 0) = F at *
      refine ⟨.tuple #[pnv p (.slice ra rn rc), .agg #[.int .i64 0, .int .i64 0]], by simp [results, Tryz.results10, go_sem, r0, r1, r2, r3, r4, r5, t0, t1, pn0], ?_, hbf⟩
      rw [HPE2.out]
      exact ⟨_, _, _, rfl, hRu, HPO.out⟩
    · have he : checkE p = 15 := by unfold checkE; rw [if_neg hpb]
      have hpe := HPE.out
      rw [if_neg hpb] at hpe
      have HPE2 := Lib.hid hpe
      rw [he] at HCK
      clear he hpe HPE hpb
      go_wp2_with fail
      go_at_call 13
      refine HCK.out.mono ?_
      rintro e w5 ⟨rfl, hb5⟩
      have HP6 := Lib.hid (keepB HP5.out hb5)
      have HF6 := Lib.hid (keepB HF5.out hb5)
      have HB6 := Lib.hid (below_trans HB5.out hb5)
      have HR6 := Lib.hid ((HR5.out.move (moves_new hb5)).move (moves_low _ hz2))
      clear hb5 HP5 HF5 HB5 HR5 HCK p0 p1 p2 p3 p4 p5
      obtain ⟨u0, u1, u2, u3, u4, u5⟩ := bsix HP6.out
      obtain ⟨e0, e1, e2, e3⟩ := box_two HF6.out
      have uf0 := box_froz HP6.out 0
      have uf1 := box_froz HP6.out 1
      have uf2 := box_froz HP6.out 2
      have uf3 := box_froz HP6.out 3
      have uf4 := box_froz HP6.out 4
      have uf5 := box_froz HP6.out 5
      go_wp2
      refine leaves_cons (f := 23) (args := #[.pointer (some ⟨w.heap.size, 0, none⟩), .pointer (some ⟨w.heap.size + 1, 0, none⟩)]) (by simp) (by simp [go_sem]) ?_
      refine (catch_idle ⟨w.heap.size, 0, none⟩ ⟨w.heap.size + 1, 0, none⟩ _).mono ?_
      rintro e u' w7 ⟨rfl, rfl, rfl⟩
      have hpf := hp2_far (hp6_same HP6.out (.int .i64 0) (.int .i64 0) (.int .i64 0) (.int .i64 0) (.int .i64 0) (.slice none 0 0)) (show w.heap.size ≠ w.heap.size + 1 by omega) (.int .i64 15) (.int .i64 0)
      have hff := hp2_same (hp6_far HF6.out (show w.heap.size + 1 ≠ w.heap.size by omega) (.int .i64 0) (.int .i64 0) (.int .i64 0) (.int .i64 0) (.int .i64 0) (.slice none 0 0)) (.int .i64 15) (.int .i64 0)
      have hbf := below_p2 (below_p6 HB6.out (Nat.le_refl _) (.int .i64 0) (.int .i64 0) (.int .i64 0) (.int .i64 0) (.int .i64 0) (.slice none 0 0)) (show w.heap.size ≤ w.heap.size + 1 by omega) (.int .i64 15) (.int .i64 0)
      have hmv : Moves (fun b => w.heap.size + 2 ≤ b) (fun b => w.heap.size ≤ b) w5 (put2 (put6 w5 w.heap.size (.int .i64 0) (.int .i64 0) (.int .i64 0) (.int .i64 0) (.int .i64 0) (.slice none 0 0)) (w.heap.size + 1) (.int .i64 15) (.int .i64 0)) := ((moves_put6 w5 (.int .i64 0) (.int .i64 0) (.int .i64 0) (.int .i64 0) (.int .i64 0) (.slice none 0 0) (show w.heap.size < w.heap.size + 2 by omega)).trans ((moves_set _ _ (by omega)).trans (moves_set _ _ (by omega)))).trans (moves_low _ (by omega))
      have hRu := HR6.out.move hmv
      obtain ⟨r0, r1, r2, r3, r4, r5⟩ := bsix hpf
      obtain ⟨t0, t1, -, -⟩ := box_two hff
      clear hpf hff hmv u0 u1 u2 u3 u4 u5 e0 e1 e2 e3
      simp only [put2, put6] at r0 r1 r2 r3 r4 r5 t0 t1 hbf hRu
      generalize (((((((w5.setCell ⟨w.heap.size, 0, none⟩ (.int .i64 0)).setCell ⟨w.heap.size, 1, none⟩ (.int .i64 0)).setCell ⟨w.heap.size, 2, none⟩ (.int .i64 0)).setCell ⟨w.heap.size, 3, none⟩ (.int .i64 0)).setCell ⟨w.heap.size, 4, none⟩ (.int .i64 0)).setCell ⟨w.heap.size, 5, none⟩ (.slice none 0 0)).setCell ⟨w.heap.size + 1, 0, none⟩ (.int .i64 15)).setCell ⟨w.heap.size + 1, 1, none⟩ (.int .i64 0) = F at *
      refine ⟨.tuple #[pnv pn0 (.slice none 0 0), .agg #[.int .i64 15, .int .i64 0]], by simp [results, Tryz.results10, go_sem, r0, r1, r2, r3, r4, r5, t0, t1, pn0], ?_, hbf⟩
      rw [HPE2.out]
      exact rfl
/-- What Parse answers: every text. -/
theorem parse_any (s : ByteArray) (w : World) (hs : s.size ≤ maxLen) :
    Calls Tryz.prog 10 #[.string s] w fun e w' => ParV w w' (paR s.data.toList) e ∧ Below w.heap.size w w' := by
  by_cases hE : Wo.spE s.data.toList = 0
  · have e : paR s.data.toList = pPlan s.size (Wo.spV s.data.toList) := by unfold paR; rw [if_pos hE, show s.data.toList.length = s.size from (Lib.size_eq s).symm]
    rw [e]
    exact parse_good s w hs hE
  · have e : paR s.data.toList = .error (Wo.spE s.data.toList, Wo.spA s.data.toList) := by unfold paR; rw [if_neg hE]
    rw [e]
    exact parse_bad s w hs hE
end Go.Proofs.YtoibhgoaibjopaaGreatDoor.Pl
end
