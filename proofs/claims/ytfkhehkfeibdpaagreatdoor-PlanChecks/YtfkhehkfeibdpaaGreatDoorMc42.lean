/-
  Texts put together (merge.py): PCatch, PParA.
-/
import Derived.Defers
import Derived.Recover
import Derived.Test.YtfkhehkfeibdpaaGreatDoorMc41
import Derived.Test.YtfkhehkfeibdpaaGreatDoorMc22
import Derived.Test.YtfkhehkfeibdpaaGreatDoorMc36
/-
  What the deferred closure of Parse does: of a frame that panics with a fault it lays the fault; of one that returns it does nothing.
-/
section
set_option linter.unusedSimpArgs false
set_option linter.unusedVariables false
set_option maxRecDepth 100000
namespace Go.Proofs.YtfkhehkfeibdpaaGreatDoor.Pl
open Go.RowKit
open Wo (Wd WdsAt box_cell box_two keepB heap_far)

theorem catch_idle (p q : Addr) (w : World) :
    CallsD Tryz.prog 27 #[.pointer (some p), .pointer (some q)] .returning w fun e u' w' => e = .returned (.tuple #[]) ∧ u' = .returning ∧ w' = w := by
  refine callsD_of_wpS Tryz.func27 rfl fun c₀ cs hu => ?_
  apply wpS_seq
  apply wpS_region
  simp [wpOpsS, go_sem, recoverD, hu, Tryz.ntmps27, Exit.thenS]
  have et : (#[Value.pointer (some p), Value.pointer (some q)] ++ ((Array.replicate 7 undef).setIfInBounds 1 Value.nilIface).setIfInBounds 0 Value.nilIface) = #[Value.pointer (some p), Value.pointer (some q), Value.nilIface, Value.nilIface, undef, undef, undef, undef, undef] := rfl
  rw [et]
  refine wpS_of_wp ?_
  have hnil : ∀ w : World, (binOp BinOp.neq 20 .nilIface .nilIface).run Tryz.prog w = .ok (.bool false) w := fun _ => by kernel_rfl
  go_wp2
  cases c₀
  simp_all [bodyPostS, results, Tryz.results27]
abbrev z6 : Array Value := #[.int .i64 0, .int .i64 0, .int .i64 0, .int .i64 0, .int .i64 0, .slice none 0 0]
set_option maxHeartbeats 8000000 in
theorem catch_fault (b c : Nat) (f : Int × Nat) (older : List PanicEntry) (w : World) (a0 a1 a2 a3 a4 a5 e0 e1 : Value) (hb : w.heap[b]? = some (.cells #[a0, a1, a2, a3, a4, a5] 24 (0, 0))) (hc : w.heap[c]? = some (.cells #[e0, e1] 32 (0, 0))) (hbc : b ≠ c) :
    CallsD Tryz.prog 27 #[.pointer (some ⟨b, 0, none⟩), .pointer (some ⟨c, 0, none⟩)] (.panicking ({ v := .iface 32 (ftv f), recovered := false } :: older)) w fun e u' w' =>
      e = .returned (.tuple #[]) ∧ u' = .panicking ({ v := .iface 32 (ftv f), recovered := true } :: older) ∧ w' = (put2 (put6 w b (.int .i64 0) (.int .i64 0) (.int .i64 0) (.int .i64 0) (.int .i64 0) (.slice none 0 0)) c (.int .i64 f.1) (.int .i64 (f.2 : Nat))).drew := by
  refine callsD_of_wpS Tryz.func27 rfl fun c₀ cs hu => ?_
  apply wpS_seq
  apply wpS_region
  simp [wpOpsS, go_sem, recoverD, hu, Tryz.ntmps27, Exit.thenS]
  have et : (#[Value.pointer (some ⟨b, 0, none⟩), Value.pointer (some ⟨c, 0, none⟩)] ++ ((Array.replicate 7 undef).setIfInBounds 1 (.iface 32 (ftv f))).setIfInBounds 0 (.iface 32 (ftv f))) = #[Value.pointer (some ⟨b, 0, none⟩), Value.pointer (some ⟨c, 0, none⟩), .iface 32 (ftv f), .iface 32 (ftv f), undef, undef, undef, undef, undef] := rfl
  rw [et]
  refine wpS_of_wp ?_
  have bc0 : w.cell? ⟨b, 0, none⟩ = some a0 := cell_of_row w b 0 _ _ (0, 0) hb
  have bf0 : w.frozen? ⟨b, 0, none⟩ = false := box_froz hb 0
  have bc1 : w.cell? ⟨b, 1, none⟩ = some a1 := cell_of_row w b 1 _ _ (0, 0) hb
  have bf1 : w.frozen? ⟨b, 1, none⟩ = false := box_froz hb 1
  have bc2 : w.cell? ⟨b, 2, none⟩ = some a2 := cell_of_row w b 2 _ _ (0, 0) hb
  have bf2 : w.frozen? ⟨b, 2, none⟩ = false := box_froz hb 2
  have bc3 : w.cell? ⟨b, 3, none⟩ = some a3 := cell_of_row w b 3 _ _ (0, 0) hb
  have bf3 : w.frozen? ⟨b, 3, none⟩ = false := box_froz hb 3
  have bc4 : w.cell? ⟨b, 4, none⟩ = some a4 := cell_of_row w b 4 _ _ (0, 0) hb
  have bf4 : w.frozen? ⟨b, 4, none⟩ = false := box_froz hb 4
  have bc5 : w.cell? ⟨b, 5, none⟩ = some a5 := cell_of_row w b 5 _ _ (0, 0) hb
  have bf5 : w.frozen? ⟨b, 5, none⟩ = false := box_froz hb 5
  have ec0 : w.cell? ⟨c, 0, none⟩ = some e0 := cell_of_row w c 0 _ _ (0, 0) hc
  have ef0 : w.frozen? ⟨c, 0, none⟩ = false := box_froz hc 0
  have ec1 : w.cell? ⟨c, 1, none⟩ = some e1 := cell_of_row w c 1 _ _ (0, 0) hc
  have ef1 : w.frozen? ⟨c, 1, none⟩ = false := box_froz hc 1
  have n1 : ¬ b = c := hbc
  have n2 : ¬ c = b := fun e => hbc e.symm
  have hta : ∀ (v : Value) (w : World), Sem.run Tryz.prog (Instr.typeAssert (.iface 32 v) 20 32 false) w = .ok v w := fun _ _ => by kernel_rfl
  clear hb hc hbc et
  go_wp2
  go_region
  all_goals exact ⟨rfl, _, rfl, .tuple #[], by simp [results, Tryz.results27, go_sem], rfl, rfl, rfl⟩
end Go.Proofs.YtfkhehkfeibdpaaGreatDoor.Pl
end

/-
  What plan.Parse answers, as a contract: for every text.
-/
section
set_option linter.unusedSimpArgs false
set_option linter.unusedVariables false
set_option maxRecDepth 100000
namespace Go.Proofs.YtfkhehkfeibdpaaGreatDoor.Pl
open Go.RowKit
open Wo (Wd WdsAt box_cell box_two keepB heap_far)

theorem mem_le_sum : ∀ (l : List Nat) (x : Nat), x ∈ l → x ≤ l.sum
  | [], x, h => by cases h
  | y :: r, x, h => by
    rcases List.mem_cons.1 h with rfl | h
    · simp
    · have := mem_le_sum r x h; simp; omega
theorem below_p6 {B : Nat} {w W : World} (h : Below B w W) {p : Nat} (hp : B ≤ p) (a0 a1 a2 a3 a4 a5 : Value) : Below B w (put6 W p a0 a1 a2 a3 a4 a5) :=
  (((((h.setCell (p := ⟨p, 0, none⟩) hp a0).setCell (p := ⟨p, 1, none⟩) hp a1).setCell (p := ⟨p, 2, none⟩) hp a2).setCell (p := ⟨p, 3, none⟩) hp a3).setCell (p := ⟨p, 4, none⟩) hp a4).setCell (p := ⟨p, 5, none⟩) hp a5
theorem below_p2 {B : Nat} {w W : World} (h : Below B w W) {p : Nat} (hp : B ≤ p) (a0 a1 : Value) : Below B w (put2 W p a0 a1) := (h.setCell (p := ⟨p, 0, none⟩) hp a0).setCell (p := ⟨p, 1, none⟩) hp a1
theorem thrownD {P : Program} {fn : Func} {R : Ending → World → Prop} {a : Act} {w : World} {ch : List PanicEntry} (h : Leaves P fn a.tmps R a.defers (.panicking ch) w) : bodyPostD P fn R (.panic ch) a w := h
theorem below_grown {w W : World} {q : Nat} (h : w.grownBy W (some q)) {B : Nat} {v : World} (hb : Below B v w) (hq : B ≤ q) (hB : B ≤ w.heap.size) : Below B v W :=
  hb.trans ⟨h.os, h.tape, h.output, h.size, fun k hk => h.block k (by omega) (fun e => by have := Option.some.inj e; omega)⟩
theorem drew_heap {w : World} {k : Nat} {x : Option Obj} (h : w.heap[k]? = x) : w.drew.heap[k]? = x := h
theorem hp2_same {w : World} {p : Nat} {x0 x1 : Value} {T : TypeId} (h : w.heap[p]? = some (.cells #[x0, x1] T (0, 0))) (a0 a1 : Value) : (put2 w p a0 a1).heap[p]? = some (.cells #[a0, a1] T (0, 0)) :=
  heap_setCell_same _ p 1 _ _ a1 (heap_setCell_same w p 0 _ _ a0 h)
theorem hp2_far {w : World} {k p : Nat} {o : Obj} (h : w.heap[k]? = some o) (hk : k ≠ p) (a0 a1 : Value) : (put2 w p a0 a1).heap[k]? = some o := heap_far (heap_far h hk) hk
theorem hp6_same {w : World} {p : Nat} {x0 x1 x2 x3 x4 x5 : Value} {T : TypeId} (h : w.heap[p]? = some (.cells #[x0, x1, x2, x3, x4, x5] T (0, 0))) (a0 a1 a2 a3 a4 a5 : Value) : (put6 w p a0 a1 a2 a3 a4 a5).heap[p]? = some (.cells #[a0, a1, a2, a3, a4, a5] T (0, 0)) :=
  heap_setCell_same _ p 5 _ _ a5 (heap_setCell_same _ p 4 _ _ a4 (heap_setCell_same _ p 3 _ _ a3 (heap_setCell_same _ p 2 _ _ a2 (heap_setCell_same _ p 1 _ _ a1 (heap_setCell_same w p 0 _ _ a0 h)))))
theorem hp6_far {w : World} {k p : Nat} {o : Obj} (h : w.heap[k]? = some o) (hk : k ≠ p) (a0 a1 a2 a3 a4 a5 : Value) : (put6 w p a0 a1 a2 a3 a4 a5).heap[k]? = some o := heap_far (heap_far (heap_far (heap_far (heap_far (heap_far h hk) hk) hk) hk) hk) hk
/-- A plan that was parsed, or the fault. -/
def ParV (w w' : World) (res : Except (Int × Nat) Pn) (e : Ending) : Prop := match res with
  | .ok p => ∃ (a : Option Addr) (n c : Nat), e = .returned (.tuple #[pnv p (.slice a n c), .agg #[.int .i64 0, .int .i64 0]]) ∧ RusAt (fun b => w.heap.size ≤ b) w' (.slice a n c) p.rules ∧ PnOk p
  | .error f => e = .returned (.tuple #[pnv pn0 (.slice none 0 0), ftv f])
theorem spV_wb {s : Tx} (h : Wo.spE s = 0) : Wb (Wo.spV s) ∧ s.length ≤ 65536 := by
  have hl : s.length ≤ 65536 := by
    unfold Wo.spE at h
    split at h
    · cases h
    · omega
  have hV : Wo.spV s = Wo.wds 0 s := by
    unfold Wo.spE at h
    unfold Wo.spV
    rw [if_neg (by omega)] at h ⊢
    split at h
    · next hg => rw [if_pos hg]
    · cases h
  have hsum := Wo.wds_sum s 0
  have hlen := Wo.wds_len s 0
  rw [hV]
  refine ⟨⟨fun x hx => ?_, by omega⟩, hl⟩
  have h1 : x.1.length ≤ (((Wo.wds 0 s).map (·.1)).map List.length).sum := mem_le_sum _ _ (List.mem_map_of_mem (List.mem_map_of_mem hx))
  have : (((Wo.wds 0 s).map (·.1)).map List.length).sum ≤ s.length := hsum
  omega
set_option maxHeartbeats 16000000 in
theorem parse_bad (s : ByteArray) (w : World) (hs : s.size ≤ maxLen) (hE : ¬ Wo.spE s.data.toList = 0) :
    Calls Tryz.prog 13 #[.string s] w fun e w' => e = .returned (.tuple #[pnv pn0 (.slice none 0 0), ftv (Wo.spE s.data.toList, Wo.spA s.data.toList)]) ∧ Below w.heap.size w w' := by
  have HSP := Lib.hid fun W => Wo.split_any s W hs
  have hE : (Wo.spE s.data.toList != 0) = true := by simpa using hE
  generalize Wo.spE s.data.toList = xe at *
  generalize Wo.spA s.data.toList = xa at *
  have hb0 := below_trans (below_alloc w (.cells #[.int .i64 0, .int .i64 0, .int .i64 0, .int .i64 0, .int .i64 0, .slice none 0 0] 24)) (below_alloc _ (.cells #[.int .i64 0, .int .i64 0] 32))
  have hzz : (w.alloc (.cells #[.int .i64 0, .int .i64 0, .int .i64 0, .int .i64 0, .int .i64 0, .slice none 0 0] 24)).heap.size = w.heap.size + 1 := by simp
  have HP0 := Lib.hid (keepB (heap_alloc_new w (.cells #[.int .i64 0, .int .i64 0, .int .i64 0, .int .i64 0, .int .i64 0, .slice none 0 0] 24)) (below_alloc _ (.cells #[.int .i64 0, .int .i64 0] 32)))
  have HF0 := Lib.hid (heap_alloc_new (w.alloc (.cells #[.int .i64 0, .int .i64 0, .int .i64 0, .int .i64 0, .int .i64 0, .slice none 0 0] 24)) (.cells #[.int .i64 0, .int .i64 0] 32))
  rw [hzz] at HF0
  have HB0 := Lib.hid hb0
  clear hb0 hzz hs
  go_enter_defers Tryz.func13, Tryz.ntmps13
  go_upto_region 1 with fail
  generalize (w.alloc (.cells #[.int .i64 0, .int .i64 0, .int .i64 0, .int .i64 0, .int .i64 0, .slice none 0 0] 24)).alloc (.cells #[.int .i64 0, .int .i64 0] 32) = W0 at *
  go_wp2_with fail
  go_at_call 26
  refine (HSP.out _).mono ?_
  rintro e w1 ⟨⟨u, rfl, hu⟩, hb1⟩
  have HP1 := Lib.hid (keepB HP0.out hb1)
  have HF1 := Lib.hid (keepB HF0.out hb1)
  have HB1 := Lib.hid (below_trans HB0.out hb1)
  obtain ⟨ua, uc, rfl, -, -⟩ := WdsAt.form hu
  obtain ⟨e0, e1, e2, e3⟩ := box_two HF1.out
  obtain ⟨p0, p1, p2, p3, p4, p5⟩ := bsix HP1.out
  have q0 := box_froz HP1.out 0
  have q1 := box_froz HP1.out 1
  have q2 := box_froz HP1.out 2
  have q3 := box_froz HP1.out 3
  have q4 := box_froz HP1.out 4
  have q5 := box_froz HP1.out 5
  clear hb1 hu HP0 HF0 HB0 HSP
  go_wp2
  go_region
  all_goals
    go_wp2
    have hpf := drew_heap (hp2_far (hp6_same (hp2_far HP1.out (show w.heap.size ≠ w.heap.size + 1 by omega) (.int .i64 xe) (.int .i64 (xa : Nat))) (.int .i64 0) (.int .i64 0) (.int .i64 0) (.int .i64 0) (.int .i64 0) (.slice none 0 0)) (show w.heap.size ≠ w.heap.size + 1 by omega) (.int .i64 xe) (.int .i64 (xa : Nat)))
    have hff := drew_heap (hp2_same (hp6_far (hp2_same HF1.out (.int .i64 xe) (.int .i64 (xa : Nat))) (show w.heap.size + 1 ≠ w.heap.size by omega) (.int .i64 0) (.int .i64 0) (.int .i64 0) (.int .i64 0) (.int .i64 0) (.slice none 0 0)) (.int .i64 xe) (.int .i64 (xa : Nat)))
    have hbf := Below.drew (below_p2 (below_p6 (below_p2 HB1.out (show w.heap.size ≤ w.heap.size + 1 by omega) (.int .i64 xe) (.int .i64 (xa : Nat))) (Nat.le_refl _) (.int .i64 0) (.int .i64 0) (.int .i64 0) (.int .i64 0) (.int .i64 0) (.slice none 0 0)) (show w.heap.size ≤ w.heap.size + 1 by omega) (.int .i64 xe) (.int .i64 (xa : Nat)))
    obtain ⟨r0, r1, r2, r3, r4, r5⟩ := bsix hpf
    obtain ⟨t0, t1, -, -⟩ := box_two hff
    clear hpf hff
    generalize (put2 (put6 (put2 w1 (w.heap.size + 1) (.int .i64 xe) (.int .i64 (xa : Nat))) w.heap.size (.int .i64 0) (.int .i64 0) (.int .i64 0) (.int .i64 0) (.int .i64 0) (.slice none 0 0)) (w.heap.size + 1) (.int .i64 xe) (.int .i64 (xa : Nat))).drew = F at *
    exact ⟨.tuple #[pnv pn0 (.slice none 0 0), ftv (xe, xa)], by simp [results, Tryz.results13, go_sem, r0, r1, r2, r3, r4, r5, t0, t1, pn0], rfl, hbf⟩
end Go.Proofs.YtfkhehkfeibdpaaGreatDoor.Pl
end
