/-
  Texts put together (merge.py): VEq, VSame.
-/
import Derived.Laws.StructEq
import Derived.BigQuiet
import Derived.Test.YtpnkgkchpoehcaaMb19
/-
  Two adjustments held against each other: one step of a walk.
-/
section
set_option linter.unusedSimpArgs false
set_option linter.unusedVariables false
set_option maxRecDepth 100000
namespace Go.Proofs.Ytpnkgkchpoehcaa.Sv
open Go.RowKit
open Cm (mk_ne)
open Classical

theorem undK : Try.prog.underlying Tk = some (.struct (Try.prog.fieldsOf Tk)) := by kernel_rfl
theorem fields_map : (Try.prog.fieldsOf Tk).toList.map (fun f => (f.name == "_", f.type, f.offset)) = [(false, 9, 0), (false, 3, 1), (false, 2, 2)] := by kernel_rfl
theorem three_list {l : List Field} (h : l.map (fun f => (f.name == "_", f.type, f.offset)) = [(false, 9, 0), (false, 3, 1), (false, 2, 2)]) : ∃ f g k : Field, l = [f, g, k] ∧ (f.name ≠ "_" ∧ f.type = 9 ∧ f.offset = 0) ∧ (g.name ≠ "_" ∧ g.type = 3 ∧ g.offset = 1) ∧ (k.name ≠ "_" ∧ k.type = 2 ∧ k.offset = 2) := by
  have hl : l.length = 3 := by have := congrArg List.length h; simpa using this
  match l, hl, h with
  | [f, g, k], _, h =>
    simp only [List.map_cons, List.map_nil, List.cons.injEq, Prod.mk.injEq, and_true, beq_eq_false_iff_ne] at h
    exact ⟨f, g, k, rfl, h.1, h.2.1, h.2.2⟩
theorem ca_dec (x y : Ca) : decide (x = y) = (decide (x.grp = y.grp) && (decide (x.why = y.why) && decide (x.ct = y.ct))) := by
  rw [Bool.eq_iff_iff]
  obtain ⟨a, b, c⟩ := x
  obtain ⟨d, e, f⟩ := y
  simp
theorem neq_cas (x y : Ca) (w : World) : (binOp .neq Tk (.agg #[.string (mk x.grp), .int .i64 x.why, .int .i64 x.ct]) (.agg #[.string (mk y.grp), .int .i64 y.why, .int .i64 y.ct])).run Try.prog w = .ok (.bool (!decide (x = y))) w := by
  rw [run_neq_struct, run_equalIn_agg w 9999 Tk _ _ undK (by kernel_rfl)]
  obtain ⟨f, g, k, hl, ⟨f1, f2, f3⟩, ⟨g1, g2, g3⟩, ⟨k1, k2, k3⟩⟩ := three_list fields_map
  rw [hl, ca_dec]
  have e1 := mk_ne x.grp y.grp
  have e2 : (x.why == y.why) = decide (x.why = y.why) := by rw [Bool.eq_iff_iff]; simp
  have e3 : (x.ct == y.ct) = decide (x.ct = y.ct) := by rw [Bool.eq_iff_iff]; simp
  simp only [Op.eqFields, if_pos f1, if_pos g1, if_pos k1, f2, f3, g2, g3, k2, k3]
  cases h1 : decide (x.grp = y.grp) <;> rw [h1] at e1 <;> cases h2 : decide (x.why = y.why) <;> rw [h2] at e2 <;> cases h3 : decide (x.ct = y.ct) <;> rw [h3] at e3 <;> simp [part, go_sem, e1, e2, e3]
end Go.Proofs.Ytpnkgkchpoehcaa.Sv
end

/-
  What slices.Equal (of adjustments) answers, as a contract: whether two rows are the same.
-/
section
set_option linter.unusedSimpArgs false
set_option linter.unusedVariables false
set_option maxRecDepth 100000
namespace Go.Proofs.Ytpnkgkchpoehcaa.Sv
open Go.RowKit
open Bk (keepB below_alloc below_trans alloc_new)
open Cm (mk_ne takes_eq takes_ne takes_all lens_ne)
open Classical

set_option maxHeartbeats 2000000 in
theorem equal_any (v v' : Value) (xs ys : List Ca) (w : World) (h : CasAt All w v xs) (h' : CasAt All w v' ys) :
    Calls Try.prog 42 #[v, v'] w fun e w' => e = .returned (.bool (decide (xs = ys))) ∧ Below w.heap.size w w' := by
  obtain ⟨a, c, rfl, f1, f2⟩ := h.form
  obtain ⟨a', c', rfl, f1', f2'⟩ := h'.form
  have HF := Lib.hid h
  have HF' := Lib.hid h'
  clear h h'
  by_cases hl : xs.length = ys.length
  · have hlb : ((xs.length : Int) != (ys.length : Int)) = false := by rw [hl]; simp
    have HL := Lib.hid hl
    have hl2 : xs.length ≤ ys.length := by omega
    clear hl
    go_enter Try.func42, Try.ntmps42
    go_wp2
    go_loopg [13] (xs.length) (fun g i wr => ∃ (k : Nat), k ≤ xs.length ∧ g = xs.length - k ∧ i = .int .i64 k ∧ Hid (Below w.heap.size w wr) ∧ Hid (xs.take k = ys.take k))
    case atStart => exact ⟨0, Nat.zero_le _, rfl, rfl, Below.refl _ _, rfl⟩
    case round =>
      obtain ⟨k, hk, hg, rfl, HBn, HA⟩ := hrel
      by_cases hlt : k < xs.length
      · have hltz : (k : Int) < (xs.length : Int) := by omega
        have hlt' : k < ys.length := by omega
        obtain ⟨b, oo, rfl, -, -, hx, hc⟩ := CasAt.get (HF.out.grw HBn.out) k hlt
        obtain ⟨b2, o2, rfl, -, -, hy, hc2⟩ := CasAt.get (HF'.out.grw HBn.out) k hlt'
        have HQ := Lib.hid (takes_eq xs ys k _ _ hx hy HA.out)
        have HN := Lib.hid (takes_ne xs ys k _ _ hx hy)
        have hi1 : k < xs.length := hlt
        have hi2 : k < ys.length := hlt'
        generalize xs[k] = x at *
        generalize ys[k] = y at *
        obtain ⟨x0, x1, x2⟩ := hc
        obtain ⟨y0, y1, y2⟩ := hc2
        clear hx hy
        have hne := neq_cas x y
        by_cases he : x = y
        · have HE2 := Lib.hid (HQ.out he)
          rw [decide_eq_true he, Bool.not_true] at hne
          clear he HN HQ
          go_wp2_with fail
          go_quiet (fail)
          have HBW : Hid (Below w.heap.size w (wr.drewN nq)) := HBn.out.trans ⟨rfl, rfl, rfl, Nat.le_refl _, fun _ _ => rfl⟩
          go_wp2
          go_roundg (xs.length - (k + 1))
          case measure => omega
          case rel => exact ⟨k + 1, by omega, rfl, by go_num, HBW.out, HE2.out⟩
        · have HE2 := Lib.hid (HN.out he)
          rw [decide_eq_false he, Bool.not_false] at hne
          clear he HN HQ
          go_wp2_with fail
          go_quiet (fail)
          have HBW : Hid (Below w.heap.size w (wr.drewN nq)) := HBn.out.trans ⟨rfl, rfl, rfl, Nat.le_refl _, fun _ _ => rfl⟩
          go_wp2
          go_ret
          exact ⟨by rw [HE2.out]; rfl, HBW.out⟩
      · have hltz : ¬ (k : Int) < (xs.length : Int) := by omega
        have HE2 := Lib.hid (takes_all xs ys k (by omega) HL.out HA.out)
        go_wp2
        go_ret
        exact ⟨by rw [HE2.out]; rfl, HBn.out⟩
  · have hlb : ((xs.length : Int) != (ys.length : Int)) = true := by simp; omega
    rw [lens_ne xs ys hl]
    clear hl
    go_enter Try.func42, Try.ntmps42
    go_wp2
    go_ret
    exact ⟨rfl, Below.refl _ _⟩
end Go.Proofs.Ytpnkgkchpoehcaa.Sv
end
