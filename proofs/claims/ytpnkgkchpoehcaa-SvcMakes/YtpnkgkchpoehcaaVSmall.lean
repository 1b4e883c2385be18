/-
  What the laws' small answers, as a contract: where it is true, amounts can be added. (Written by gen_small.py.)
-/
import Derived.Test.YtpnkgkchpoehcaaVSum
import Derived.Test.YtpnkgkchpoehcaaLWeightM
set_option linter.unusedSimpArgs false
set_option linter.unusedVariables false
set_option maxRecDepth 100000
namespace Go.Proofs.Ytpnkgkchpoehcaa.Sv
open Go.RowKit
open Sh (Ot)
open Cm (Ln Cl LnsAt ClsAt clv ClOk)
open Bk (keepB below_alloc below_trans alloc_new OtsAt)

theorem cls_one {w : World} {q : Nat} {c : Cl} {m : Value} {T : TypeId} (h : w.heap[q]? = some (.cells #[.string (mk c.id), .string (mk c.mem), .string (mk c.fam), .int .i64 c.net, .int .i64 c.does, .string (mk c.ref), m] T (0, 0))) (hm : LnsAt All w m c.lines) : ClsAt All w (.slice (some ⟨q, 0, none⟩) 1 1) [c] := by
  refine ⟨_, _, rfl, Nat.le_refl _, by unfold maxLen; omega, Or.inr ⟨q, 0, rfl, trivial, (Array.getElem?_eq_some_iff.1 h).1, fun j y hj => ?_⟩⟩
  have hj0 : j = 0 := by have := (List.getElem?_eq_some_iff.1 hj).1; simpa using this
  subst hj0
  obtain rfl : c = y := by simpa using hj
  obtain ⟨h0, h1, h2, h3, h4, h5, h6⟩ := seven h
  exact ⟨m, ⟨h0, h1, h2, h3, h4, h5, h6⟩, hm⟩
def six6 (o : Ot) : List Int := [o.plan, o.wr, o.pr, o.de, o.cp, o.cn]
theorem six_at {w : World} {g : Nat} {o : Ot} {T : TypeId} (h : w.heap[g]? = some (.cells #[.int .i64 o.plan, .int .i64 o.wr, .int .i64 o.pr, .int .i64 o.de, .int .i64 o.cp, .int .i64 o.cn] T (0, 0))) (j : Nat) (hj : j < 6) : ∃ x, (six6 o)[j]? = some x ∧ w.cell? ⟨g, j, none⟩ = some (.int .i64 x) := by
  have hj6 : j = 0 ∨ j = 1 ∨ j = 2 ∨ j = 3 ∨ j = 4 ∨ j = 5 := by omega
  rcases hj6 with rfl | rfl | rfl | rfl | rfl | rfl
  all_goals exact ⟨_, rfl, by rw [cell_of_row w g _ _ T (0, 0) h]; rfl⟩
theorem take_snoc {α : Type} {p : α → Prop} {l : List α} {k : Nat} {x : α} (hx : l[k]? = some x) (h : ∀ y ∈ l.take k, p y) (hp : p x) : ∀ y ∈ l.take (k + 1), p y := by
  intro y hy
  rw [List.take_add_one, hx] at hy
  rcases List.mem_append.1 hy with h1 | h1
  · exact h y h1
  · simp at h1; rw [h1]; exact hp
theorem take_full {α : Type} {p : α → Prop} {l : List α} {k : Nat} (hk : l.length ≤ k) (h : ∀ y ∈ l.take k, p y) : ∀ y ∈ l, p y := by
  rwa [List.take_of_length_le hk] at h
theorem six_bd {o : Ot} (h : ∀ x ∈ (six6 o).take 6, Bd x) : Bd o.plan ∧ Bd o.wr ∧ Bd o.pr ∧ Bd o.de ∧ Bd o.cp ∧ Bd o.cn :=
  ⟨h _ (by simp [six6]), h _ (by simp [six6]), h _ (by simp [six6]), h _ (by simp [six6]), h _ (by simp [six6]), h _ (by simp [six6])⟩
def SmV (c : Cl) (os : List Ot) (w : World) (e : Ending) (w' : World) : Prop := (∃ b, e = .returned (.bool b) ∧ (b = true → Sm c os ∧ os.length ≤ 300)) ∧ Below w.heap.size w w'
theorem smV_no {c : Cl} {os : List Ot} {w w' : World} (h : Below w.heap.size w w') : SmV c os w (.returned (.bool false)) w' := ⟨⟨false, rfl, fun h => by cases h⟩, h⟩

set_option maxHeartbeats 8000000 in
theorem small_any (c : Cl) (m : Value) (os : List Ot) (mo : Value) (w : World) (hm : LnsAt All w m c.lines) (ho : OtsAt All w mo os) (hz : ClOk c) (hlo : os.length ≤ 281474976710656) :
    Calls Try.prog 8 #[clv c m, mo] w fun e w' => SmV c os w e w' := by
  obtain ⟨al, cl, rfl, f1, f2⟩ := Cm.LnsAt.form hm
  obtain ⟨ao, co, rfl, f3, f4⟩ := ho.form
  have HB := Lib.hid (below_alloc w (.cells (#[.string (mk c.id), .string (mk c.mem), .string (mk c.fam), .int .i64 c.net, .int .i64 c.does, .string (mk c.ref), .slice al c.lines.length cl] : Array Value) 24))
  have HX := Lib.hid (alloc_new w (#[.string (mk c.id), .string (mk c.mem), .string (mk c.fam), .int .i64 c.net, .int .i64 c.does, .string (mk c.ref), .slice al c.lines.length cl] : Array Value) 24)
  have HL : Hid (∀ W, Below w.heap.size w W → LnsAt All W (.slice al c.lines.length cl) c.lines) := fun W hW => hm.move (Below.moves hW)
  have HO : Hid (∀ W, Below w.heap.size w W → OtsAt All W (.slice ao os.length co) os) := fun W hW => ho.grw hW
  have HNO : Hid (∀ w', Below w.heap.size w w' → SmV c os w (.returned (.bool false)) w') := fun w' h => smV_no h
  have HYS : Hid (∀ w', Below w.heap.size w w' → os.length ≤ 300 → (∀ l ∈ c.lines, Bd l.billed) → (∀ o ∈ os, Bd o.plan ∧ Bd o.wr ∧ Bd o.pr ∧ Bd o.de ∧ Bd o.cp ∧ Bd o.cn) → SmV c os w (.returned (.bool true)) w') := fun w' h h1 h2 h3 => ⟨⟨true, rfl, fun _ => ⟨⟨h2, h3⟩, h1⟩⟩, h⟩
  have HZ := Lib.hid hz
  have hll := HL.out w (Below.refl _ _)
  have hzl : c.lines.length ≤ cl := f1
  clear hm ho hz hll
  go_enter Try.func8, Try.ntmps8
  go_upto_region 1 with fail
  generalize w.alloc (.cells (#[.string (mk c.id), .string (mk c.mem), .string (mk c.fam), .int .i64 c.net, .int .i64 c.does, .string (mk c.ref), .slice al c.lines.length cl] : Array Value) 24) = W at *
  generalize hp : w.heap.size = p at *
  have HPW : Hid (p ≤ W.heap.size) := by have := HB.out.size; rw [hp] at this; exact this
  obtain ⟨x0, x1, x2, x3, x4, x5, x6⟩ := seven HX.out
  have HBW : Hid (Below p w (W.alloc (.cells (#[.string (mk c.id), .string (mk c.mem), .string (mk c.fam), .int .i64 c.net, .int .i64 c.does, .string (mk c.ref), .slice al c.lines.length cl] : Array Value) 24))) := HB.out.trans ((below_alloc W _).mono HPW.out)
  have HWG := Lib.hid (Cm.weight_any 300 (by decide) (by decide) (.slice (some ⟨W.heap.size, 0, none⟩) 1 1) [c] (W.alloc (.cells (#[.string (mk c.id), .string (mk c.mem), .string (mk c.fam), .int .i64 c.net, .int .i64 c.does, .string (mk c.ref), .slice al c.lines.length cl] : Array Value) 24)) (cls_one (alloc_new W _ _) (HL.out _ HBW.out)) (fun y hy => by obtain rfl := List.mem_singleton.1 hy; exact HZ.out))
  go_wp2_with fail
  try (go_at_call 19)
  refine HWG.out.mono ?_
  rintro e w1 ⟨⟨n, rfl, hn⟩, hb⟩
  have HB1 : Hid (Below W.heap.size W w1) := below_trans (below_alloc W _) hb
  have HBw1 : Hid (Below p w w1) := HB.out.trans (HB1.out.mono HPW.out)
  clear hb hn HWG x0 x1 x2 x3 x4 x5 x6
  obtain ⟨x0, x1, x2, x3, x4, x5, x6⟩ := seven (keepB HX.out HB1.out)
  by_cases h300 : 300 < n
  · go_wp2
    go_ret
    exact HNO.out _ HBw1.out
  by_cases ho300 : os.length ≤ 300
  case neg =>
    have ho3 : (300 : Int) < (os.length : Int) := by omega
    go_wp2
    go_ret
    exact HNO.out _ HBw1.out
  have ho3 : ¬ (300 : Int) < (os.length : Int) := by omega
  go_wp2
  go_loopg [5] (c.lines.length) (fun gg t5 wr => ∃ k : Nat, k ≤ c.lines.length ∧ gg = c.lines.length - k ∧ t5 = .int .i64 k ∧ Hid (∀ l ∈ c.lines.take k, Bd l.billed) ∧ Hid (Below W.heap.size W wr))
  case atStart => exact ⟨0, Nat.zero_le _, rfl, rfl, by simp [Hid], HB1.out⟩
  case round =>
    clear x0 x1 x2 x3 x4 x5 x6
    obtain ⟨k, hk, hg, rfl, HA, HBr⟩ := hrel
    have HBp : Hid (Below p w wr) := HB.out.trans (HBr.out.mono HPW.out)
    obtain ⟨x0, x1, x2, x3, x4, x5, x6⟩ := seven (keepB HX.out HBr.out)
    by_cases hlt : k < c.lines.length
    · have hltz : (k : Int) < (c.lines.length : Int) := by omega
      obtain ⟨b, oo, ml, rfl, hx, hcx, hmx⟩ := Cm.LnsAt.get (HL.out _ HBp.out) k hlt
      have HSN := Lib.hid fun h => take_snoc (p := fun l : Ln => Bd l.billed) hx HA.out h
      have hi1 : k < c.lines.length := hlt
      generalize c.lines[k] = l at *
      obtain ⟨c0, c1, c2, c3, c4, c5⟩ := hcx
      clear hx hmx
      by_cases h1 : 1125899906842624 < l.billed
      · go_wp2
        go_ret
        exact HNO.out _ HBp.out
      by_cases h2 : l.billed < -1125899906842624
      · go_wp2
        go_ret
        exact HNO.out _ HBp.out
      have HSN2 := Lib.hid (HSN.out ⟨by omega, by omega⟩)
      go_wp2
      go_roundg (c.lines.length - (k + 1))
      case measure => omega
      case rel => exact ⟨k + 1, by omega, rfl, by go_num, HSN2.out, HBr.out⟩
    · have hltz : ¬ (k : Int) < (c.lines.length : Int) := by omega
      have HLA := Lib.hid (take_full (p := fun l : Ln => Bd l.billed) (by omega) HA.out)
      have HBs := Lib.hid HBr.out
      clear HA
      go_wp2
      go_loopg [6] (os.length) (fun gg t6 wq => ∃ q : Nat, q ≤ os.length ∧ gg = os.length - q ∧ t6 = .int .i64 q ∧ Hid (∀ o ∈ os.take q, Bd o.plan ∧ Bd o.wr ∧ Bd o.pr ∧ Bd o.de ∧ Bd o.cp ∧ Bd o.cn) ∧ Hid (Below W.heap.size W wq))
      case atStart => exact ⟨0, Nat.zero_le _, rfl, rfl, by simp [Hid], HBs.out⟩
      case round =>
        clear x0 x1 x2 x3 x4 x5 x6
        obtain ⟨q, hq, hgq, rfl, HAq, HBq⟩ := hrel
        obtain ⟨wo, rfl⟩ : ∃ z, z = wr := ⟨_, rfl⟩
        have HBp2 : Hid (Below p w wo) := HB.out.trans (HBq.out.mono HPW.out)
        by_cases hlq : q < os.length
        · have hlqz : (q : Int) < (os.length : Int) := by omega
          obtain ⟨b2, o2, rfl, hb2, hy, hcy⟩ := OtsAt.get (HO.out _ HBp2.out) q hlq
          have HSO := Lib.hid fun h => take_snoc (p := fun o : Ot => Bd o.plan ∧ Bd o.wr ∧ Bd o.pr ∧ Bd o.de ∧ Bd o.cp ∧ Bd o.cn) hy HAq.out h
          have hi2 : q < os.length := hlq
          generalize os[q] = o at *
          have HXK : Hid (∀ W', Below wo.heap.size wo W' → Bk.OtCells W' b2 (o2 + q * 8) o) := fun W' hW => hcy.of (hW.block b2 hb2)
          have HD := Lib.hid (Below.drew (Below.refl wo.heap.size wo))
          clear hy hcy hb2
          go_upto_region 11 with fail
          refine Ri.wp_region_lasting (by kernel_rfl) (by kernel_rfl) (by kernel_rfl) (fun Wx => Below wo.heap.size wo Wx) (fun kz vs wz => (fun kx vx wx => match kx with | 0 => vx = .slice (some ⟨b2, o2, none⟩) os.length co | 1 => vx = .int .i64 (q : Nat) | 2 => vx = .pointer (some ⟨b2, o2 + q * 8, none⟩) | 3 => vx = .pointer (some ⟨b2, o2 + q * 8 + 4, none⟩) | 4 => vx = .int .i64 o.plan | 5 => vx = .slice (some ⟨b2, o2, none⟩) os.length co | 6 => vx = .int .i64 (q : Nat) | 7 => vx = .pointer (some ⟨b2, o2 + q * 8, none⟩) | 8 => vx = .pointer (some ⟨b2, o2 + q * 8 + 5, none⟩) | 9 => vx = .int .i64 o.wr | 10 => vx = .slice (some ⟨b2, o2, none⟩) os.length co | 11 => vx = .int .i64 (q : Nat) | 12 => vx = .pointer (some ⟨b2, o2 + q * 8, none⟩) | 13 => vx = .pointer (some ⟨b2, o2 + q * 8 + 6, none⟩) | 14 => vx = .int .i64 o.pr | 15 => vx = .slice (some ⟨b2, o2, none⟩) os.length co | 16 => vx = .int .i64 (q : Nat) | 17 => vx = .pointer (some ⟨b2, o2 + q * 8, none⟩) | 18 => vx = .pointer (some ⟨b2, o2 + q * 8 + 1, none⟩) | 19 => vx = .int .i64 o.de | 20 => vx = .slice (some ⟨b2, o2, none⟩) os.length co | 21 => vx = .int .i64 (q : Nat) | 22 => vx = .pointer (some ⟨b2, o2 + q * 8, none⟩) | 23 => vx = .pointer (some ⟨b2, o2 + q * 8 + 2, none⟩) | 24 => vx = .int .i64 o.cp | 25 => vx = .slice (some ⟨b2, o2, none⟩) os.length co | 26 => vx = .int .i64 (q : Nat) | 27 => vx = .pointer (some ⟨b2, o2 + q * 8, none⟩) | 28 => vx = .pointer (some ⟨b2, o2 + q * 8 + 3, none⟩) | 29 => vx = .int .i64 o.cn | 30 => (∃ g : Nat, vx = .slice (some ⟨g, 0, none⟩) 6 6 ∧ wx.heap[g]? = some (.cells (#[.int .i64 o.plan, .int .i64 o.wr, .int .i64 o.pr, .int .i64 o.de, .int .i64 o.cp, .int .i64 o.cn] : Array Value) 2 (0, 0))) | 31 => (∃ g : Nat, vx = .slice (some ⟨g, 0, none⟩) 6 6 ∧ wx.heap[g]? = some (.cells (#[.int .i64 o.plan, .int .i64 o.wr, .int .i64 o.pr, .int .i64 o.de, .int .i64 o.cp, .int .i64 o.cn] : Array Value) 2 (0, 0))) | _ => True : Nat → Value → World → Prop) kz (vs kz) wz) (fun kz => [kz]) (by kernel_rfl) (fun jz vs iz vz wz hiz hz => Ri.loc_own (F := (fun kx vx wx => match kx with | 0 => vx = .slice (some ⟨b2, o2, none⟩) os.length co | 1 => vx = .int .i64 (q : Nat) | 2 => vx = .pointer (some ⟨b2, o2 + q * 8, none⟩) | 3 => vx = .pointer (some ⟨b2, o2 + q * 8 + 4, none⟩) | 4 => vx = .int .i64 o.plan | 5 => vx = .slice (some ⟨b2, o2, none⟩) os.length co | 6 => vx = .int .i64 (q : Nat) | 7 => vx = .pointer (some ⟨b2, o2 + q * 8, none⟩) | 8 => vx = .pointer (some ⟨b2, o2 + q * 8 + 5, none⟩) | 9 => vx = .int .i64 o.wr | 10 => vx = .slice (some ⟨b2, o2, none⟩) os.length co | 11 => vx = .int .i64 (q : Nat) | 12 => vx = .pointer (some ⟨b2, o2 + q * 8, none⟩) | 13 => vx = .pointer (some ⟨b2, o2 + q * 8 + 6, none⟩) | 14 => vx = .int .i64 o.pr | 15 => vx = .slice (some ⟨b2, o2, none⟩) os.length co | 16 => vx = .int .i64 (q : Nat) | 17 => vx = .pointer (some ⟨b2, o2 + q * 8, none⟩) | 18 => vx = .pointer (some ⟨b2, o2 + q * 8 + 1, none⟩) | 19 => vx = .int .i64 o.de | 20 => vx = .slice (some ⟨b2, o2, none⟩) os.length co | 21 => vx = .int .i64 (q : Nat) | 22 => vx = .pointer (some ⟨b2, o2 + q * 8, none⟩) | 23 => vx = .pointer (some ⟨b2, o2 + q * 8 + 2, none⟩) | 24 => vx = .int .i64 o.cp | 25 => vx = .slice (some ⟨b2, o2, none⟩) os.length co | 26 => vx = .int .i64 (q : Nat) | 27 => vx = .pointer (some ⟨b2, o2 + q * 8, none⟩) | 28 => vx = .pointer (some ⟨b2, o2 + q * 8 + 3, none⟩) | 29 => vx = .int .i64 o.cn | 30 => (∃ g : Nat, vx = .slice (some ⟨g, 0, none⟩) 6 6 ∧ wx.heap[g]? = some (.cells (#[.int .i64 o.plan, .int .i64 o.wr, .int .i64 o.pr, .int .i64 o.de, .int .i64 o.cp, .int .i64 o.cn] : Array Value) 2 (0, 0))) | 31 => (∃ g : Nat, vx = .slice (some ⟨g, 0, none⟩) 6 6 ∧ wx.heap[g]? = some (.cells (#[.int .i64 o.plan, .int .i64 o.wr, .int .i64 o.pr, .int .i64 o.de, .int .i64 o.cp, .int .i64 o.cn] : Array Value) 2 (0, 0))) | _ => True : Nat → Value → World → Prop)) jz vs iz vz wz hiz hz) HD.out ⟨⟨rfl, ?_⟩, ⟨rfl, ?_⟩, ⟨rfl, ?_⟩, ⟨rfl, ?_⟩, ⟨rfl, ?_⟩, ⟨rfl, ?_⟩, ⟨rfl, ?_⟩, ⟨rfl, ?_⟩, ⟨rfl, ?_⟩, ⟨rfl, ?_⟩, ⟨rfl, ?_⟩, ⟨rfl, ?_⟩, ⟨rfl, ?_⟩, ⟨rfl, ?_⟩, ⟨rfl, ?_⟩, ⟨rfl, ?_⟩, ⟨rfl, ?_⟩, ⟨rfl, ?_⟩, ⟨rfl, ?_⟩, ⟨rfl, ?_⟩, ⟨rfl, ?_⟩, ⟨rfl, ?_⟩, ⟨rfl, ?_⟩, ⟨rfl, ?_⟩, ⟨rfl, ?_⟩, ⟨rfl, ?_⟩, ⟨rfl, ?_⟩, ⟨rfl, ?_⟩, ⟨rfl, ?_⟩, ⟨rfl, ?_⟩, ⟨rfl, ?_⟩, ⟨rfl, ?_⟩, trivial⟩ ?_
          · intro vs Wx A hA hB hpre K hK
            have e1 := (hA 1).trans (show _ = Value.slice (some ⟨b2, o2, none⟩) os.length co by kernel_rfl)
            clear hA hpre
            go_simp
            first | exact hK _ _ hB rfl (fun _ _ h => h) | exact hK _ _ hB trivial (fun _ _ h => h) | (rw [if_neg (by omega)]; go_simp; exact hK _ _ hB rfl (fun _ _ h => h))
          · intro vs Wx A hA hB hpre K hK
            have e6 := (hA 6).trans (show _ = Value.int .i64 (q : Nat) by kernel_rfl)
            clear hA hpre
            go_simp
            first | exact hK _ _ hB rfl (fun _ _ h => h) | exact hK _ _ hB trivial (fun _ _ h => h) | (rw [if_neg (by omega)]; go_simp; exact hK _ _ hB rfl (fun _ _ h => h))
          · intro vs Wx A hA hB hpre K hK
            have e47 := ((hA 47).trans (show _ = vs 0 by kernel_rfl)).trans (by first | exact hpre.1 rfl | exact hpre.2.1 rfl | exact hpre.2.2.1 rfl | exact hpre.2.2.2.1 rfl | exact hpre.2.2.2.2.1 rfl | exact hpre.2.2.2.2.2.1 rfl | exact hpre.2.2.2.2.2.2.1 rfl | exact hpre.2.2.2.2.2.2.2.1 rfl | exact hpre.2.2.2.2.2.2.2.2.1 rfl | exact hpre.2.2.2.2.2.2.2.2.2.1 rfl)
            have e48 := ((hA 48).trans (show _ = vs 1 by kernel_rfl)).trans (by first | exact hpre.1 rfl | exact hpre.2.1 rfl | exact hpre.2.2.1 rfl | exact hpre.2.2.2.1 rfl | exact hpre.2.2.2.2.1 rfl | exact hpre.2.2.2.2.2.1 rfl | exact hpre.2.2.2.2.2.2.1 rfl | exact hpre.2.2.2.2.2.2.2.1 rfl | exact hpre.2.2.2.2.2.2.2.2.1 rfl | exact hpre.2.2.2.2.2.2.2.2.2.1 rfl)
            clear hA hpre
            go_simp
            first | exact hK _ _ hB rfl (fun _ _ h => h) | exact hK _ _ hB trivial (fun _ _ h => h) | (rw [if_neg (by omega)]; go_simp; exact hK _ _ hB rfl (fun _ _ h => h))
          · intro vs Wx A hA hB hpre K hK
            have e49 := ((hA 49).trans (show _ = vs 2 by kernel_rfl)).trans (by first | exact hpre.1 rfl | exact hpre.2.1 rfl | exact hpre.2.2.1 rfl | exact hpre.2.2.2.1 rfl | exact hpre.2.2.2.2.1 rfl | exact hpre.2.2.2.2.2.1 rfl | exact hpre.2.2.2.2.2.2.1 rfl | exact hpre.2.2.2.2.2.2.2.1 rfl | exact hpre.2.2.2.2.2.2.2.2.1 rfl | exact hpre.2.2.2.2.2.2.2.2.2.1 rfl)
            clear hA hpre
            go_simp
            first | exact hK _ _ hB rfl (fun _ _ h => h) | exact hK _ _ hB trivial (fun _ _ h => h) | (rw [if_neg (by omega)]; go_simp; exact hK _ _ hB rfl (fun _ _ h => h))
          · intro vs Wx A hA hB hpre K hK
            have e50 := ((hA 50).trans (show _ = vs 3 by kernel_rfl)).trans (by first | exact hpre.1 rfl | exact hpre.2.1 rfl | exact hpre.2.2.1 rfl | exact hpre.2.2.2.1 rfl | exact hpre.2.2.2.2.1 rfl | exact hpre.2.2.2.2.2.1 rfl | exact hpre.2.2.2.2.2.2.1 rfl | exact hpre.2.2.2.2.2.2.2.1 rfl | exact hpre.2.2.2.2.2.2.2.2.1 rfl | exact hpre.2.2.2.2.2.2.2.2.2.1 rfl)
            obtain ⟨y0, y1, y2, y3, y4, y5, y6, y7⟩ := HXK.out Wx hB
            clear hA hpre
            go_simp
            first | exact hK _ _ hB rfl (fun _ _ h => h) | exact hK _ _ hB trivial (fun _ _ h => h) | (rw [if_neg (by omega)]; go_simp; exact hK _ _ hB rfl (fun _ _ h => h))
          · intro vs Wx A hA hB hpre K hK
            have e1 := (hA 1).trans (show _ = Value.slice (some ⟨b2, o2, none⟩) os.length co by kernel_rfl)
            clear hA hpre
            go_simp
            first | exact hK _ _ hB rfl (fun _ _ h => h) | exact hK _ _ hB trivial (fun _ _ h => h) | (rw [if_neg (by omega)]; go_simp; exact hK _ _ hB rfl (fun _ _ h => h))
          · intro vs Wx A hA hB hpre K hK
            have e6 := (hA 6).trans (show _ = Value.int .i64 (q : Nat) by kernel_rfl)
            clear hA hpre
            go_simp
            first | exact hK _ _ hB rfl (fun _ _ h => h) | exact hK _ _ hB trivial (fun _ _ h => h) | (rw [if_neg (by omega)]; go_simp; exact hK _ _ hB rfl (fun _ _ h => h))
          · intro vs Wx A hA hB hpre K hK
            have e52 := ((hA 52).trans (show _ = vs 5 by kernel_rfl)).trans (by first | exact hpre.1 rfl | exact hpre.2.1 rfl | exact hpre.2.2.1 rfl | exact hpre.2.2.2.1 rfl | exact hpre.2.2.2.2.1 rfl | exact hpre.2.2.2.2.2.1 rfl | exact hpre.2.2.2.2.2.2.1 rfl | exact hpre.2.2.2.2.2.2.2.1 rfl | exact hpre.2.2.2.2.2.2.2.2.1 rfl | exact hpre.2.2.2.2.2.2.2.2.2.1 rfl)
            have e53 := ((hA 53).trans (show _ = vs 6 by kernel_rfl)).trans (by first | exact hpre.1 rfl | exact hpre.2.1 rfl | exact hpre.2.2.1 rfl | exact hpre.2.2.2.1 rfl | exact hpre.2.2.2.2.1 rfl | exact hpre.2.2.2.2.2.1 rfl | exact hpre.2.2.2.2.2.2.1 rfl | exact hpre.2.2.2.2.2.2.2.1 rfl | exact hpre.2.2.2.2.2.2.2.2.1 rfl | exact hpre.2.2.2.2.2.2.2.2.2.1 rfl)
            clear hA hpre
            go_simp
            first | exact hK _ _ hB rfl (fun _ _ h => h) | exact hK _ _ hB trivial (fun _ _ h => h) | (rw [if_neg (by omega)]; go_simp; exact hK _ _ hB rfl (fun _ _ h => h))
          · intro vs Wx A hA hB hpre K hK
            have e54 := ((hA 54).trans (show _ = vs 7 by kernel_rfl)).trans (by first | exact hpre.1 rfl | exact hpre.2.1 rfl | exact hpre.2.2.1 rfl | exact hpre.2.2.2.1 rfl | exact hpre.2.2.2.2.1 rfl | exact hpre.2.2.2.2.2.1 rfl | exact hpre.2.2.2.2.2.2.1 rfl | exact hpre.2.2.2.2.2.2.2.1 rfl | exact hpre.2.2.2.2.2.2.2.2.1 rfl | exact hpre.2.2.2.2.2.2.2.2.2.1 rfl)
            clear hA hpre
            go_simp
            first | exact hK _ _ hB rfl (fun _ _ h => h) | exact hK _ _ hB trivial (fun _ _ h => h) | (rw [if_neg (by omega)]; go_simp; exact hK _ _ hB rfl (fun _ _ h => h))
          · intro vs Wx A hA hB hpre K hK
            have e55 := ((hA 55).trans (show _ = vs 8 by kernel_rfl)).trans (by first | exact hpre.1 rfl | exact hpre.2.1 rfl | exact hpre.2.2.1 rfl | exact hpre.2.2.2.1 rfl | exact hpre.2.2.2.2.1 rfl | exact hpre.2.2.2.2.2.1 rfl | exact hpre.2.2.2.2.2.2.1 rfl | exact hpre.2.2.2.2.2.2.2.1 rfl | exact hpre.2.2.2.2.2.2.2.2.1 rfl | exact hpre.2.2.2.2.2.2.2.2.2.1 rfl)
            obtain ⟨y0, y1, y2, y3, y4, y5, y6, y7⟩ := HXK.out Wx hB
            clear hA hpre
            go_simp
            first | exact hK _ _ hB rfl (fun _ _ h => h) | exact hK _ _ hB trivial (fun _ _ h => h) | (rw [if_neg (by omega)]; go_simp; exact hK _ _ hB rfl (fun _ _ h => h))
          · intro vs Wx A hA hB hpre K hK
            have e1 := (hA 1).trans (show _ = Value.slice (some ⟨b2, o2, none⟩) os.length co by kernel_rfl)
            clear hA hpre
            go_simp
            first | exact hK _ _ hB rfl (fun _ _ h => h) | exact hK _ _ hB trivial (fun _ _ h => h) | (rw [if_neg (by omega)]; go_simp; exact hK _ _ hB rfl (fun _ _ h => h))
          · intro vs Wx A hA hB hpre K hK
            have e6 := (hA 6).trans (show _ = Value.int .i64 (q : Nat) by kernel_rfl)
            clear hA hpre
            go_simp
            first | exact hK _ _ hB rfl (fun _ _ h => h) | exact hK _ _ hB trivial (fun _ _ h => h) | (rw [if_neg (by omega)]; go_simp; exact hK _ _ hB rfl (fun _ _ h => h))
          · intro vs Wx A hA hB hpre K hK
            have e57 := ((hA 57).trans (show _ = vs 10 by kernel_rfl)).trans (by first | exact hpre.1 rfl | exact hpre.2.1 rfl | exact hpre.2.2.1 rfl | exact hpre.2.2.2.1 rfl | exact hpre.2.2.2.2.1 rfl | exact hpre.2.2.2.2.2.1 rfl | exact hpre.2.2.2.2.2.2.1 rfl | exact hpre.2.2.2.2.2.2.2.1 rfl | exact hpre.2.2.2.2.2.2.2.2.1 rfl | exact hpre.2.2.2.2.2.2.2.2.2.1 rfl)
            have e58 := ((hA 58).trans (show _ = vs 11 by kernel_rfl)).trans (by first | exact hpre.1 rfl | exact hpre.2.1 rfl | exact hpre.2.2.1 rfl | exact hpre.2.2.2.1 rfl | exact hpre.2.2.2.2.1 rfl | exact hpre.2.2.2.2.2.1 rfl | exact hpre.2.2.2.2.2.2.1 rfl | exact hpre.2.2.2.2.2.2.2.1 rfl | exact hpre.2.2.2.2.2.2.2.2.1 rfl | exact hpre.2.2.2.2.2.2.2.2.2.1 rfl)
            clear hA hpre
            go_simp
            first | exact hK _ _ hB rfl (fun _ _ h => h) | exact hK _ _ hB trivial (fun _ _ h => h) | (rw [if_neg (by omega)]; go_simp; exact hK _ _ hB rfl (fun _ _ h => h))
          · intro vs Wx A hA hB hpre K hK
            have e59 := ((hA 59).trans (show _ = vs 12 by kernel_rfl)).trans (by first | exact hpre.1 rfl | exact hpre.2.1 rfl | exact hpre.2.2.1 rfl | exact hpre.2.2.2.1 rfl | exact hpre.2.2.2.2.1 rfl | exact hpre.2.2.2.2.2.1 rfl | exact hpre.2.2.2.2.2.2.1 rfl | exact hpre.2.2.2.2.2.2.2.1 rfl | exact hpre.2.2.2.2.2.2.2.2.1 rfl | exact hpre.2.2.2.2.2.2.2.2.2.1 rfl)
            clear hA hpre
            go_simp
            first | exact hK _ _ hB rfl (fun _ _ h => h) | exact hK _ _ hB trivial (fun _ _ h => h) | (rw [if_neg (by omega)]; go_simp; exact hK _ _ hB rfl (fun _ _ h => h))
          · intro vs Wx A hA hB hpre K hK
            have e60 := ((hA 60).trans (show _ = vs 13 by kernel_rfl)).trans (by first | exact hpre.1 rfl | exact hpre.2.1 rfl | exact hpre.2.2.1 rfl | exact hpre.2.2.2.1 rfl | exact hpre.2.2.2.2.1 rfl | exact hpre.2.2.2.2.2.1 rfl | exact hpre.2.2.2.2.2.2.1 rfl | exact hpre.2.2.2.2.2.2.2.1 rfl | exact hpre.2.2.2.2.2.2.2.2.1 rfl | exact hpre.2.2.2.2.2.2.2.2.2.1 rfl)
            obtain ⟨y0, y1, y2, y3, y4, y5, y6, y7⟩ := HXK.out Wx hB
            clear hA hpre
            go_simp
            first | exact hK _ _ hB rfl (fun _ _ h => h) | exact hK _ _ hB trivial (fun _ _ h => h) | (rw [if_neg (by omega)]; go_simp; exact hK _ _ hB rfl (fun _ _ h => h))
          · intro vs Wx A hA hB hpre K hK
            have e1 := (hA 1).trans (show _ = Value.slice (some ⟨b2, o2, none⟩) os.length co by kernel_rfl)
            clear hA hpre
            go_simp
            first | exact hK _ _ hB rfl (fun _ _ h => h) | exact hK _ _ hB trivial (fun _ _ h => h) | (rw [if_neg (by omega)]; go_simp; exact hK _ _ hB rfl (fun _ _ h => h))
          · intro vs Wx A hA hB hpre K hK
            have e6 := (hA 6).trans (show _ = Value.int .i64 (q : Nat) by kernel_rfl)
            clear hA hpre
            go_simp
            first | exact hK _ _ hB rfl (fun _ _ h => h) | exact hK _ _ hB trivial (fun _ _ h => h) | (rw [if_neg (by omega)]; go_simp; exact hK _ _ hB rfl (fun _ _ h => h))
          · intro vs Wx A hA hB hpre K hK
            have e62 := ((hA 62).trans (show _ = vs 15 by kernel_rfl)).trans (by first | exact hpre.1 rfl | exact hpre.2.1 rfl | exact hpre.2.2.1 rfl | exact hpre.2.2.2.1 rfl | exact hpre.2.2.2.2.1 rfl | exact hpre.2.2.2.2.2.1 rfl | exact hpre.2.2.2.2.2.2.1 rfl | exact hpre.2.2.2.2.2.2.2.1 rfl | exact hpre.2.2.2.2.2.2.2.2.1 rfl | exact hpre.2.2.2.2.2.2.2.2.2.1 rfl)
            have e63 := ((hA 63).trans (show _ = vs 16 by kernel_rfl)).trans (by first | exact hpre.1 rfl | exact hpre.2.1 rfl | exact hpre.2.2.1 rfl | exact hpre.2.2.2.1 rfl | exact hpre.2.2.2.2.1 rfl | exact hpre.2.2.2.2.2.1 rfl | exact hpre.2.2.2.2.2.2.1 rfl | exact hpre.2.2.2.2.2.2.2.1 rfl | exact hpre.2.2.2.2.2.2.2.2.1 rfl | exact hpre.2.2.2.2.2.2.2.2.2.1 rfl)
            clear hA hpre
            go_simp
            first | exact hK _ _ hB rfl (fun _ _ h => h) | exact hK _ _ hB trivial (fun _ _ h => h) | (rw [if_neg (by omega)]; go_simp; exact hK _ _ hB rfl (fun _ _ h => h))
          · intro vs Wx A hA hB hpre K hK
            have e64 := ((hA 64).trans (show _ = vs 17 by kernel_rfl)).trans (by first | exact hpre.1 rfl | exact hpre.2.1 rfl | exact hpre.2.2.1 rfl | exact hpre.2.2.2.1 rfl | exact hpre.2.2.2.2.1 rfl | exact hpre.2.2.2.2.2.1 rfl | exact hpre.2.2.2.2.2.2.1 rfl | exact hpre.2.2.2.2.2.2.2.1 rfl | exact hpre.2.2.2.2.2.2.2.2.1 rfl | exact hpre.2.2.2.2.2.2.2.2.2.1 rfl)
            clear hA hpre
            go_simp
            first | exact hK _ _ hB rfl (fun _ _ h => h) | exact hK _ _ hB trivial (fun _ _ h => h) | (rw [if_neg (by omega)]; go_simp; exact hK _ _ hB rfl (fun _ _ h => h))
          · intro vs Wx A hA hB hpre K hK
            have e65 := ((hA 65).trans (show _ = vs 18 by kernel_rfl)).trans (by first | exact hpre.1 rfl | exact hpre.2.1 rfl | exact hpre.2.2.1 rfl | exact hpre.2.2.2.1 rfl | exact hpre.2.2.2.2.1 rfl | exact hpre.2.2.2.2.2.1 rfl | exact hpre.2.2.2.2.2.2.1 rfl | exact hpre.2.2.2.2.2.2.2.1 rfl | exact hpre.2.2.2.2.2.2.2.2.1 rfl | exact hpre.2.2.2.2.2.2.2.2.2.1 rfl)
            obtain ⟨y0, y1, y2, y3, y4, y5, y6, y7⟩ := HXK.out Wx hB
            clear hA hpre
            go_simp
            first | exact hK _ _ hB rfl (fun _ _ h => h) | exact hK _ _ hB trivial (fun _ _ h => h) | (rw [if_neg (by omega)]; go_simp; exact hK _ _ hB rfl (fun _ _ h => h))
          · intro vs Wx A hA hB hpre K hK
            have e1 := (hA 1).trans (show _ = Value.slice (some ⟨b2, o2, none⟩) os.length co by kernel_rfl)
            clear hA hpre
            go_simp
            first | exact hK _ _ hB rfl (fun _ _ h => h) | exact hK _ _ hB trivial (fun _ _ h => h) | (rw [if_neg (by omega)]; go_simp; exact hK _ _ hB rfl (fun _ _ h => h))
          · intro vs Wx A hA hB hpre K hK
            have e6 := (hA 6).trans (show _ = Value.int .i64 (q : Nat) by kernel_rfl)
            clear hA hpre
            go_simp
            first | exact hK _ _ hB rfl (fun _ _ h => h) | exact hK _ _ hB trivial (fun _ _ h => h) | (rw [if_neg (by omega)]; go_simp; exact hK _ _ hB rfl (fun _ _ h => h))
          · intro vs Wx A hA hB hpre K hK
            have e67 := ((hA 67).trans (show _ = vs 20 by kernel_rfl)).trans (by first | exact hpre.1 rfl | exact hpre.2.1 rfl | exact hpre.2.2.1 rfl | exact hpre.2.2.2.1 rfl | exact hpre.2.2.2.2.1 rfl | exact hpre.2.2.2.2.2.1 rfl | exact hpre.2.2.2.2.2.2.1 rfl | exact hpre.2.2.2.2.2.2.2.1 rfl | exact hpre.2.2.2.2.2.2.2.2.1 rfl | exact hpre.2.2.2.2.2.2.2.2.2.1 rfl)
            have e68 := ((hA 68).trans (show _ = vs 21 by kernel_rfl)).trans (by first | exact hpre.1 rfl | exact hpre.2.1 rfl | exact hpre.2.2.1 rfl | exact hpre.2.2.2.1 rfl | exact hpre.2.2.2.2.1 rfl | exact hpre.2.2.2.2.2.1 rfl | exact hpre.2.2.2.2.2.2.1 rfl | exact hpre.2.2.2.2.2.2.2.1 rfl | exact hpre.2.2.2.2.2.2.2.2.1 rfl | exact hpre.2.2.2.2.2.2.2.2.2.1 rfl)
            clear hA hpre
            go_simp
            first | exact hK _ _ hB rfl (fun _ _ h => h) | exact hK _ _ hB trivial (fun _ _ h => h) | (rw [if_neg (by omega)]; go_simp; exact hK _ _ hB rfl (fun _ _ h => h))
          · intro vs Wx A hA hB hpre K hK
            have e69 := ((hA 69).trans (show _ = vs 22 by kernel_rfl)).trans (by first | exact hpre.1 rfl | exact hpre.2.1 rfl | exact hpre.2.2.1 rfl | exact hpre.2.2.2.1 rfl | exact hpre.2.2.2.2.1 rfl | exact hpre.2.2.2.2.2.1 rfl | exact hpre.2.2.2.2.2.2.1 rfl | exact hpre.2.2.2.2.2.2.2.1 rfl | exact hpre.2.2.2.2.2.2.2.2.1 rfl | exact hpre.2.2.2.2.2.2.2.2.2.1 rfl)
            clear hA hpre
            go_simp
            first | exact hK _ _ hB rfl (fun _ _ h => h) | exact hK _ _ hB trivial (fun _ _ h => h) | (rw [if_neg (by omega)]; go_simp; exact hK _ _ hB rfl (fun _ _ h => h))
          · intro vs Wx A hA hB hpre K hK
            have e70 := ((hA 70).trans (show _ = vs 23 by kernel_rfl)).trans (by first | exact hpre.1 rfl | exact hpre.2.1 rfl | exact hpre.2.2.1 rfl | exact hpre.2.2.2.1 rfl | exact hpre.2.2.2.2.1 rfl | exact hpre.2.2.2.2.2.1 rfl | exact hpre.2.2.2.2.2.2.1 rfl | exact hpre.2.2.2.2.2.2.2.1 rfl | exact hpre.2.2.2.2.2.2.2.2.1 rfl | exact hpre.2.2.2.2.2.2.2.2.2.1 rfl)
            obtain ⟨y0, y1, y2, y3, y4, y5, y6, y7⟩ := HXK.out Wx hB
            clear hA hpre
            go_simp
            first | exact hK _ _ hB rfl (fun _ _ h => h) | exact hK _ _ hB trivial (fun _ _ h => h) | (rw [if_neg (by omega)]; go_simp; exact hK _ _ hB rfl (fun _ _ h => h))
          · intro vs Wx A hA hB hpre K hK
            have e1 := (hA 1).trans (show _ = Value.slice (some ⟨b2, o2, none⟩) os.length co by kernel_rfl)
            clear hA hpre
            go_simp
            first | exact hK _ _ hB rfl (fun _ _ h => h) | exact hK _ _ hB trivial (fun _ _ h => h) | (rw [if_neg (by omega)]; go_simp; exact hK _ _ hB rfl (fun _ _ h => h))
          · intro vs Wx A hA hB hpre K hK
            have e6 := (hA 6).trans (show _ = Value.int .i64 (q : Nat) by kernel_rfl)
            clear hA hpre
            go_simp
            first | exact hK _ _ hB rfl (fun _ _ h => h) | exact hK _ _ hB trivial (fun _ _ h => h) | (rw [if_neg (by omega)]; go_simp; exact hK _ _ hB rfl (fun _ _ h => h))
          · intro vs Wx A hA hB hpre K hK
            have e72 := ((hA 72).trans (show _ = vs 25 by kernel_rfl)).trans (by first | exact hpre.1 rfl | exact hpre.2.1 rfl | exact hpre.2.2.1 rfl | exact hpre.2.2.2.1 rfl | exact hpre.2.2.2.2.1 rfl | exact hpre.2.2.2.2.2.1 rfl | exact hpre.2.2.2.2.2.2.1 rfl | exact hpre.2.2.2.2.2.2.2.1 rfl | exact hpre.2.2.2.2.2.2.2.2.1 rfl | exact hpre.2.2.2.2.2.2.2.2.2.1 rfl)
            have e73 := ((hA 73).trans (show _ = vs 26 by kernel_rfl)).trans (by first | exact hpre.1 rfl | exact hpre.2.1 rfl | exact hpre.2.2.1 rfl | exact hpre.2.2.2.1 rfl | exact hpre.2.2.2.2.1 rfl | exact hpre.2.2.2.2.2.1 rfl | exact hpre.2.2.2.2.2.2.1 rfl | exact hpre.2.2.2.2.2.2.2.1 rfl | exact hpre.2.2.2.2.2.2.2.2.1 rfl | exact hpre.2.2.2.2.2.2.2.2.2.1 rfl)
            clear hA hpre
            go_simp
            first | exact hK _ _ hB rfl (fun _ _ h => h) | exact hK _ _ hB trivial (fun _ _ h => h) | (rw [if_neg (by omega)]; go_simp; exact hK _ _ hB rfl (fun _ _ h => h))
          · intro vs Wx A hA hB hpre K hK
            have e74 := ((hA 74).trans (show _ = vs 27 by kernel_rfl)).trans (by first | exact hpre.1 rfl | exact hpre.2.1 rfl | exact hpre.2.2.1 rfl | exact hpre.2.2.2.1 rfl | exact hpre.2.2.2.2.1 rfl | exact hpre.2.2.2.2.2.1 rfl | exact hpre.2.2.2.2.2.2.1 rfl | exact hpre.2.2.2.2.2.2.2.1 rfl | exact hpre.2.2.2.2.2.2.2.2.1 rfl | exact hpre.2.2.2.2.2.2.2.2.2.1 rfl)
            clear hA hpre
            go_simp
            first | exact hK _ _ hB rfl (fun _ _ h => h) | exact hK _ _ hB trivial (fun _ _ h => h) | (rw [if_neg (by omega)]; go_simp; exact hK _ _ hB rfl (fun _ _ h => h))
          · intro vs Wx A hA hB hpre K hK
            have e75 := ((hA 75).trans (show _ = vs 28 by kernel_rfl)).trans (by first | exact hpre.1 rfl | exact hpre.2.1 rfl | exact hpre.2.2.1 rfl | exact hpre.2.2.2.1 rfl | exact hpre.2.2.2.2.1 rfl | exact hpre.2.2.2.2.2.1 rfl | exact hpre.2.2.2.2.2.2.1 rfl | exact hpre.2.2.2.2.2.2.2.1 rfl | exact hpre.2.2.2.2.2.2.2.2.1 rfl | exact hpre.2.2.2.2.2.2.2.2.2.1 rfl)
            obtain ⟨y0, y1, y2, y3, y4, y5, y6, y7⟩ := HXK.out Wx hB
            clear hA hpre
            go_simp
            first | exact hK _ _ hB rfl (fun _ _ h => h) | exact hK _ _ hB trivial (fun _ _ h => h) | (rw [if_neg (by omega)]; go_simp; exact hK _ _ hB rfl (fun _ _ h => h))
          · intro vs Wx A hA hB hpre K hK
            have e51 := ((hA 51).trans (show _ = vs 4 by kernel_rfl)).trans (by first | exact hpre.1 rfl | exact hpre.2.1 rfl | exact hpre.2.2.1 rfl | exact hpre.2.2.2.1 rfl | exact hpre.2.2.2.2.1 rfl | exact hpre.2.2.2.2.2.1 rfl | exact hpre.2.2.2.2.2.2.1 rfl | exact hpre.2.2.2.2.2.2.2.1 rfl | exact hpre.2.2.2.2.2.2.2.2.1 rfl | exact hpre.2.2.2.2.2.2.2.2.2.1 rfl)
            have e56 := ((hA 56).trans (show _ = vs 9 by kernel_rfl)).trans (by first | exact hpre.1 rfl | exact hpre.2.1 rfl | exact hpre.2.2.1 rfl | exact hpre.2.2.2.1 rfl | exact hpre.2.2.2.2.1 rfl | exact hpre.2.2.2.2.2.1 rfl | exact hpre.2.2.2.2.2.2.1 rfl | exact hpre.2.2.2.2.2.2.2.1 rfl | exact hpre.2.2.2.2.2.2.2.2.1 rfl | exact hpre.2.2.2.2.2.2.2.2.2.1 rfl)
            have e61 := ((hA 61).trans (show _ = vs 14 by kernel_rfl)).trans (by first | exact hpre.1 rfl | exact hpre.2.1 rfl | exact hpre.2.2.1 rfl | exact hpre.2.2.2.1 rfl | exact hpre.2.2.2.2.1 rfl | exact hpre.2.2.2.2.2.1 rfl | exact hpre.2.2.2.2.2.2.1 rfl | exact hpre.2.2.2.2.2.2.2.1 rfl | exact hpre.2.2.2.2.2.2.2.2.1 rfl | exact hpre.2.2.2.2.2.2.2.2.2.1 rfl)
            have e66 := ((hA 66).trans (show _ = vs 19 by kernel_rfl)).trans (by first | exact hpre.1 rfl | exact hpre.2.1 rfl | exact hpre.2.2.1 rfl | exact hpre.2.2.2.1 rfl | exact hpre.2.2.2.2.1 rfl | exact hpre.2.2.2.2.2.1 rfl | exact hpre.2.2.2.2.2.2.1 rfl | exact hpre.2.2.2.2.2.2.2.1 rfl | exact hpre.2.2.2.2.2.2.2.2.1 rfl | exact hpre.2.2.2.2.2.2.2.2.2.1 rfl)
            have e71 := ((hA 71).trans (show _ = vs 24 by kernel_rfl)).trans (by first | exact hpre.1 rfl | exact hpre.2.1 rfl | exact hpre.2.2.1 rfl | exact hpre.2.2.2.1 rfl | exact hpre.2.2.2.2.1 rfl | exact hpre.2.2.2.2.2.1 rfl | exact hpre.2.2.2.2.2.2.1 rfl | exact hpre.2.2.2.2.2.2.2.1 rfl | exact hpre.2.2.2.2.2.2.2.2.1 rfl | exact hpre.2.2.2.2.2.2.2.2.2.1 rfl)
            have e76 := ((hA 76).trans (show _ = vs 29 by kernel_rfl)).trans (by first | exact hpre.1 rfl | exact hpre.2.1 rfl | exact hpre.2.2.1 rfl | exact hpre.2.2.2.1 rfl | exact hpre.2.2.2.2.1 rfl | exact hpre.2.2.2.2.2.1 rfl | exact hpre.2.2.2.2.2.2.1 rfl | exact hpre.2.2.2.2.2.2.2.1 rfl | exact hpre.2.2.2.2.2.2.2.2.1 rfl | exact hpre.2.2.2.2.2.2.2.2.2.1 rfl)
            clear hA hpre
            go_simp
            refine hK _ _ (below_trans hB (below_alloc Wx _)) ⟨_, rfl, heap_alloc_new Wx _⟩ (fun jz hj hz => ?_)
            match jz, hj, hz with
            | 0, _, hz => exact hz
            | 1, _, hz => exact hz
            | 2, _, hz => exact hz
            | 3, _, hz => exact hz
            | 4, _, hz => exact hz
            | 5, _, hz => exact hz
            | 6, _, hz => exact hz
            | 7, _, hz => exact hz
            | 8, _, hz => exact hz
            | 9, _, hz => exact hz
            | 10, _, hz => exact hz
            | 11, _, hz => exact hz
            | 12, _, hz => exact hz
            | 13, _, hz => exact hz
            | 14, _, hz => exact hz
            | 15, _, hz => exact hz
            | 16, _, hz => exact hz
            | 17, _, hz => exact hz
            | 18, _, hz => exact hz
            | 19, _, hz => exact hz
            | 20, _, hz => exact hz
            | 21, _, hz => exact hz
            | 22, _, hz => exact hz
            | 23, _, hz => exact hz
            | 24, _, hz => exact hz
            | 25, _, hz => exact hz
            | 26, _, hz => exact hz
            | 27, _, hz => exact hz
            | 28, _, hz => exact hz
            | 29, _, hz => exact hz
            | 30, hj, _ => exact absurd rfl hj
            | 31, _, hz => exact (hz.elim fun g h => ⟨g, h.1, keepB h.2 (below_alloc Wx _)⟩)
            | n + 32, _, hz => exact hz
          · intro vs Wx A hA hB hpre K hK
            have hx30 : (∃ g : Nat, vs 30 = .slice (some ⟨g, 0, none⟩) 6 6 ∧ Wx.heap[g]? = some (.cells (#[.int .i64 o.plan, .int .i64 o.wr, .int .i64 o.pr, .int .i64 o.de, .int .i64 o.cp, .int .i64 o.cn] : Array Value) 2 (0, 0))) := by first | exact hpre.1 rfl | exact hpre.2.1 rfl | exact hpre.2.2.1 rfl | exact hpre.2.2.2.1 rfl | exact hpre.2.2.2.2.1 rfl | exact hpre.2.2.2.2.2.1 rfl | exact hpre.2.2.2.2.2.2.1 rfl | exact hpre.2.2.2.2.2.2.2.1 rfl | exact hpre.2.2.2.2.2.2.2.2.1 rfl | exact hpre.2.2.2.2.2.2.2.2.2.1 rfl
            obtain ⟨gx30, hv30, hh30⟩ := hx30
            have e77 := ((hA 77).trans (show _ = vs 30 by kernel_rfl)).trans hv30
            clear hA hpre
            go_simp
            exact hK _ _ hB ⟨gx30, rfl, hh30⟩ (fun _ _ h => h)
          · intro vs Wx hB hF
            obtain ⟨g, hL, hgc⟩ := hF 31 (by decide)
            have HGC := Lib.hid hgc
            have HB3 : Hid (Below W.heap.size W Wx) := HBq.out.trans (hB.mono HBq.out.size)
            clear hF hB HXK HD hgc
            simp only [Ri.puts]
            rw [hL]
            clear hL
            go_simp
            go_wp2
            go_loopg [8] 6 (fun gg t8 wz => ∃ j : Nat, j ≤ 6 ∧ gg = 6 - j ∧ t8 = .int .i64 j ∧ Hid (∀ x ∈ (six6 o).take j, Bd x) ∧ wz = Wx)
            case atStart => exact ⟨0, by omega, rfl, rfl, by simp [Hid], rfl⟩
            case round =>
              obtain ⟨j, hj, hgj, rfl, HAj, hwz⟩ := hrel
              rw [hwz]
              clear hwz wr
              have HBf : Hid (Below p w Wx) := HB.out.trans (HB3.out.mono HPW.out)
              by_cases hlj : j < 6
              · have hljz : (j : Int) < 6 := by omega
                obtain ⟨x, hx, hcx⟩ := six_at HGC.out j hlj
                have HSJ := Lib.hid fun h => take_snoc (p := Bd) hx HAj.out h
                clear hx
                by_cases h1 : 1125899906842624 < x
                · go_wp2
                  go_ret
                  exact HNO.out _ HBf.out
                by_cases h2 : x < -1125899906842624
                · go_wp2
                  go_ret
                  exact HNO.out _ HBf.out
                have HSJ2 := Lib.hid (HSJ.out ⟨by omega, by omega⟩)
                go_wp2
                go_roundg (6 - (j + 1))
                case measure => omega
                case rel => exact ⟨j + 1, by omega, rfl, by go_num, HSJ2.out, rfl⟩
              · have hljz : ¬ (j : Int) < 6 := by omega
                have hj6 : j = 6 := by omega
                have HSQ : Hid (∀ o' ∈ os.take (q + 1), Bd o'.plan ∧ Bd o'.wr ∧ Bd o'.pr ∧ Bd o'.de ∧ Bd o'.cp ∧ Bd o'.cn) := HSO.out (six_bd (by rw [← hj6]; exact HAj.out))
                clear hj6
                go_wp2
                go_roundg (os.length - (q + 1))
                case measure => omega
                case rel => exact ⟨q + 1, by omega, rfl, by go_num, HSQ.out, HB3.out⟩
        · have hlqz : ¬ (q : Int) < (os.length : Int) := by omega
          have HFO := Lib.hid (take_full (p := fun o : Ot => Bd o.plan ∧ Bd o.wr ∧ Bd o.pr ∧ Bd o.de ∧ Bd o.cp ∧ Bd o.cn) (by omega) HAq.out)
          go_wp2
          go_ret
          exact HYS.out _ HBp2.out ho300 HLA.out HFO.out
end Go.Proofs.Ytpnkgkchpoehcaa.Sv
