/-
  Texts put together (merge.py): VOne, VHalf.
-/
import Derived.Deep.OwnRows
import Derived.Deep.Slices
import Derived.Test.YtpfpjbeofogbgaaMm9
import Derived.Test.YtpfpjbeofogbgaaMm4
set_option linter.unusedSimpArgs false
set_option linter.unusedVariables false
section
set_option maxRecDepth 100000
namespace Go.Proofs.Ytpfpjbeofogbgaa.Sv
open Go.RowKit
open Sh (Ot)
open Cm (Ln lnv)
open Bk (keepB below_alloc below_trans alloc_new heap_set heap_far)
theorem frz4 {w : World} {b : Nat} {cs : Array Value} {T : TypeId} (h : w.heap[b]? = some (.cells cs T (0, 0))) : w.frozen? ⟨b, 0, none⟩ = false ∧ w.frozen? ⟨b, 1, none⟩ = false ∧ w.frozen? ⟨b, 2, none⟩ = false ∧ w.frozen? ⟨b, 3, none⟩ = false := by
 refine ⟨?_, ?_, ?_, ?_⟩ <;> simp [World.frozen?, h]
theorem put4_heap {W : World} {b : Nat} {c0 c1 c2 c3 : Value} {T : TypeId} (h : W.heap[b]? = some (.cells #[c0, c1, c2, c3] T (0, 0))) (a0 a1 a2 a3 : Value) : ((((W.setCell ⟨b, 0, none⟩ a0).setCell ⟨b, 1, none⟩ a1).setCell ⟨b, 2, none⟩ a2).setCell ⟨b, 3, none⟩ a3).heap[b]? = some (.cells #[a0, a1, a2, a3] T (0, 0)) := by
 have h0 := heap_set h 0 a0
 have h1 := heap_set h0 1 a1
 have h2 := heap_set h1 2 a2
 have h3 := heap_set h2 3 a3
 rw [h3]; rfl
theorem put4_far {W : World} {b q : Nat} {o : Obj} (h : W.heap[b]? = some o) (hne : b ≠ q) (a0 a1 a2 a3 : Value) : ((((W.setCell ⟨q, 0, none⟩ a0).setCell ⟨q, 1, none⟩ a1).setCell ⟨q, 2, none⟩ a2).setCell ⟨q, 3, none⟩ a3).heap[b]? = some o := heap_far (heap_far (heap_far (heap_far h hne) hne) hne) hne
theorem put4_keep {W : World} {b q : Nat} (hne : b ≠ q) (a0 a1 a2 a3 : Value) : ((((W.setCell ⟨q, 0, none⟩ a0).setCell ⟨q, 1, none⟩ a1).setCell ⟨q, 2, none⟩ a2).setCell ⟨q, 3, none⟩ a3).heap[b]? = W.heap[b]? := by
 repeat rw [Below.heap_setCell _ _ _ _ hne]
theorem put4_below {B : Nat} {w W : World} (h : Below B w W) (b : Nat) (hb : B ≤ b) (a0 a1 a2 a3 : Value) : Below B w ((((W.setCell ⟨b, 0, none⟩ a0).setCell ⟨b, 1, none⟩ a1).setCell ⟨b, 2, none⟩ a2).setCell ⟨b, 3, none⟩ a3) :=
 (((h.setCell (p := ⟨b, 0, none⟩) hb a0).setCell (p := ⟨b, 1, none⟩) hb a1).setCell (p := ⟨b, 2, none⟩) hb a2).setCell (p := ⟨b, 3, none⟩) hb a3
theorem put4_size (W : World) (b : Nat) (a0 a1 a2 a3 : Value) : ((((W.setCell ⟨b, 0, none⟩ a0).setCell ⟨b, 1, none⟩ a1).setCell ⟨b, 2, none⟩ a2).setCell ⟨b, 3, none⟩ a3).heap.size = W.heap.size := by simp
theorem ownK_set {W : World} {B q : Nat} {v : Value} {l : List Ca} (h : OwnK B W v l) (hq : q < B) (a0 a1 a2 a3 : Value) : OwnK B ((((W.setCell ⟨q, 0, none⟩ a0).setCell ⟨q, 1, none⟩ a1).setCell ⟨q, 2, none⟩ a2).setCell ⟨q, 3, none⟩ a3) v l := by
 refine ⟨h.1, h.2.imp id ?_⟩
 rintro ⟨g, c, cur, rfl, h0, hh, hr⟩
 exact ⟨g, c, cur, rfl, h0, put4_far hh (by omega) .., hr⟩
theorem ownK_low {W : World} {B B' : Nat} {v : Value} {l : List Ca} (h : OwnK B W v l) (hq : B' ≤ B) : OwnK B' W v l := by
 refine ⟨h.1, h.2.imp id ?_⟩
 rintro ⟨g, c, cur, rfl, h0, hh, hr⟩
 exact ⟨g, c, cur, rfl, Nat.le_trans hq h0, hh, hr⟩
set_option maxHeartbeats 8000000 in
theorem service_any (l : Ln) (ml : Value) (o : Ot) (w : World) (hml : ∃ a n c, ml = .slice a n c) :
  Calls Try.prog 49 #[lnv l ml, .agg #[.int .i64 o.al, .int .i64 o.de, .int .i64 o.cp, .int .i64 o.cn, .int .i64 o.plan, .int .i64 o.wr, .int .i64 o.pr, .int .i64 o.deny]] w fun e w' => ∃ v', e = .returned (srv (oneV l o) v') ∧ OwnK (w.heap.size + 3) w' v' (casV o) ∧ Below w.heap.size w w' := by
 obtain ⟨am, nm, cm, rfl⟩ := hml
 have HB : Hid (Below w.heap.size w (((w.alloc (.cells #[.string (mk l.proc), (.slice am nm cm), .int .i64 l.date, .int .i64 l.units, .int .i64 l.billed, .int .i64 l.prior] 56)).alloc (.cells #[.int .i64 o.al, .int .i64 o.de, .int .i64 o.cp, .int .i64 o.cn, .int .i64 o.plan, .int .i64 o.wr, .int .i64 o.pr, .int .i64 o.deny] 50)).alloc (.cells (#[.string { data := #[] }, .int .i64 0, .int .i64 0, .slice none 0 0] : Array Value) Ts))) := below_trans (below_trans (below_alloc w _) (below_alloc _ _)) (below_alloc _ _)
 have HX := Lib.hid (keepB (keepB (alloc_new w (#[.string (mk l.proc), (.slice am nm cm), .int .i64 l.date, .int .i64 l.units, .int .i64 l.billed, .int .i64 l.prior]) 56) (below_alloc _ (.cells #[.int .i64 o.al, .int .i64 o.de, .int .i64 o.cp, .int .i64 o.cn, .int .i64 o.plan, .int .i64 o.wr, .int .i64 o.pr, .int .i64 o.deny] 50))) (below_alloc _ (.cells (#[.string { data := #[] }, .int .i64 0, .int .i64 0, .slice none 0 0] : Array Value) Ts)))
 have HY := Lib.hid (keepB (alloc_new (w.alloc (.cells #[.string (mk l.proc), (.slice am nm cm), .int .i64 l.date, .int .i64 l.units, .int .i64 l.billed, .int .i64 l.prior] 56)) (#[.int .i64 o.al, .int .i64 o.de, .int .i64 o.cp, .int .i64 o.cn, .int .i64 o.plan, .int .i64 o.wr, .int .i64 o.pr, .int .i64 o.deny]) 50) (below_alloc _ (.cells (#[.string { data := #[] }, .int .i64 0, .int .i64 0, .slice none 0 0] : Array Value) Ts)))
 have HZ := Lib.hid (alloc_new ((w.alloc (.cells #[.string (mk l.proc), (.slice am nm cm), .int .i64 l.date, .int .i64 l.units, .int .i64 l.billed, .int .i64 l.prior] 56)).alloc (.cells #[.int .i64 o.al, .int .i64 o.de, .int .i64 o.cp, .int .i64 o.cn, .int .i64 o.plan, .int .i64 o.wr, .int .i64 o.pr, .int .i64 o.deny] 50)) (#[.string { data := #[] }, .int .i64 0, .int .i64 0, .slice none 0 0] : Array Value) Ts)
 rw [show (w.alloc (.cells #[.string (mk l.proc), (.slice am nm cm), .int .i64 l.date, .int .i64 l.units, .int .i64 l.billed, .int .i64 l.prior] 56)).heap.size = w.heap.size + 1 by simp] at HY
 rw [show ((w.alloc (.cells #[.string (mk l.proc), (.slice am nm cm), .int .i64 l.date, .int .i64 l.units, .int .i64 l.billed, .int .i64 l.prior] 56)).alloc (.cells #[.int .i64 o.al, .int .i64 o.de, .int .i64 o.cp, .int .i64 o.cn, .int .i64 o.plan, .int .i64 o.wr, .int .i64 o.pr, .int .i64 o.deny] 50)).heap.size = w.heap.size + 1 + 1 by simp] at HZ
 have HSZ : Hid ((((w.alloc (.cells #[.string (mk l.proc), (.slice am nm cm), .int .i64 l.date, .int .i64 l.units, .int .i64 l.billed, .int .i64 l.prior] 56)).alloc (.cells #[.int .i64 o.al, .int .i64 o.de, .int .i64 o.cp, .int .i64 o.cn, .int .i64 o.plan, .int .i64 o.wr, .int .i64 o.pr, .int .i64 o.deny] 50)).alloc (.cells (#[.string { data := #[] }, .int .i64 0, .int .i64 0, .slice none 0 0] : Array Value) Ts)).heap.size = w.heap.size + 3) := by show _ = _; simp
 go_enter Try.func49, Try.ntmps49
 go_upto_region 1 with fail
 generalize (((w.alloc (.cells #[.string (mk l.proc), (.slice am nm cm), .int .i64 l.date, .int .i64 l.units, .int .i64 l.billed, .int .i64 l.prior] 56)).alloc (.cells #[.int .i64 o.al, .int .i64 o.de, .int .i64 o.cp, .int .i64 o.cn, .int .i64 o.plan, .int .i64 o.wr, .int .i64 o.pr, .int .i64 o.deny] 50)).alloc (.cells (#[.string { data := #[] }, .int .i64 0, .int .i64 0, .slice none 0 0] : Array Value) Ts)) = W at *
 generalize hp : w.heap.size = p at *
 have HD := Lib.hid (Below.drew (Below.refl W.heap.size W))
 have HXK : Hid (∀ W', Below W.heap.size W W' → W'.heap[p]? = some (.cells (#[.string (mk l.proc), (.slice am nm cm), .int .i64 l.date, .int .i64 l.units, .int .i64 l.billed, .int .i64 l.prior]) 56 (0, 0)) ∧ W'.heap[p + 1]? = some (.cells (#[.int .i64 o.al, .int .i64 o.de, .int .i64 o.cp, .int .i64 o.cn, .int .i64 o.plan, .int .i64 o.wr, .int .i64 o.pr, .int .i64 o.deny]) 50 (0, 0)) ∧ W'.heap[p + 1 + 1]? = some (.cells (#[.string { data := #[] }, .int .i64 0, .int .i64 0, .slice none 0 0] : Array Value) Ts (0, 0))) := fun W' hW => ⟨keepB HX.out hW, keepB HY.out hW, keepB HZ.out hW⟩
 refine Ri.wp_region_tailX 8 (by kernel_rfl) (by kernel_rfl) (by kernel_rfl) (by decide) (by kernel_rfl) (fun Wx => Below W.heap.size W Wx) (fun kz vs wz => (fun kx vx wx => match kx with | 0 => vx = .pointer (some ⟨p, 0, none⟩) | 1 => vx = .string (mk l.proc) | 2 => vx = .pointer (some ⟨p, 4, none⟩) | 3 => vx = .int .i64 l.billed | 4 => vx = .pointer (some ⟨(p + 1), 4, none⟩) | 5 => vx = .int .i64 o.plan | 6 => vx = .agg #[.int .i64 o.al, .int .i64 o.de, .int .i64 o.cp, .int .i64 o.cn, .int .i64 o.plan, .int .i64 o.wr, .int .i64 o.pr, .int .i64 o.deny] | 7 => (∃ g : Option Addr × Nat, vx = .slice g.1 (casV o).length g.2 ∧ OwnK (p + 3) wx (.slice g.1 (casV o).length g.2) (casV o)) | _ => True : Nat → Value → World → Prop) kz (vs kz) wz) (fun lst vs => True) (fun kz => [kz]) (by kernel_rfl) (fun jz vs iz vz wz hiz hz => Ri.loc_own (F := (fun kx vx wx => match kx with | 0 => vx = .pointer (some ⟨p, 0, none⟩) | 1 => vx = .string (mk l.proc) | 2 => vx = .pointer (some ⟨p, 4, none⟩) | 3 => vx = .int .i64 l.billed | 4 => vx = .pointer (some ⟨(p + 1), 4, none⟩) | 5 => vx = .int .i64 o.plan | 6 => vx = .agg #[.int .i64 o.al, .int .i64 o.de, .int .i64 o.cp, .int .i64 o.cn, .int .i64 o.plan, .int .i64 o.wr, .int .i64 o.pr, .int .i64 o.deny] | 7 => (∃ g : Option Addr × Nat, vx = .slice g.1 (casV o).length g.2 ∧ OwnK (p + 3) wx (.slice g.1 (casV o).length g.2) (casV o)) | _ => True : Nat → Value → World → Prop)) jz vs iz vz wz hiz hz) HD.out ?_ ⟨⟨rfl, ?_⟩, ⟨rfl, ?_⟩, ⟨rfl, ?_⟩, ⟨rfl, ?_⟩, ⟨rfl, ?_⟩, ⟨rfl, ?_⟩, ⟨rfl, ?_⟩, ⟨rfl, ?_⟩, trivial⟩ ?_
 ·intro vs hvs
  exact trivial
 ·intro vs Wx A lst hA hB hls hX hno hpre K hK
  have e2 := (hA 2).trans (show _ = Value.pointer (some ⟨p, 0, none⟩) by kernel_rfl)
  clear hA hpre
  go_simp
  first | exact hK _ _ hB (by trivial) (fun _ _ h => h) hX | (rw [if_neg (by omega)]; go_simp; exact hK _ _ hB rfl (fun _ _ h => h) hX)
 ·intro vs Wx A lst hA hB hls hX hno hpre K hK
  have e5 := ((hA 5).trans (show _ = vs 0 by kernel_rfl)).trans (by repeat first | exact hpre.1 rfl | replace hpre := hpre.2)
  obtain ⟨hx, hy, -⟩ := HXK.out Wx hB
  obtain ⟨x0, x1, x2, x3, x4, x5⟩ := six hx
  obtain ⟨y0, y1, y2, y3, y4, y5, y6, y7⟩ := Sh.eight hy
  clear hx hy
  clear hA hpre
  go_simp
  first | exact hK _ _ hB (by trivial) (fun _ _ h => h) hX | (rw [if_neg (by omega)]; go_simp; exact hK _ _ hB rfl (fun _ _ h => h) hX)
 ·intro vs Wx A lst hA hB hls hX hno hpre K hK
  have e2 := (hA 2).trans (show _ = Value.pointer (some ⟨p, 0, none⟩) by kernel_rfl)
  clear hA hpre
  go_simp
  first | exact hK _ _ hB (by trivial) (fun _ _ h => h) hX | (rw [if_neg (by omega)]; go_simp; exact hK _ _ hB rfl (fun _ _ h => h) hX)
 ·intro vs Wx A lst hA hB hls hX hno hpre K hK
  have e7 := ((hA 7).trans (show _ = vs 2 by kernel_rfl)).trans (by repeat first | exact hpre.1 rfl | replace hpre := hpre.2)
  obtain ⟨hx, hy, -⟩ := HXK.out Wx hB
  obtain ⟨x0, x1, x2, x3, x4, x5⟩ := six hx
  obtain ⟨y0, y1, y2, y3, y4, y5, y6, y7⟩ := Sh.eight hy
  clear hx hy
  clear hA hpre
  go_simp
  first | exact hK _ _ hB (by trivial) (fun _ _ h => h) hX | (rw [if_neg (by omega)]; go_simp; exact hK _ _ hB rfl (fun _ _ h => h) hX)
 ·intro vs Wx A lst hA hB hls hX hno hpre K hK
  have e3 := (hA 3).trans (show _ = Value.pointer (some ⟨(p + 1), 0, none⟩) by kernel_rfl)
  clear hA hpre
  go_simp
  first | exact hK _ _ hB (by trivial) (fun _ _ h => h) hX | (rw [if_neg (by omega)]; go_simp; exact hK _ _ hB rfl (fun _ _ h => h) hX)
 ·intro vs Wx A lst hA hB hls hX hno hpre K hK
  have e9 := ((hA 9).trans (show _ = vs 4 by kernel_rfl)).trans (by repeat first | exact hpre.1 rfl | replace hpre := hpre.2)
  obtain ⟨hx, hy, -⟩ := HXK.out Wx hB
  obtain ⟨x0, x1, x2, x3, x4, x5⟩ := six hx
  obtain ⟨y0, y1, y2, y3, y4, y5, y6, y7⟩ := Sh.eight hy
  clear hx hy
  clear hA hpre
  go_simp
  first | exact hK _ _ hB (by trivial) (fun _ _ h => h) hX | (rw [if_neg (by omega)]; go_simp; exact hK _ _ hB rfl (fun _ _ h => h) hX)
 ·intro vs Wx A lst hA hB hls hX hno hpre K hK
  have e3 := (hA 3).trans (show _ = Value.pointer (some ⟨(p + 1), 0, none⟩) by kernel_rfl)
  obtain ⟨hx, hy, -⟩ := HXK.out Wx hB
  obtain ⟨x0, x1, x2, x3, x4, x5⟩ := six hx
  obtain ⟨y0, y1, y2, y3, y4, y5, y6, y7⟩ := Sh.eight hy
  clear hx hy
  clear hA hpre
  go_simp
  first | exact hK _ _ hB (by trivial) (fun _ _ h => h) hX | (rw [if_neg (by omega)]; go_simp; exact hK _ _ hB rfl (fun _ _ h => h) hX)
 ·intro vs Wx A lst hA hB hls hX hno hpre K hK
  have e11 := ((hA 11).trans (show _ = vs 6 by kernel_rfl)).trans (by repeat first | exact hpre.1 rfl | replace hpre := hpre.2)
  clear hA hpre
  go_simp
  go_at_call 61
  refine (adjustments_any o Wx).mono ?_
  rintro e w4 ⟨v', rfl, ho, hg⟩
  obtain ⟨ua, uc, rfl, -, -⟩ := ownK_form ho
  refine hK _ _ (below_trans hB hg) ⟨(ua, uc), rfl, ownK_low ho (by have := HSZ.out; have := hB.size; omega)⟩ (fun jz hj hz => ?_) hX
  match jz, hj, hz with
  | 0, _, hz => exact hz
  | 1, _, hz => exact hz
  | 2, _, hz => exact hz
  | 3, _, hz => exact hz
  | 4, _, hz => exact hz
  | 5, _, hz => exact hz
  | 6, _, hz => exact hz
  | 7, hj, _ => exact absurd rfl hj
  | n + 8, _, hz => exact hz
 ·intro vs Wx lst hall hX hB hF
  refine fun A8 hA K8 hK8 => ?_
  have e6 := ((hA 6).trans (show _ = vs 1 by kernel_rfl)).trans (hF 1 (by decide))
  have e8 := ((hA 8).trans (show _ = vs 3 by kernel_rfl)).trans (hF 3 (by decide))
  have e10 := ((hA 10).trans (show _ = vs 5 by kernel_rfl)).trans (hF 5 (by decide))
  have e12 := (hA 12).trans (show _ = vs 7 by kernel_rfl)
  clear hA
  obtain ⟨g, ea, hoa⟩ := hF 7 (by decide)
  rw [ea] at e12
  obtain ⟨-, -, hz⟩ := HXK.out Wx hB
  obtain ⟨z0, z1, z2, z3⟩ := four hz
  obtain ⟨f0, f1, f2, f3⟩ := frz4 hz
  have HNA := Lib.hid (put4_heap hz (.string (mk l.proc)) (.int .i64 l.billed) (.int .i64 o.plan) (.slice g.1 (casV o).length g.2))
  have HBP := Lib.hid (put4_below ((HB.out.trans (hB.mono (by have := HSZ.out; omega))) : Below p w Wx) (p + 1 + 1) (by omega) (.string (mk l.proc)) (.int .i64 l.billed) (.int .i64 o.plan) (.slice g.1 (casV o).length g.2))
  have HOA := Lib.hid (ownK_set hoa (show p + 1 + 1 < p + 3 by omega) (.string (mk l.proc)) (.int .i64 l.billed) (.int .i64 o.plan) (.slice g.1 (casV o).length g.2))
  clear hoa hz
  go_simp
  refine hK8 _ _ ?_
  refine fun A9 hA K9 hK9 => ?_
  have e4 := (hA 4).trans (show _ = Value.pointer (some ⟨(p + 1 + 1), 0, none⟩) by kernel_rfl)
  have e13 := (hA 13).trans (show _ = Value.agg #[.string (mk l.proc), .int .i64 l.billed, .int .i64 o.plan, .slice g.1 (casV o).length g.2] by kernel_rfl)
  clear hA
  go_simp
  refine hK9 undef _ ?_
  clear z0 z1 z2 z3 f0 f1 f2 f3
  clear hX hall hF
  simp only [Ri.Tail, Ri.puts]
  go_simp
  generalize ((((Wx.setCell ⟨p + 1 + 1, 0, none⟩ (.string (mk l.proc))).setCell ⟨p + 1 + 1, 1, none⟩ (.int .i64 l.billed)).setCell ⟨p + 1 + 1, 2, none⟩ (.int .i64 o.plan)).setCell ⟨p + 1 + 1, 3, none⟩ (.slice g.1 (casV o).length g.2)) = WF at *
  obtain ⟨n0, n1, n2, n3⟩ := four HNA.out
  go_wp2_with fail
  refine bodyPost_ret (v := (srv ⟨l.proc, l.billed, o.plan, casV o⟩ (.slice g.1 (casV o).length g.2))) (by simp [results, Try.results49, go_sem, n0, n1, n2, n3]) rfl ?_
  exact ⟨_, rfl, by first | exact HOA.out | (rw [hp]; exact HOA.out), by first | exact HBP.out | (rw [hp]; exact HBP.out)⟩
end Go.Proofs.Ytpfpjbeofogbgaa.Sv
end
section
set_option maxRecDepth 100000
namespace Go.Proofs.Ytpfpjbeofogbgaa.Sv
open Go.RowKit
open Bk (keepB below_alloc below_trans alloc_new)
def sr0 : Sr := ⟨[], 0, 0, []⟩
def srcl (s : Sr) (m : Value) : Nat → Value
 | 0 => .string (mk s.proc)
 | 1 => .int .i64 s.bi
 | 2 => .int .i64 s.paid
 | _ => m
def zcl : Nat → Value
 | 0 => .string ByteArray.empty
 | 1 => .int .i64 0
 | 2 => .int .i64 0
 | _ => .slice none 0 0
def hrow (L : List Sr) (M : Nat → Value) (k q : Nat) : Value := if q / 4 < k then srcl (L.getD (q / 4) sr0) (M (q / 4)) (q % 4) else zcl (q % 4)
def Half (B g : Nat) (w : World) (L : List Sr) (k : Nat) (M : Nat → Value) : Prop :=
 w.rowIs g Ts (L.length * 4) (hrow L M k) ∧ ∀ j s, L[j]? = some s → j < k → CasAt (fun b => B ≤ b ∧ b ≠ g) w (M j) s.cas
theorem run_make_svs (n : Nat) (hn : n ≤ 1000000) (w : World) : (Instr.makeSlice 36 (.int .i64 (n : Int)) (.int .i64 (n : Int))).run Try.prog w = .ok (.slice (some ⟨w.heap.size, 0, none⟩) n n) (w.alloc (.cells (madeCells #[.string ByteArray.empty, .int .i64 0, .int .i64 0, .slice none 0 0] (n * 4)) Ts)) := by
 obtain ⟨i, hi, hz, hs, hb⟩ := infos
 have hr := run_make (P := Try.prog) w 36 Ts i _ Try.underlying36 hi hz .i64 .i64 n n (by omega) (Int.le_refl _) (by rw [hb]; omega) (by omega)
 rw [hs] at hr
 simp only [Int.toNat_natCast] at hr
 rw [hr]
 rfl
theorem zcl_at (q : Nat) : (#[Value.string ByteArray.empty, .int .i64 0, .int .i64 0, .slice none 0 0] : Array Value)[q % 4]! = zcl (q % 4) := by
 have h : q % 4 = 0 ∨ q % 4 = 1 ∨ q % 4 = 2 ∨ q % 4 = 3 := by omega
 rcases h with h | h | h | h <;> rw [h] <;> rfl
theorem Half.start (B : Nat) (w : World) (L : List Sr) (M : Nat → Value) (n : Nat) (hn : n = L.length) : Half B w.heap.size (w.alloc (.cells (madeCells #[.string ByteArray.empty, .int .i64 0, .int .i64 0, .slice none 0 0] (n * 4)) Ts)) L 0 M := by
 subst hn
 refine ⟨?_, fun j s _ hj => absurd hj (by omega)⟩
 have h := World.rowIs_alloc w (madeCells #[.string ByteArray.empty, .int .i64 0, .int .i64 0, .slice none 0 0] (L.length * 4)) Ts (hrow L M 0) (fun i hi => by
  rw [size_madeCells] at hi
  unfold hrow madeCells
  rw [if_neg (by omega), ← zcl_at]
  simp [hi])
 rwa [size_madeCells] at h
theorem Half.lt {B g : Nat} {w : World} {L : List Sr} {k : Nat} {M : Nat → Value} (h : Half B g w L k M) : g < w.heap.size := h.1.lt
theorem Half.grw {B g : Nat} {w w' : World} {L : List Sr} {k : Nat} {M : Nat → Value} (h : Half B g w L k M) (hb : Below w.heap.size w w') : Half B g w' L k M :=
 ⟨h.1.of_block (hb.block g h.lt), fun j s hj hk => (h.2 j s hj hk).move ⟨hb.size, fun b hb' hkk => ⟨hkk, hb.block b hb'⟩⟩⟩
theorem hrow_set (L : List Sr) (M : Nat → Value) (k : Nat) (s : Sr) (hs : L[k]? = some s) (u : Value) (j : Nat) :
  (if j = k * 4 + 3 then u else if j = k * 4 + 2 then .int .i64 s.paid else if j = k * 4 + 1 then .int .i64 s.bi else if j = k * 4 then .string (mk s.proc) else hrow L M k j) = hrow L (fun i => if i = k then u else M i) (k + 1) j := by
 have hd : L.getD k sr0 = s := by rw [List.getD_eq_getElem?_getD, hs]; rfl
 unfold hrow
 by_cases hk : j / 4 = k
 ·rw [if_pos (show j / 4 < k + 1 by omega), if_neg (show ¬ j / 4 < k by omega), hk, hd]
  rw [show (fun i => if i = k then u else M i) k = u from if_pos rfl]
  have h : j % 4 = 0 ∨ j % 4 = 1 ∨ j % 4 = 2 ∨ j % 4 = 3 := by omega
  rcases h with h | h | h | h
  ·rw [if_neg (by omega), if_neg (by omega), if_neg (by omega), if_pos (by omega), h]; rfl
  ·rw [if_neg (by omega), if_neg (by omega), if_pos (by omega), h]; rfl
  ·rw [if_neg (by omega), if_pos (by omega), h]; rfl
  ·rw [if_pos (by omega), h]; rfl
 ·rw [if_neg (by omega), if_neg (by omega), if_neg (by omega), if_neg (by omega)]
  rw [show (fun i => if i = k then u else M i) (j / 4) = M (j / 4) from if_neg hk]
  by_cases h : j / 4 < k
  ·rw [if_pos h, if_pos (by omega)]
  ·rw [if_neg h, if_neg (by omega)]
theorem Half.step {B g : Nat} {w0 w : World} {L : List Sr} {k : Nat} {M : Nat → Value} (h : Half B g w0 L k M) (hB : B ≤ w0.heap.size) (hb : Below w0.heap.size w0 w) {s : Sr} (hs : L[k]? = some s) {u : Value} (hu : CasAt (fun b => w0.heap.size ≤ b) w u s.cas) :
  Half B g ((((w.setCell ⟨g, k * 4, none⟩ (.string (mk s.proc))).setCell ⟨g, k * 4 + 1, none⟩ (.int .i64 s.bi)).setCell ⟨g, k * 4 + 2, none⟩ (.int .i64 s.paid)).setCell ⟨g, k * 4 + 3, none⟩ u) L (k + 1) (fun i => if i = k then u else M i) := by
 have hg := h.lt
 have h1 := h.grw hb
 have hsz : ((((w.setCell ⟨g, k * 4, none⟩ (.string (mk s.proc))).setCell ⟨g, k * 4 + 1, none⟩ (.int .i64 s.bi)).setCell ⟨g, k * 4 + 2, none⟩ (.int .i64 s.paid)).setCell ⟨g, k * 4 + 3, none⟩ u).heap.size = w.heap.size := by simp
 have hkeep : ∀ b, b ≠ g → ((((w.setCell ⟨g, k * 4, none⟩ (.string (mk s.proc))).setCell ⟨g, k * 4 + 1, none⟩ (.int .i64 s.bi)).setCell ⟨g, k * 4 + 2, none⟩ (.int .i64 s.paid)).setCell ⟨g, k * 4 + 3, none⟩ u).heap[b]? = w.heap[b]? := fun b hne => by
  repeat rw [Below.heap_setCell _ _ _ _ hne]
 refine ⟨?_, fun j x hj hjk => ?_⟩
 ·have r := (((h1.1.set (k * 4) (.string (mk s.proc))).set (k * 4 + 1) (.int .i64 s.bi)).set (k * 4 + 2) (.int .i64 s.paid)).set (k * 4 + 3) u
  exact r.congr fun i _ => hrow_set L M k s hs u i
 ·by_cases e : j = k
  ·subst e
   rw [hs] at hj
   obtain rfl := Option.some.inj hj
   show CasAt _ _ (if j = j then u else M j) _
   rw [if_pos rfl]
   exact hu.move ⟨by rw [hsz]; exact Nat.le_refl _, fun b hb' hk => ⟨⟨by omega, by omega⟩, hkeep b (by omega)⟩⟩
  ·show CasAt _ _ (if j = k then u else M j) _
   rw [if_neg e]
   exact (h1.2 j x hj (by omega)).move ⟨by rw [hsz]; exact Nat.le_refl _, fun b hb' hk => ⟨hk, hkeep b hk.2⟩⟩
theorem Half.whole {K : Nat → Prop} {B g : Nat} {w : World} {L : List Sr} {k : Nat} {M : Nat → Value} (h : Half B g w L k M) (hk : L.length ≤ k) (hg : K g) (hK : ∀ b, B ≤ b → K b) (hl : L.length ≤ 1000000) : SvsAt K w (.slice (some ⟨g, 0, none⟩) L.length L.length) L := by
 refine ⟨_, _, rfl, Nat.le_refl _, by unfold maxLen; omega, Or.inr ⟨g, 0, rfl, hg, h.lt, fun j s hj => ?_⟩⟩
 have hjl := (List.getElem?_eq_some_iff.1 hj).1
 have hd : L.getD j sr0 = s := by rw [List.getD_eq_getElem?_getD, hj]; rfl
 have e : ∀ r, r < 4 → w.cell? ⟨g, 0 + j * 4 + r, none⟩ = some (srcl s (M j) r) := fun r hr => by
  rw [Nat.zero_add, h.1.cell (show j * 4 + r < L.length * 4 by omega)]
  unfold hrow
  rw [show (j * 4 + r) / 4 = j by omega, show (j * 4 + r) % 4 = r by omega, if_pos (by omega), hd]
 exact ⟨M j, ⟨e 0 (by omega), e 1 (by omega), e 2 (by omega), e 3 (by omega)⟩, (h.2 j s hj (by omega)).move (moves_weak w fun b _ k => hK b k.1)⟩
theorem Half.cells {B g : Nat} {w : World} {L : List Sr} {k : Nat} {M : Nat → Value} (h : Half B g w L k M) (hk : k < L.length) : (∃ v, w.cell? ⟨g, k * 4, none⟩ = some v) ∧ (∃ v, w.cell? ⟨g, k * 4 + 1, none⟩ = some v) ∧ (∃ v, w.cell? ⟨g, k * 4 + 2, none⟩ = some v) ∧ (∃ v, w.cell? ⟨g, k * 4 + 3, none⟩ = some v) :=
 ⟨⟨_, h.1.cell (by omega)⟩, ⟨_, h.1.cell (by omega)⟩, ⟨_, h.1.cell (by omega)⟩, ⟨_, h.1.cell (by omega)⟩⟩
end Go.Proofs.Ytpfpjbeofogbgaa.Sv
end
