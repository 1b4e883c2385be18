/-
  Texts put together (merge.py): BSame, BLaws.
-/
import Derived.Deep.Cut
import Derived.Test.YtjgceppbhmmbjaaDoorMb6
import Derived.Test.YtjgceppbhmmbjaaDoorMb23
import Derived.Test.YtjgceppbhmmbjaaDoorMb18
import Derived.Test.YtjgceppbhmmbjaaDoorMb15
import Derived.Test.YtjgceppbhmmbjaaDoorMb16
/-
  What the reference's SameOne and Same answer of equal entries, as contracts.
-/
section
set_option linter.unusedSimpArgs false
set_option linter.unusedVariables false
set_option maxRecDepth 100000
namespace Go.Proofs.YtjgceppbhmmbjaaDoor.Bk
open Go.RowKit
open Classical
open Cm (Ln Cl cl0 LnsAt ClCells lnv clv LnOk ClOk boxc)
open Sh (Ot)

set_option maxHeartbeats 2000000 in
theorem sameOne_eq (x : En) (m mo m' mo' : Value) (w : World) (h : Cont All w ⟨x, m, mo⟩) (h' : Cont All w ⟨x, m', mo'⟩) (ho : x.outs.length ≤ 100000) :
    Calls Tryd.prog 22 #[env x m mo, env x m' mo'] w fun e w' => e = .returned (.bool true) ∧ Below w.heap.size w w' := by
  have HG : Hid (Below w.heap.size w ((w.alloc (.cells (enc x m mo) TE)).alloc (.cells (enc x m' mo') TE))) := below_trans (below_alloc w _) (below_alloc _ _)
  have HC := Lib.hid (Cm.rsame_any x.cl x.cl m m' _ (LnsAt.move h.1 (Below.moves HG.out)) (LnsAt.move h'.1 (Below.moves HG.out)))
  have HX : Hid (∀ w1, Below ((w.alloc (.cells (enc x m mo) TE)).alloc (.cells (enc x m' mo') TE)).heap.size ((w.alloc (.cells (enc x m mo) TE)).alloc (.cells (enc x m' mo') TE)) w1 → (w1.heap[w.heap.size]? = some (.cells (enc x m mo) TE (0, 0)) ∧ w1.heap[w.heap.size + 1]? = some (.cells (enc x m' mo') TE (0, 0))) ∧ OtsAt All w1 mo x.outs ∧ OtsAt All w1 mo' x.outs ∧ Below w.heap.size w w1) := fun w1 hb => by
    have hb2 := below_trans HG.out hb
    refine ⟨⟨keepB (keepB (alloc_new w _ _) (below_alloc _ _)) hb, keepB ?_ hb⟩, h.2.grw hb2, h'.2.grw hb2, hb2⟩
    have := alloc_new (w.alloc (.cells (enc x m mo) TE)) (enc x m' mo') TE
    simpa using this
  have HFF : Hid (∀ w1 w2, Below w.heap.size w w1 → Below w1.heap.size w1 w2 → Below w.heap.size w w2) := fun w1 w2 a b => below_trans a b
  obtain ⟨fa, fk, e1, -, -⟩ := Cm.LnsAt.form h.1
  obtain ⟨fa', fk', e2, -, -⟩ := Cm.LnsAt.form h'.1
  obtain ⟨ga, gk, e3, -, -⟩ := h.2.form
  obtain ⟨ga', gk', e4, -, -⟩ := h'.2.form
  dsimp only at e1 e2 e3 e4
  subst e1 e2 e3 e4
  clear h h' HG
  have dt : decide (x.cl = x.cl) = true := by simp
  rw [dt] at HC
  go_enter Tryd.func22, Tryd.ntmps22
  go_wp2_with (first | (go_at_call 23; refine (HC.out).mono ?_; rintro e w1 ⟨rfl, hb1⟩; obtain ⟨⟨g1, g2⟩, o1, o2, hb2⟩ := HX.out _ hb1; have HO1 := Lib.hid o1; have HO2 := Lib.hid o2; have HB2 := Lib.hid hb2; obtain ⟨p0, p1, p2, p3, p4, p5, p6, p7, p8, p9⟩ := ten g1; obtain ⟨q0, q1, q2, q3, q4, q5, q6, q7, q8, q9⟩ := ten g2; clear hb1 hb2 o1 o2 g1 g2) | (go_at_call 33; refine (osame_eq x.outs _ _ _ HO1.out HO2.out ho).mono ?_; rintro e w2 ⟨rfl, hb3⟩; have HB3 := Lib.hid hb3; clear hb3))
  go_ret
  exact ⟨rfl, HFF.out _ _ HB2.out HB3.out⟩

theorem en_keep {l : List En} {w : World} {b oo n c : Nat} (h : EnsAt All w (.slice (some ⟨b, oo, none⟩) n c) l) (t : Nat) (ht : t < l.length) : ∃ m mo, EnCells w b (oo + t * 10) l[t] m mo ∧ Cont All w ⟨l[t], m, mo⟩ := by
  obtain ⟨b1, o1, m, mo, e1, -, -, c1, c2⟩ := EnsAt.get h t ht
  simp only [Option.some.injEq, Addr.mk.injEq, and_true] at e1
  obtain ⟨rfl, rfl⟩ := e1
  exact ⟨m, mo, c1, c2⟩
set_option maxHeartbeats 8000000 in
theorem same_eq (l : List En) (v u : Value) (w : World) (h : EnsAt All w v l) (g : EnsAt All w u l) (ho : ∀ x ∈ l, x.outs.length ≤ 100000) (hl : l.length ≤ 100000) :
    Calls Tryd.prog 13 #[v, u] w fun e w' => e = .returned (.bool true) ∧ Below w.heap.size w w' := by
  obtain ⟨fa, fk, rfl, hm1, hm2⟩ := h.form
  obtain ⟨ga, gcp, rfl, hm3, hm4⟩ := g.form
  have HF := Lib.hid h
  have HG := Lib.hid g
  clear h g
  go_enter Tryd.func13, Tryd.ntmps13
  go_wp2
  go_loopg [5] (l.length) (fun gg s5 wr => ∃ k : Nat, s5 = .int .i64 k ∧ k ≤ l.length ∧ l.length - k ≤ gg ∧ Hid (Below w.heap.size w wr))
  case atStart => exact ⟨0, rfl, Nat.zero_le _, by omega, Below.refl _ _⟩
  case round =>
    obtain ⟨k, rfl, hk, hgk, HBn⟩ := hrel
    by_cases hlt : k < l.length
    · have hltz : (k : Int) < (l.length : Int) := by omega
      obtain ⟨b, oo, m, mo, rfl, hb1, hx, hc, hco⟩ := EnsAt.get (HF.out.grw HBn.out) k hlt
      obtain ⟨b2, o2, m2, mo2, rfl, hb2, -, hc2, hco2⟩ := EnsAt.get (HG.out.grw HBn.out) k hlt
      have hox := ho _ (List.mem_of_getElem? hx)
      generalize l[k] = x at *
      have HXK : Hid (∀ W', Below wr.heap.size wr W' → EnCells W' b (oo + k * 10) x m mo ∧ EnCells W' b2 (o2 + k * 10) x m2 mo2) := fun W' hW => ⟨hc.of (hW.block b hb1), hc2.of (hW.block b2 hb2)⟩
      have HCA : Hid (∀ w1, Below wr.heap.size wr w1 → Cont All w1 ⟨x, m, mo⟩ ∧ Cont All w1 ⟨x, m2, mo2⟩) := fun w1 hb => ⟨hco.grw hb, hco2.grw hb⟩
      obtain ⟨am, km, e1, -, -⟩ := Cm.LnsAt.form hco.1
      obtain ⟨ao, ko, e2, -, -⟩ := hco.2.form
      obtain ⟨am2, km2, e3, -, -⟩ := Cm.LnsAt.form hco2.1
      obtain ⟨ao2, ko2, e4, -, -⟩ := hco2.2.form
      dsimp only at e1 e2 e3 e4
      subst e1 e2 e3 e4
      have hi1 : k < l.length := hlt
      clear hco hco2 hx hc hc2 hb1 hb2
      have HD := Lib.hid (Below.drew (Below.refl wr.heap.size wr))
      obtain ⟨wo, hwo⟩ : ∃ z, z = wr := ⟨_, rfl⟩
      subst hwo
      go_upto_region 6 with fail
      refine Ri.wp_region_lasting (by kernel_rfl) (by kernel_rfl) (by kernel_rfl) (fun Wx => Below wo.heap.size wo Wx) (fun kz vs wz => (fun kx vx wx => match kx with | 0 => vx = .slice (some ⟨b, oo, none⟩) l.length fk | 1 => vx = .int .i64 (k : Nat) | 2 => vx = .pointer (some ⟨b, oo + k * 10, none⟩) | 3 => vx = env x (.slice am x.cl.lines.length km) (.slice ao x.outs.length ko) | 4 => vx = .slice (some ⟨b2, o2, none⟩) l.length gcp | 5 => vx = .int .i64 (k : Nat) | 6 => vx = .pointer (some ⟨b2, o2 + k * 10, none⟩) | 7 => vx = env x (.slice am2 x.cl.lines.length km2) (.slice ao2 x.outs.length ko2) | 8 => vx = .bool true | 9 => vx = .bool false | _ => True : Nat → Value → World → Prop) kz (vs kz) wz) (fun kz => [kz]) (by kernel_rfl) (fun jz vs iz vz wz hiz hz => Ri.loc_own (F := (fun kx vx wx => match kx with | 0 => vx = .slice (some ⟨b, oo, none⟩) l.length fk | 1 => vx = .int .i64 (k : Nat) | 2 => vx = .pointer (some ⟨b, oo + k * 10, none⟩) | 3 => vx = env x (.slice am x.cl.lines.length km) (.slice ao x.outs.length ko) | 4 => vx = .slice (some ⟨b2, o2, none⟩) l.length gcp | 5 => vx = .int .i64 (k : Nat) | 6 => vx = .pointer (some ⟨b2, o2 + k * 10, none⟩) | 7 => vx = env x (.slice am2 x.cl.lines.length km2) (.slice ao2 x.outs.length ko2) | 8 => vx = .bool true | 9 => vx = .bool false | _ => True : Nat → Value → World → Prop)) jz vs iz vz wz hiz hz) HD.out ⟨⟨rfl, ?_⟩, ⟨rfl, ?_⟩, ⟨rfl, ?_⟩, ⟨rfl, ?_⟩, ⟨rfl, ?_⟩, ⟨rfl, ?_⟩, ⟨rfl, ?_⟩, ⟨rfl, ?_⟩, ⟨rfl, ?_⟩, ⟨rfl, ?_⟩, trivial⟩ ?_
      · intro vs Wx A hA hB hpre K hK
        have e0 := (hA 0).trans (show _ = Value.slice (some ⟨b, oo, none⟩) l.length fk by kernel_rfl)
        clear hA hpre
        go_simp
        first | exact hK _ _ hB rfl (fun _ _ h => h) | exact hK _ _ hB trivial (fun _ _ h => h) | (rw [if_neg (by omega)]; go_simp; exact hK _ _ hB rfl (fun _ _ h => h))
      · intro vs Wx A hA hB hpre K hK
        have e5 := (hA 5).trans (show _ = Value.int .i64 (k : Nat) by kernel_rfl)
        clear hA hpre
        go_simp
        first | exact hK _ _ hB rfl (fun _ _ h => h) | exact hK _ _ hB trivial (fun _ _ h => h) | (rw [if_neg (by omega)]; go_simp; exact hK _ _ hB rfl (fun _ _ h => h))
      · intro vs Wx A hA hB hpre K hK
        have e17 := ((hA 17).trans (show _ = vs 0 by kernel_rfl)).trans (by first | exact hpre.1 rfl | exact hpre.2.1 rfl | exact hpre.2.2.1 rfl | exact hpre.2.2.2.1 rfl | exact hpre.2.2.2.2.1 rfl | exact hpre.2.2.2.2.2.1 rfl | exact hpre.2.2.2.2.2.2.1 rfl | exact hpre.2.2.2.2.2.2.2.1 rfl | exact hpre.2.2.2.2.2.2.2.2.1 rfl | exact hpre.2.2.2.2.2.2.2.2.2.1 rfl)
        have e18 := ((hA 18).trans (show _ = vs 1 by kernel_rfl)).trans (by first | exact hpre.1 rfl | exact hpre.2.1 rfl | exact hpre.2.2.1 rfl | exact hpre.2.2.2.1 rfl | exact hpre.2.2.2.2.1 rfl | exact hpre.2.2.2.2.2.1 rfl | exact hpre.2.2.2.2.2.2.1 rfl | exact hpre.2.2.2.2.2.2.2.1 rfl | exact hpre.2.2.2.2.2.2.2.2.1 rfl | exact hpre.2.2.2.2.2.2.2.2.2.1 rfl)
        clear hA hpre
        go_simp
        first | exact hK _ _ hB rfl (fun _ _ h => h) | exact hK _ _ hB trivial (fun _ _ h => h) | (rw [if_neg (by omega)]; go_simp; exact hK _ _ hB rfl (fun _ _ h => h))
      · intro vs Wx A hA hB hpre K hK
        have e19 := ((hA 19).trans (show _ = vs 2 by kernel_rfl)).trans (by first | exact hpre.1 rfl | exact hpre.2.1 rfl | exact hpre.2.2.1 rfl | exact hpre.2.2.2.1 rfl | exact hpre.2.2.2.2.1 rfl | exact hpre.2.2.2.2.2.1 rfl | exact hpre.2.2.2.2.2.2.1 rfl | exact hpre.2.2.2.2.2.2.2.1 rfl | exact hpre.2.2.2.2.2.2.2.2.1 rfl | exact hpre.2.2.2.2.2.2.2.2.2.1 rfl)
        obtain ⟨⟨x0, x1, x2, x3, x4, x5, x6, x7, x8, x9⟩, ⟨y0, y1, y2, y3, y4, y5, y6, y7, y8, y9⟩⟩ := HXK.out Wx hB
        clear hA hpre
        go_simp
        first | exact hK _ _ hB rfl (fun _ _ h => h) | exact hK _ _ hB trivial (fun _ _ h => h) | (rw [if_neg (by omega)]; go_simp; exact hK _ _ hB rfl (fun _ _ h => h))
      · intro vs Wx A hA hB hpre K hK
        have e1 := (hA 1).trans (show _ = Value.slice (some ⟨b2, o2, none⟩) l.length gcp by kernel_rfl)
        clear hA hpre
        go_simp
        first | exact hK _ _ hB rfl (fun _ _ h => h) | exact hK _ _ hB trivial (fun _ _ h => h) | (rw [if_neg (by omega)]; go_simp; exact hK _ _ hB rfl (fun _ _ h => h))
      · intro vs Wx A hA hB hpre K hK
        have e5 := (hA 5).trans (show _ = Value.int .i64 (k : Nat) by kernel_rfl)
        clear hA hpre
        go_simp
        first | exact hK _ _ hB rfl (fun _ _ h => h) | exact hK _ _ hB trivial (fun _ _ h => h) | (rw [if_neg (by omega)]; go_simp; exact hK _ _ hB rfl (fun _ _ h => h))
      · intro vs Wx A hA hB hpre K hK
        have e21 := ((hA 21).trans (show _ = vs 4 by kernel_rfl)).trans (by first | exact hpre.1 rfl | exact hpre.2.1 rfl | exact hpre.2.2.1 rfl | exact hpre.2.2.2.1 rfl | exact hpre.2.2.2.2.1 rfl | exact hpre.2.2.2.2.2.1 rfl | exact hpre.2.2.2.2.2.2.1 rfl | exact hpre.2.2.2.2.2.2.2.1 rfl | exact hpre.2.2.2.2.2.2.2.2.1 rfl | exact hpre.2.2.2.2.2.2.2.2.2.1 rfl)
        have e22 := ((hA 22).trans (show _ = vs 5 by kernel_rfl)).trans (by first | exact hpre.1 rfl | exact hpre.2.1 rfl | exact hpre.2.2.1 rfl | exact hpre.2.2.2.1 rfl | exact hpre.2.2.2.2.1 rfl | exact hpre.2.2.2.2.2.1 rfl | exact hpre.2.2.2.2.2.2.1 rfl | exact hpre.2.2.2.2.2.2.2.1 rfl | exact hpre.2.2.2.2.2.2.2.2.1 rfl | exact hpre.2.2.2.2.2.2.2.2.2.1 rfl)
        clear hA hpre
        go_simp
        first | exact hK _ _ hB rfl (fun _ _ h => h) | exact hK _ _ hB trivial (fun _ _ h => h) | (rw [if_neg (by omega)]; go_simp; exact hK _ _ hB rfl (fun _ _ h => h))
      · intro vs Wx A hA hB hpre K hK
        have e23 := ((hA 23).trans (show _ = vs 6 by kernel_rfl)).trans (by first | exact hpre.1 rfl | exact hpre.2.1 rfl | exact hpre.2.2.1 rfl | exact hpre.2.2.2.1 rfl | exact hpre.2.2.2.2.1 rfl | exact hpre.2.2.2.2.2.1 rfl | exact hpre.2.2.2.2.2.2.1 rfl | exact hpre.2.2.2.2.2.2.2.1 rfl | exact hpre.2.2.2.2.2.2.2.2.1 rfl | exact hpre.2.2.2.2.2.2.2.2.2.1 rfl)
        obtain ⟨⟨x0, x1, x2, x3, x4, x5, x6, x7, x8, x9⟩, ⟨y0, y1, y2, y3, y4, y5, y6, y7, y8, y9⟩⟩ := HXK.out Wx hB
        clear hA hpre
        go_simp
        first | exact hK _ _ hB rfl (fun _ _ h => h) | exact hK _ _ hB trivial (fun _ _ h => h) | (rw [if_neg (by omega)]; go_simp; exact hK _ _ hB rfl (fun _ _ h => h))
      · intro vs Wx A hA hB hpre K hK
        have e20 := ((hA 20).trans (show _ = vs 3 by kernel_rfl)).trans (by first | exact hpre.1 rfl | exact hpre.2.1 rfl | exact hpre.2.2.1 rfl | exact hpre.2.2.2.1 rfl | exact hpre.2.2.2.2.1 rfl | exact hpre.2.2.2.2.2.1 rfl | exact hpre.2.2.2.2.2.2.1 rfl | exact hpre.2.2.2.2.2.2.2.1 rfl | exact hpre.2.2.2.2.2.2.2.2.1 rfl | exact hpre.2.2.2.2.2.2.2.2.2.1 rfl)
        have e24 := ((hA 24).trans (show _ = vs 7 by kernel_rfl)).trans (by first | exact hpre.1 rfl | exact hpre.2.1 rfl | exact hpre.2.2.1 rfl | exact hpre.2.2.2.1 rfl | exact hpre.2.2.2.2.1 rfl | exact hpre.2.2.2.2.2.1 rfl | exact hpre.2.2.2.2.2.2.1 rfl | exact hpre.2.2.2.2.2.2.2.1 rfl | exact hpre.2.2.2.2.2.2.2.2.1 rfl | exact hpre.2.2.2.2.2.2.2.2.2.1 rfl)
        clear hA hpre
        go_simp
        go_at_call 22
        refine (sameOne_eq x _ _ _ _ Wx (HCA.out Wx hB).1 (HCA.out Wx hB).2 hox).mono ?_
        rintro e w4 ⟨rfl, hg⟩
        exact hK _ _ (below_trans hB hg) rfl (fun _ _ h => h)
      · intro vs Wx A hA hB hpre K hK
        have e25 := ((hA 25).trans (show _ = vs 8 by kernel_rfl)).trans (by first | exact hpre.1 rfl | exact hpre.2.1 rfl | exact hpre.2.2.1 rfl | exact hpre.2.2.2.1 rfl | exact hpre.2.2.2.2.1 rfl | exact hpre.2.2.2.2.2.1 rfl | exact hpre.2.2.2.2.2.2.1 rfl | exact hpre.2.2.2.2.2.2.2.1 rfl | exact hpre.2.2.2.2.2.2.2.2.1 rfl | exact hpre.2.2.2.2.2.2.2.2.2.1 rfl)
        clear hA hpre
        go_simp
        first | exact hK _ _ hB rfl (fun _ _ h => h) | exact hK _ _ hB trivial (fun _ _ h => h) | (rw [if_neg (by omega)]; go_simp; exact hK _ _ hB rfl (fun _ _ h => h))
      · intro vs Wx hB hF
        have hL : vs 9 = .bool false := hF 9 (by decide)
        have HB3 := Lib.hid (below_trans HBn.out hB)
        clear hF hB HXK HCA HD
        simp only [Ri.puts]
        rw [hL]
        clear hL
        go_simp
        go_wp2
        go_roundg (l.length - (k + 1))
        case measure => omega
        case rel => exact ⟨k + 1, by first | rfl | go_num | (congr 1; omega), by omega, by omega, HB3.out⟩
    · have hltz : ¬ (k : Int) < (l.length : Int) := by omega
      go_wp2
      go_ret
      exact ⟨rfl, HBn.out⟩
end Go.Proofs.YtjgceppbhmmbjaaDoor.Bk
end

/-
  What is not too much is within bounds; books that are put into, and what stands, stay so.
-/
section
set_option linter.unusedSimpArgs false
set_option linter.unusedVariables false
set_option maxRecDepth 100000
namespace Go.Proofs.YtjgceppbhmmbjaaDoor.Bk
open Go.RowKit
open Cm (Ln Cl cl0 LnsAt ClsAt ClCells lnv clv LnOk ClOk ClLight boxc)
open Sh (Ot)

theorem fit_of {c : Cl} (h : ClLight c) : Fit c := ⟨Nat.le_trans h.1 (by decide), fun x hx => by have := (h.2 x hx); unfold Cm.LnLight at this; omega⟩
/-- An entry within the bounds that the calls ask. -/
def EnB (x : En) : Prop := Fit x.cl ∧ x.outs.length ≤ 100000
theorem EnB.fit {x : En} (h : EnB x) : FitE x := ⟨h.1, Nat.le_trans h.2 (by decide)⟩
theorem enb_of {x : En} (h : EnLight 300 x) : EnB x := ⟨fit_of h.1, by have := h.2; omega⟩
theorem putR_b (c : Cl) (hc : Fit c) : ∀ (l : List En), (∀ x ∈ l, EnB x) → ∀ x ∈ putR c l, EnB x
  | l, h, x, hx => by
    rcases putR_mem c l x hx with hx | ⟨y, y1, y2, y3 | y3⟩
    · exact h x hx
    · rw [y3]; exact ⟨(h y y1).1, by simp [gone]⟩
    · rw [y3]; exact ⟨hc, by simp⟩
theorem put_b {l : List En} {c : Cl} (hc : Fit c) (h : ∀ x ∈ l, EnB x) (t most : Int) : ∀ x ∈ putV l c t most, EnB x := by
  intro x hx
  unfold putV at hx
  split at hx
  · unfold putL at hx
    split at hx
    · exact putR_b c hc l h x hx
    · split at hx
      · rcases List.mem_append.1 hx with hx | hx
        · rcases putD_mem c l x hx with hx | ⟨y, y1, y2, y3⟩
          · exact h x hx
          · rw [y3]; exact ⟨(h y y1).1, by simp [gone]⟩
        · simp at hx; rw [hx]; exact ⟨hc, by simp⟩
      · rcases List.mem_append.1 hx with hx | hx
        · exact h x hx
        · simp at hx; rw [hx]; exact ⟨hc, by simp⟩
  · simp at hx
theorem put_l {l : List En} {c : Cl} (t most : Int) : (putV l c t most).length ≤ l.length + 1 := by
  unfold putV
  split
  · next h => rw [put_len h]; exact Nat.le_refl _
  · simp
theorem stand_b {l : List En} (h : ∀ x ∈ l, EnB x) : ∀ x ∈ stand l, EnB x := fun x hx => h x (List.mem_filter.1 hx).1
theorem stand_l (l : List En) : (stand l).length ≤ l.length := List.length_filter_le _ _
/-- Put, of a book within bounds. -/
theorem put_at (l : List En) (c : Cl) (t most : Int) (v m : Value) (w : World) (h : EnsAt All w v l) (hm : LnsAt All w m c.lines) (hz : ClOk c) (hT : Da.Tab w) (hl : l.length ≤ 100000) (hfl : ∀ x ∈ l, EnB x) (hfc : Fit c) :
    Calls Tryd.prog 11 #[v, clv c m, .int .i64 t, .int .i64 most] w fun e w' => (∃ a k, e = .returned (.tuple #[.slice a (putV l c t most).length k, .int .i64 (putA l c most), .int .i64 (admE l c most)]) ∧ EnsAt All w' (.slice a (putV l c t most).length k) (putV l c t most)) ∧ Below w.heap.size w w' := by
  refine (put_any l c t most v m w h hm hz hT hl (fun x hx => (hfl x hx).fit) hfc).mono ?_
  rintro x w' ⟨⟨u, L, rfl, hL, hF⟩, hb⟩
  have h1 := hF.at
  rw [hL] at h1
  obtain ⟨ua, uk, rfl, -, -⟩ := h1.form
  exact ⟨⟨ua, uk, rfl, h1⟩, hb⟩
theorem rput_at (l : List En) (c : Cl) (t most : Int) (v m : Value) (w : World) (h : EnsAt All w v l) (hm : LnsAt All w m c.lines) (hz : ClOk c) (hl : l.length ≤ 100000) (hfc : Fit c) :
    Calls Tryd.prog 12 #[v, clv c m, .int .i64 t, .int .i64 most] w fun e w' => (∃ a k, e = .returned (.tuple #[.slice a (putV l c t most).length k, .int .i64 (putA l c most), .int .i64 (admE l c most)]) ∧ EnsAt All w' (.slice a (putV l c t most).length k) (putV l c t most)) ∧ Below w.heap.size w w' := by
  refine (rput_any l c t most v m w h hm hz hl hfc).mono ?_
  rintro x w' ⟨⟨u, L, rfl, hL, hF⟩, hb⟩
  have h1 := hF.at
  rw [hL] at h1
  obtain ⟨ua, uk, rfl, -, -⟩ := h1.form
  exact ⟨⟨ua, uk, rfl, h1⟩, hb⟩
theorem stand_at (l : List En) (v : Value) (w : World) (h : EnsAt All w v l) (hl : l.length ≤ 100000) (hfl : ∀ x ∈ l, EnB x) :
    Calls Tryd.prog 18 #[v] w fun e w' => (∃ a k, e = .returned (.slice a (stand l).length k) ∧ EnsAt All w' (.slice a (stand l).length k) (stand l)) ∧ Below w.heap.size w w' := by
  refine (stand_any l v w h hl (fun x hx => (hfl x hx).fit)).mono ?_
  rintro e w' ⟨u, L, rfl, hL, hF, hb⟩
  have h1 := hF.at
  rw [hL] at h1
  obtain ⟨ua, uk, rfl, -, -⟩ := h1.form
  exact ⟨⟨ua, uk, rfl, h1⟩, hb⟩
theorem rstand_at (l : List En) (v : Value) (w : World) (h : EnsAt All w v l) (hl : l.length ≤ 100000) :
    Calls Tryd.prog 19 #[v] w fun e w' => (∃ a k, e = .returned (.slice a (stand l).length k) ∧ EnsAt All w' (.slice a (stand l).length k) (stand l)) ∧ Below w.heap.size w w' := by
  refine (rstand_any l v w h hl).mono ?_
  rintro e w' ⟨u, L, rfl, hL, hF, hb⟩
  have h1 := hF.at
  rw [hL] at h1
  obtain ⟨ua, uk, rfl, -, -⟩ := h1.form
  exact ⟨⟨ua, uk, rfl, h1⟩, hb⟩
theorem seven {w : World} {q : Nat} {a0 a1 a2 a3 a4 a5 a6 : Value} {T : TypeId} (h : w.heap[q]? = some (.cells #[a0, a1, a2, a3, a4, a5, a6] T (0, 0))) : w.cell? ⟨q, 0, none⟩ = some a0 ∧ w.cell? ⟨q, 1, none⟩ = some a1 ∧ w.cell? ⟨q, 2, none⟩ = some a2 ∧ w.cell? ⟨q, 3, none⟩ = some a3 ∧ w.cell? ⟨q, 4, none⟩ = some a4 ∧ w.cell? ⟨q, 5, none⟩ = some a5 ∧ w.cell? ⟨q, 6, none⟩ = some a6 := by
  refine ⟨?_, ?_, ?_, ?_, ?_, ?_, ?_⟩ <;> rw [cell_of_row w q _ _ T (0, 0) h] <;> rfl
theorem cl0_ok : ClOk cl0 := ⟨⟨by decide, by decide⟩, ⟨by decide, by decide⟩, by decide, by decide, by decide, by decide, by decide, fun x hx => by cases hx⟩
theorem lns_nil (w : World) : LnsAt All w (.slice none 0 0) [] := ⟨none, 0, rfl, by simp, by simp [maxLen], Or.inl rfl⟩
end Go.Proofs.YtjgceppbhmmbjaaDoor.Bk
end
