/-
  Texts put together (merge.py): BWeight.
-/
import Derived.Deep.Cut
import Derived.Test.YtjgceppbhmmbjaaDoorMb6
import Derived.Test.YtjgceppbhmmbjaaDoorMb17
import Derived.Test.YtjgceppbhmmbjaaDoorMb18
import Derived.Test.YtjgceppbhmmbjaaDoorMb19
/-
  What the reference's Weight of entries answers, as a contract: where it is not above the limit, there is not too much of anything.
-/
section
set_option linter.unusedSimpArgs false
set_option linter.unusedVariables false
set_option maxRecDepth 100000
namespace Go.Proofs.YtjgceppbhmmbjaaDoor.Bk
open Go.RowKit
open Cm (Ln Cl cl0 LnsAt ClsAt ClCells lnv clv LnOk ClOk ClLight)
open Sh (Ot)

def EnOk (x : En) : Prop := ClOk x.cl ∧ x.outs.length ≤ 281474976710656
def EnLight (M : Int) (x : En) : Prop := ClLight x.cl ∧ (x.outs.length : Int) ≤ M
theorem cls_one {w : World} {g : Nat} {c : Cl} {m : Value} (h : w.heap[g]? = some (.cells #[.string (mk c.id), .string (mk c.mem), .string (mk c.fam), .int .i64 c.net, .int .i64 c.does, .string (mk c.ref), m] 25 (0, 0))) (hl : LnsAt All w m c.lines) : ClsAt All w (.slice (some ⟨g, 0, none⟩) 1 1) [c] := by
  refine ⟨some ⟨g, 0, none⟩, 1, rfl, by simp, by simp [maxLen], Or.inr ⟨g, 0, rfl, trivial, (Array.getElem?_eq_some_iff.1 h).1, fun j x hj => ?_⟩⟩
  cases j with
  | succ j => simp at hj
  | zero =>
    simp at hj; subst hj
    refine ⟨m, ?_, hl⟩
    refine ⟨?_, ?_, ?_, ?_, ?_, ?_, ?_⟩ <;> rw [cell_of_row w g _ _ _ (0, 0) h] <;> rfl
theorem light_snoc {M : Int} (l : List En) (k : Nat) (t : En) (hx : l[k]? = some t) (h : ∀ t ∈ l.take k, EnLight M t) (ht : EnLight M t) : ∀ t ∈ l.take (k + 1), EnLight M t := by
  intro s hs
  rw [List.take_add_one, hx] at hs
  rcases List.mem_append.1 hs with h1 | h1
  · exact h s h1
  · simp at h1; rw [h1]; exact ht
set_option maxHeartbeats 8000000 in
theorem bweight_any (M : Int) (hM0 : 1 ≤ M) (hM : M ≤ 3000) (l : List En) (v : Value) (w : World) (h : EnsAt All w v l) (hz : ∀ x ∈ l, EnOk x) :
    Calls Tryd.prog 24 #[v, .int .i64 M] w fun e w' => (∃ n : Int, e = .returned (.int .i64 n) ∧ (n ≤ M → (l.length : Int) ≤ M ∧ ∀ x ∈ l, EnLight M x)) ∧ Below w.heap.size w w' := by
  obtain ⟨fa, fk, rfl, hm1, hm2⟩ := h.form
  have HF := Lib.hid h
  have HZ := Lib.hid hz
  clear h hz
  go_enter Tryd.func24, Tryd.ntmps24
  go_wp2
  go_loopg [5, 6] (l.length) (fun gg s5 s6 wr => ∃ (k : Nat) (m : Int), s6 = .int .i64 k ∧ s5 = .int .i64 m ∧ k ≤ l.length ∧ l.length - k ≤ gg ∧ (k : Int) ≤ m ∧ m ≤ 5000000000000000000 ∧ Hid (m ≤ M → ∀ x ∈ l.take k, EnLight M x) ∧ Hid (Below w.heap.size w wr))
  case atStart => exact ⟨0, 0, rfl, rfl, Nat.zero_le _, by omega, by omega, by omega, (fun _ x hx => by simp at hx), Below.refl _ _⟩
  case round =>
    obtain ⟨k, m, rfl, rfl, hk, hgk, hm0, hm5, HA, HBn⟩ := hrel
    by_cases hmM : m ≤ M
    case neg =>
      have d1 : decide (m ≤ M) = false := decide_eq_false hmM
      clear HA
      by_cases hlt : k < l.length
      · go_wp2
        go_ret
        exact ⟨⟨m, rfl, fun q => absurd q (by omega)⟩, HBn.out⟩
      · have hltz : ¬ (k : Int) < (l.length : Int) := by omega
        go_wp2
        go_ret
        exact ⟨⟨m, rfl, fun q => absurd q (by omega)⟩, HBn.out⟩
    by_cases hlt : k < l.length
    case neg =>
      have hltz : ¬ (k : Int) < (l.length : Int) := by omega
      have HL : Hid ((l.length : Int) ≤ M ∧ ∀ x ∈ l, EnLight M x) := Lib.hid ⟨by omega, by have := HA.out hmM; rwa [List.take_of_length_le (by omega)] at this⟩
      have d1 : decide (m ≤ M) = true := decide_eq_true hmM
      clear HA
      go_wp2
      go_ret
      exact ⟨⟨m, rfl, fun _ => HL.out⟩, HBn.out⟩
    have d1 : decide (m ≤ M) = true := decide_eq_true hmM
    have hltz : (k : Int) < (l.length : Int) := by omega
    obtain ⟨b, oo, mm, mo, rfl, hb1, hx, hc, hco⟩ := EnsAt.get (HF.out.grw HBn.out) k hlt
    have hok := HZ.out _ (List.mem_of_getElem? hx)
    have HSN := Lib.hid (light_snoc (M := M) l k _ hx (HA.out hmM))
    generalize l[k] = x at *
    have HOK := Lib.hid hok.1
    have hol := hok.2
    have HXK : Hid (∀ W', Below wr.heap.size wr W' → EnCells W' b (oo + k * 10) x mm mo) := fun W' hW => hc.of (hW.block b hb1)
    have HCA : Hid (∀ w1, Below wr.heap.size wr w1 → LnsAt All w1 mm x.cl.lines) := fun w1 hb => (hco.grw hb).1
    obtain ⟨am, km, e1, -, -⟩ := Cm.LnsAt.form hco.1
    obtain ⟨ao, ko, e2, -, -⟩ := hco.2.form
    dsimp only at e1 e2
    subst e1 e2
    have hi1 : k < l.length := hlt
    have HW : Hid (∀ W g, Below wr.heap.size wr W → W.heap[g]? = some (.cells #[.string (mk x.cl.id), .string (mk x.cl.mem), .string (mk x.cl.fam), .int .i64 x.cl.net, .int .i64 x.cl.does, .string (mk x.cl.ref), .slice am x.cl.lines.length km] 25 (0, 0)) → Calls Tryd.prog 20 #[.slice (some ⟨g, 0, none⟩) 1 1, .int .i64 M] W fun e w' => (∃ n : Int, e = .returned (.int .i64 n) ∧ (0 ≤ n ∧ n ≤ 4611686018427387904 ∧ 1 ≤ n ∧ (n ≤ M → Cm.ClLight x.cl))) ∧ Below W.heap.size W w') := fun W g hb hg => by
      refine (Cm.weight2_any M (by omega) hM _ [x.cl] W (cls_one hg (HCA.out W hb)) (by intro c hc; simp at hc; rw [hc]; exact HOK.out)).mono ?_
      rintro e w' ⟨⟨n, e1, e2, e3, e4, e5⟩, hbb⟩
      refine ⟨⟨n, e1, e3, e4, ?_, fun q => e2 q _ (List.mem_singleton.2 rfl)⟩, hbb⟩
      by_cases q : n ≤ M
      · have := e5 q; simp at this; omega
      · omega
    clear hco hx hc hb1 hok HA HOK HCA
    have HD := Lib.hid (Below.drew (Below.refl wr.heap.size wr))
    obtain ⟨wo, hwo⟩ : ∃ z, z = wr := ⟨_, rfl⟩
    subst hwo
    go_upto_region 5 with fail
    refine Ri.wp_region_tailX 17 (by kernel_rfl) (by kernel_rfl) (by kernel_rfl) (by decide) (by kernel_rfl) (fun Wx => Below wo.heap.size wo Wx) (fun kz vs wz => (fun kx vx wx => match kx with | 0 => vx = .int .i64 m | 1 => vx = .slice (some ⟨b, oo, none⟩) l.length fk | 2 => vx = .int .i64 (k : Nat) | 3 => vx = .pointer (some ⟨b, oo + k * 10, none⟩) | 4 => vx = .pointer (some ⟨b, oo + k * 10, none⟩) | 5 => vx = clv x.cl (.slice am x.cl.lines.length km) | 6 => ∃ g, vx = .slice (some ⟨g, 0, none⟩) 1 1 ∧ wx.heap[g]? = some (.cells #[.string (mk x.cl.id), .string (mk x.cl.mem), .string (mk x.cl.fam), .int .i64 x.cl.net, .int .i64 x.cl.does, .string (mk x.cl.ref), .slice am x.cl.lines.length km] 25 (0, 0)) | 7 => vx = .int .i64 M | 8 => ∃ g : Int, vx = .int .i64 g ∧ (0 ≤ g ∧ g ≤ 4611686018427387904 ∧ 1 ≤ g ∧ (g ≤ M → Cm.ClLight x.cl)) | 9 => ∃ g : Int, vx = .int .i64 (m + g) ∧ (0 ≤ g ∧ g ≤ 4611686018427387904 ∧ 1 ≤ g ∧ (g ≤ M → Cm.ClLight x.cl)) | 10 => vx = .slice (some ⟨b, oo, none⟩) l.length fk | 11 => vx = .int .i64 (k : Nat) | 12 => vx = .pointer (some ⟨b, oo + k * 10, none⟩) | 13 => vx = .pointer (some ⟨b, oo + k * 10 + 9, none⟩) | 14 => vx = .slice ao x.outs.length ko | 15 => vx = .int .i64 (x.outs.length : Nat) | 16 => ∃ g : Int, vx = .int .i64 (m + g + (x.outs.length : Nat)) ∧ (0 ≤ g ∧ g ≤ 4611686018427387904 ∧ 1 ≤ g ∧ (g ≤ M → Cm.ClLight x.cl)) | _ => True : Nat → Value → World → Prop) kz (vs kz) wz) (fun lst vs => lst 17 = false → vs 17 = .int .i64 m) (fun kz => [kz]) (by kernel_rfl) (fun jz vs iz vz wz hiz hz => Ri.loc_own (F := (fun kx vx wx => match kx with | 0 => vx = .int .i64 m | 1 => vx = .slice (some ⟨b, oo, none⟩) l.length fk | 2 => vx = .int .i64 (k : Nat) | 3 => vx = .pointer (some ⟨b, oo + k * 10, none⟩) | 4 => vx = .pointer (some ⟨b, oo + k * 10, none⟩) | 5 => vx = clv x.cl (.slice am x.cl.lines.length km) | 6 => ∃ g, vx = .slice (some ⟨g, 0, none⟩) 1 1 ∧ wx.heap[g]? = some (.cells #[.string (mk x.cl.id), .string (mk x.cl.mem), .string (mk x.cl.fam), .int .i64 x.cl.net, .int .i64 x.cl.does, .string (mk x.cl.ref), .slice am x.cl.lines.length km] 25 (0, 0)) | 7 => vx = .int .i64 M | 8 => ∃ g : Int, vx = .int .i64 g ∧ (0 ≤ g ∧ g ≤ 4611686018427387904 ∧ 1 ≤ g ∧ (g ≤ M → Cm.ClLight x.cl)) | 9 => ∃ g : Int, vx = .int .i64 (m + g) ∧ (0 ≤ g ∧ g ≤ 4611686018427387904 ∧ 1 ≤ g ∧ (g ≤ M → Cm.ClLight x.cl)) | 10 => vx = .slice (some ⟨b, oo, none⟩) l.length fk | 11 => vx = .int .i64 (k : Nat) | 12 => vx = .pointer (some ⟨b, oo + k * 10, none⟩) | 13 => vx = .pointer (some ⟨b, oo + k * 10 + 9, none⟩) | 14 => vx = .slice ao x.outs.length ko | 15 => vx = .int .i64 (x.outs.length : Nat) | 16 => ∃ g : Int, vx = .int .i64 (m + g + (x.outs.length : Nat)) ∧ (0 ≤ g ∧ g ≤ 4611686018427387904 ∧ 1 ≤ g ∧ (g ≤ M → Cm.ClLight x.cl)) | _ => True : Nat → Value → World → Prop)) jz vs iz vz wz hiz hz) HD.out ?_ ⟨⟨rfl, ?_⟩, ⟨rfl, ?_⟩, ⟨rfl, ?_⟩, ⟨rfl, ?_⟩, ⟨rfl, ?_⟩, ⟨rfl, ?_⟩, ⟨rfl, ?_⟩, ⟨rfl, ?_⟩, ⟨rfl, ?_⟩, ⟨rfl, ?_⟩, ⟨rfl, ?_⟩, ⟨rfl, ?_⟩, ⟨rfl, ?_⟩, ⟨rfl, ?_⟩, ⟨rfl, ?_⟩, ⟨rfl, ?_⟩, ⟨rfl, ?_⟩, trivial⟩ ?_
    · intro vs hvs
      intro _
      have h1 := congrArg (fun a => a.tmps[5]?.getD undef) hvs
      exact (show vs 17 = _ by kernel_rfl).trans (h1.trans (show _ = Value.int .i64 m by kernel_rfl))
    · intro vs Wx A lst hA hB hls hX hno hpre K hK
      have e5 := ((hA 5).trans (show _ = vs 17 by kernel_rfl)).trans (hX (hno 17 (by decide)))
      clear hA hpre
      go_simp
      first | exact hK _ _ hB rfl (fun _ _ h => h) hX | exact hK _ _ hB trivial (fun _ _ h => h) hX | (rw [if_neg (by omega)]; go_simp; exact hK _ _ hB rfl (fun _ _ h => h) hX)
    · intro vs Wx A lst hA hB hls hX hno hpre K hK
      have e0 := (hA 0).trans (show _ = Value.slice (some ⟨b, oo, none⟩) l.length fk by kernel_rfl)
      clear hA hpre
      go_simp
      first | exact hK _ _ hB rfl (fun _ _ h => h) hX | exact hK _ _ hB trivial (fun _ _ h => h) hX | (rw [if_neg (by omega)]; go_simp; exact hK _ _ hB rfl (fun _ _ h => h) hX)
    · intro vs Wx A lst hA hB hls hX hno hpre K hK
      have e6 := (hA 6).trans (show _ = Value.int .i64 (k : Nat) by kernel_rfl)
      clear hA hpre
      go_simp
      first | exact hK _ _ hB rfl (fun _ _ h => h) hX | exact hK _ _ hB trivial (fun _ _ h => h) hX | (rw [if_neg (by omega)]; go_simp; exact hK _ _ hB rfl (fun _ _ h => h) hX)
    · intro vs Wx A lst hA hB hls hX hno hpre K hK
      have e19 := ((hA 19).trans (show _ = vs 1 by kernel_rfl)).trans (by first | exact hpre.1 rfl | exact hpre.2.1 rfl | exact hpre.2.2.1 rfl | exact hpre.2.2.2.1 rfl | exact hpre.2.2.2.2.1 rfl | exact hpre.2.2.2.2.2.1 rfl | exact hpre.2.2.2.2.2.2.1 rfl | exact hpre.2.2.2.2.2.2.2.1 rfl | exact hpre.2.2.2.2.2.2.2.2.1 rfl | exact hpre.2.2.2.2.2.2.2.2.2.1 rfl)
      have e20 := ((hA 20).trans (show _ = vs 2 by kernel_rfl)).trans (by first | exact hpre.1 rfl | exact hpre.2.1 rfl | exact hpre.2.2.1 rfl | exact hpre.2.2.2.1 rfl | exact hpre.2.2.2.2.1 rfl | exact hpre.2.2.2.2.2.1 rfl | exact hpre.2.2.2.2.2.2.1 rfl | exact hpre.2.2.2.2.2.2.2.1 rfl | exact hpre.2.2.2.2.2.2.2.2.1 rfl | exact hpre.2.2.2.2.2.2.2.2.2.1 rfl)
      clear hA hpre
      go_simp
      first | exact hK _ _ hB rfl (fun _ _ h => h) hX | exact hK _ _ hB trivial (fun _ _ h => h) hX | (rw [if_neg (by omega)]; go_simp; exact hK _ _ hB rfl (fun _ _ h => h) hX)
    · intro vs Wx A lst hA hB hls hX hno hpre K hK
      have e21 := ((hA 21).trans (show _ = vs 3 by kernel_rfl)).trans (by first | exact hpre.1 rfl | exact hpre.2.1 rfl | exact hpre.2.2.1 rfl | exact hpre.2.2.2.1 rfl | exact hpre.2.2.2.2.1 rfl | exact hpre.2.2.2.2.2.1 rfl | exact hpre.2.2.2.2.2.2.1 rfl | exact hpre.2.2.2.2.2.2.2.1 rfl | exact hpre.2.2.2.2.2.2.2.2.1 rfl | exact hpre.2.2.2.2.2.2.2.2.2.1 rfl)
      clear hA hpre
      go_simp
      first | exact hK _ _ hB rfl (fun _ _ h => h) hX | exact hK _ _ hB trivial (fun _ _ h => h) hX | (rw [if_neg (by omega)]; go_simp; exact hK _ _ hB rfl (fun _ _ h => h) hX)
    · intro vs Wx A lst hA hB hls hX hno hpre K hK
      have e22 := ((hA 22).trans (show _ = vs 4 by kernel_rfl)).trans (by first | exact hpre.1 rfl | exact hpre.2.1 rfl | exact hpre.2.2.1 rfl | exact hpre.2.2.2.1 rfl | exact hpre.2.2.2.2.1 rfl | exact hpre.2.2.2.2.2.1 rfl | exact hpre.2.2.2.2.2.2.1 rfl | exact hpre.2.2.2.2.2.2.2.1 rfl | exact hpre.2.2.2.2.2.2.2.2.1 rfl | exact hpre.2.2.2.2.2.2.2.2.2.1 rfl)
      obtain ⟨x0, x1, x2, x3, x4, x5, x6, x7, x8, x9⟩ := HXK.out Wx hB
      clear hA hpre
      go_simp
      first | exact hK _ _ hB rfl (fun _ _ h => h) hX | exact hK _ _ hB trivial (fun _ _ h => h) hX | (rw [if_neg (by omega)]; go_simp; exact hK _ _ hB rfl (fun _ _ h => h) hX)
    · intro vs Wx A lst hA hB hls hX hno hpre K hK
      have e23 := ((hA 23).trans (show _ = vs 5 by kernel_rfl)).trans (by first | exact hpre.1 rfl | exact hpre.2.1 rfl | exact hpre.2.2.1 rfl | exact hpre.2.2.2.1 rfl | exact hpre.2.2.2.2.1 rfl | exact hpre.2.2.2.2.2.1 rfl | exact hpre.2.2.2.2.2.2.1 rfl | exact hpre.2.2.2.2.2.2.2.1 rfl | exact hpre.2.2.2.2.2.2.2.2.1 rfl | exact hpre.2.2.2.2.2.2.2.2.2.1 rfl)
      clear hA hpre
      go_simp
      refine hK _ _ (below_trans hB (below_alloc Wx _)) ⟨_, rfl, heap_alloc_new Wx _⟩ (fun jz hj hz => ?_) hX
      match jz, hj, hz with
      | 0, _, hz => exact hz
      | 1, _, hz => exact hz
      | 2, _, hz => exact hz
      | 3, _, hz => exact hz
      | 4, _, hz => exact hz
      | 5, _, hz => exact hz
      | 6, hj, _ => exact absurd rfl hj
      | 7, _, hz => exact hz
      | 8, _, hz => exact hz
      | 9, _, hz => exact hz
      | 10, _, hz => exact hz
      | 11, _, hz => exact hz
      | 12, _, hz => exact hz
      | 13, _, hz => exact hz
      | 14, _, hz => exact hz
      | 15, _, hz => exact hz
      | 16, _, hz => exact hz
      | n + 17, _, hz => exact hz
    · intro vs Wx A lst hA hB hls hX hno hpre K hK
      have e1 := (hA 1).trans (show _ = Value.int .i64 M by kernel_rfl)
      clear hA hpre
      go_simp
      first | exact hK _ _ hB rfl (fun _ _ h => h) hX | exact hK _ _ hB trivial (fun _ _ h => h) hX | (rw [if_neg (by omega)]; go_simp; exact hK _ _ hB rfl (fun _ _ h => h) hX)
    · intro vs Wx A lst hA hB hls hX hno hpre K hK
      have hx6 : ∃ g, vs 6 = .slice (some ⟨g, 0, none⟩) 1 1 ∧ Wx.heap[g]? = some (.cells #[.string (mk x.cl.id), .string (mk x.cl.mem), .string (mk x.cl.fam), .int .i64 x.cl.net, .int .i64 x.cl.does, .string (mk x.cl.ref), .slice am x.cl.lines.length km] 25 (0, 0)) := by first | exact hpre.1 rfl | exact hpre.2.1 rfl | exact hpre.2.2.1 rfl | exact hpre.2.2.2.1 rfl | exact hpre.2.2.2.2.1 rfl | exact hpre.2.2.2.2.2.1 rfl | exact hpre.2.2.2.2.2.2.1 rfl | exact hpre.2.2.2.2.2.2.2.1 rfl | exact hpre.2.2.2.2.2.2.2.2.1 rfl | exact hpre.2.2.2.2.2.2.2.2.2.1 rfl
      obtain ⟨gx6, hv6, hh6⟩ := hx6
      have e24 := ((hA 24).trans (show _ = vs 6 by kernel_rfl)).trans hv6
      have e25 := ((hA 25).trans (show _ = vs 7 by kernel_rfl)).trans (by first | exact hpre.1 rfl | exact hpre.2.1 rfl | exact hpre.2.2.1 rfl | exact hpre.2.2.2.1 rfl | exact hpre.2.2.2.2.1 rfl | exact hpre.2.2.2.2.2.1 rfl | exact hpre.2.2.2.2.2.2.1 rfl | exact hpre.2.2.2.2.2.2.2.1 rfl | exact hpre.2.2.2.2.2.2.2.2.1 rfl | exact hpre.2.2.2.2.2.2.2.2.2.1 rfl)
      clear hA hpre
      go_simp
      go_at_call 20
      refine (HW.out Wx _ hB hh6).mono ?_
      rintro e w4 ⟨⟨n1, rfl, hn1⟩, hg⟩
      refine hK _ _ (below_trans hB hg) ⟨n1, rfl, hn1⟩ (fun jz hj hz => ?_) hX
      match jz, hj, hz with
      | 0, _, hz => exact hz
      | 1, _, hz => exact hz
      | 2, _, hz => exact hz
      | 3, _, hz => exact hz
      | 4, _, hz => exact hz
      | 5, _, hz => exact hz
      | 6, _, hz => exact (hz.elim fun g h => ⟨g, h.1, keepB h.2 hg⟩)
      | 7, _, hz => exact hz
      | 8, _, hz => exact hz
      | 9, _, hz => exact hz
      | 10, _, hz => exact hz
      | 11, _, hz => exact hz
      | 12, _, hz => exact hz
      | 13, _, hz => exact hz
      | 14, _, hz => exact hz
      | 15, _, hz => exact hz
      | 16, _, hz => exact hz
      | n + 17, _, hz => exact hz
    · intro vs Wx A lst hA hB hls hX hno hpre K hK
      have e18 := ((hA 18).trans (show _ = vs 0 by kernel_rfl)).trans (by first | exact hpre.1 rfl | exact hpre.2.1 rfl | exact hpre.2.2.1 rfl | exact hpre.2.2.2.1 rfl | exact hpre.2.2.2.2.1 rfl | exact hpre.2.2.2.2.2.1 rfl | exact hpre.2.2.2.2.2.2.1 rfl | exact hpre.2.2.2.2.2.2.2.1 rfl | exact hpre.2.2.2.2.2.2.2.2.1 rfl | exact hpre.2.2.2.2.2.2.2.2.2.1 rfl)
      have hx8 : ∃ g : Int, vs 8 = .int .i64 g ∧ (0 ≤ g ∧ g ≤ 4611686018427387904 ∧ 1 ≤ g ∧ (g ≤ M → Cm.ClLight x.cl)) := by first | exact hpre.1 rfl | exact hpre.2.1 rfl | exact hpre.2.2.1 rfl | exact hpre.2.2.2.1 rfl | exact hpre.2.2.2.2.1 rfl | exact hpre.2.2.2.2.2.1 rfl | exact hpre.2.2.2.2.2.2.1 rfl | exact hpre.2.2.2.2.2.2.2.1 rfl | exact hpre.2.2.2.2.2.2.2.2.1 rfl | exact hpre.2.2.2.2.2.2.2.2.2.1 rfl
      obtain ⟨gx8, hv8, hh8⟩ := hx8
      have e26 := ((hA 26).trans (show _ = vs 8 by kernel_rfl)).trans hv8
      obtain ⟨j1, j2, j3, j4⟩ := hh8
      have hh8 := And.intro j1 (And.intro j2 (And.intro j3 j4))
      have hw9 : IntKind.i64.wrap (m + gx8) = m + gx8 := by rw [IntKind.wrap_i64]; omega
      clear hA hpre
      go_simp
      first | exact hK _ _ hB ⟨gx8, rfl, hh8⟩ (fun _ _ h => h) hX | (rw [hw9]; exact hK _ _ hB ⟨gx8, rfl, hh8⟩ (fun _ _ h => h) hX) | (refine hK _ _ hB ⟨gx8, ?_, hh8⟩ (fun _ _ h => h) hX; first | rfl | (simp only [hw9]) | go_num)
    · intro vs Wx A lst hA hB hls hX hno hpre K hK
      have e0 := (hA 0).trans (show _ = Value.slice (some ⟨b, oo, none⟩) l.length fk by kernel_rfl)
      clear hA hpre
      go_simp
      first | exact hK _ _ hB rfl (fun _ _ h => h) hX | exact hK _ _ hB trivial (fun _ _ h => h) hX | (rw [if_neg (by omega)]; go_simp; exact hK _ _ hB rfl (fun _ _ h => h) hX)
    · intro vs Wx A lst hA hB hls hX hno hpre K hK
      have e6 := (hA 6).trans (show _ = Value.int .i64 (k : Nat) by kernel_rfl)
      clear hA hpre
      go_simp
      first | exact hK _ _ hB rfl (fun _ _ h => h) hX | exact hK _ _ hB trivial (fun _ _ h => h) hX | (rw [if_neg (by omega)]; go_simp; exact hK _ _ hB rfl (fun _ _ h => h) hX)
    · intro vs Wx A lst hA hB hls hX hno hpre K hK
      have e28 := ((hA 28).trans (show _ = vs 10 by kernel_rfl)).trans (by first | exact hpre.1 rfl | exact hpre.2.1 rfl | exact hpre.2.2.1 rfl | exact hpre.2.2.2.1 rfl | exact hpre.2.2.2.2.1 rfl | exact hpre.2.2.2.2.2.1 rfl | exact hpre.2.2.2.2.2.2.1 rfl | exact hpre.2.2.2.2.2.2.2.1 rfl | exact hpre.2.2.2.2.2.2.2.2.1 rfl | exact hpre.2.2.2.2.2.2.2.2.2.1 rfl)
      have e29 := ((hA 29).trans (show _ = vs 11 by kernel_rfl)).trans (by first | exact hpre.1 rfl | exact hpre.2.1 rfl | exact hpre.2.2.1 rfl | exact hpre.2.2.2.1 rfl | exact hpre.2.2.2.2.1 rfl | exact hpre.2.2.2.2.2.1 rfl | exact hpre.2.2.2.2.2.2.1 rfl | exact hpre.2.2.2.2.2.2.2.1 rfl | exact hpre.2.2.2.2.2.2.2.2.1 rfl | exact hpre.2.2.2.2.2.2.2.2.2.1 rfl)
      clear hA hpre
      go_simp
      first | exact hK _ _ hB rfl (fun _ _ h => h) hX | exact hK _ _ hB trivial (fun _ _ h => h) hX | (rw [if_neg (by omega)]; go_simp; exact hK _ _ hB rfl (fun _ _ h => h) hX)
    · intro vs Wx A lst hA hB hls hX hno hpre K hK
      have e30 := ((hA 30).trans (show _ = vs 12 by kernel_rfl)).trans (by first | exact hpre.1 rfl | exact hpre.2.1 rfl | exact hpre.2.2.1 rfl | exact hpre.2.2.2.1 rfl | exact hpre.2.2.2.2.1 rfl | exact hpre.2.2.2.2.2.1 rfl | exact hpre.2.2.2.2.2.2.1 rfl | exact hpre.2.2.2.2.2.2.2.1 rfl | exact hpre.2.2.2.2.2.2.2.2.1 rfl | exact hpre.2.2.2.2.2.2.2.2.2.1 rfl)
      clear hA hpre
      go_simp
      first | exact hK _ _ hB rfl (fun _ _ h => h) hX | exact hK _ _ hB trivial (fun _ _ h => h) hX | (rw [if_neg (by omega)]; go_simp; exact hK _ _ hB rfl (fun _ _ h => h) hX)
    · intro vs Wx A lst hA hB hls hX hno hpre K hK
      have e31 := ((hA 31).trans (show _ = vs 13 by kernel_rfl)).trans (by first | exact hpre.1 rfl | exact hpre.2.1 rfl | exact hpre.2.2.1 rfl | exact hpre.2.2.2.1 rfl | exact hpre.2.2.2.2.1 rfl | exact hpre.2.2.2.2.2.1 rfl | exact hpre.2.2.2.2.2.2.1 rfl | exact hpre.2.2.2.2.2.2.2.1 rfl | exact hpre.2.2.2.2.2.2.2.2.1 rfl | exact hpre.2.2.2.2.2.2.2.2.2.1 rfl)
      obtain ⟨x0, x1, x2, x3, x4, x5, x6, x7, x8, x9⟩ := HXK.out Wx hB
      clear hA hpre
      go_simp
      first | exact hK _ _ hB rfl (fun _ _ h => h) hX | exact hK _ _ hB trivial (fun _ _ h => h) hX | (rw [if_neg (by omega)]; go_simp; exact hK _ _ hB rfl (fun _ _ h => h) hX)
    · intro vs Wx A lst hA hB hls hX hno hpre K hK
      have e32 := ((hA 32).trans (show _ = vs 14 by kernel_rfl)).trans (by first | exact hpre.1 rfl | exact hpre.2.1 rfl | exact hpre.2.2.1 rfl | exact hpre.2.2.2.1 rfl | exact hpre.2.2.2.2.1 rfl | exact hpre.2.2.2.2.2.1 rfl | exact hpre.2.2.2.2.2.2.1 rfl | exact hpre.2.2.2.2.2.2.2.1 rfl | exact hpre.2.2.2.2.2.2.2.2.1 rfl | exact hpre.2.2.2.2.2.2.2.2.2.1 rfl)
      clear hA hpre
      go_simp
      first | exact hK _ _ hB rfl (fun _ _ h => h) hX | exact hK _ _ hB trivial (fun _ _ h => h) hX | (rw [if_neg (by omega)]; go_simp; exact hK _ _ hB rfl (fun _ _ h => h) hX)
    · intro vs Wx A lst hA hB hls hX hno hpre K hK
      have hx9 : ∃ g : Int, vs 9 = .int .i64 (m + g) ∧ (0 ≤ g ∧ g ≤ 4611686018427387904 ∧ 1 ≤ g ∧ (g ≤ M → Cm.ClLight x.cl)) := by first | exact hpre.1 rfl | exact hpre.2.1 rfl | exact hpre.2.2.1 rfl | exact hpre.2.2.2.1 rfl | exact hpre.2.2.2.2.1 rfl | exact hpre.2.2.2.2.2.1 rfl | exact hpre.2.2.2.2.2.2.1 rfl | exact hpre.2.2.2.2.2.2.2.1 rfl | exact hpre.2.2.2.2.2.2.2.2.1 rfl | exact hpre.2.2.2.2.2.2.2.2.2.1 rfl
      obtain ⟨gx9, hv9, hh9⟩ := hx9
      have e27 := ((hA 27).trans (show _ = vs 9 by kernel_rfl)).trans hv9
      have e33 := ((hA 33).trans (show _ = vs 15 by kernel_rfl)).trans (by first | exact hpre.1 rfl | exact hpre.2.1 rfl | exact hpre.2.2.1 rfl | exact hpre.2.2.2.1 rfl | exact hpre.2.2.2.2.1 rfl | exact hpre.2.2.2.2.2.1 rfl | exact hpre.2.2.2.2.2.2.1 rfl | exact hpre.2.2.2.2.2.2.2.1 rfl | exact hpre.2.2.2.2.2.2.2.2.1 rfl | exact hpre.2.2.2.2.2.2.2.2.2.1 rfl)
      obtain ⟨j1, j2, j3, j4⟩ := hh9
      have hh9 := And.intro j1 (And.intro j2 (And.intro j3 j4))
      have hw9 : IntKind.i64.wrap (m + gx9 + (x.outs.length : Nat)) = m + gx9 + (x.outs.length : Nat) := by rw [IntKind.wrap_i64]; omega
      clear hA hpre
      go_simp
      first | exact hK _ _ hB ⟨gx9, rfl, hh9⟩ (fun _ _ h => h) hX | (rw [hw9]; exact hK _ _ hB ⟨gx9, rfl, hh9⟩ (fun _ _ h => h) hX) | (refine hK _ _ hB ⟨gx9, ?_, hh9⟩ (fun _ _ h => h) hX; first | rfl | (simp only [hw9]) | go_num)
    · intro vs Wx lst hall hX hB hF
      refine fun A17 hA K17 hK17 => ?_
      have e34 := (hA 34).trans (show _ = vs 16 by kernel_rfl)
      clear hA
      obtain ⟨g, hL, j1, j2, j3, j4⟩ := hF 16 (by decide)
      rw [hL] at e34
      clear hF
      go_simp
      refine hK17 _ _ ?_
      have HB3 := Lib.hid (below_trans HBn.out hB)
      have HS2 : Hid (m + g + (x.outs.length : Nat) ≤ M → ∀ t ∈ l.take (k + 1), EnLight M t) := fun q => HSN.out ⟨j4 (by omega), by omega⟩
      clear hB hX hall HXK HW HD HSN j4 hL
      simp only [Ri.Tail, Ri.puts]
      go_simp
      go_wp2
      go_roundg (l.length - (k + 1))
      case measure => omega
      case rel => exact ⟨k + 1, _, by first | rfl | go_num | (congr 1; omega), rfl, by omega, by omega, by omega, by omega, HS2.out, HB3.out⟩
end Go.Proofs.YtjgceppbhmmbjaaDoor.Bk
end
