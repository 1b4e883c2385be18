/-
  Texts put together (merge.py): MTwice.
-/
import Derived.BigQuiet
import Derived.Deep.Cut
import Derived.Test.YtpfpjbeofogbgaaMg5
import Derived.Test.YtpfpjbeofogbgaaMg8
import Derived.Test.YtpfpjbeofogbgaaMg9
import Derived.Test.YtpfpjbeofogbgaaMg7
/-
  What the law's own twice answers, as a contract: where it is false, no number has two entries. (Written by gen_tw.py.)
-/
section
set_option linter.unusedSimpArgs false
set_option linter.unusedVariables false
set_option maxRecDepth 100000
namespace Go.Proofs.Ytpfpjbeofogbgaa.Re
open Go.RowKit
open Bk (En EnsAt EnCells Cont EnOk keepB below_alloc below_trans)

theorem nd_snoc {l : List En} {k : Nat} {y : En} (hx : l[k]? = some y) (h : (eids (l.take k)).Nodup) (hn : ∀ z ∈ l.take k, z.cl.id ≠ y.cl.id) : (eids (l.take (k + 1))).Nodup := by
  have ht : l.take (k + 1) = l.take k ++ [y] := by rw [List.take_add_one, hx]; rfl
  rw [ht]
  simp only [eids, List.map_append, List.map_cons, List.map_nil, List.nodup_append]
  refine ⟨h, by simp, ?_⟩
  intro a ha b hb
  simp at hb
  subst hb
  obtain ⟨z, z1, rfl⟩ := List.mem_map.1 ha
  exact hn z z1
theorem ne_snoc {l : List En} {i k : Nat} {z : En} {t : Tx} (hx : l[k]? = some z) (hki : k < i) (h : ∀ z ∈ l.take k, z.cl.id ≠ t) (hn : z.cl.id ≠ t) : ∀ z ∈ l.take (k + 1), z.cl.id ≠ t := by
  have ht : l.take (k + 1) = l.take k ++ [z] := by rw [List.take_add_one, hx]; rfl
  rw [ht]
  intro a ha
  rcases List.mem_append.1 ha with ha | ha
  · exact h a ha
  · simp at ha; subst ha; exact hn
def TwV (l : List En) (w : World) (e : Ending) (w' : World) : Prop := (∃ b, e = .returned (.bool b) ∧ (b = false → (eids l).Nodup)) ∧ Below w.heap.size w w'

set_option maxHeartbeats 4000000 in
theorem twice_any (l : List En) (v : Value) (w : World) (h : EnsAt All w v l) (hz : ∀ y ∈ l, EnOk y) : Calls Try.prog 21 #[v] w fun e w' => TwV l w e w' := by
  obtain ⟨a, cap, rfl, f1, f2⟩ := h.form
  have HM : Hid (∀ w', Below w.heap.size w w' → EnsAt All w' (.slice a l.length cap) l) := fun w' hb => h.grw hb
  have HRF := Lib.hid (Below.refl w.heap.size w)
  have HYES : Hid (∀ w', Below w.heap.size w w' → TwV l w (.returned (.bool true)) w') := fun w' hb => ⟨⟨true, rfl, fun h => by cases h⟩, hb⟩
  have HNO : Hid (∀ w', Below w.heap.size w w' → (eids l).Nodup → TwV l w (.returned (.bool false)) w') := fun w' hb h => ⟨⟨false, rfl, fun _ => h⟩, hb⟩
  clear h hz
  go_enter Try.func21, Try.ntmps21
  go_wp2
  go_loopg [3] (l.length) (fun gg t3 wr => ∃ (i : Nat), i ≤ l.length ∧ gg = l.length - i ∧ t3 = .int .i64 i ∧ Hid ((eids (l.take i)).Nodup) ∧ Hid (Below w.heap.size w wr))
  case atStart => exact ⟨0, Nat.zero_le _, rfl, rfl, by simp [Hid, eids], HRF.out⟩
  case round =>
    obtain ⟨i, hi, hg, rfl, HND, HBi⟩ := hrel
    by_cases hlt : i < l.length
    case neg =>
      have hltz : ¬ (i : Int) < (l.length : Int) := by omega
      have HF := Lib.hid (HNO.out wr HBi.out (by have := HND.out; rwa [List.take_of_length_le (by omega)] at this))
      go_wp2
      go_ret
      exact HF.out
    have hltz : (i : Int) < (l.length : Int) := by omega
    have HBo := Lib.hid HBi.out
    obtain ⟨wo, rfl⟩ : ∃ z, z = wr := ⟨_, rfl⟩
    go_wp2
    go_loopg [4] (i) (fun gg t4 wr => ∃ (k : Nat), k ≤ i ∧ gg = i - k ∧ t4 = .int .i64 k ∧ Hid (∀ z ∈ l.take k, z.cl.id ≠ l[i].cl.id) ∧ Hid (Below w.heap.size w wr))
    case atStart => exact ⟨0, Nat.zero_le _, rfl, rfl, by simp [Hid], HBo.out⟩
    case round =>
      obtain ⟨k, hk, hgk, rfl, HNE, HBk⟩ := hrel
      obtain ⟨b, o, m, mo, ha1, hbl, hx, hcell, hcont⟩ := EnsAt.get (HM.out _ HBk.out) i hlt
      by_cases hki : k < i
      case neg =>
        have hkz : ¬ (k : Int) < (i : Int) := by omega
        have hk2 : k = i := by omega
        have HND2 : Hid ((eids (l.take (i + 1))).Nodup) := nd_snoc hx HND.out (by subst hk2; exact HNE.out)
        clear hx hcell hcont ha1
        go_wp2
        go_roundg (l.length - (i + 1))
        case measure => omega
        case rel => exact ⟨i + 1, by omega, rfl, by go_num, HND2.out, HBk.out⟩
      have hkz : (k : Int) < (i : Int) := by omega
      have hkl : k < l.length := by omega
      subst ha1
      obtain ⟨b', o', m', mo', ha2, hbl', hx', hcell', hcont'⟩ := EnsAt.get (HM.out _ HBk.out) k hkl
      simp only [Option.some.injEq, Addr.mk.injEq, and_true] at ha2
      obtain ⟨rfl, rfl⟩ := ha2
      have HSN := Lib.hid fun (hh : l[k].cl.id ≠ l[i].cl.id) => ne_snoc hx' hki HNE.out hh
      have e_id := Cm.mk_ne l[i].cl.id l[k].cl.id
      clear hx hx' hcont hcont'
      have hi1 : i < l.length := hlt
      generalize l[i] = y at *
      generalize l[k] = z at *
      obtain ⟨c0, -, -, -, -, -, -, -, -, -⟩ := id hcell
      obtain ⟨d0, -, -, -, -, -, -, -, -, -⟩ := id hcell'
      obtain ⟨wi, rfl⟩ : ∃ z, z = wr := ⟨_, rfl⟩
      have HXK : Hid (∀ W, Below wi.heap.size wi W → W.cell? ⟨b, o + i * 10, none⟩ = some (.string (mk y.cl.id)) ∧ W.cell? ⟨b, o + k * 10, none⟩ = some (.string (mk z.cl.id))) := fun W hW => ⟨by rw [World.cell?_of_block (w := wi) (hW.block b hbl)]; exact c0, by rw [World.cell?_of_block (w := wi) (hW.block b hbl)]; exact d0⟩
      have HD := Lib.hid (Below.drew (Below.refl wi.heap.size wi))
      have HBki : Hid (Below w.heap.size w wi) := HBk.out
      clear hcell hcell' c0 d0 HBk
      go_upto_region 7 with fail
      cases hB : decide (y.cl.id = z.cl.id)
      · rw [hB] at e_id
        refine Ri.wp_region_lasting (by kernel_rfl) (by kernel_rfl) (by kernel_rfl) (fun Wx => Below wi.heap.size wi Wx) (fun kz vs wz => (fun kx vx wx => match kx with | 0 => vx = Value.slice (some ⟨b, o, none⟩) l.length cap | 1 => vx = .int .i64 (i : Nat) | 2 => vx = .pointer (some ⟨b, o + i * 10, none⟩) | 3 => vx = .pointer (some ⟨b, o + i * 10, none⟩) | 4 => vx = .pointer (some ⟨b, o + i * 10, none⟩) | 5 => vx = .string (mk y.cl.id) | 6 => vx = Value.slice (some ⟨b, o, none⟩) l.length cap | 7 => vx = .int .i64 (k : Nat) | 8 => vx = .pointer (some ⟨b, o + k * 10, none⟩) | 9 => vx = .pointer (some ⟨b, o + k * 10, none⟩) | 10 => vx = .pointer (some ⟨b, o + k * 10, none⟩) | 11 => vx = .string (mk z.cl.id) | 12 => vx = .bool false | _ => True : Nat → Value → World → Prop) kz (vs kz) wz) (fun kz => [kz]) (by kernel_rfl) (fun jz vs iz vz wz hiz hz => Ri.loc_own (F := (fun kx vx wx => match kx with | 0 => vx = Value.slice (some ⟨b, o, none⟩) l.length cap | 1 => vx = .int .i64 (i : Nat) | 2 => vx = .pointer (some ⟨b, o + i * 10, none⟩) | 3 => vx = .pointer (some ⟨b, o + i * 10, none⟩) | 4 => vx = .pointer (some ⟨b, o + i * 10, none⟩) | 5 => vx = .string (mk y.cl.id) | 6 => vx = Value.slice (some ⟨b, o, none⟩) l.length cap | 7 => vx = .int .i64 (k : Nat) | 8 => vx = .pointer (some ⟨b, o + k * 10, none⟩) | 9 => vx = .pointer (some ⟨b, o + k * 10, none⟩) | 10 => vx = .pointer (some ⟨b, o + k * 10, none⟩) | 11 => vx = .string (mk z.cl.id) | 12 => vx = .bool false | _ => True : Nat → Value → World → Prop)) jz vs iz vz wz hiz hz) HD.out ⟨⟨rfl, ?_⟩, ⟨rfl, ?_⟩, ⟨rfl, ?_⟩, ⟨rfl, ?_⟩, ⟨rfl, ?_⟩, ⟨rfl, ?_⟩, ⟨rfl, ?_⟩, ⟨rfl, ?_⟩, ⟨rfl, ?_⟩, ⟨rfl, ?_⟩, ⟨rfl, ?_⟩, ⟨rfl, ?_⟩, ⟨rfl, ?_⟩, trivial⟩ ?_
        · intro vs Wx A hA hB hpre K hK
          have e0 := (hA 0).trans (show _ = Value.slice (some ⟨b, o, none⟩) l.length cap by kernel_rfl)
          clear hA hpre
          go_simp
          first | exact hK _ _ hB rfl (fun _ _ h => h) | exact hK _ _ hB trivial (fun _ _ h => h) | (rw [if_neg (by omega)]; go_simp; exact hK _ _ hB rfl (fun _ _ h => h))
        · intro vs Wx A hA hB hpre K hK
          have e3 := (hA 3).trans (show _ = Value.int .i64 (i : Nat) by kernel_rfl)
          clear hA hpre
          go_simp
          first | exact hK _ _ hB rfl (fun _ _ h => h) | exact hK _ _ hB trivial (fun _ _ h => h) | (rw [if_neg (by omega)]; go_simp; exact hK _ _ hB rfl (fun _ _ h => h))
        · intro vs Wx A hA hB hpre K hK
          have e16 := ((hA 16).trans (show _ = vs 0 by kernel_rfl)).trans (by first | exact hpre.1 rfl | exact hpre.2.1 rfl | exact hpre.2.2.1 rfl | exact hpre.2.2.2.1 rfl | exact hpre.2.2.2.2.1 rfl | exact hpre.2.2.2.2.2.1 rfl | exact hpre.2.2.2.2.2.2.1 rfl | exact hpre.2.2.2.2.2.2.2.1 rfl | exact hpre.2.2.2.2.2.2.2.2.1 rfl | exact hpre.2.2.2.2.2.2.2.2.2.1 rfl)
          have e17 := ((hA 17).trans (show _ = vs 1 by kernel_rfl)).trans (by first | exact hpre.1 rfl | exact hpre.2.1 rfl | exact hpre.2.2.1 rfl | exact hpre.2.2.2.1 rfl | exact hpre.2.2.2.2.1 rfl | exact hpre.2.2.2.2.2.1 rfl | exact hpre.2.2.2.2.2.2.1 rfl | exact hpre.2.2.2.2.2.2.2.1 rfl | exact hpre.2.2.2.2.2.2.2.2.1 rfl | exact hpre.2.2.2.2.2.2.2.2.2.1 rfl)
          clear hA hpre
          go_simp
          first | exact hK _ _ hB rfl (fun _ _ h => h) | exact hK _ _ hB trivial (fun _ _ h => h) | (rw [if_neg (by omega)]; go_simp; exact hK _ _ hB rfl (fun _ _ h => h))
        · intro vs Wx A hA hB hpre K hK
          have e18 := ((hA 18).trans (show _ = vs 2 by kernel_rfl)).trans (by first | exact hpre.1 rfl | exact hpre.2.1 rfl | exact hpre.2.2.1 rfl | exact hpre.2.2.2.1 rfl | exact hpre.2.2.2.2.1 rfl | exact hpre.2.2.2.2.2.1 rfl | exact hpre.2.2.2.2.2.2.1 rfl | exact hpre.2.2.2.2.2.2.2.1 rfl | exact hpre.2.2.2.2.2.2.2.2.1 rfl | exact hpre.2.2.2.2.2.2.2.2.2.1 rfl)
          clear hA hpre
          go_simp
          first | exact hK _ _ hB rfl (fun _ _ h => h) | exact hK _ _ hB trivial (fun _ _ h => h) | (rw [if_neg (by omega)]; go_simp; exact hK _ _ hB rfl (fun _ _ h => h))
        · intro vs Wx A hA hB hpre K hK
          have e19 := ((hA 19).trans (show _ = vs 3 by kernel_rfl)).trans (by first | exact hpre.1 rfl | exact hpre.2.1 rfl | exact hpre.2.2.1 rfl | exact hpre.2.2.2.1 rfl | exact hpre.2.2.2.2.1 rfl | exact hpre.2.2.2.2.2.1 rfl | exact hpre.2.2.2.2.2.2.1 rfl | exact hpre.2.2.2.2.2.2.2.1 rfl | exact hpre.2.2.2.2.2.2.2.2.1 rfl | exact hpre.2.2.2.2.2.2.2.2.2.1 rfl)
          clear hA hpre
          go_simp
          first | exact hK _ _ hB rfl (fun _ _ h => h) | exact hK _ _ hB trivial (fun _ _ h => h) | (rw [if_neg (by omega)]; go_simp; exact hK _ _ hB rfl (fun _ _ h => h))
        · intro vs Wx A hA hB hpre K hK
          have e20 := ((hA 20).trans (show _ = vs 4 by kernel_rfl)).trans (by first | exact hpre.1 rfl | exact hpre.2.1 rfl | exact hpre.2.2.1 rfl | exact hpre.2.2.2.1 rfl | exact hpre.2.2.2.2.1 rfl | exact hpre.2.2.2.2.2.1 rfl | exact hpre.2.2.2.2.2.2.1 rfl | exact hpre.2.2.2.2.2.2.2.1 rfl | exact hpre.2.2.2.2.2.2.2.2.1 rfl | exact hpre.2.2.2.2.2.2.2.2.2.1 rfl)
          obtain ⟨c0, d0⟩ := HXK.out Wx hB
          clear hA hpre
          go_simp
          first | exact hK _ _ hB rfl (fun _ _ h => h) | exact hK _ _ hB trivial (fun _ _ h => h) | (rw [if_neg (by omega)]; go_simp; exact hK _ _ hB rfl (fun _ _ h => h))
        · intro vs Wx A hA hB hpre K hK
          have e0 := (hA 0).trans (show _ = Value.slice (some ⟨b, o, none⟩) l.length cap by kernel_rfl)
          clear hA hpre
          go_simp
          first | exact hK _ _ hB rfl (fun _ _ h => h) | exact hK _ _ hB trivial (fun _ _ h => h) | (rw [if_neg (by omega)]; go_simp; exact hK _ _ hB rfl (fun _ _ h => h))
        · intro vs Wx A hA hB hpre K hK
          have e4 := (hA 4).trans (show _ = Value.int .i64 (k : Nat) by kernel_rfl)
          clear hA hpre
          go_simp
          first | exact hK _ _ hB rfl (fun _ _ h => h) | exact hK _ _ hB trivial (fun _ _ h => h) | (rw [if_neg (by omega)]; go_simp; exact hK _ _ hB rfl (fun _ _ h => h))
        · intro vs Wx A hA hB hpre K hK
          have e22 := ((hA 22).trans (show _ = vs 6 by kernel_rfl)).trans (by first | exact hpre.1 rfl | exact hpre.2.1 rfl | exact hpre.2.2.1 rfl | exact hpre.2.2.2.1 rfl | exact hpre.2.2.2.2.1 rfl | exact hpre.2.2.2.2.2.1 rfl | exact hpre.2.2.2.2.2.2.1 rfl | exact hpre.2.2.2.2.2.2.2.1 rfl | exact hpre.2.2.2.2.2.2.2.2.1 rfl | exact hpre.2.2.2.2.2.2.2.2.2.1 rfl)
          have e23 := ((hA 23).trans (show _ = vs 7 by kernel_rfl)).trans (by first | exact hpre.1 rfl | exact hpre.2.1 rfl | exact hpre.2.2.1 rfl | exact hpre.2.2.2.1 rfl | exact hpre.2.2.2.2.1 rfl | exact hpre.2.2.2.2.2.1 rfl | exact hpre.2.2.2.2.2.2.1 rfl | exact hpre.2.2.2.2.2.2.2.1 rfl | exact hpre.2.2.2.2.2.2.2.2.1 rfl | exact hpre.2.2.2.2.2.2.2.2.2.1 rfl)
          clear hA hpre
          go_simp
          first | exact hK _ _ hB rfl (fun _ _ h => h) | exact hK _ _ hB trivial (fun _ _ h => h) | (rw [if_neg (by omega)]; go_simp; exact hK _ _ hB rfl (fun _ _ h => h))
        · intro vs Wx A hA hB hpre K hK
          have e24 := ((hA 24).trans (show _ = vs 8 by kernel_rfl)).trans (by first | exact hpre.1 rfl | exact hpre.2.1 rfl | exact hpre.2.2.1 rfl | exact hpre.2.2.2.1 rfl | exact hpre.2.2.2.2.1 rfl | exact hpre.2.2.2.2.2.1 rfl | exact hpre.2.2.2.2.2.2.1 rfl | exact hpre.2.2.2.2.2.2.2.1 rfl | exact hpre.2.2.2.2.2.2.2.2.1 rfl | exact hpre.2.2.2.2.2.2.2.2.2.1 rfl)
          clear hA hpre
          go_simp
          first | exact hK _ _ hB rfl (fun _ _ h => h) | exact hK _ _ hB trivial (fun _ _ h => h) | (rw [if_neg (by omega)]; go_simp; exact hK _ _ hB rfl (fun _ _ h => h))
        · intro vs Wx A hA hB hpre K hK
          have e25 := ((hA 25).trans (show _ = vs 9 by kernel_rfl)).trans (by first | exact hpre.1 rfl | exact hpre.2.1 rfl | exact hpre.2.2.1 rfl | exact hpre.2.2.2.1 rfl | exact hpre.2.2.2.2.1 rfl | exact hpre.2.2.2.2.2.1 rfl | exact hpre.2.2.2.2.2.2.1 rfl | exact hpre.2.2.2.2.2.2.2.1 rfl | exact hpre.2.2.2.2.2.2.2.2.1 rfl | exact hpre.2.2.2.2.2.2.2.2.2.1 rfl)
          clear hA hpre
          go_simp
          first | exact hK _ _ hB rfl (fun _ _ h => h) | exact hK _ _ hB trivial (fun _ _ h => h) | (rw [if_neg (by omega)]; go_simp; exact hK _ _ hB rfl (fun _ _ h => h))
        · intro vs Wx A hA hB hpre K hK
          have e26 := ((hA 26).trans (show _ = vs 10 by kernel_rfl)).trans (by first | exact hpre.1 rfl | exact hpre.2.1 rfl | exact hpre.2.2.1 rfl | exact hpre.2.2.2.1 rfl | exact hpre.2.2.2.2.1 rfl | exact hpre.2.2.2.2.2.1 rfl | exact hpre.2.2.2.2.2.2.1 rfl | exact hpre.2.2.2.2.2.2.2.1 rfl | exact hpre.2.2.2.2.2.2.2.2.1 rfl | exact hpre.2.2.2.2.2.2.2.2.2.1 rfl)
          obtain ⟨c0, d0⟩ := HXK.out Wx hB
          clear hA hpre
          go_simp
          first | exact hK _ _ hB rfl (fun _ _ h => h) | exact hK _ _ hB trivial (fun _ _ h => h) | (rw [if_neg (by omega)]; go_simp; exact hK _ _ hB rfl (fun _ _ h => h))
        · intro vs Wx A hA hB hpre K hK
          have e21 := ((hA 21).trans (show _ = vs 5 by kernel_rfl)).trans (by first | exact hpre.1 rfl | exact hpre.2.1 rfl | exact hpre.2.2.1 rfl | exact hpre.2.2.2.1 rfl | exact hpre.2.2.2.2.1 rfl | exact hpre.2.2.2.2.2.1 rfl | exact hpre.2.2.2.2.2.2.1 rfl | exact hpre.2.2.2.2.2.2.2.1 rfl | exact hpre.2.2.2.2.2.2.2.2.1 rfl | exact hpre.2.2.2.2.2.2.2.2.2.1 rfl)
          have e27 := ((hA 27).trans (show _ = vs 11 by kernel_rfl)).trans (by first | exact hpre.1 rfl | exact hpre.2.1 rfl | exact hpre.2.2.1 rfl | exact hpre.2.2.2.1 rfl | exact hpre.2.2.2.2.1 rfl | exact hpre.2.2.2.2.2.1 rfl | exact hpre.2.2.2.2.2.2.1 rfl | exact hpre.2.2.2.2.2.2.2.1 rfl | exact hpre.2.2.2.2.2.2.2.2.1 rfl | exact hpre.2.2.2.2.2.2.2.2.2.1 rfl)
          clear hA hpre
          go_simp
          first | exact hK _ _ hB rfl (fun _ _ h => h) | exact hK _ _ hB trivial (fun _ _ h => h) | (rw [if_neg (by omega)]; go_simp; exact hK _ _ hB rfl (fun _ _ h => h))
        intro vs Wx hB hF
        have h12 : vs 12 = .bool false := hF 12 (by decide)
        have HB6 : Hid (Below w.heap.size w Wx) := below_trans HBki.out hB
        clear hF hB
        simp only [Ri.puts]
        rw [h12]
        clear h12
        go_simp
        have HS2 := Lib.hid (HSN.out (fun h => by simp [h] at hB))
        go_wp2
        go_roundg (i - (k + 1))
        case measure => omega
        case rel => exact ⟨k + 1, by omega, rfl, by go_num, HS2.out, HB6.out⟩
      · rw [hB] at e_id
        refine Ri.wp_region_lasting (by kernel_rfl) (by kernel_rfl) (by kernel_rfl) (fun Wx => Below wi.heap.size wi Wx) (fun kz vs wz => (fun kx vx wx => match kx with | 0 => vx = Value.slice (some ⟨b, o, none⟩) l.length cap | 1 => vx = .int .i64 (i : Nat) | 2 => vx = .pointer (some ⟨b, o + i * 10, none⟩) | 3 => vx = .pointer (some ⟨b, o + i * 10, none⟩) | 4 => vx = .pointer (some ⟨b, o + i * 10, none⟩) | 5 => vx = .string (mk y.cl.id) | 6 => vx = Value.slice (some ⟨b, o, none⟩) l.length cap | 7 => vx = .int .i64 (k : Nat) | 8 => vx = .pointer (some ⟨b, o + k * 10, none⟩) | 9 => vx = .pointer (some ⟨b, o + k * 10, none⟩) | 10 => vx = .pointer (some ⟨b, o + k * 10, none⟩) | 11 => vx = .string (mk z.cl.id) | 12 => vx = .bool true | _ => True : Nat → Value → World → Prop) kz (vs kz) wz) (fun kz => [kz]) (by kernel_rfl) (fun jz vs iz vz wz hiz hz => Ri.loc_own (F := (fun kx vx wx => match kx with | 0 => vx = Value.slice (some ⟨b, o, none⟩) l.length cap | 1 => vx = .int .i64 (i : Nat) | 2 => vx = .pointer (some ⟨b, o + i * 10, none⟩) | 3 => vx = .pointer (some ⟨b, o + i * 10, none⟩) | 4 => vx = .pointer (some ⟨b, o + i * 10, none⟩) | 5 => vx = .string (mk y.cl.id) | 6 => vx = Value.slice (some ⟨b, o, none⟩) l.length cap | 7 => vx = .int .i64 (k : Nat) | 8 => vx = .pointer (some ⟨b, o + k * 10, none⟩) | 9 => vx = .pointer (some ⟨b, o + k * 10, none⟩) | 10 => vx = .pointer (some ⟨b, o + k * 10, none⟩) | 11 => vx = .string (mk z.cl.id) | 12 => vx = .bool true | _ => True : Nat → Value → World → Prop)) jz vs iz vz wz hiz hz) HD.out ⟨⟨rfl, ?_⟩, ⟨rfl, ?_⟩, ⟨rfl, ?_⟩, ⟨rfl, ?_⟩, ⟨rfl, ?_⟩, ⟨rfl, ?_⟩, ⟨rfl, ?_⟩, ⟨rfl, ?_⟩, ⟨rfl, ?_⟩, ⟨rfl, ?_⟩, ⟨rfl, ?_⟩, ⟨rfl, ?_⟩, ⟨rfl, ?_⟩, trivial⟩ ?_
        · intro vs Wx A hA hB hpre K hK
          have e0 := (hA 0).trans (show _ = Value.slice (some ⟨b, o, none⟩) l.length cap by kernel_rfl)
          clear hA hpre
          go_simp
          first | exact hK _ _ hB rfl (fun _ _ h => h) | exact hK _ _ hB trivial (fun _ _ h => h) | (rw [if_neg (by omega)]; go_simp; exact hK _ _ hB rfl (fun _ _ h => h))
        · intro vs Wx A hA hB hpre K hK
          have e3 := (hA 3).trans (show _ = Value.int .i64 (i : Nat) by kernel_rfl)
          clear hA hpre
          go_simp
          first | exact hK _ _ hB rfl (fun _ _ h => h) | exact hK _ _ hB trivial (fun _ _ h => h) | (rw [if_neg (by omega)]; go_simp; exact hK _ _ hB rfl (fun _ _ h => h))
        · intro vs Wx A hA hB hpre K hK
          have e16 := ((hA 16).trans (show _ = vs 0 by kernel_rfl)).trans (by first | exact hpre.1 rfl | exact hpre.2.1 rfl | exact hpre.2.2.1 rfl | exact hpre.2.2.2.1 rfl | exact hpre.2.2.2.2.1 rfl | exact hpre.2.2.2.2.2.1 rfl | exact hpre.2.2.2.2.2.2.1 rfl | exact hpre.2.2.2.2.2.2.2.1 rfl | exact hpre.2.2.2.2.2.2.2.2.1 rfl | exact hpre.2.2.2.2.2.2.2.2.2.1 rfl)
          have e17 := ((hA 17).trans (show _ = vs 1 by kernel_rfl)).trans (by first | exact hpre.1 rfl | exact hpre.2.1 rfl | exact hpre.2.2.1 rfl | exact hpre.2.2.2.1 rfl | exact hpre.2.2.2.2.1 rfl | exact hpre.2.2.2.2.2.1 rfl | exact hpre.2.2.2.2.2.2.1 rfl | exact hpre.2.2.2.2.2.2.2.1 rfl | exact hpre.2.2.2.2.2.2.2.2.1 rfl | exact hpre.2.2.2.2.2.2.2.2.2.1 rfl)
          clear hA hpre
          go_simp
          first | exact hK _ _ hB rfl (fun _ _ h => h) | exact hK _ _ hB trivial (fun _ _ h => h) | (rw [if_neg (by omega)]; go_simp; exact hK _ _ hB rfl (fun _ _ h => h))
        · intro vs Wx A hA hB hpre K hK
          have e18 := ((hA 18).trans (show _ = vs 2 by kernel_rfl)).trans (by first | exact hpre.1 rfl | exact hpre.2.1 rfl | exact hpre.2.2.1 rfl | exact hpre.2.2.2.1 rfl | exact hpre.2.2.2.2.1 rfl | exact hpre.2.2.2.2.2.1 rfl | exact hpre.2.2.2.2.2.2.1 rfl | exact hpre.2.2.2.2.2.2.2.1 rfl | exact hpre.2.2.2.2.2.2.2.2.1 rfl | exact hpre.2.2.2.2.2.2.2.2.2.1 rfl)
          clear hA hpre
          go_simp
          first | exact hK _ _ hB rfl (fun _ _ h => h) | exact hK _ _ hB trivial (fun _ _ h => h) | (rw [if_neg (by omega)]; go_simp; exact hK _ _ hB rfl (fun _ _ h => h))
        · intro vs Wx A hA hB hpre K hK
          have e19 := ((hA 19).trans (show _ = vs 3 by kernel_rfl)).trans (by first | exact hpre.1 rfl | exact hpre.2.1 rfl | exact hpre.2.2.1 rfl | exact hpre.2.2.2.1 rfl | exact hpre.2.2.2.2.1 rfl | exact hpre.2.2.2.2.2.1 rfl | exact hpre.2.2.2.2.2.2.1 rfl | exact hpre.2.2.2.2.2.2.2.1 rfl | exact hpre.2.2.2.2.2.2.2.2.1 rfl | exact hpre.2.2.2.2.2.2.2.2.2.1 rfl)
          clear hA hpre
          go_simp
          first | exact hK _ _ hB rfl (fun _ _ h => h) | exact hK _ _ hB trivial (fun _ _ h => h) | (rw [if_neg (by omega)]; go_simp; exact hK _ _ hB rfl (fun _ _ h => h))
        · intro vs Wx A hA hB hpre K hK
          have e20 := ((hA 20).trans (show _ = vs 4 by kernel_rfl)).trans (by first | exact hpre.1 rfl | exact hpre.2.1 rfl | exact hpre.2.2.1 rfl | exact hpre.2.2.2.1 rfl | exact hpre.2.2.2.2.1 rfl | exact hpre.2.2.2.2.2.1 rfl | exact hpre.2.2.2.2.2.2.1 rfl | exact hpre.2.2.2.2.2.2.2.1 rfl | exact hpre.2.2.2.2.2.2.2.2.1 rfl | exact hpre.2.2.2.2.2.2.2.2.2.1 rfl)
          obtain ⟨c0, d0⟩ := HXK.out Wx hB
          clear hA hpre
          go_simp
          first | exact hK _ _ hB rfl (fun _ _ h => h) | exact hK _ _ hB trivial (fun _ _ h => h) | (rw [if_neg (by omega)]; go_simp; exact hK _ _ hB rfl (fun _ _ h => h))
        · intro vs Wx A hA hB hpre K hK
          have e0 := (hA 0).trans (show _ = Value.slice (some ⟨b, o, none⟩) l.length cap by kernel_rfl)
          clear hA hpre
          go_simp
          first | exact hK _ _ hB rfl (fun _ _ h => h) | exact hK _ _ hB trivial (fun _ _ h => h) | (rw [if_neg (by omega)]; go_simp; exact hK _ _ hB rfl (fun _ _ h => h))
        · intro vs Wx A hA hB hpre K hK
          have e4 := (hA 4).trans (show _ = Value.int .i64 (k : Nat) by kernel_rfl)
          clear hA hpre
          go_simp
          first | exact hK _ _ hB rfl (fun _ _ h => h) | exact hK _ _ hB trivial (fun _ _ h => h) | (rw [if_neg (by omega)]; go_simp; exact hK _ _ hB rfl (fun _ _ h => h))
        · intro vs Wx A hA hB hpre K hK
          have e22 := ((hA 22).trans (show _ = vs 6 by kernel_rfl)).trans (by first | exact hpre.1 rfl | exact hpre.2.1 rfl | exact hpre.2.2.1 rfl | exact hpre.2.2.2.1 rfl | exact hpre.2.2.2.2.1 rfl | exact hpre.2.2.2.2.2.1 rfl | exact hpre.2.2.2.2.2.2.1 rfl | exact hpre.2.2.2.2.2.2.2.1 rfl | exact hpre.2.2.2.2.2.2.2.2.1 rfl | exact hpre.2.2.2.2.2.2.2.2.2.1 rfl)
          have e23 := ((hA 23).trans (show _ = vs 7 by kernel_rfl)).trans (by first | exact hpre.1 rfl | exact hpre.2.1 rfl | exact hpre.2.2.1 rfl | exact hpre.2.2.2.1 rfl | exact hpre.2.2.2.2.1 rfl | exact hpre.2.2.2.2.2.1 rfl | exact hpre.2.2.2.2.2.2.1 rfl | exact hpre.2.2.2.2.2.2.2.1 rfl | exact hpre.2.2.2.2.2.2.2.2.1 rfl | exact hpre.2.2.2.2.2.2.2.2.2.1 rfl)
          clear hA hpre
          go_simp
          first | exact hK _ _ hB rfl (fun _ _ h => h) | exact hK _ _ hB trivial (fun _ _ h => h) | (rw [if_neg (by omega)]; go_simp; exact hK _ _ hB rfl (fun _ _ h => h))
        · intro vs Wx A hA hB hpre K hK
          have e24 := ((hA 24).trans (show _ = vs 8 by kernel_rfl)).trans (by first | exact hpre.1 rfl | exact hpre.2.1 rfl | exact hpre.2.2.1 rfl | exact hpre.2.2.2.1 rfl | exact hpre.2.2.2.2.1 rfl | exact hpre.2.2.2.2.2.1 rfl | exact hpre.2.2.2.2.2.2.1 rfl | exact hpre.2.2.2.2.2.2.2.1 rfl | exact hpre.2.2.2.2.2.2.2.2.1 rfl | exact hpre.2.2.2.2.2.2.2.2.2.1 rfl)
          clear hA hpre
          go_simp
          first | exact hK _ _ hB rfl (fun _ _ h => h) | exact hK _ _ hB trivial (fun _ _ h => h) | (rw [if_neg (by omega)]; go_simp; exact hK _ _ hB rfl (fun _ _ h => h))
        · intro vs Wx A hA hB hpre K hK
          have e25 := ((hA 25).trans (show _ = vs 9 by kernel_rfl)).trans (by first | exact hpre.1 rfl | exact hpre.2.1 rfl | exact hpre.2.2.1 rfl | exact hpre.2.2.2.1 rfl | exact hpre.2.2.2.2.1 rfl | exact hpre.2.2.2.2.2.1 rfl | exact hpre.2.2.2.2.2.2.1 rfl | exact hpre.2.2.2.2.2.2.2.1 rfl | exact hpre.2.2.2.2.2.2.2.2.1 rfl | exact hpre.2.2.2.2.2.2.2.2.2.1 rfl)
          clear hA hpre
          go_simp
          first | exact hK _ _ hB rfl (fun _ _ h => h) | exact hK _ _ hB trivial (fun _ _ h => h) | (rw [if_neg (by omega)]; go_simp; exact hK _ _ hB rfl (fun _ _ h => h))
        · intro vs Wx A hA hB hpre K hK
          have e26 := ((hA 26).trans (show _ = vs 10 by kernel_rfl)).trans (by first | exact hpre.1 rfl | exact hpre.2.1 rfl | exact hpre.2.2.1 rfl | exact hpre.2.2.2.1 rfl | exact hpre.2.2.2.2.1 rfl | exact hpre.2.2.2.2.2.1 rfl | exact hpre.2.2.2.2.2.2.1 rfl | exact hpre.2.2.2.2.2.2.2.1 rfl | exact hpre.2.2.2.2.2.2.2.2.1 rfl | exact hpre.2.2.2.2.2.2.2.2.2.1 rfl)
          obtain ⟨c0, d0⟩ := HXK.out Wx hB
          clear hA hpre
          go_simp
          first | exact hK _ _ hB rfl (fun _ _ h => h) | exact hK _ _ hB trivial (fun _ _ h => h) | (rw [if_neg (by omega)]; go_simp; exact hK _ _ hB rfl (fun _ _ h => h))
        · intro vs Wx A hA hB hpre K hK
          have e21 := ((hA 21).trans (show _ = vs 5 by kernel_rfl)).trans (by first | exact hpre.1 rfl | exact hpre.2.1 rfl | exact hpre.2.2.1 rfl | exact hpre.2.2.2.1 rfl | exact hpre.2.2.2.2.1 rfl | exact hpre.2.2.2.2.2.1 rfl | exact hpre.2.2.2.2.2.2.1 rfl | exact hpre.2.2.2.2.2.2.2.1 rfl | exact hpre.2.2.2.2.2.2.2.2.1 rfl | exact hpre.2.2.2.2.2.2.2.2.2.1 rfl)
          have e27 := ((hA 27).trans (show _ = vs 11 by kernel_rfl)).trans (by first | exact hpre.1 rfl | exact hpre.2.1 rfl | exact hpre.2.2.1 rfl | exact hpre.2.2.2.1 rfl | exact hpre.2.2.2.2.1 rfl | exact hpre.2.2.2.2.2.1 rfl | exact hpre.2.2.2.2.2.2.1 rfl | exact hpre.2.2.2.2.2.2.2.1 rfl | exact hpre.2.2.2.2.2.2.2.2.1 rfl | exact hpre.2.2.2.2.2.2.2.2.2.1 rfl)
          clear hA hpre
          go_simp
          first | exact hK _ _ hB rfl (fun _ _ h => h) | exact hK _ _ hB trivial (fun _ _ h => h) | (rw [if_neg (by omega)]; go_simp; exact hK _ _ hB rfl (fun _ _ h => h))
        intro vs Wx hB hF
        have h12 : vs 12 = .bool true := hF 12 (by decide)
        have HB6 : Hid (Below w.heap.size w Wx) := below_trans HBki.out hB
        clear hF hB
        simp only [Ri.puts]
        rw [h12]
        clear h12
        go_simp
        go_wp2
        go_ret
        exact HYES.out _ HB6.out
end Go.Proofs.Ytpfpjbeofogbgaa.Re
end
