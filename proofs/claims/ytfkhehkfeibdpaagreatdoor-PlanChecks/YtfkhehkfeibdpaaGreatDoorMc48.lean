/-
  Texts put together (merge.py): PSamP.
-/
import Derived.Test.YtfkhehkfeibdpaaGreatDoorMc47
/-
  Of plans that are the same the reference's Same is true.
-/
section
set_option linter.unusedSimpArgs false
set_option linter.unusedVariables false
set_option maxRecDepth 100000
namespace Go.Proofs.YtfkhehkfeibdpaaGreatDoor.Pl
open Go.RowKit
open Wo (Wd WdsAt box_cell box_two keepB heap_far)

set_option maxHeartbeats 16000000 in
theorem same_plan (p : Pn) (m m' : Value) (w : World) (hp : ∀ r ∈ p.rules, ruleB r = true) (h : RusAt All w m p.rules) (h' : RusAt All w m' p.rules) :
    Calls Tryz.prog 14 #[pnv p m, pnv p m'] w fun e w' => e = .returned (.bool true) ∧ Below w.heap.size w w' := by
  have HALL := Lib.hid hp
  have hb0 := below_trans (below_alloc w (.cells #[.int .i64 p.mode, .int .i64 p.indDed, .int .i64 p.famDed, .int .i64 p.indOop, .int .i64 p.famOop, m] 24)) (below_alloc _ (.cells #[.int .i64 p.mode, .int .i64 p.indDed, .int .i64 p.famDed, .int .i64 p.indOop, .int .i64 p.famOop, m'] 24))
  have HA0 := Lib.hid (keepB (heap_alloc_new w (.cells #[.int .i64 p.mode, .int .i64 p.indDed, .int .i64 p.famDed, .int .i64 p.indOop, .int .i64 p.famOop, m] 24)) (below_alloc _ (.cells #[.int .i64 p.mode, .int .i64 p.indDed, .int .i64 p.famDed, .int .i64 p.indOop, .int .i64 p.famOop, m'] 24)))
  have h2 := heap_alloc_new (w.alloc (.cells #[.int .i64 p.mode, .int .i64 p.indDed, .int .i64 p.famDed, .int .i64 p.indOop, .int .i64 p.famOop, m] 24)) (.cells #[.int .i64 p.mode, .int .i64 p.indDed, .int .i64 p.famDed, .int .i64 p.indOop, .int .i64 p.famOop, m'] 24)
  rw [show (w.alloc (.cells #[.int .i64 p.mode, .int .i64 p.indDed, .int .i64 p.famDed, .int .i64 p.indOop, .int .i64 p.famOop, m] 24)).heap.size = w.heap.size + 1 by simp] at h2
  have HX0 := Lib.hid h2
  have HB0 := Lib.hid hb0
  have HU := Lib.hid (h.grw hb0)
  have HU' := Lib.hid (h'.grw hb0)
  obtain ⟨a, c, rfl, h1a, h1b, h1c⟩ := h.form
  obtain ⟨a', c', rfl, h2a, h2b, -⟩ := h'.form
  have h1c : p.rules.length ≤ 281474976710656 := h1c
  clear hb0 h2 h h' hp
  go_enter Tryz.func14, Tryz.ntmps14
  go_upto_region 1 with fail
  generalize (w.alloc (.cells #[.int .i64 p.mode, .int .i64 p.indDed, .int .i64 p.famDed, .int .i64 p.indOop, .int .i64 p.famOop, (.slice a p.rules.length c)] 24)).alloc (.cells #[.int .i64 p.mode, .int .i64 p.indDed, .int .i64 p.famDed, .int .i64 p.indOop, .int .i64 p.famOop, (.slice a' p.rules.length c')] 24) = W0 at *
  generalize hpa : w.heap.size = pa at *
  obtain ⟨pb, hpb⟩ : ∃ pb, pb = pa + 1 := ⟨_, rfl⟩
  rw [← hpb] at HX0 ⊢
  obtain ⟨x0, x1, x2, x3, x4, x5⟩ := bsix HA0.out
  obtain ⟨y0, y1, y2, y3, y4, y5⟩ := bsix HX0.out
  clear hpb
  have HR0 := Lib.hid (Below.refl W0.heap.size W0)
  go_wp2
  go_loopg [5] (p.rules.length) (fun g i wr => ∃ n : Nat, n ≤ p.rules.length ∧ g = p.rules.length - n ∧ i = .int .i64 n ∧ Hid (Below W0.heap.size W0 wr))
  case atStart => exact ⟨0, Nat.zero_le _, rfl, rfl, HR0.out⟩
  case round =>
    clear HR0 x0 x1 x2 x3 x4 x5 y0 y1 y2 y3 y4 y5
    obtain ⟨n, hn, hgk, rfl, HBr⟩ := hrel
    have HAr := Lib.hid (keepB HA0.out HBr.out)
    have HXr := Lib.hid (keepB HX0.out HBr.out)
    obtain ⟨x0, x1, x2, x3, x4, x5⟩ := bsix HAr.out
    obtain ⟨y0, y1, y2, y3, y4, y5⟩ := bsix HXr.out
    by_cases hlt : n < p.rules.length
    · obtain ⟨ba, oa, q1, q2, q3, rfl, hbs, hx, hcc, hin⟩ := RusAt.get (HU.out.grw HBr.out) n hlt
      obtain ⟨bb, ob, t1, t2, t3, rfl, hbs', hx', hcc', hin'⟩ := RusAt.get (HU'.out.grw HBr.out) n hlt
      obtain ⟨-, -, -, hk1, hk2, hk3⟩ := id hin
      obtain ⟨-, -, -, hk1', hk2', hk3'⟩ := id hin'
      obtain ⟨ka, kc, rfl, -, -⟩ := hk1.form
      obtain ⟨ua, uc, rfl, -, -⟩ := hk2.form
      obtain ⟨sa, sc, rfl, -, -, -⟩ := hk3.form
      obtain ⟨ka', kc', rfl, -, -⟩ := hk1'.form
      obtain ⟨ua', uc', rfl, -, -⟩ := hk2'.form
      obtain ⟨sa', sc', rfl, -, -, -⟩ := hk3'.form
      have HC := Lib.hid fun W (hW : Below wr.heap.size wr W) => same_rule p.rules[n] _ _ _ _ _ _ W (HALL.out _ (List.getElem_mem hlt)) (hin.move (Below.moves hW)) (hin'.move (Below.moves hW))
      have HCX := Lib.hid fun W (hW : Below wr.heap.size wr W) => And.intro (hcc.of (hW.block ba hbs)) (And.intro (hcc'.of (hW.block bb hbs')) (And.intro (bsix (keepB HAr.out hW)) (bsix (keepB HXr.out hW))))
      clear hx hx' hcc hcc' hin hin' hk1 hk2 hk3 hk1' hk2' hk3' hbs hbs'
      generalize p.rules[n] = ru at *
      have HCL : Hid (∀ W, Below wr.heap.size wr W → W.cell? ⟨ba, oa + n * 8, none⟩ = some (.int .i64 ru.rank) ∧ W.cell? ⟨ba, oa + n * 8 + 1, none⟩ = some (.int .i64 ru.cif.kind) ∧ W.cell? ⟨ba, oa + n * 8 + 2, none⟩ = some (.string (mk ru.cif.lo)) ∧ W.cell? ⟨ba, oa + n * 8 + 3, none⟩ = some (.string (mk ru.cif.hi)) ∧ W.cell? ⟨ba, oa + n * 8 + 4, none⟩ = some (.int .i64 ru.cif.n) ∧ W.cell? ⟨ba, oa + n * 8 + 5, none⟩ = some (.slice ka ru.cif.kids.length kc) ∧ W.cell? ⟨ba, oa + n * 8 + 6, none⟩ = some (.slice ua ru.unl.length uc) ∧ W.cell? ⟨ba, oa + n * 8 + 7, none⟩ = some (.slice sa ru.sets.length sc) ∧ W.cell? ⟨bb, ob + n * 8, none⟩ = some (.int .i64 ru.rank) ∧ W.cell? ⟨bb, ob + n * 8 + 1, none⟩ = some (.int .i64 ru.cif.kind) ∧ W.cell? ⟨bb, ob + n * 8 + 2, none⟩ = some (.string (mk ru.cif.lo)) ∧ W.cell? ⟨bb, ob + n * 8 + 3, none⟩ = some (.string (mk ru.cif.hi)) ∧ W.cell? ⟨bb, ob + n * 8 + 4, none⟩ = some (.int .i64 ru.cif.n) ∧ W.cell? ⟨bb, ob + n * 8 + 5, none⟩ = some (.slice ka' ru.cif.kids.length kc') ∧ W.cell? ⟨bb, ob + n * 8 + 6, none⟩ = some (.slice ua' ru.unl.length uc') ∧ W.cell? ⟨bb, ob + n * 8 + 7, none⟩ = some (.slice sa' ru.sets.length sc') ∧ W.cell? ⟨pa, 5, none⟩ = some (.slice (some ⟨ba, oa, none⟩) p.rules.length c) ∧ W.cell? ⟨pb, 5, none⟩ = some (.slice (some ⟨bb, ob, none⟩) p.rules.length c')) := fun W hW => by
        obtain ⟨h1, h2, h3, h4⟩ := HCX.out W hW
        exact ⟨h1.1, h1.2.1, h1.2.2.1, h1.2.2.2.1, h1.2.2.2.2.1, h1.2.2.2.2.2.1, h1.2.2.2.2.2.2.1, h1.2.2.2.2.2.2.2, h2.1, h2.2.1, h2.2.2.1, h2.2.2.2.1, h2.2.2.2.2.1, h2.2.2.2.2.2.1, h2.2.2.2.2.2.2.1, h2.2.2.2.2.2.2.2, h3.2.2.2.2.2, h4.2.2.2.2.2⟩
      have HBd := Lib.hid (Below.drew (Below.refl wr.heap.size wr))
      clear HCX
      go_wp2_with fail
      go_cut [66] (fun sx wx => sx = .bool false ∧ Hid (Below wr.heap.size wr wx))
      case first =>
        refine Ri.wp_region_lasting (by kernel_rfl) (by kernel_rfl) (by kernel_rfl) (fun W => Below wr.heap.size wr W) (fun kz vs wz => (fun kx vx _ => match kx with | 0 => vx = .pointer (some ⟨pa, 5, none⟩) | 1 => vx = .slice (some ⟨ba, oa, none⟩) p.rules.length c | 2 => vx = .int .i64 (n : Nat) | 3 => vx = .pointer (some ⟨ba, oa + n * 8, none⟩) | 4 => vx = ruv ru (.slice ka ru.cif.kids.length kc) (.slice ua ru.unl.length uc) (.slice sa ru.sets.length sc) | 5 => vx = .pointer (some ⟨pb, 5, none⟩) | 6 => vx = .slice (some ⟨bb, ob, none⟩) p.rules.length c' | 7 => vx = .int .i64 (n : Nat) | 8 => vx = .pointer (some ⟨bb, ob + n * 8, none⟩) | 9 => vx = ruv ru (.slice ka' ru.cif.kids.length kc') (.slice ua' ru.unl.length uc') (.slice sa' ru.sets.length sc') | 10 => vx = .bool true | 11 => vx = .bool false | _ => True : Nat → Value → World → Prop) kz (vs kz) wz) (fun kz => [kz]) (by kernel_rfl) (fun jz vs iz vz wz hiz hz => Ri.loc_own (F := (fun kx vx _ => match kx with | 0 => vx = .pointer (some ⟨pa, 5, none⟩) | 1 => vx = .slice (some ⟨ba, oa, none⟩) p.rules.length c | 2 => vx = .int .i64 (n : Nat) | 3 => vx = .pointer (some ⟨ba, oa + n * 8, none⟩) | 4 => vx = ruv ru (.slice ka ru.cif.kids.length kc) (.slice ua ru.unl.length uc) (.slice sa ru.sets.length sc) | 5 => vx = .pointer (some ⟨pb, 5, none⟩) | 6 => vx = .slice (some ⟨bb, ob, none⟩) p.rules.length c' | 7 => vx = .int .i64 (n : Nat) | 8 => vx = .pointer (some ⟨bb, ob + n * 8, none⟩) | 9 => vx = ruv ru (.slice ka' ru.cif.kids.length kc') (.slice ua' ru.unl.length uc') (.slice sa' ru.sets.length sc') | 10 => vx = .bool true | 11 => vx = .bool false | _ => True : Nat → Value → World → Prop)) jz vs iz vz wz hiz hz) HBd.out ⟨⟨rfl, ?_⟩, ⟨rfl, ?_⟩, ⟨rfl, ?_⟩, ⟨rfl, ?_⟩, ⟨rfl, ?_⟩, ⟨rfl, ?_⟩, ⟨rfl, ?_⟩, ⟨rfl, ?_⟩, ⟨rfl, ?_⟩, ⟨rfl, ?_⟩, ⟨rfl, ?_⟩, ⟨rfl, ?_⟩, trivial⟩ ?_
        · intro vs W A hA hB hpre K hK
          have e2 := (hA 2).trans (show _ = Value.pointer (some ⟨pa, 0, none⟩) by kernel_rfl)
          clear hA
          go_simp
          exact hK _ _ hB rfl (fun _ _ h => h)
        · intro vs W A hA hB hpre K hK
          have e55 := ((hA 55).trans (show _ = vs 0 by kernel_rfl)).trans (by first | exact hpre.1 rfl | exact hpre.2.1 rfl | exact hpre.2.2.1 rfl | exact hpre.2.2.2.1 rfl | exact hpre.2.2.2.2.1 rfl)
          obtain ⟨ca0, ca1, ca2, ca3, ca4, ca5, ca6, ca7, cb0, cb1, cb2, cb3, cb4, cb5, cb6, cb7, va, vb⟩ := HCL.out W hB
          clear hA hpre
          go_simp
          exact hK _ _ hB rfl (fun _ _ h => h)
        · intro vs W A hA hB hpre K hK
          have e5 := (hA 5).trans (show _ = Value.int IntKind.i64 (n : Nat) by kernel_rfl)
          clear hA
          go_simp
          exact hK _ _ hB rfl (fun _ _ h => h)
        · intro vs W A hA hB hpre K hK
          have e56 := ((hA 56).trans (show _ = vs 1 by kernel_rfl)).trans (by first | exact hpre.1 rfl | exact hpre.2.1 rfl | exact hpre.2.2.1 rfl | exact hpre.2.2.2.1 rfl | exact hpre.2.2.2.2.1 rfl)
          have e57 := ((hA 57).trans (show _ = vs 2 by kernel_rfl)).trans (by first | exact hpre.1 rfl | exact hpre.2.1 rfl | exact hpre.2.2.1 rfl | exact hpre.2.2.2.1 rfl | exact hpre.2.2.2.2.1 rfl)
          clear hA hpre
          go_simp
          exact hK _ _ hB rfl (fun _ _ h => h)
        · intro vs W A hA hB hpre K hK
          have e58 := ((hA 58).trans (show _ = vs 3 by kernel_rfl)).trans (by first | exact hpre.1 rfl | exact hpre.2.1 rfl | exact hpre.2.2.1 rfl | exact hpre.2.2.2.1 rfl | exact hpre.2.2.2.2.1 rfl)
          obtain ⟨ca0, ca1, ca2, ca3, ca4, ca5, ca6, ca7, cb0, cb1, cb2, cb3, cb4, cb5, cb6, cb7, va, vb⟩ := HCL.out W hB
          clear hA hpre
          go_simp
          exact hK _ _ hB rfl (fun _ _ h => h)
        · intro vs W A hA hB hpre K hK
          have e3 := (hA 3).trans (show _ = Value.pointer (some ⟨pb, 0, none⟩) by kernel_rfl)
          clear hA
          go_simp
          exact hK _ _ hB rfl (fun _ _ h => h)
        · intro vs W A hA hB hpre K hK
          have e60 := ((hA 60).trans (show _ = vs 5 by kernel_rfl)).trans (by first | exact hpre.1 rfl | exact hpre.2.1 rfl | exact hpre.2.2.1 rfl | exact hpre.2.2.2.1 rfl | exact hpre.2.2.2.2.1 rfl)
          obtain ⟨ca0, ca1, ca2, ca3, ca4, ca5, ca6, ca7, cb0, cb1, cb2, cb3, cb4, cb5, cb6, cb7, va, vb⟩ := HCL.out W hB
          clear hA hpre
          go_simp
          exact hK _ _ hB rfl (fun _ _ h => h)
        · intro vs W A hA hB hpre K hK
          have e5 := (hA 5).trans (show _ = Value.int IntKind.i64 (n : Nat) by kernel_rfl)
          clear hA
          go_simp
          exact hK _ _ hB rfl (fun _ _ h => h)
        · intro vs W A hA hB hpre K hK
          have e61 := ((hA 61).trans (show _ = vs 6 by kernel_rfl)).trans (by first | exact hpre.1 rfl | exact hpre.2.1 rfl | exact hpre.2.2.1 rfl | exact hpre.2.2.2.1 rfl | exact hpre.2.2.2.2.1 rfl)
          have e62 := ((hA 62).trans (show _ = vs 7 by kernel_rfl)).trans (by first | exact hpre.1 rfl | exact hpre.2.1 rfl | exact hpre.2.2.1 rfl | exact hpre.2.2.2.1 rfl | exact hpre.2.2.2.2.1 rfl)
          clear hA hpre
          go_simp
          exact hK _ _ hB rfl (fun _ _ h => h)
        · intro vs W A hA hB hpre K hK
          have e63 := ((hA 63).trans (show _ = vs 8 by kernel_rfl)).trans (by first | exact hpre.1 rfl | exact hpre.2.1 rfl | exact hpre.2.2.1 rfl | exact hpre.2.2.2.1 rfl | exact hpre.2.2.2.2.1 rfl)
          obtain ⟨ca0, ca1, ca2, ca3, ca4, ca5, ca6, ca7, cb0, cb1, cb2, cb3, cb4, cb5, cb6, cb7, va, vb⟩ := HCL.out W hB
          clear hA hpre
          go_simp
          exact hK _ _ hB rfl (fun _ _ h => h)
        · intro vs W A hA hB hpre K hK
          have e59 := ((hA 59).trans (show _ = vs 4 by kernel_rfl)).trans (by first | exact hpre.1 rfl | exact hpre.2.1 rfl | exact hpre.2.2.1 rfl | exact hpre.2.2.2.1 rfl | exact hpre.2.2.2.2.1 rfl)
          have e64 := ((hA 64).trans (show _ = vs 9 by kernel_rfl)).trans (by first | exact hpre.1 rfl | exact hpre.2.1 rfl | exact hpre.2.2.1 rfl | exact hpre.2.2.2.1 rfl | exact hpre.2.2.2.2.1 rfl)
          clear hA hpre
          go_simp
          refine (HC.out W hB).mono ?_
          rintro e w1 ⟨rfl, hb⟩
          exact hK _ _ (below_trans hB hb) rfl (fun _ _ h => h)
        · intro vs W A hA hB hpre K hK
          have e65 := ((hA 65).trans (show _ = vs 10 by kernel_rfl)).trans (by first | exact hpre.1 rfl | exact hpre.2.1 rfl | exact hpre.2.2.1 rfl | exact hpre.2.2.2.1 rfl | exact hpre.2.2.2.2.1 rfl)
          clear hA hpre
          go_simp
          exact hK _ _ hB rfl (fun _ _ h => h)
        · intro vs W hB hF
          have h11 : vs 11 = .bool false := hF 11 (by decide)
          have HBW := Lib.hid hB
          clear hF hB
          simp only [Ri.puts]
          go_simp
          go_wp2_with fail
          go_meet
          exact ⟨by first | rfl | exact h11, HBW.out⟩
      case rest =>
        obtain ⟨rfl, HBx⟩ := hcut
        have HBn := Lib.hid (below_trans HBr.out HBx.out)
        clear HCL HC HBd HBx
        go_wp2
        go_roundg (p.rules.length - (n + 1))
        case rel => exact ⟨n + 1, by omega, rfl, by go_num, HBn.out⟩
        case measure => omega
    · go_wp2
      go_ret
      exact ⟨rfl, by first | exact below_tr hpa HB0.out HBr.out | (rw [hpa]; exact below_tr hpa HB0.out HBr.out)⟩
end Go.Proofs.YtfkhehkfeibdpaaGreatDoor.Pl
end
