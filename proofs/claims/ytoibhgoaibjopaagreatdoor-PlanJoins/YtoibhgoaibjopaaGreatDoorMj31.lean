/-
  Texts put together (merge.py): PSamP, PLift.
-/
import Derived.Lib.LaidTab
import Derived.ProofKit
import Derived.OpenShut
import Derived.Carry
import Derived.Lay
import Derived.LaidOnce
import Derived.LaidMore
import Derived.Stop.Joined
import Derived.Shelf.Vars
import Derived.Deep.Strs
import Derived.Lib.SmallJoins
import Derived.Test.YtoibhgoaibjopaaGreatDoorMj30
import Derived.Test.YtoibhgoaibjopaaGreatDoorRows
import Derived.Test.YtoibhgoaibjopaaGreatDoorMj29
/-
  Of plans that are the same the reference's Same is true.
-/
section
set_option linter.unusedSimpArgs false
set_option linter.unusedVariables false
set_option maxRecDepth 100000
namespace Go.Proofs.YtoibhgoaibjopaaGreatDoor.Pl
open Go.RowKit
open Wo (Wd WdsAt box_cell box_two keepB heap_far)

set_option maxHeartbeats 16000000 in
theorem same_plan (p : Pn) (m m' : Value) (w : World) (hp : ∀ r ∈ p.rules, ruleB r = true) (h : RusAt All w m p.rules) (h' : RusAt All w m' p.rules) :
    Calls Tryz.prog 11 #[pnv p m, pnv p m'] w fun e w' => e = .returned (.bool true) ∧ Below w.heap.size w w' := by
  have HALL := Lib.hid hp
  have hb0 := below_trans (below_alloc w (.cells #[.int .i64 p.mode, .int .i64 p.indDed, .int .i64 p.famDed, .int .i64 p.indOop, .int .i64 p.famOop, m] 24)) (below_alloc _ (.cells #[.int .i64 p.mode, .int .i64 p.indDed, .int .i64 p.famDed, .int .i64 p.indOop, .int .i64 p.famOop, m'] 24))
  have HA0 := Lib.hid (keepB (heap_alloc_new w (.cells #[.int .i64 p.mode, .int .i64 p.indDed, .int .i64 p.famDed, .int .i64 p.indOop, .int .i64 p.famOop, m] 24)) (below_alloc _ (.cells #[.int .i64 p.mode, .int .i64 p.indDed, .int .i64 p.famDed, .int .i64 p.indOop, .int .i64 p.famOop, m'] 24)))
  have h2 := heap_alloc_new (w.alloc (.cells #[.int .i64 p.mode, .int .i64 p.indDed, .int .i64 p.famDed, .int .i64 p.indOop, .int .i64 p.famOop, m] 24)) (.cells #[.int .i64 p.mode, .int .i64 p.indDed, .int .i64 p.famDed, .int .i64 p.indOop, .int .i64 p.famOop, m'] 24)
  rw [show (w.alloc (.cells #[.int .i64 p.mode, .int .i64 p.indDed, .int .i64 p.famDed, .int .i64 p.indOop, .int .i64 p.famOop, m] 24)).heap.size = w.heap.size + 1 by simp] at h2
  have HX0 := Lib.hid h2
  have HB0 := Lib.hid hb0
  have HU := Lib.hid (h.grw hb0)
  have HU' := Lib.hid (h'.grw hb0)
  obtain ⟨a, c, rfl, h1a, h1b, h1c⟩ := h.form
  obtain ⟨a', c', rfl, h2a, h2b, -⟩ := h'.form
  have h1c : p.rules.length ≤ 281474976710656 := h1c
  clear hb0 h2 h h' hp
  go_enter Tryz.func11, Tryz.ntmps11
  go_upto_region 1 with fail
  generalize (w.alloc (.cells #[.int .i64 p.mode, .int .i64 p.indDed, .int .i64 p.famDed, .int .i64 p.indOop, .int .i64 p.famOop, (.slice a p.rules.length c)] 24)).alloc (.cells #[.int .i64 p.mode, .int .i64 p.indDed, .int .i64 p.famDed, .int .i64 p.indOop, .int .i64 p.famOop, (.slice a' p.rules.length c')] 24) = W0 at *
  generalize hpa : w.heap.size = pa at *
  obtain ⟨pb, hpb⟩ : ∃ pb, pb = pa + 1 := ⟨_, rfl⟩
  rw [← hpb] at HX0 ⊢
  obtain ⟨x0, x1, x2, x3, x4, x5⟩ := bsix HA0.out
  obtain ⟨y0, y1, y2, y3, y4, y5⟩ := bsix HX0.out
  clear hpb
  have HR0 := Lib.hid (Below.refl W0.heap.size W0)
  go_wp2
  go_loopg [5] (p.rules.length) (fun g i wr => ∃ n : Nat, n ≤ p.rules.length ∧ g = p.rules.length - n ∧ i = .int .i64 n ∧ Hid (Below W0.heap.size W0 wr))
  case atStart => exact ⟨0, Nat.zero_le _, rfl, rfl, HR0.out⟩
  case round =>
    clear HR0 x0 x1 x2 x3 x4 x5 y0 y1 y2 y3 y4 y5
    obtain ⟨n, hn, hgk, rfl, HBr⟩ := hrel
    have HAr := Lib.hid (keepB HA0.out HBr.out)
    have HXr := Lib.hid (keepB HX0.out HBr.out)
    obtain ⟨x0, x1, x2, x3, x4, x5⟩ := bsix HAr.out
    obtain ⟨y0, y1, y2, y3, y4, y5⟩ := bsix HXr.out
    by_cases hlt : n < p.rules.length
    · obtain ⟨ba, oa, q1, q2, q3, rfl, hbs, hx, hcc, hin⟩ := RusAt.get (HU.out.grw HBr.out) n hlt
      obtain ⟨bb, ob, t1, t2, t3, rfl, hbs', hx', hcc', hin'⟩ := RusAt.get (HU'.out.grw HBr.out) n hlt
      obtain ⟨-, -, -, hk1, hk2, hk3⟩ := id hin
      obtain ⟨-, -, -, hk1', hk2', hk3'⟩ := id hin'
      obtain ⟨ka, kc, rfl, -, -⟩ := hk1.form
      obtain ⟨ua, uc, rfl, -, -⟩ := hk2.form
      obtain ⟨sa, sc, rfl, -, -, -⟩ := hk3.form
      obtain ⟨ka', kc', rfl, -, -⟩ := hk1'.form
      obtain ⟨ua', uc', rfl, -, -⟩ := hk2'.form
      obtain ⟨sa', sc', rfl, -, -, -⟩ := hk3'.form
      have HC := Lib.hid fun W (hW : Below wr.heap.size wr W) => same_rule p.rules[n] _ _ _ _ _ _ W (HALL.out _ (List.getElem_mem hlt)) (hin.move (Below.moves hW)) (hin'.move (Below.moves hW))
      have HCX := Lib.hid fun W (hW : Below wr.heap.size wr W) => And.intro (hcc.of (hW.block ba hbs)) (And.intro (hcc'.of (hW.block bb hbs')) (And.intro (bsix (keepB HAr.out hW)) (bsix (keepB HXr.out hW))))
      clear hx hx' hcc hcc' hin hin' hk1 hk2 hk3 hk1' hk2' hk3' hbs hbs'
      generalize p.rules[n] = ru at *
      have HCL : Hid (∀ W, Below wr.heap.size wr W → W.cell? ⟨ba, oa + n * 8, none⟩ = some (.int .i64 ru.rank) ∧ W.cell? ⟨ba, oa + n * 8 + 1, none⟩ = some (.int .i64 ru.cif.kind) ∧ W.cell? ⟨ba, oa + n * 8 + 2, none⟩ = some (.string (mk ru.cif.lo)) ∧ W.cell? ⟨ba, oa + n * 8 + 3, none⟩ = some (.string (mk ru.cif.hi)) ∧ W.cell? ⟨ba, oa + n * 8 + 4, none⟩ = some (.int .i64 ru.cif.n) ∧ W.cell? ⟨ba, oa + n * 8 + 5, none⟩ = some (.slice ka ru.cif.kids.length kc) ∧ W.cell? ⟨ba, oa + n * 8 + 6, none⟩ = some (.slice ua ru.unl.length uc) ∧ W.cell? ⟨ba, oa + n * 8 + 7, none⟩ = some (.slice sa ru.sets.length sc) ∧ W.cell? ⟨bb, ob + n * 8, none⟩ = some (.int .i64 ru.rank) ∧ W.cell? ⟨bb, ob + n * 8 + 1, none⟩ = some (.int .i64 ru.cif.kind) ∧ W.cell? ⟨bb, ob + n * 8 + 2, none⟩ = some (.string (mk ru.cif.lo)) ∧ W.cell? ⟨bb, ob + n * 8 + 3, none⟩ = some (.string (mk ru.cif.hi)) ∧ W.cell? ⟨bb, ob + n * 8 + 4, none⟩ = some (.int .i64 ru.cif.n) ∧ W.cell? ⟨bb, ob + n * 8 + 5, none⟩ = some (.slice ka' ru.cif.kids.length kc') ∧ W.cell? ⟨bb, ob + n * 8 + 6, none⟩ = some (.slice ua' ru.unl.length uc') ∧ W.cell? ⟨bb, ob + n * 8 + 7, none⟩ = some (.slice sa' ru.sets.length sc') ∧ W.cell? ⟨pa, 5, none⟩ = some (.slice (some ⟨ba, oa, none⟩) p.rules.length c) ∧ W.cell? ⟨pb, 5, none⟩ = some (.slice (some ⟨bb, ob, none⟩) p.rules.length c')) := fun W hW => by
        obtain ⟨h1, h2, h3, h4⟩ := HCX.out W hW
        exact ⟨h1.1, h1.2.1, h1.2.2.1, h1.2.2.2.1, h1.2.2.2.2.1, h1.2.2.2.2.2.1, h1.2.2.2.2.2.2.1, h1.2.2.2.2.2.2.2, h2.1, h2.2.1, h2.2.2.1, h2.2.2.2.1, h2.2.2.2.2.1, h2.2.2.2.2.2.1, h2.2.2.2.2.2.2.1, h2.2.2.2.2.2.2.2, h3.2.2.2.2.2, h4.2.2.2.2.2⟩
      have HBd := Lib.hid (Below.drew (Below.refl wr.heap.size wr))
      clear HCX
      go_wp2_with fail
      go_cut [66] (fun sx wx => sx = .bool false ∧ Hid (Below wr.heap.size wr wx))
      case first =>
        refine Ri.wp_region_lasting (by kernel_rfl) (by kernel_rfl) (by kernel_rfl) (fun W => Below wr.heap.size wr W) (fun kz vs wz => (fun kx vx _ => match kx with | 0 => vx = .pointer (some ⟨pa, 5, none⟩) | 1 => vx = .slice (some ⟨ba, oa, none⟩) p.rules.length c | 2 => vx = .int .i64 (n : Nat) | 3 => vx = .pointer (some ⟨ba, oa + n * 8, none⟩) | 4 => vx = ruv ru (.slice ka ru.cif.kids.length kc) (.slice ua ru.unl.length uc) (.slice sa ru.sets.length sc) | 5 => vx = .pointer (some ⟨pb, 5, none⟩) | 6 => vx = .slice (some ⟨bb, ob, none⟩) p.rules.length c' | 7 => vx = .int .i64 (n : Nat) | 8 => vx = .pointer (some ⟨bb, ob + n * 8, none⟩) | 9 => vx = ruv ru (.slice ka' ru.cif.kids.length kc') (.slice ua' ru.unl.length uc') (.slice sa' ru.sets.length sc') | 10 => vx = .bool true | 11 => vx = .bool false | _ => True : Nat → Value → World → Prop) kz (vs kz) wz) (fun kz => [kz]) (by kernel_rfl) (fun jz vs iz vz wz hiz hz => Ri.loc_own (F := (fun kx vx _ => match kx with | 0 => vx = .pointer (some ⟨pa, 5, none⟩) | 1 => vx = .slice (some ⟨ba, oa, none⟩) p.rules.length c | 2 => vx = .int .i64 (n : Nat) | 3 => vx = .pointer (some ⟨ba, oa + n * 8, none⟩) | 4 => vx = ruv ru (.slice ka ru.cif.kids.length kc) (.slice ua ru.unl.length uc) (.slice sa ru.sets.length sc) | 5 => vx = .pointer (some ⟨pb, 5, none⟩) | 6 => vx = .slice (some ⟨bb, ob, none⟩) p.rules.length c' | 7 => vx = .int .i64 (n : Nat) | 8 => vx = .pointer (some ⟨bb, ob + n * 8, none⟩) | 9 => vx = ruv ru (.slice ka' ru.cif.kids.length kc') (.slice ua' ru.unl.length uc') (.slice sa' ru.sets.length sc') | 10 => vx = .bool true | 11 => vx = .bool false | _ => True : Nat → Value → World → Prop)) jz vs iz vz wz hiz hz) HBd.out ⟨⟨rfl, ?_⟩, ⟨rfl, ?_⟩, ⟨rfl, ?_⟩, ⟨rfl, ?_⟩, ⟨rfl, ?_⟩, ⟨rfl, ?_⟩, ⟨rfl, ?_⟩, ⟨rfl, ?_⟩, ⟨rfl, ?_⟩, ⟨rfl, ?_⟩, ⟨rfl, ?_⟩, ⟨rfl, ?_⟩, trivial⟩ ?_
        · intro vs W A hA hB hpre K hK
          have e2 := (hA 2).trans (show _ = Value.pointer (some ⟨pa, 0, none⟩) by kernel_rfl)
          clear hA
          go_simp
          exact hK _ _ hB rfl (fun _ _ h => h)
        · intro vs W A hA hB hpre K hK
          have e55 := ((hA 55).trans (show _ = vs 0 by kernel_rfl)).trans (by first | exact hpre.1 rfl | exact hpre.2.1 rfl | exact hpre.2.2.1 rfl | exact hpre.2.2.2.1 rfl | exact hpre.2.2.2.2.1 rfl)
          obtain ⟨ca0, ca1, ca2, ca3, ca4, ca5, ca6, ca7, cb0, cb1, cb2, cb3, cb4, cb5, cb6, cb7, va, vb⟩ := HCL.out W hB
          clear hA hpre
          go_simp
          exact hK _ _ hB rfl (fun _ _ h => h)
        · intro vs W A hA hB hpre K hK
          have e5 := (hA 5).trans (show _ = Value.int IntKind.i64 (n : Nat) by kernel_rfl)
          clear hA
          go_simp
          exact hK _ _ hB rfl (fun _ _ h => h)
        · intro vs W A hA hB hpre K hK
          have e56 := ((hA 56).trans (show _ = vs 1 by kernel_rfl)).trans (by first | exact hpre.1 rfl | exact hpre.2.1 rfl | exact hpre.2.2.1 rfl | exact hpre.2.2.2.1 rfl | exact hpre.2.2.2.2.1 rfl)
          have e57 := ((hA 57).trans (show _ = vs 2 by kernel_rfl)).trans (by first | exact hpre.1 rfl | exact hpre.2.1 rfl | exact hpre.2.2.1 rfl | exact hpre.2.2.2.1 rfl | exact hpre.2.2.2.2.1 rfl)
          clear hA hpre
          go_simp
          exact hK _ _ hB rfl (fun _ _ h => h)
        · intro vs W A hA hB hpre K hK
          have e58 := ((hA 58).trans (show _ = vs 3 by kernel_rfl)).trans (by first | exact hpre.1 rfl | exact hpre.2.1 rfl | exact hpre.2.2.1 rfl | exact hpre.2.2.2.1 rfl | exact hpre.2.2.2.2.1 rfl)
          obtain ⟨ca0, ca1, ca2, ca3, ca4, ca5, ca6, ca7, cb0, cb1, cb2, cb3, cb4, cb5, cb6, cb7, va, vb⟩ := HCL.out W hB
          clear hA hpre
          go_simp
          exact hK _ _ hB rfl (fun _ _ h => h)
        · intro vs W A hA hB hpre K hK
          have e3 := (hA 3).trans (show _ = Value.pointer (some ⟨pb, 0, none⟩) by kernel_rfl)
          clear hA
          go_simp
          exact hK _ _ hB rfl (fun _ _ h => h)
        · intro vs W A hA hB hpre K hK
          have e60 := ((hA 60).trans (show _ = vs 5 by kernel_rfl)).trans (by first | exact hpre.1 rfl | exact hpre.2.1 rfl | exact hpre.2.2.1 rfl | exact hpre.2.2.2.1 rfl | exact hpre.2.2.2.2.1 rfl)
          obtain ⟨ca0, ca1, ca2, ca3, ca4, ca5, ca6, ca7, cb0, cb1, cb2, cb3, cb4, cb5, cb6, cb7, va, vb⟩ := HCL.out W hB
          clear hA hpre
          go_simp
          exact hK _ _ hB rfl (fun _ _ h => h)
        · intro vs W A hA hB hpre K hK
          have e5 := (hA 5).trans (show _ = Value.int IntKind.i64 (n : Nat) by kernel_rfl)
          clear hA
          go_simp
          exact hK _ _ hB rfl (fun _ _ h => h)
        · intro vs W A hA hB hpre K hK
          have e61 := ((hA 61).trans (show _ = vs 6 by kernel_rfl)).trans (by first | exact hpre.1 rfl | exact hpre.2.1 rfl | exact hpre.2.2.1 rfl | exact hpre.2.2.2.1 rfl | exact hpre.2.2.2.2.1 rfl)
          have e62 := ((hA 62).trans (show _ = vs 7 by kernel_rfl)).trans (by first | exact hpre.1 rfl | exact hpre.2.1 rfl | exact hpre.2.2.1 rfl | exact hpre.2.2.2.1 rfl | exact hpre.2.2.2.2.1 rfl)
          clear hA hpre
          go_simp
          exact hK _ _ hB rfl (fun _ _ h => h)
        · intro vs W A hA hB hpre K hK
          have e63 := ((hA 63).trans (show _ = vs 8 by kernel_rfl)).trans (by first | exact hpre.1 rfl | exact hpre.2.1 rfl | exact hpre.2.2.1 rfl | exact hpre.2.2.2.1 rfl | exact hpre.2.2.2.2.1 rfl)
          obtain ⟨ca0, ca1, ca2, ca3, ca4, ca5, ca6, ca7, cb0, cb1, cb2, cb3, cb4, cb5, cb6, cb7, va, vb⟩ := HCL.out W hB
          clear hA hpre
          go_simp
          exact hK _ _ hB rfl (fun _ _ h => h)
        · intro vs W A hA hB hpre K hK
          have e59 := ((hA 59).trans (show _ = vs 4 by kernel_rfl)).trans (by first | exact hpre.1 rfl | exact hpre.2.1 rfl | exact hpre.2.2.1 rfl | exact hpre.2.2.2.1 rfl | exact hpre.2.2.2.2.1 rfl)
          have e64 := ((hA 64).trans (show _ = vs 9 by kernel_rfl)).trans (by first | exact hpre.1 rfl | exact hpre.2.1 rfl | exact hpre.2.2.1 rfl | exact hpre.2.2.2.1 rfl | exact hpre.2.2.2.2.1 rfl)
          clear hA hpre
          go_simp
          refine (HC.out W hB).mono ?_
          rintro e w1 ⟨rfl, hb⟩
          exact hK _ _ (below_trans hB hb) rfl (fun _ _ h => h)
        · intro vs W A hA hB hpre K hK
          have e65 := ((hA 65).trans (show _ = vs 10 by kernel_rfl)).trans (by first | exact hpre.1 rfl | exact hpre.2.1 rfl | exact hpre.2.2.1 rfl | exact hpre.2.2.2.1 rfl | exact hpre.2.2.2.2.1 rfl)
          clear hA hpre
          go_simp
          exact hK _ _ hB rfl (fun _ _ h => h)
        · intro vs W hB hF
          have h11 : vs 11 = .bool false := hF 11 (by decide)
          have HBW := Lib.hid hB
          clear hF hB
          simp only [Ri.puts]
          go_simp
          go_wp2_with fail
          go_meet
          exact ⟨by first | rfl | exact h11, HBW.out⟩
      case rest =>
        obtain ⟨rfl, HBx⟩ := hcut
        have HBn := Lib.hid (below_trans HBr.out HBx.out)
        clear HCL HC HBd HBx
        go_wp2
        go_roundg (p.rules.length - (n + 1))
        case rel => exact ⟨n + 1, by omega, rfl, by go_num, HBn.out⟩
        case measure => omega
    · go_wp2
      go_ret
      exact ⟨rfl, by first | exact below_tr hpa HB0.out HBr.out | (rw [hpa]; exact below_tr hpa HB0.out HBr.out)⟩
end Go.Proofs.YtoibhgoaibjopaaGreatDoor.Pl
end

/-
  What the rows' conditions give the walks (the table of powers of ten); what the laws use of Parse, in the form in which they meet it.
-/
section
set_option maxRecDepth 100000
set_option linter.unusedVariables false
namespace Go.Proofs.YtoibhgoaibjopaaGreatDoor.Pl
open Go.ChangeShapes Go.WideShapes Go.ChangeAt Go.RowKit Go.Deep
open Wo (Wd WdsAt box_cell box_two keepB heap_far wds)

abbrev laidL : List (String × DataW Unit) := [("math/bits.deBruijn32tab", Rows.laid_math_bits_deBruijn32tab), ("math/bits.deBruijn64tab", Rows.laid_math_bits_deBruijn64tab), ("internal/strconv.uint64pow10", Rows.laid_internal_strconv_uint64pow10)]
theorem gPow : Tryz.prog.globalNamed "internal/strconv.uint64pow10" = some 0 := by kernel_rfl
theorem tPow : (Tryz.prog.globals[0]?).map (·.type) = some 134 := by kernel_rfl
theorem cW : Tryz.prog.cellsOf 83 = 1 := by kernel_rfl
theorem cPow : Tryz.prog.cellsOf 134 = 20 := by kernel_rfl
theorem of_laid {W : World} (h : laidMetH Tryz.prog laidL W) : Nu.Tab W := by
  rw [MakeChecks.laidMetH_plain _ _ _ (by kernel_rfl)] at h
  obtain ⟨ps, ⟨_, _, _, _, _, _, _, _, _, _, ⟨_, _, _, _, _, _, _, _, _, _, ⟨g, t, cs, fuel, p, q, hg, ht, hvar, hd, _, _⟩, _⟩, _⟩, _⟩ := h
  obtain rfl := Option.some.inj (gPow.symm.trans hg)
  obtain rfl := Option.some.inj (tPow.symm.trans ht)
  unfold Nu.Tab Lib.TabIs
  rw [hvar, ← Lib.cells_of_tab Tryz.underlying134 Tryz.underlying83 cW cPow (zs := Lib.pow10Tab) hd]
theorem pow_lt {W : World} (h : Nu.Tab W) : 0 < W.heap.size := by
  unfold Nu.Tab Lib.TabIs World.var? at h
  simp only [gPow, Option.bind_some] at h
  rcases Nat.lt_or_ge 0 W.heap.size with h' | h'
  · exact h'
  · rw [Array.getElem?_eq_none h'] at h; simp at h
/-- The row's step, with the world's shape kept. -/
theorem lift {H : Type} {enc : TypeId × Value → H} {os : Os} {f : FuncId} {fn : Func} {s : ChangeSpec} (own : ownKnob Tryz.prog.godebug = none) (started : os.Started) (noInit : Tryz.prog.inits.idxOf? f = none) (hfn : Tryz.prog.funcs[f]? = some fn)
    (witness : ∃ (w : World) (tape : Tape) (i : Input), w.os = os ∧ (w.forCall tape i).Shaped Tryz.prog ∧ i.vars = [] ∧ Input.okWide Tryz.prog (w.forCall tape i) .any w.heap.size f i ∧ ((s.pre enc Tryz.prog fn [] false (w.forCall tape i).memory i.args ∧ laidMetH Tryz.prog laidL (w.forCall tape i).memory) ∧ sizedMet enc Tryz.prog fn (OpenSpec.ofChange s) false (w.forCall tape i).memory i.args) ∧ ({} : Assume).holds Tryz.prog (lone (Frame.enter Tryz.prog f i.args .normal) [] (w.forCall tape i)))
    (contract : ∀ (W : World) (base : Nat) (args : Array Value) (ds gs : List (DataW H)) (before : List MemPlace), (∀ (j : Nat) t v, fn.params[j]? = some t → args[j]? = some v → Value.okWide Tryz.prog W .any base t v) → DataW.Whole enc Tryz.prog fn.params.toList s.vars false W args.toList ds gs before → (DataW.weightsEach Tryz.prog (fn.params.toList ++ s.plain.varTypes Tryz.prog) (ds ++ gs)).all (· ≤ reachBytes) = true → Nu.Tab W → Calls Tryz.prog f args W fun e W' => ∃ v, e = .returned v ∧ s.post enc Tryz.prog fn false true false false W args v W') :
    ReturnsInHanded {} Tryz.checked os f .any (fun w args => (s.pre enc Tryz.prog fn [] false w args ∧ laidMetH Tryz.prog laidL w) ∧ sizedMet enc Tryz.prog fn (OpenSpec.ofChange s) false w args) (s.post enc Tryz.prog fn false true false false) := by
  refine returnsInHanded_of_calls own started noInit witness ?_
  intro w tape i _ hsh _ hok hpre _
  obtain ⟨_, _, _, fn', hfn', _, _, _, _, hval⟩ := hok
  obtain rfl : fn' = fn := Option.some.inj (hfn'.symm.trans hfn)
  obtain ⟨⟨⟨ds, gs, before, hw, _⟩, hlaid⟩, hz⟩ := hpre
  have hpw : Nu.Tab (w.forCall tape i) := by
    have h1 := of_laid hlaid
    unfold Nu.Tab Lib.TabIs World.var? at h1 ⊢
    exact h1
  refine (contract (w.forCall tape i) w.heap.size i.args ds gs before hval (DataW.Whole.of_heap (w' := w.forCall tape i) (by rfl) hw) (hz.weights hw) hpw).mono fun e W' ⟨v, he, hp⟩ => ?_
  subst he
  exact ChangeSpec.post_blind hp


/-! ### Parse, as the laws meet it -/
theorem parse_ok {s : ByteArray} {p : Pn} (w : World) (hs : s.size ≤ maxLen) (h : paR s.data.toList = .ok p) :
    Calls Tryz.prog 10 #[.string s] w fun e w' => (∃ (a : Option Addr) (c : Nat), e = .returned (.tuple #[pnv p (.slice a p.rules.length c), .agg #[.int .i64 0, .int .i64 0]]) ∧ RusAt All w' (.slice a p.rules.length c) p.rules) ∧ Below w.heap.size w w' := by
  refine (parse_any s w hs).mono ?_
  rintro e w' ⟨h1, h2⟩
  rw [h] at h1
  obtain ⟨a, n, c, rfl, h3, -⟩ := h1
  obtain ⟨a', c', ea, -, -, -⟩ := h3.form
  obtain ⟨rfl, rfl, rfl⟩ : a = a' ∧ n = p.rules.length ∧ c = c' := by injection ea with e1 e2 e3; exact ⟨e1, e2, e3⟩
  exact ⟨⟨a, c, rfl, h3.move (moves_weak _ fun _ _ _ => trivial)⟩, h2⟩
theorem parse_err {s : ByteArray} {f : Int × Nat} (w : World) (hs : s.size ≤ maxLen) (h : paR s.data.toList = .error f) :
    Calls Tryz.prog 10 #[.string s] w fun e w' => e = .returned (.tuple #[.agg #[.int .i64 0, .int .i64 0, .int .i64 0, .int .i64 0, .int .i64 0, .slice none 0 0], .agg #[.int .i64 f.1, .int .i64 (f.2 : Nat)]]) ∧ Below w.heap.size w w' := by
  refine (parse_any s w hs).mono ?_
  rintro e w' ⟨h1, h2⟩
  rw [h] at h1
  exact ⟨h1, h2⟩
/-- A plan's box and a fault's, laid one behind the other. -/
theorem box_pf (w : World) (a0 a1 a2 a3 a4 a5 f0 f1 : Value) :
    Below w.heap.size w ((w.alloc (.cells #[a0, a1, a2, a3, a4, a5] 24)).alloc (.cells #[f0, f1] 38)) ∧
    ((w.alloc (.cells #[a0, a1, a2, a3, a4, a5] 24)).alloc (.cells #[f0, f1] 38)).heap[w.heap.size]? = some (.cells #[a0, a1, a2, a3, a4, a5] 24 (0, 0)) ∧
    ((w.alloc (.cells #[a0, a1, a2, a3, a4, a5] 24)).alloc (.cells #[f0, f1] 38)).heap[w.heap.size + 1]? = some (.cells #[f0, f1] 38 (0, 0)) := by
  refine ⟨below_trans (below_alloc w _) (below_alloc _ _), keepB (heap_alloc_new w _) (below_alloc _ _), ?_⟩
  have h := heap_alloc_new (w.alloc (.cells #[a0, a1, a2, a3, a4, a5] 24)) (.cells #[f0, f1] 38)
  rwa [show (w.alloc (.cells #[a0, a1, a2, a3, a4, a5] 24)).heap.size = w.heap.size + 1 by simp] at h
theorem once_size {s : Tx} {p : Pn} (hs : s.length ≤ 6000) (h : paR s = .ok p) : szW (planW p) ≤ 65536 := by
  unfold paR at h
  split at h
  · next he =>
    obtain ⟨h1, h2⟩ := plan_once h
    have hV : Wo.spV s = wds 0 s := by
      unfold Wo.spE at he
      unfold Wo.spV
      rw [if_neg (by omega)] at he ⊢
      split at he
      · next hg => rw [if_pos hg]
      · cases he
    rw [hV] at h2
    have hsum := Wo.wds_sum s 0
    have hlen := Wo.wds_len s 0
    have hsz : szW ((wds 0 s).map (·.1)) ≤ 2 * s.length := by
      have e : ∀ l : List Tx, szW l = (l.map List.length).sum + l.length := fun l => by
        induction l with
        | nil => rfl
        | cons x r ih => rw [sz_cons, ih]; simp; omega
      rw [e, List.length_map]
      have : (((wds 0 s).map (·.1)).map List.length).sum ≤ s.length := hsum
      omega
    omega
  · cases h
theorem pr_len {p : Pn} (h : prE p = 0) : (prV p).length ≤ 65536 := by
  unfold prV
  rw [if_pos h]
  unfold prE at h
  split at h
  · split at h
    · cases h
    · omega
  · cases h
theorem rules_ok {p : Pn} (h : planB p = true) : ∀ r ∈ p.rules, ruleB r = true := by
  unfold planB at h
  simp only [Bool.and_eq_true, List.all_eq_true] at h
  exact h.2.2.2
theorem pair_cells {w : World} {q : Nat} {a b : Value} {T : TypeId} (h : w.heap[q]? = some (.cells #[a, b] T (0, 0))) : w.cell? ⟨q, 0, none⟩ = some a ∧ w.cell? ⟨q, 1, none⟩ = some b := by
  refine ⟨?_, ?_⟩ <;> rw [cell_of_row w q _ _ T (0, 0) h] <;> rfl
end Go.Proofs.YtoibhgoaibjopaaGreatDoor.Pl
end
