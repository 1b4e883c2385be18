/-
  Texts put together (merge.py): PSame, PSamR.
-/
import Derived.Test.YtoibhgoaibjopaaGreatDoorMj14
import Derived.Test.YtoibhgoaibjopaaGreatDoorMj29
/-
  Of conditions that are the same the reference's SameCond is true.
-/
section
set_option linter.unusedSimpArgs false
set_option linter.unusedVariables false
set_option maxRecDepth 100000
namespace Go.Proofs.YtoibhgoaibjopaaGreatDoor.Pl
open Go.RowKit
open Wo (Wd WdsAt box_cell box_two keepB heap_far)

theorem neq_self (x : Tx) : ((mk x).toList != (mk x).toList) = false := by simp
set_option maxHeartbeats 16000000 in
theorem same_step (f : Nat) (IH : ∀ (c : Cd) (m m' : Value) (w : World), condB f c = true → KsAt All w m c.kids → KsAt All w m' c.kids → Calls Tryz.prog 49 #[cdv c m, cdv c m'] w fun e w' => e = .returned (.bool true) ∧ Below w.heap.size w w')
    (c : Cd) (m m' : Value) (w : World) (hc : condB (f + 1) c = true) (hK : KsAt All w m c.kids) (hK' : KsAt All w m' c.kids) :
    Calls Tryz.prog 49 #[cdv c m, cdv c m'] w fun e w' => e = .returned (.bool true) ∧ Below w.heap.size w w' := by
  rw [condB_eq] at hc
  simp only [Bool.and_eq_true, List.all_eq_true, decide_eq_true_eq] at hc
  obtain ⟨hlen, hall, -⟩ := hc
  have HALL := Lib.hid hall
  have hln : c.kids.length ≤ 2 := by rw [hlen]; unfold kidN; split; omega; split <;> omega
  have hb0 := below_trans (below_alloc w (.cells #[.int .i64 c.kind, .string (mk c.lo), .string (mk c.hi), .int .i64 c.n, m] 32)) (below_alloc _ (.cells #[.int .i64 c.kind, .string (mk c.lo), .string (mk c.hi), .int .i64 c.n, m'] 32))
  have HA0 := Lib.hid (keepB (heap_alloc_new w (.cells #[.int .i64 c.kind, .string (mk c.lo), .string (mk c.hi), .int .i64 c.n, m] 32)) (below_alloc _ (.cells #[.int .i64 c.kind, .string (mk c.lo), .string (mk c.hi), .int .i64 c.n, m'] 32)))
  have h2 := heap_alloc_new (w.alloc (.cells #[.int .i64 c.kind, .string (mk c.lo), .string (mk c.hi), .int .i64 c.n, m] 32)) (.cells #[.int .i64 c.kind, .string (mk c.lo), .string (mk c.hi), .int .i64 c.n, m'] 32)
  rw [show (w.alloc (.cells #[.int .i64 c.kind, .string (mk c.lo), .string (mk c.hi), .int .i64 c.n, m] 32)).heap.size = w.heap.size + 1 by simp] at h2
  have HX0 := Lib.hid h2
  have HB0 := Lib.hid hb0
  have HK0 := Lib.hid (hK.grw hb0)
  have HK0' := Lib.hid (hK'.grw hb0)
  obtain ⟨a, k, rfl, h1a, h1b⟩ := hK.form
  obtain ⟨a', k', rfl, h2a, h2b⟩ := hK'.form
  have n1 := neq_self c.lo
  have n2 := neq_self c.hi
  clear hb0 h2 hK hK' hlen hall
  go_enter Tryz.func49, Tryz.ntmps49
  go_upto_region 1 with fail
  generalize (w.alloc (.cells #[.int .i64 c.kind, .string (mk c.lo), .string (mk c.hi), .int .i64 c.n, .slice a c.kids.length k] 32)).alloc (.cells #[.int .i64 c.kind, .string (mk c.lo), .string (mk c.hi), .int .i64 c.n, (.slice a' c.kids.length k')] 32) = W0 at *
  generalize hpa : w.heap.size = pa at *
  obtain ⟨pb, hpb⟩ : ∃ pb, pb = pa + 1 := ⟨_, rfl⟩
  rw [← hpb] at HX0 ⊢
  obtain ⟨x0, x1, x2, x3, x4⟩ := bfive HA0.out
  obtain ⟨y0, y1, y2, y3, y4⟩ := bfive HX0.out
  clear hpb
  have HR0 := Lib.hid (Below.refl W0.heap.size W0)
  go_wp2
  go_loopg [5] (c.kids.length) (fun g i wr => ∃ n : Nat, n ≤ c.kids.length ∧ g = c.kids.length - n ∧ i = .int .i64 n ∧ Hid (Below W0.heap.size W0 wr))
  case atStart => exact ⟨0, Nat.zero_le _, rfl, rfl, HR0.out⟩
  case round =>
    clear HR0 x0 x1 x2 x3 x4 y0 y1 y2 y3 y4
    obtain ⟨n, hn, hgk, rfl, HBr⟩ := hrel
    have HAr := Lib.hid (keepB HA0.out HBr.out)
    have HXr := Lib.hid (keepB HX0.out HBr.out)
    obtain ⟨x0, x1, x2, x3, x4⟩ := bfive HAr.out
    obtain ⟨y0, y1, y2, y3, y4⟩ := bfive HXr.out
    by_cases hlt : n < c.kids.length
    · obtain ⟨ba, oa, ma, rfl, hbs, hx, hcc, hkk, hok⟩ := KsAt.get (HK0.out.grw HBr.out) n hlt
      obtain ⟨bb, ob, mb, rfl, hbs', hx', hcc', hkk', hok'⟩ := KsAt.get (HK0'.out.grw HBr.out) n hlt
      obtain ⟨sa, ta, rfl, -, -⟩ := hkk.form
      obtain ⟨sb, tb, rfl, -, -⟩ := hkk'.form
      have HC := Lib.hid fun W (hW : Below wr.heap.size wr W) => IH c.kids[n] _ _ W (HALL.out _ (List.getElem_mem hlt)) (hkk.grw hW) (hkk'.grw hW)
      have HCX := Lib.hid fun W (hW : Below wr.heap.size wr W) => And.intro (hcc.of (hW.block ba hbs)) (And.intro (hcc'.of (hW.block bb hbs')) (And.intro (bfive (keepB HAr.out hW)) (bfive (keepB HXr.out hW))))
      clear hx hx' hcc hcc' hkk hkk' hok hok' hbs hbs'
      generalize c.kids[n] = kd at *
      have HCL : Hid (∀ W, Below wr.heap.size wr W → W.cell? ⟨ba, oa + n * 5, none⟩ = some (.int .i64 kd.kind) ∧ W.cell? ⟨ba, oa + n * 5 + 1, none⟩ = some (.string (mk kd.lo)) ∧ W.cell? ⟨ba, oa + n * 5 + 2, none⟩ = some (.string (mk kd.hi)) ∧ W.cell? ⟨ba, oa + n * 5 + 3, none⟩ = some (.int .i64 kd.n) ∧ W.cell? ⟨ba, oa + n * 5 + 4, none⟩ = some (.slice sa kd.kids.length ta) ∧ W.cell? ⟨bb, ob + n * 5, none⟩ = some (.int .i64 kd.kind) ∧ W.cell? ⟨bb, ob + n * 5 + 1, none⟩ = some (.string (mk kd.lo)) ∧ W.cell? ⟨bb, ob + n * 5 + 2, none⟩ = some (.string (mk kd.hi)) ∧ W.cell? ⟨bb, ob + n * 5 + 3, none⟩ = some (.int .i64 kd.n) ∧ W.cell? ⟨bb, ob + n * 5 + 4, none⟩ = some (.slice sb kd.kids.length tb) ∧ W.cell? ⟨pa, 4, none⟩ = some (.slice (some ⟨ba, oa, none⟩) c.kids.length k) ∧ W.cell? ⟨pb, 4, none⟩ = some (.slice (some ⟨bb, ob, none⟩) c.kids.length k')) := fun W hW => by
        obtain ⟨h1, h2, h3, h4⟩ := HCX.out W hW
        exact ⟨h1.1, h1.2.1, h1.2.2.1, h1.2.2.2.1, h1.2.2.2.2, h2.1, h2.2.1, h2.2.2.1, h2.2.2.2.1, h2.2.2.2.2, h3.2.2.2.2, h4.2.2.2.2⟩
      have HBd := Lib.hid (Below.drew (Below.refl wr.heap.size wr))
      clear HCX
      go_wp2_with fail
      go_cut [59] (fun sx wx => sx = .bool false ∧ Hid (Below wr.heap.size wr wx))
      case first =>
        refine Ri.wp_region_lasting (by kernel_rfl) (by kernel_rfl) (by kernel_rfl) (fun W => Below wr.heap.size wr W) (fun kz vs wz => (fun kx vx _ => match kx with | 0 => vx = .pointer (some ⟨pa, 4, none⟩) | 1 => vx = .slice (some ⟨ba, oa, none⟩) c.kids.length k | 2 => vx = .int .i64 (n : Nat) | 3 => vx = .pointer (some ⟨ba, oa + n * 5, none⟩) | 4 => vx = cdv kd (.slice sa kd.kids.length ta) | 5 => vx = .pointer (some ⟨pb, 4, none⟩) | 6 => vx = .slice (some ⟨bb, ob, none⟩) c.kids.length k' | 7 => vx = .int .i64 (n : Nat) | 8 => vx = .pointer (some ⟨bb, ob + n * 5, none⟩) | 9 => vx = cdv kd (.slice sb kd.kids.length tb) | 10 => vx = .bool true | 11 => vx = .bool false | _ => True : Nat → Value → World → Prop) kz (vs kz) wz) (fun kz => [kz]) (by kernel_rfl) (fun jz vs iz vz wz hiz hz => Ri.loc_own (F := (fun kx vx _ => match kx with | 0 => vx = .pointer (some ⟨pa, 4, none⟩) | 1 => vx = .slice (some ⟨ba, oa, none⟩) c.kids.length k | 2 => vx = .int .i64 (n : Nat) | 3 => vx = .pointer (some ⟨ba, oa + n * 5, none⟩) | 4 => vx = cdv kd (.slice sa kd.kids.length ta) | 5 => vx = .pointer (some ⟨pb, 4, none⟩) | 6 => vx = .slice (some ⟨bb, ob, none⟩) c.kids.length k' | 7 => vx = .int .i64 (n : Nat) | 8 => vx = .pointer (some ⟨bb, ob + n * 5, none⟩) | 9 => vx = cdv kd (.slice sb kd.kids.length tb) | 10 => vx = .bool true | 11 => vx = .bool false | _ => True : Nat → Value → World → Prop)) jz vs iz vz wz hiz hz) HBd.out ⟨⟨rfl, ?_⟩, ⟨rfl, ?_⟩, ⟨rfl, ?_⟩, ⟨rfl, ?_⟩, ⟨rfl, ?_⟩, ⟨rfl, ?_⟩, ⟨rfl, ?_⟩, ⟨rfl, ?_⟩, ⟨rfl, ?_⟩, ⟨rfl, ?_⟩, ⟨rfl, ?_⟩, ⟨rfl, ?_⟩, trivial⟩ ?_
        · intro vs W A hA hB hpre K hK
          have e2 := (hA 2).trans (show _ = Value.pointer (some ⟨pa, 0, none⟩) by kernel_rfl)
          clear hA
          go_simp
          exact hK _ _ hB rfl (fun _ _ h => h)
        · intro vs W A hA hB hpre K hK
          have e48 := ((hA 48).trans (show _ = vs 0 by kernel_rfl)).trans (by first | exact hpre.1 rfl | exact hpre.2.1 rfl | exact hpre.2.2.1 rfl | exact hpre.2.2.2.1 rfl | exact hpre.2.2.2.2.1 rfl)
          obtain ⟨ca0, ca1, ca2, ca3, ca4, cb0, cb1, cb2, cb3, cb4, va, vb⟩ := HCL.out W hB
          clear hA hpre
          go_simp
          exact hK _ _ hB rfl (fun _ _ h => h)
        · intro vs W A hA hB hpre K hK
          have e5 := (hA 5).trans (show _ = Value.int IntKind.i64 (n : Nat) by kernel_rfl)
          clear hA
          go_simp
          exact hK _ _ hB rfl (fun _ _ h => h)
        · intro vs W A hA hB hpre K hK
          have e49 := ((hA 49).trans (show _ = vs 1 by kernel_rfl)).trans (by first | exact hpre.1 rfl | exact hpre.2.1 rfl | exact hpre.2.2.1 rfl | exact hpre.2.2.2.1 rfl | exact hpre.2.2.2.2.1 rfl)
          have e50 := ((hA 50).trans (show _ = vs 2 by kernel_rfl)).trans (by first | exact hpre.1 rfl | exact hpre.2.1 rfl | exact hpre.2.2.1 rfl | exact hpre.2.2.2.1 rfl | exact hpre.2.2.2.2.1 rfl)
          clear hA hpre
          go_simp
          exact hK _ _ hB rfl (fun _ _ h => h)
        · intro vs W A hA hB hpre K hK
          have e51 := ((hA 51).trans (show _ = vs 3 by kernel_rfl)).trans (by first | exact hpre.1 rfl | exact hpre.2.1 rfl | exact hpre.2.2.1 rfl | exact hpre.2.2.2.1 rfl | exact hpre.2.2.2.2.1 rfl)
          obtain ⟨ca0, ca1, ca2, ca3, ca4, cb0, cb1, cb2, cb3, cb4, va, vb⟩ := HCL.out W hB
          clear hA hpre
          go_simp
          exact hK _ _ hB rfl (fun _ _ h => h)
        · intro vs W A hA hB hpre K hK
          have e3 := (hA 3).trans (show _ = Value.pointer (some ⟨pb, 0, none⟩) by kernel_rfl)
          clear hA
          go_simp
          exact hK _ _ hB rfl (fun _ _ h => h)
        · intro vs W A hA hB hpre K hK
          have e53 := ((hA 53).trans (show _ = vs 5 by kernel_rfl)).trans (by first | exact hpre.1 rfl | exact hpre.2.1 rfl | exact hpre.2.2.1 rfl | exact hpre.2.2.2.1 rfl | exact hpre.2.2.2.2.1 rfl)
          obtain ⟨ca0, ca1, ca2, ca3, ca4, cb0, cb1, cb2, cb3, cb4, va, vb⟩ := HCL.out W hB
          clear hA hpre
          go_simp
          exact hK _ _ hB rfl (fun _ _ h => h)
        · intro vs W A hA hB hpre K hK
          have e5 := (hA 5).trans (show _ = Value.int IntKind.i64 (n : Nat) by kernel_rfl)
          clear hA
          go_simp
          exact hK _ _ hB rfl (fun _ _ h => h)
        · intro vs W A hA hB hpre K hK
          have e54 := ((hA 54).trans (show _ = vs 6 by kernel_rfl)).trans (by first | exact hpre.1 rfl | exact hpre.2.1 rfl | exact hpre.2.2.1 rfl | exact hpre.2.2.2.1 rfl | exact hpre.2.2.2.2.1 rfl)
          have e55 := ((hA 55).trans (show _ = vs 7 by kernel_rfl)).trans (by first | exact hpre.1 rfl | exact hpre.2.1 rfl | exact hpre.2.2.1 rfl | exact hpre.2.2.2.1 rfl | exact hpre.2.2.2.2.1 rfl)
          clear hA hpre
          go_simp
          exact hK _ _ hB rfl (fun _ _ h => h)
        · intro vs W A hA hB hpre K hK
          have e56 := ((hA 56).trans (show _ = vs 8 by kernel_rfl)).trans (by first | exact hpre.1 rfl | exact hpre.2.1 rfl | exact hpre.2.2.1 rfl | exact hpre.2.2.2.1 rfl | exact hpre.2.2.2.2.1 rfl)
          obtain ⟨ca0, ca1, ca2, ca3, ca4, cb0, cb1, cb2, cb3, cb4, va, vb⟩ := HCL.out W hB
          clear hA hpre
          go_simp
          exact hK _ _ hB rfl (fun _ _ h => h)
        · intro vs W A hA hB hpre K hK
          have e52 := ((hA 52).trans (show _ = vs 4 by kernel_rfl)).trans (by first | exact hpre.1 rfl | exact hpre.2.1 rfl | exact hpre.2.2.1 rfl | exact hpre.2.2.2.1 rfl | exact hpre.2.2.2.2.1 rfl)
          have e57 := ((hA 57).trans (show _ = vs 9 by kernel_rfl)).trans (by first | exact hpre.1 rfl | exact hpre.2.1 rfl | exact hpre.2.2.1 rfl | exact hpre.2.2.2.1 rfl | exact hpre.2.2.2.2.1 rfl)
          clear hA hpre
          go_simp
          refine (HC.out W hB).mono ?_
          rintro e w1 ⟨rfl, hb⟩
          exact hK _ _ (below_trans hB hb) rfl (fun _ _ h => h)
        · intro vs W A hA hB hpre K hK
          have e58 := ((hA 58).trans (show _ = vs 10 by kernel_rfl)).trans (by first | exact hpre.1 rfl | exact hpre.2.1 rfl | exact hpre.2.2.1 rfl | exact hpre.2.2.2.1 rfl | exact hpre.2.2.2.2.1 rfl)
          clear hA hpre
          go_simp
          exact hK _ _ hB rfl (fun _ _ h => h)
        · intro vs W hB hF
          have h11 : vs 11 = .bool false := hF 11 (by decide)
          have HBW := Lib.hid hB
          clear hF hB
          simp only [Ri.puts]
          go_simp
          go_wp2_with fail
          go_meet
          exact ⟨by first | rfl | exact h11, HBW.out⟩
      case rest =>
        obtain ⟨rfl, HBx⟩ := hcut
        have HBn := Lib.hid (below_trans HBr.out HBx.out)
        clear HCL HC HBd HBx
        go_wp2
        go_roundg (c.kids.length - (n + 1))
        case rel => exact ⟨n + 1, by omega, rfl, by go_num, HBn.out⟩
        case measure => omega
    · go_wp2
      go_ret
      exact ⟨rfl, by first | exact below_tr hpa HB0.out HBr.out | (rw [hpa]; exact below_tr hpa HB0.out HBr.out)⟩
theorem same_cond : ∀ (f : Nat) (c : Cd) (m m' : Value) (w : World), condB f c = true → KsAt All w m c.kids → KsAt All w m' c.kids → Calls Tryz.prog 49 #[cdv c m, cdv c m'] w fun e w' => e = .returned (.bool true) ∧ Below w.heap.size w w'
  | 0, c, m, m', w, h, _, _ => by cases h
  | f + 1, c, m, m', w, h, hK, hK' => same_step f (fun c m m' w => same_cond f c m m' w) c m m' w h hK hK'
end Go.Proofs.YtoibhgoaibjopaaGreatDoor.Pl
end

/-
  Of rules and plans that are the same the reference's SameRule and Same are true.
-/
section
set_option linter.unusedSimpArgs false
set_option linter.unusedVariables false
set_option maxRecDepth 100000
namespace Go.Proofs.YtoibhgoaibjopaaGreatDoor.Pl
open Go.RowKit
open Wo (Wd WdsAt box_cell box_two keepB heap_far)

set_option maxHeartbeats 16000000 in
theorem same_rule (r : Ru) (k u s k' u' s' : Value) (w : World) (hr : ruleB r = true) (h : RuIn All w r k u s) (h' : RuIn All w r k' u' s') :
    Calls Tryz.prog 25 #[ruv r k u s, ruv r k' u' s'] w fun e w' => e = .returned (.bool true) ∧ Below w.heap.size w w' := by
  simp only [ruleB, Bool.and_eq_true, decide_eq_true_eq, List.all_eq_true] at hr
  obtain ⟨⟨-, -⟩, r2, r3, r4, -, -⟩ := hr
  have HALL := Lib.hid r4
  have HR2 := Lib.hid r2
  obtain ⟨-, -, -, hk, hu, hs⟩ := h
  obtain ⟨-, -, -, hk', hu', hs'⟩ := h'
  have hb0 := below_trans (below_alloc w (.cells #[.int .i64 r.rank, .int .i64 r.cif.kind, .string (mk r.cif.lo), .string (mk r.cif.hi), .int .i64 r.cif.n, k, u, s] 35)) (below_alloc _ (.cells #[.int .i64 r.rank, .int .i64 r.cif.kind, .string (mk r.cif.lo), .string (mk r.cif.hi), .int .i64 r.cif.n, k', u', s'] 35))
  have HA0 := Lib.hid (keepB (heap_alloc_new w (.cells #[.int .i64 r.rank, .int .i64 r.cif.kind, .string (mk r.cif.lo), .string (mk r.cif.hi), .int .i64 r.cif.n, k, u, s] 35)) (below_alloc _ (.cells #[.int .i64 r.rank, .int .i64 r.cif.kind, .string (mk r.cif.lo), .string (mk r.cif.hi), .int .i64 r.cif.n, k', u', s'] 35)))
  have h2 := heap_alloc_new (w.alloc (.cells #[.int .i64 r.rank, .int .i64 r.cif.kind, .string (mk r.cif.lo), .string (mk r.cif.hi), .int .i64 r.cif.n, k, u, s] 35)) (.cells #[.int .i64 r.rank, .int .i64 r.cif.kind, .string (mk r.cif.lo), .string (mk r.cif.hi), .int .i64 r.cif.n, k', u', s'] 35)
  rw [show (w.alloc (.cells #[.int .i64 r.rank, .int .i64 r.cif.kind, .string (mk r.cif.lo), .string (mk r.cif.hi), .int .i64 r.cif.n, k, u, s] 35)).heap.size = w.heap.size + 1 by simp] at h2
  have HX0 := Lib.hid h2
  have HB0 := Lib.hid hb0
  have HU := Lib.hid (hu.grw hb0)
  have HU' := Lib.hid (hu'.grw hb0)
  have HS := Lib.hid (hs.grw hb0)
  have HS' := Lib.hid (hs'.grw hb0)
  have HC0 := Lib.hid (same_cond 16 r.cif _ _ _ r2 (hk.grw hb0) (hk'.grw hb0))
  obtain ⟨ka, kc, rfl, -, -⟩ := hk.form
  obtain ⟨ka', kc', rfl, -, -⟩ := hk'.form
  obtain ⟨ua, uc, rfl, hu1, hu2⟩ := hu.form
  obtain ⟨ua', uc', rfl, hu1', hu2'⟩ := hu'.form
  obtain ⟨sa, sc, rfl, hs1, hs2, hs3⟩ := hs.form
  obtain ⟨sa', sc', rfl, hs1', hs2', hs3'⟩ := hs'.form
  have hs3 : r.sets.length ≤ 281474976710656 := hs3
  clear hb0 h2 hk hk' hu hu' hs hs' r2 r4 hs3'
  go_enter Tryz.func25, Tryz.ntmps25
  go_upto_region 1 with fail
  generalize (w.alloc (.cells #[.int .i64 r.rank, .int .i64 r.cif.kind, .string (mk r.cif.lo), .string (mk r.cif.hi), .int .i64 r.cif.n, (.slice ka r.cif.kids.length kc), (.slice ua r.unl.length uc), (.slice sa r.sets.length sc)] 35)).alloc (.cells #[.int .i64 r.rank, .int .i64 r.cif.kind, .string (mk r.cif.lo), .string (mk r.cif.hi), .int .i64 r.cif.n, (.slice ka' r.cif.kids.length kc'), (.slice ua' r.unl.length uc'), (.slice sa' r.sets.length sc')] 35) = W0 at *
  generalize hpa : w.heap.size = pa at *
  obtain ⟨pb, hpb⟩ : ∃ pb, pb = pa + 1 := ⟨_, rfl⟩
  rw [← hpb] at HX0 ⊢
  obtain ⟨x0, x1, x2, x3, x4, x5, x6, x7⟩ := beight HA0.out
  obtain ⟨y0, y1, y2, y3, y4, y5, y6, y7⟩ := beight HX0.out
  clear hpb
  go_wp2_with fail
  go_at_call 49
  refine HC0.out.mono ?_
  rintro e w1 ⟨rfl, hb1⟩
  have HA1 := Lib.hid (keepB HA0.out hb1)
  have HX1 := Lib.hid (keepB HX0.out hb1)
  have HU1 := Lib.hid (HU.out.grw hb1)
  have HU1' := Lib.hid (HU'.out.grw hb1)
  have HS1 := Lib.hid (HS.out.grw hb1)
  have HS1' := Lib.hid (HS'.out.grw hb1)
  have HB1 := Lib.hid (below_tr hpa HB0.out hb1)
  clear hb1 HA0 HX0 HU HU' HS HS' HB0 HC0 x0 x1 x2 x3 x4 x5 x6 x7 y0 y1 y2 y3 y4 y5 y6 y7
  obtain ⟨x0, x1, x2, x3, x4, x5, x6, x7⟩ := beight HA1.out
  obtain ⟨y0, y1, y2, y3, y4, y5, y6, y7⟩ := beight HX1.out
  have HR0 := Lib.hid (Below.refl w1.heap.size w1)
  go_wp2
  go_loopg [5] (r.unl.length) (fun g i wr => ∃ n : Nat, n ≤ r.unl.length ∧ g = r.unl.length - n ∧ i = .int .i64 n ∧ Hid (Below w1.heap.size w1 wr))
  case atStart => exact ⟨0, Nat.zero_le _, rfl, rfl, HR0.out⟩
  case round =>
    clear HR0 x0 x1 x2 x3 x4 x5 x6 x7 y0 y1 y2 y3 y4 y5 y6 y7
    obtain ⟨n, hn, hgk, rfl, HBr⟩ := hrel
    have HAr := Lib.hid (keepB HA1.out HBr.out)
    have HXr := Lib.hid (keepB HX1.out HBr.out)
    obtain ⟨x0, x1, x2, x3, x4, x5, x6, x7⟩ := beight HAr.out
    obtain ⟨y0, y1, y2, y3, y4, y5, y6, y7⟩ := beight HXr.out
    by_cases hlt : n < r.unl.length
    · obtain ⟨ba, oa, ma, rfl, hbs, hx, hcc, hkk, hok⟩ := KsAt.get (HU1.out.grw HBr.out) n hlt
      obtain ⟨bb, ob, mb, rfl, hbs', hx', hcc', hkk', hok'⟩ := KsAt.get (HU1'.out.grw HBr.out) n hlt
      obtain ⟨ga, ta, rfl, -, -⟩ := hkk.form
      obtain ⟨gb, tb, rfl, -, -⟩ := hkk'.form
      have HC := Lib.hid fun W (hW : Below wr.heap.size wr W) => same_cond 16 r.unl[n] _ _ W (HALL.out _ (List.getElem_mem hlt)) (hkk.grw hW) (hkk'.grw hW)
      have HCX := Lib.hid fun W (hW : Below wr.heap.size wr W) => And.intro (hcc.of (hW.block ba hbs)) (And.intro (hcc'.of (hW.block bb hbs')) (And.intro (beight (keepB HAr.out hW)) (beight (keepB HXr.out hW))))
      clear hx hx' hcc hcc' hkk hkk' hok hok' hbs hbs'
      generalize r.unl[n] = kd at *
      have HCL : Hid (∀ W, Below wr.heap.size wr W → W.cell? ⟨ba, oa + n * 5, none⟩ = some (.int .i64 kd.kind) ∧ W.cell? ⟨ba, oa + n * 5 + 1, none⟩ = some (.string (mk kd.lo)) ∧ W.cell? ⟨ba, oa + n * 5 + 2, none⟩ = some (.string (mk kd.hi)) ∧ W.cell? ⟨ba, oa + n * 5 + 3, none⟩ = some (.int .i64 kd.n) ∧ W.cell? ⟨ba, oa + n * 5 + 4, none⟩ = some (.slice ga kd.kids.length ta) ∧ W.cell? ⟨bb, ob + n * 5, none⟩ = some (.int .i64 kd.kind) ∧ W.cell? ⟨bb, ob + n * 5 + 1, none⟩ = some (.string (mk kd.lo)) ∧ W.cell? ⟨bb, ob + n * 5 + 2, none⟩ = some (.string (mk kd.hi)) ∧ W.cell? ⟨bb, ob + n * 5 + 3, none⟩ = some (.int .i64 kd.n) ∧ W.cell? ⟨bb, ob + n * 5 + 4, none⟩ = some (.slice gb kd.kids.length tb) ∧ W.cell? ⟨pa, 6, none⟩ = some (.slice (some ⟨ba, oa, none⟩) r.unl.length uc) ∧ W.cell? ⟨pb, 6, none⟩ = some (.slice (some ⟨bb, ob, none⟩) r.unl.length uc')) := fun W hW => by
        obtain ⟨h1, h2, h3, h4⟩ := HCX.out W hW
        exact ⟨h1.1, h1.2.1, h1.2.2.1, h1.2.2.2.1, h1.2.2.2.2, h2.1, h2.2.1, h2.2.2.1, h2.2.2.2.1, h2.2.2.2.2, h3.2.2.2.2.2.2.1, h4.2.2.2.2.2.2.1⟩
      have HBd := Lib.hid (Below.drew (Below.refl wr.heap.size wr))
      clear HCX
      go_wp2_with fail
      go_cut [56] (fun sx wx => sx = .bool false ∧ Hid (Below wr.heap.size wr wx))
      case first =>
        refine Ri.wp_region_lasting (by kernel_rfl) (by kernel_rfl) (by kernel_rfl) (fun W => Below wr.heap.size wr W) (fun kz vs wz => (fun kx vx _ => match kx with | 0 => vx = .pointer (some ⟨pa, 6, none⟩) | 1 => vx = .slice (some ⟨ba, oa, none⟩) r.unl.length uc | 2 => vx = .int .i64 (n : Nat) | 3 => vx = .pointer (some ⟨ba, oa + n * 5, none⟩) | 4 => vx = cdv kd (.slice ga kd.kids.length ta) | 5 => vx = .pointer (some ⟨pb, 6, none⟩) | 6 => vx = .slice (some ⟨bb, ob, none⟩) r.unl.length uc' | 7 => vx = .int .i64 (n : Nat) | 8 => vx = .pointer (some ⟨bb, ob + n * 5, none⟩) | 9 => vx = cdv kd (.slice gb kd.kids.length tb) | 10 => vx = .bool true | 11 => vx = .bool false | _ => True : Nat → Value → World → Prop) kz (vs kz) wz) (fun kz => [kz]) (by kernel_rfl) (fun jz vs iz vz wz hiz hz => Ri.loc_own (F := (fun kx vx _ => match kx with | 0 => vx = .pointer (some ⟨pa, 6, none⟩) | 1 => vx = .slice (some ⟨ba, oa, none⟩) r.unl.length uc | 2 => vx = .int .i64 (n : Nat) | 3 => vx = .pointer (some ⟨ba, oa + n * 5, none⟩) | 4 => vx = cdv kd (.slice ga kd.kids.length ta) | 5 => vx = .pointer (some ⟨pb, 6, none⟩) | 6 => vx = .slice (some ⟨bb, ob, none⟩) r.unl.length uc' | 7 => vx = .int .i64 (n : Nat) | 8 => vx = .pointer (some ⟨bb, ob + n * 5, none⟩) | 9 => vx = cdv kd (.slice gb kd.kids.length tb) | 10 => vx = .bool true | 11 => vx = .bool false | _ => True : Nat → Value → World → Prop)) jz vs iz vz wz hiz hz) HBd.out ⟨⟨rfl, ?_⟩, ⟨rfl, ?_⟩, ⟨rfl, ?_⟩, ⟨rfl, ?_⟩, ⟨rfl, ?_⟩, ⟨rfl, ?_⟩, ⟨rfl, ?_⟩, ⟨rfl, ?_⟩, ⟨rfl, ?_⟩, ⟨rfl, ?_⟩, ⟨rfl, ?_⟩, ⟨rfl, ?_⟩, trivial⟩ ?_
        · intro vs W A hA hB hpre K hK
          have e2 := (hA 2).trans (show _ = Value.pointer (some ⟨pa, 0, none⟩) by kernel_rfl)
          clear hA
          go_simp
          exact hK _ _ hB rfl (fun _ _ h => h)
        · intro vs W A hA hB hpre K hK
          have e45 := ((hA 45).trans (show _ = vs 0 by kernel_rfl)).trans (by first | exact hpre.1 rfl | exact hpre.2.1 rfl | exact hpre.2.2.1 rfl | exact hpre.2.2.2.1 rfl | exact hpre.2.2.2.2.1 rfl)
          obtain ⟨ca0, ca1, ca2, ca3, ca4, cb0, cb1, cb2, cb3, cb4, va, vb⟩ := HCL.out W hB
          clear hA hpre
          go_simp
          exact hK _ _ hB rfl (fun _ _ h => h)
        · intro vs W A hA hB hpre K hK
          have e5 := (hA 5).trans (show _ = Value.int IntKind.i64 (n : Nat) by kernel_rfl)
          clear hA
          go_simp
          exact hK _ _ hB rfl (fun _ _ h => h)
        · intro vs W A hA hB hpre K hK
          have e46 := ((hA 46).trans (show _ = vs 1 by kernel_rfl)).trans (by first | exact hpre.1 rfl | exact hpre.2.1 rfl | exact hpre.2.2.1 rfl | exact hpre.2.2.2.1 rfl | exact hpre.2.2.2.2.1 rfl)
          have e47 := ((hA 47).trans (show _ = vs 2 by kernel_rfl)).trans (by first | exact hpre.1 rfl | exact hpre.2.1 rfl | exact hpre.2.2.1 rfl | exact hpre.2.2.2.1 rfl | exact hpre.2.2.2.2.1 rfl)
          clear hA hpre
          go_simp
          exact hK _ _ hB rfl (fun _ _ h => h)
        · intro vs W A hA hB hpre K hK
          have e48 := ((hA 48).trans (show _ = vs 3 by kernel_rfl)).trans (by first | exact hpre.1 rfl | exact hpre.2.1 rfl | exact hpre.2.2.1 rfl | exact hpre.2.2.2.1 rfl | exact hpre.2.2.2.2.1 rfl)
          obtain ⟨ca0, ca1, ca2, ca3, ca4, cb0, cb1, cb2, cb3, cb4, va, vb⟩ := HCL.out W hB
          clear hA hpre
          go_simp
          exact hK _ _ hB rfl (fun _ _ h => h)
        · intro vs W A hA hB hpre K hK
          have e3 := (hA 3).trans (show _ = Value.pointer (some ⟨pb, 0, none⟩) by kernel_rfl)
          clear hA
          go_simp
          exact hK _ _ hB rfl (fun _ _ h => h)
        · intro vs W A hA hB hpre K hK
          have e50 := ((hA 50).trans (show _ = vs 5 by kernel_rfl)).trans (by first | exact hpre.1 rfl | exact hpre.2.1 rfl | exact hpre.2.2.1 rfl | exact hpre.2.2.2.1 rfl | exact hpre.2.2.2.2.1 rfl)
          obtain ⟨ca0, ca1, ca2, ca3, ca4, cb0, cb1, cb2, cb3, cb4, va, vb⟩ := HCL.out W hB
          clear hA hpre
          go_simp
          exact hK _ _ hB rfl (fun _ _ h => h)
        · intro vs W A hA hB hpre K hK
          have e5 := (hA 5).trans (show _ = Value.int IntKind.i64 (n : Nat) by kernel_rfl)
          clear hA
          go_simp
          exact hK _ _ hB rfl (fun _ _ h => h)
        · intro vs W A hA hB hpre K hK
          have e51 := ((hA 51).trans (show _ = vs 6 by kernel_rfl)).trans (by first | exact hpre.1 rfl | exact hpre.2.1 rfl | exact hpre.2.2.1 rfl | exact hpre.2.2.2.1 rfl | exact hpre.2.2.2.2.1 rfl)
          have e52 := ((hA 52).trans (show _ = vs 7 by kernel_rfl)).trans (by first | exact hpre.1 rfl | exact hpre.2.1 rfl | exact hpre.2.2.1 rfl | exact hpre.2.2.2.1 rfl | exact hpre.2.2.2.2.1 rfl)
          clear hA hpre
          go_simp
          exact hK _ _ hB rfl (fun _ _ h => h)
        · intro vs W A hA hB hpre K hK
          have e53 := ((hA 53).trans (show _ = vs 8 by kernel_rfl)).trans (by first | exact hpre.1 rfl | exact hpre.2.1 rfl | exact hpre.2.2.1 rfl | exact hpre.2.2.2.1 rfl | exact hpre.2.2.2.2.1 rfl)
          obtain ⟨ca0, ca1, ca2, ca3, ca4, cb0, cb1, cb2, cb3, cb4, va, vb⟩ := HCL.out W hB
          clear hA hpre
          go_simp
          exact hK _ _ hB rfl (fun _ _ h => h)
        · intro vs W A hA hB hpre K hK
          have e49 := ((hA 49).trans (show _ = vs 4 by kernel_rfl)).trans (by first | exact hpre.1 rfl | exact hpre.2.1 rfl | exact hpre.2.2.1 rfl | exact hpre.2.2.2.1 rfl | exact hpre.2.2.2.2.1 rfl)
          have e54 := ((hA 54).trans (show _ = vs 9 by kernel_rfl)).trans (by first | exact hpre.1 rfl | exact hpre.2.1 rfl | exact hpre.2.2.1 rfl | exact hpre.2.2.2.1 rfl | exact hpre.2.2.2.2.1 rfl)
          clear hA hpre
          go_simp
          refine (HC.out W hB).mono ?_
          rintro e w1 ⟨rfl, hb⟩
          exact hK _ _ (below_trans hB hb) rfl (fun _ _ h => h)
        · intro vs W A hA hB hpre K hK
          have e55 := ((hA 55).trans (show _ = vs 10 by kernel_rfl)).trans (by first | exact hpre.1 rfl | exact hpre.2.1 rfl | exact hpre.2.2.1 rfl | exact hpre.2.2.2.1 rfl | exact hpre.2.2.2.2.1 rfl)
          clear hA hpre
          go_simp
          exact hK _ _ hB rfl (fun _ _ h => h)
        · intro vs W hB hF
          have h11 : vs 11 = .bool false := hF 11 (by decide)
          have HBW := Lib.hid hB
          clear hF hB
          simp only [Ri.puts]
          go_simp
          go_wp2_with fail
          go_meet
          exact ⟨by first | rfl | exact h11, HBW.out⟩
      case rest =>
        obtain ⟨rfl, HBx⟩ := hcut
        have HBn := Lib.hid (below_trans HBr.out HBx.out)
        clear HCL HC HBd HBx
        go_wp2
        go_roundg (r.unl.length - (n + 1))
        case rel => exact ⟨n + 1, by omega, rfl, by go_num, HBn.out⟩
        case measure => omega
    · have HS2 := Lib.hid (HS1.out.grw HBr.out)
      have HS2' := Lib.hid (HS1'.out.grw HBr.out)
      have HB2 := Lib.hid (below_tr hpa HB1.out HBr.out)
      have HR0 := Lib.hid (Below.refl wr.heap.size wr)
      clear HS1 HS1' HU1 HU1' HB1 HA1 HX1 HBr
      go_wp2
      go_loopg [6] (r.sets.length) (fun g i wz => ∃ n : Nat, n ≤ r.sets.length ∧ g = r.sets.length - n ∧ i = .int .i64 n ∧ Hid (Below wr.heap.size wr wz))
      case atStart => exact ⟨0, Nat.zero_le _, rfl, rfl, HR0.out⟩
      case round =>
        clear HR0 x0 x1 x2 x3 x4 x5 x6 x7 y0 y1 y2 y3 y4 y5 y6 y7
        obtain ⟨n2, hn2, hgk2, rfl, HBz⟩ := hrel
        obtain ⟨x0, x1, x2, x3, x4, x5, x6, x7⟩ := beight (keepB HAr.out HBz.out)
        obtain ⟨y0, y1, y2, y3, y4, y5, y6, y7⟩ := beight (keepB HXr.out HBz.out)
        by_cases hlt2 : n2 < r.sets.length
        · obtain ⟨ba, oa, rfl, hbs, hx, c0, c1, -, -⟩ := StsAt.get (HS2.out.grw HBz.out) n2 hlt2
          obtain ⟨bb, ob, rfl, hbs', hx', d0, d1, -, -⟩ := StsAt.get (HS2'.out.grw HBz.out) n2 hlt2
          clear hx hx'
          generalize r.sets[n2] = sx at *
          go_wp2_with fail
          go_quiet (fail)
          go_wp2
          go_roundg (r.sets.length - (n2 + 1))
          case rel => exact ⟨n2 + 1, by omega, rfl, by go_num, below_dn HBz.out _⟩
          case measure => omega
        · go_wp2
          go_ret
          exact ⟨rfl, by first | exact below_tr hpa HB2.out HBz.out | (rw [hpa]; exact below_tr hpa HB2.out HBz.out)⟩
end Go.Proofs.YtoibhgoaibjopaaGreatDoor.Pl
end
