/-
  Texts put together (merge.py): ZFind.
-/
import Derived.Test.YtfoooldkmokjpaaGreatDoorMj38
import Derived.Test.YtfoooldkmokjpaaGreatDoorMj3
import Derived.Test.YtfoooldkmokjpaaGreatDoorMj24
import Derived.Test.YtfoooldkmokjpaaGreatDoorMj5
set_option linter.unusedSimpArgs false
set_option linter.unusedVariables false
section
set_option maxRecDepth 100000
namespace Go.Proofs.YtfoooldkmokjpaaGreatDoor.Fe
open Go.RowKit
open Wo (keepB box_cell box_two heap_far below_alloc below_trans)
open Cm (Ln TxAt.form)
set_option maxHeartbeats 8000000 in
theorem look_any (l : List Fee) (k : Key) (v : Value) (w : World) (h : FesAt All w v l) (hl : l.length ≤ 281474976710656) (hU : Up l) :
  Calls Tryz.prog 130 #[v, .string (mk k.proc), .string (mk k.mod), .int .i64 k.net, .int .i64 k.day] w fun e w' => e = .returned (.tuple #[.int .i64 (lookV k l), .bool (lookB k l)]) ∧ Below w.heap.size w w' := by
 have HU := Lib.hid hU
 have hb0 := below_alloc w (.cells #[.string (mk k.proc), .string (mk k.mod), .int .i64 k.net, .int .i64 k.day] 155)
 have HZ := Lib.hid (heap_alloc_new w (.cells #[.string (mk k.proc), .string (mk k.mod), .int .i64 k.net, .int .i64 k.day] 155))
 have HF := Lib.hid (h.grw hb0)
 have HB0 := Lib.hid hb0
 have HBS := Lib.hid (bs_any l (keyF k) v _ (h.grw hb0) hl hU)
 unfold keyF at HBS
 obtain ⟨fa, fk, rfl, hm1, hm2⟩ := h.form
 clear h hU hb0
 go_enter Tryz.func130, Tryz.ntmps130
 go_upto_region 2 with fail
 generalize w.alloc (.cells #[.string (mk k.proc), .string (mk k.mod), .int .i64 k.net, .int .i64 k.day] 155) = W at *
 generalize hp : w.heap.size = p at *
 obtain ⟨z0, z1, z2, z3⟩ := cells4 HZ.out
 go_wp2_with fail
 go_at_call 156
 refine HBS.out.mono ?_
 rintro e w1 ⟨⟨i, fb, rfl, hle, ha1, ha2, hfb⟩, hb1⟩
 have HB1 := Lib.hid (below_tr hp HB0.out hb1)
 have HZ1 := Lib.hid (keepB HZ.out hb1)
 have HF1 := Lib.hid (HF.out.grw hb1)
 have HA1 := Lib.hid ha1
 have HA2 := Lib.hid ha2
 have HFb := Lib.hid hfb
 clear hb1 ha1 ha2 hfb HBS HZ HF z0 z1 z2 z3
 cases fb with
 | true =>
  obtain ⟨hi, hsm⟩ := HFb.out.1 rfl
  have HR : Hid (lookF k l = some l[i]) := look_found HU.out k i hi hsm
  obtain ⟨b, oo, rfl, -, -, ⟨c0, c1, c2, c3, c4⟩⟩ := FesAt.get HF1.out i hi
  have HV : Hid (lookV k l = l[i].cents ∧ lookB k l = true) := by show _ ∧ _; unfold lookV lookB; rw [HR.out]; exact ⟨rfl, rfl⟩
  generalize l[i] = x at *
  clear hsm HR HA1 HA2 HFb
  go_wp2_with fail
  go_ret2
  exact ⟨by rw [HV.out.1, HV.out.2]; first | done | rfl, by first | exact HB1.out | (rw [hp]; exact HB1.out)⟩
 | false =>
  have HNo : Hid (∀ hi : i < l.length, ¬ sameP l[i] (keyF k)) := fun hi hs => by have := HFb.out.2 ⟨hi, hs⟩; cases this
  have HD := Lib.hid (Below.drew (Below.refl w1.heap.size w1))
  clear HFb
  by_cases h0 : i = 0
  ·have HV : Hid (lookV k l = 0 ∧ lookB k l = false) := by
    show _ ∧ _
    unfold lookV lookB
    rw [look_no HU.out k i hle HA1.out HA2.out HNo.out (Or.inl h0)]
    exact ⟨rfl, rfl⟩
   have q0 : ¬ (0 : Int) < (i : Int) := by omega
   have q0n : ¬ 0 < i := by omega
   clear h0 HA1 HA2 HNo
   go_upto_region 5 with fail
   refine Ri.wp_region_lasting_g (by kernel_rfl) (by kernel_rfl) (by kernel_rfl) (fun Wx => Below w1.heap.size w1 Wx) (fun kz vs wz => (fun kx vx wx => match kx with | 0 => vx = .int .i64 (i : Nat) | 1 => vx = .bool false | 2 => vx = .bool false | 3 => True | 4 => True | 5 => True | 6 => True | 7 => True | 8 => True | 9 => True | 10 => True | 11 => True | 12 => True | 13 => vx = .bool false | _ => True : Nat → Value → World → Prop) kz (vs kz) wz) (fun kz => [kz]) (by kernel_rfl) (fun jz vs iz vz wz hiz hz => Ri.loc_own (F := (fun kx vx wx => match kx with | 0 => vx = .int .i64 (i : Nat) | 1 => vx = .bool false | 2 => vx = .bool false | 3 => True | 4 => True | 5 => True | 6 => True | 7 => True | 8 => True | 9 => True | 10 => True | 11 => True | 12 => True | 13 => vx = .bool false | _ => True : Nat → Value → World → Prop)) jz vs iz vz wz hiz hz) HD.out ⟨Or.inl ⟨rfl, ?_⟩, Or.inl ⟨rfl, ?_⟩, Or.inl ⟨rfl, ?_⟩, Or.inr ⟨2, true, 35, rfl, rfl, ?_⟩, Or.inr ⟨2, true, 35, rfl, rfl, ?_⟩, Or.inr ⟨2, true, 35, rfl, rfl, ?_⟩, Or.inr ⟨2, true, 35, rfl, rfl, ?_⟩, Or.inr ⟨2, true, 35, rfl, rfl, ?_⟩, Or.inr ⟨2, true, 35, rfl, rfl, ?_⟩, Or.inr ⟨2, true, 35, rfl, rfl, ?_⟩, Or.inr ⟨2, true, 35, rfl, rfl, ?_⟩, Or.inr ⟨2, true, 35, rfl, rfl, ?_⟩, Or.inr ⟨2, true, 35, rfl, rfl, ?_⟩, Or.inl ⟨rfl, ?_⟩, trivial⟩ ?_
   ·intro vs Wx A hA hB hpre K hK
    have e13 := (hA 13).trans (show _ = Value.int .i64 (i : Nat) by kernel_rfl)
    clear hA hpre
    go_simp
    exact hK _ _ hB rfl (fun _ _ h => h)
   ·intro vs Wx A hA hB hpre K hK
    have e33 := ((hA 33).trans (show _ = vs 0 by kernel_rfl)).trans (hpre.1 rfl)
    clear hA hpre
    go_simp
    exact hK _ _ hB rfl (fun _ _ h => h)
   ·intro vs Wx A hA hB hpre K hK
    have e34 := ((hA 34).trans (show _ = vs 1 by kernel_rfl)).trans (hpre.1 rfl)
    clear hA hpre
    go_simp
    exact hK _ _ hB rfl (fun _ _ h => h)
   iterate 2
    ·intro vs Wx A hA hB hpre
     have eg := ((hA 35).trans (show _ = vs 2 by kernel_rfl)).trans (hpre.1 rfl)
     exact ⟨false, eg, fun h => (by cases h), fun _ => trivial⟩
   ·intro vs Wx A hA hB hpre
    have eg := ((hA 35).trans (show _ = vs 2 by kernel_rfl)).trans (hpre.2.1 rfl)
    exact ⟨false, eg, fun h => (by cases h), fun _ => trivial⟩
   ·intro vs Wx A hA hB hpre
    have eg := ((hA 35).trans (show _ = vs 2 by kernel_rfl)).trans (hpre.2.2.1 rfl)
    exact ⟨false, eg, fun h => (by cases h), fun _ => trivial⟩
   iterate 3
    ·intro vs Wx A hA hB hpre
     have eg := ((hA 35).trans (show _ = vs 2 by kernel_rfl)).trans (hpre.2.1 rfl)
     exact ⟨false, eg, fun h => (by cases h), fun _ => trivial⟩
   ·intro vs Wx A hA hB hpre
    have eg := ((hA 35).trans (show _ = vs 2 by kernel_rfl)).trans (hpre.1 rfl)
    exact ⟨false, eg, fun h => (by cases h), fun _ => trivial⟩
   ·intro vs Wx A hA hB hpre
    have eg := ((hA 35).trans (show _ = vs 2 by kernel_rfl)).trans (hpre.2.1 rfl)
    exact ⟨false, eg, fun h => (by cases h), fun _ => trivial⟩
   ·intro vs Wx A hA hB hpre
    have eg := ((hA 35).trans (show _ = vs 2 by kernel_rfl)).trans (hpre.2.2.1 rfl)
    exact ⟨false, eg, fun h => (by cases h), fun _ => trivial⟩
   ·intro vs Wx A hA hB hpre K hK
    have e35 := ((hA 35).trans (show _ = vs 2 by kernel_rfl)).trans (hpre.1 rfl)
    clear hA hpre
    go_simp
    exact hK _ _ hB rfl (fun _ _ h => h)
   ·intro vs Wx hB hF
    have hL : vs 13 = .bool false := hF 13 (by decide)
    have HBW := Lib.hid (below_tr hp HB1.out hB)
    clear hF hB
    simp only [Ri.puts]
    rw [hL]
    clear hL
    go_simp
    go_wp2_with fail
    go_ret2
    exact ⟨by rw [HV.out.1, HV.out.2]; first | done | rfl, by first | exact HBW.out | (rw [hp]; exact HBW.out)⟩
  ·obtain ⟨n, rfl⟩ : ∃ n, i = n + 1 := ⟨i - 1, by omega⟩
   have hn : n < l.length := by omega
   have q0 : (0 : Int) < ((n + 1 : Nat) : Int) := by omega
   obtain ⟨m, hm⟩ : ∃ m, m = n + 1 := ⟨_, rfl⟩
   rw [← hm] at q0
   have q0n : 0 < m := by omega
   have HS1 : Hid ((m : Int) - 1 = (n : Int)) := by show _ = _; omega
   have HS2 : Hid (IntKind.i64.wrap (n : Int) = (n : Int)) := by show _ = _; rw [IntKind.wrap_i64]; omega
   obtain ⟨b, oo, rfl, -, -, -⟩ := FesAt.get HF1.out n hn
   have HLs := Lib.hid (look_last HU.out k n hle HA1.out HA2.out HNo.out)
   have HLn := Lib.hid (fun h => look_no HU.out k (n + 1) hle HA1.out HA2.out HNo.out (Or.inr ⟨hn, h⟩))
   have HXK := Lib.hid fun W' (hW : Below w1.heap.size w1 W') => And.intro (cell_keep (HF1.out.grw hW) n hn) (cells4 (keepB HZ1.out hW))
   clear HA1 HA2 HNo
   change Hid (subB k l[n] = true → lookF k l = some l[n]) at HLs
   change Hid (subB k l[n] = false → lookF k l = none) at HLn
   generalize l[n] = x at *
   rw [← hm]
   clear hm h0
   obtain ⟨V1, t1⟩ : ∃ V, ((mk x.proc).toList == (mk k.proc).toList) = V := ⟨_, rfl⟩
   obtain ⟨V2, t2⟩ : ∃ V, ((mk x.mod).toList == (mk k.mod).toList) = V := ⟨_, rfl⟩
   obtain ⟨V3, t3⟩ : ∃ V, (x.net == k.net) = V := ⟨_, rfl⟩
   obtain ⟨VS, HVS⟩ : ∃ V, Hid (subB k x = V) := ⟨_, rfl⟩
   have HV : Hid (subB k x = (V1 && (V2 && V3))) := by
    show _ = _
    rw [← t1, ← t2, ← t3, mk_eqs', mk_eqs']
    unfold subB
    congr 1
   rw [HVS.out] at HV HLs HLn
   have HC : Hid ((V1 = false ∧ VS = false) ∨ (V1 = true ∧ V2 = false ∧ VS = false) ∨ (V1 = true ∧ V2 = true ∧ V3 = false ∧ VS = false) ∨ (V1 = true ∧ V2 = true ∧ V3 = true ∧ VS = true)) := by
    have := HV.out
    show _ ∨ _
    cases V1 <;> cases V2 <;> cases V3 <;> simp_all
   have HT := Lib.hid (And.intro t1 (And.intro t2 t3))
   clear t1 t2 t3 HV HVS
   go_upto_region 5 with fail
   refine Ri.wp_region_lasting_g (by kernel_rfl) (by kernel_rfl) (by kernel_rfl) (fun Wx => Below w1.heap.size w1 Wx) (fun kz vs wz => (fun kx vx wx => match kx with | 0 => vx = .int .i64 (m : Nat) | 1 => vx = .bool true | 2 => vx = .bool true | 3 => vx = .slice (some ⟨b, oo, none⟩) l.length fk | 4 => vx = .int .i64 (m : Nat) | 5 => vx = .int .i64 (n : Nat) | 6 => vx = .pointer (some ⟨b, oo + n * 5, none⟩) | 7 => vx = fev x | 8 => vx = plv x | 9 => vx = .agg #[.string (mk x.proc), .string (mk x.mod), .int .i64 x.net] | 10 => vx = .pointer (some ⟨p, 0, none⟩) | 11 => vx = .agg #[.string (mk k.proc), .string (mk k.mod), .int .i64 k.net] | 12 => vx = .bool VS | 13 => vx = .bool VS | _ => True : Nat → Value → World → Prop) kz (vs kz) wz) (fun kz => [kz]) (by kernel_rfl) (fun jz vs iz vz wz hiz hz => Ri.loc_own (F := (fun kx vx wx => match kx with | 0 => vx = .int .i64 (m : Nat) | 1 => vx = .bool true | 2 => vx = .bool true | 3 => vx = .slice (some ⟨b, oo, none⟩) l.length fk | 4 => vx = .int .i64 (m : Nat) | 5 => vx = .int .i64 (n : Nat) | 6 => vx = .pointer (some ⟨b, oo + n * 5, none⟩) | 7 => vx = fev x | 8 => vx = plv x | 9 => vx = .agg #[.string (mk x.proc), .string (mk x.mod), .int .i64 x.net] | 10 => vx = .pointer (some ⟨p, 0, none⟩) | 11 => vx = .agg #[.string (mk k.proc), .string (mk k.mod), .int .i64 k.net] | 12 => vx = .bool VS | 13 => vx = .bool VS | _ => True : Nat → Value → World → Prop)) jz vs iz vz wz hiz hz) HD.out ⟨Or.inl ⟨rfl, ?_⟩, Or.inl ⟨rfl, ?_⟩, Or.inl ⟨rfl, ?_⟩, Or.inr ⟨2, true, 35, rfl, rfl, ?_⟩, Or.inr ⟨2, true, 35, rfl, rfl, ?_⟩, Or.inr ⟨2, true, 35, rfl, rfl, ?_⟩, Or.inr ⟨2, true, 35, rfl, rfl, ?_⟩, Or.inr ⟨2, true, 35, rfl, rfl, ?_⟩, Or.inr ⟨2, true, 35, rfl, rfl, ?_⟩, Or.inr ⟨2, true, 35, rfl, rfl, ?_⟩, Or.inr ⟨2, true, 35, rfl, rfl, ?_⟩, Or.inr ⟨2, true, 35, rfl, rfl, ?_⟩, Or.inr ⟨2, true, 35, rfl, rfl, ?_⟩, Or.inl ⟨rfl, ?_⟩, trivial⟩ ?_
   ·intro vs Wx A hA hB hpre K hK
    have e13 := (hA 13).trans (show _ = Value.int .i64 (m : Nat) by kernel_rfl)
    clear hA hpre
    go_simp
    exact hK _ _ hB rfl (fun _ _ h => h)
   ·intro vs Wx A hA hB hpre K hK
    have e33 := ((hA 33).trans (show _ = vs 0 by kernel_rfl)).trans (hpre.1 rfl)
    clear hA hpre
    go_simp
    exact hK _ _ hB rfl (fun _ _ h => h)
   ·intro vs Wx A hA hB hpre K hK
    have e34 := ((hA 34).trans (show _ = vs 1 by kernel_rfl)).trans (hpre.1 rfl)
    clear hA hpre
    go_simp
    exact hK _ _ hB rfl (fun _ _ h => h)
   ·intro vs Wx A hA hB hpre
    have eg := ((hA 35).trans (show _ = vs 2 by kernel_rfl)).trans (hpre.1 rfl)
    refine ⟨true, eg, fun _ K hK => ?_, fun h => absurd rfl h⟩
    have e0 := (hA 0).trans (show _ = Value.slice (some ⟨b, oo, none⟩) l.length fk by kernel_rfl)
    clear hA hpre
    go_simp
    exact hK _ _ hB rfl (fun _ _ h => h)
   ·intro vs Wx A hA hB hpre
    have eg := ((hA 35).trans (show _ = vs 2 by kernel_rfl)).trans (hpre.1 rfl)
    refine ⟨true, eg, fun _ K hK => ?_, fun h => absurd rfl h⟩
    have e13 := (hA 13).trans (show _ = Value.int .i64 (m : Nat) by kernel_rfl)
    clear hA hpre
    go_simp
    exact hK _ _ hB rfl (fun _ _ h => h)
   ·intro vs Wx A hA hB hpre
    have eg := ((hA 35).trans (show _ = vs 2 by kernel_rfl)).trans (hpre.2.1 rfl)
    refine ⟨true, eg, fun _ K hK => ?_, fun h => absurd rfl h⟩
    have e37 := ((hA 37).trans (show _ = vs 4 by kernel_rfl)).trans (hpre.1 rfl)
    have s1 := HS1.out
    have s2 := HS2.out
    clear hA hpre
    go_simp
    exact hK _ _ hB rfl (fun _ _ h => h)
   ·intro vs Wx A hA hB hpre
    have eg := ((hA 35).trans (show _ = vs 2 by kernel_rfl)).trans (hpre.2.2.1 rfl)
    refine ⟨true, eg, fun _ K hK => ?_, fun h => absurd rfl h⟩
    have e36 := ((hA 36).trans (show _ = vs 3 by kernel_rfl)).trans (hpre.1 rfl)
    have e38 := ((hA 38).trans (show _ = vs 5 by kernel_rfl)).trans (hpre.2.1 rfl)
    clear hA hpre
    go_simp
    exact hK _ _ hB rfl (fun _ _ h => h)
   ·intro vs Wx A hA hB hpre
    have eg := ((hA 35).trans (show _ = vs 2 by kernel_rfl)).trans (hpre.2.1 rfl)
    refine ⟨true, eg, fun _ K hK => ?_, fun h => absurd rfl h⟩
    have e39 := ((hA 39).trans (show _ = vs 6 by kernel_rfl)).trans (hpre.1 rfl)
    obtain ⟨⟨x0, x1, x2, x3, x4⟩, ⟨y0, y1, y2, y3⟩⟩ := HXK.out Wx hB
    clear hA hpre
    go_simp
    exact hK _ _ hB rfl (fun _ _ h => h)
   ·intro vs Wx A hA hB hpre
    have eg := ((hA 35).trans (show _ = vs 2 by kernel_rfl)).trans (hpre.2.1 rfl)
    refine ⟨true, eg, fun _ K hK => ?_, fun h => absurd rfl h⟩
    have e40 := ((hA 40).trans (show _ = vs 7 by kernel_rfl)).trans (hpre.1 rfl)
    clear hA hpre
    go_simp
    go_at_call 111
    refine (place_any _ _).mono ?_
    rintro e w3 ⟨rfl, hg⟩
    exact hK _ _ (below_trans hB hg.1) rfl (fun _ _ h => h)
   ·intro vs Wx A hA hB hpre
    have eg := ((hA 35).trans (show _ = vs 2 by kernel_rfl)).trans (hpre.2.1 rfl)
    refine ⟨true, eg, fun _ K hK => ?_, fun h => absurd rfl h⟩
    have e41 := ((hA 41).trans (show _ = vs 8 by kernel_rfl)).trans (hpre.1 rfl)
    clear hA hpre
    go_simp
    exact hK _ _ hB rfl (fun _ _ h => h)
   ·intro vs Wx A hA hB hpre
    have eg := ((hA 35).trans (show _ = vs 2 by kernel_rfl)).trans (hpre.1 rfl)
    refine ⟨true, eg, fun _ K hK => ?_, fun h => absurd rfl h⟩
    have e12 := (hA 12).trans (show _ = Value.pointer (some ⟨p, 0, none⟩) by kernel_rfl)
    clear hA hpre
    go_simp
    exact hK _ _ hB rfl (fun _ _ h => h)
   ·intro vs Wx A hA hB hpre
    have eg := ((hA 35).trans (show _ = vs 2 by kernel_rfl)).trans (hpre.2.1 rfl)
    refine ⟨true, eg, fun _ K hK => ?_, fun h => absurd rfl h⟩
    have e43 := ((hA 43).trans (show _ = vs 10 by kernel_rfl)).trans (hpre.1 rfl)
    obtain ⟨⟨x0, x1, x2, x3, x4⟩, ⟨y0, y1, y2, y3⟩⟩ := HXK.out Wx hB
    clear hA hpre
    go_simp
    exact hK _ _ hB rfl (fun _ _ h => h)
   ·intro vs Wx A hA hB hpre
    have eg := ((hA 35).trans (show _ = vs 2 by kernel_rfl)).trans (hpre.2.2.1 rfl)
    refine ⟨true, eg, fun _ K hK => ?_, fun h => absurd rfl h⟩
    have e42 := ((hA 42).trans (show _ = vs 9 by kernel_rfl)).trans (hpre.1 rfl)
    have e44 := ((hA 44).trans (show _ = vs 11 by kernel_rfl)).trans (hpre.2.1 rfl)
    clear hA hpre
    obtain ⟨t1, t2, t3⟩ := HT.out
    rcases HC.out with ⟨v1, vs0⟩ | ⟨v1, v2, vs0⟩ | ⟨v1, v2, v3, vs0⟩ | ⟨v1, v2, v3, vs0⟩
    all_goals
     go_simp
     exact hK _ _ hB (by rw [vs0]; first | done | rfl) (fun _ _ h => h)
   ·intro vs Wx A hA hB hpre K hK
    have e35 := ((hA 35).trans (show _ = vs 2 by kernel_rfl)).trans (hpre.1 rfl)
    have e45 := ((hA 45).trans (show _ = vs 12 by kernel_rfl)).trans (hpre.2.1 rfl)
    clear hA hpre
    go_simp
    exact hK _ _ hB rfl (fun _ _ h => h)
   ·intro vs Wx hB hF
    have hL : vs 13 = .bool VS := hF 13 (by decide)
    have HBW := Lib.hid (below_tr hp HB1.out hB)
    obtain ⟨⟨x0, x1, x2, x3, x4⟩, -⟩ := HXK.out Wx hB
    clear hF hB HT HC HXK
    simp only [Ri.puts]
    rw [hL]
    clear hL
    cases VS with
    | true =>
     have HV : Hid (lookV k l = x.cents ∧ lookB k l = true) := by show _ ∧ _; unfold lookV lookB; rw [HLs.out rfl]; exact ⟨rfl, rfl⟩
     clear HLs HLn
     have s1 := HS1.out
     have s2 := HS2.out
     go_simp
     go_wp2_with fail
     go_ret2
     exact ⟨by rw [HV.out.1, HV.out.2]; first | done | rfl, by first | exact HBW.out | (rw [hp]; exact HBW.out)⟩
    | false =>
     have HV : Hid (lookV k l = 0 ∧ lookB k l = false) := by show _ ∧ _; unfold lookV lookB; rw [HLn.out rfl]; exact ⟨rfl, rfl⟩
     clear HLs HLn
     go_simp
     go_wp2_with fail
     go_ret2
     exact ⟨by rw [HV.out.1, HV.out.2]; first | done | rfl, by first | exact HBW.out | (rw [hp]; exact HBW.out)⟩
theorem cells6 {w : World} {g : Nat} {a b c d e f : Value} {T : TypeId} (h : w.heap[g]? = some (.cells #[a, b, c, d, e, f] T (0, 0))) : w.cell? ⟨g, 0, none⟩ = some a ∧ w.cell? ⟨g, 1, none⟩ = some b ∧ w.cell? ⟨g, 2, none⟩ = some c ∧ w.cell? ⟨g, 3, none⟩ = some d ∧ w.cell? ⟨g, 4, none⟩ = some e ∧ w.cell? ⟨g, 5, none⟩ = some f := by
 refine ⟨?_, ?_, ?_, ?_, ?_, ?_⟩ <;> (rw [cell_of_row w g _ _ T (0, 0) h]; rfl)
theorem tx_grw {w w' : World} {v : Value} {l : List Tx} (h : TxAt All w v l) (hb : Below w.heap.size w w') : TxAt All w' v l := TxAt.move h (Below.moves hb)
set_option maxHeartbeats 8000000 in
theorem price_any (l : List Fee) (v : Value) (x : Ln) (m : Value) (net : Int) (w : World) (h : FesAt All w v l) (hl : l.length ≤ 281474976710656) (hU : Up l) (hm : TxAt All w m x.mods) :
  Calls Tryz.prog 90 #[v, Cm.lnv x m, .int .i64 net] w fun e w' => e = .returned (.tuple #[.int .i64 (priceV l x net), .bool (priceB l x net)]) ∧ Below w.heap.size w w' := by
 obtain ⟨ma, mc, rfl, hm1, hm2⟩ := Cm.TxAt.form hm
 have hb0 := below_alloc w (.cells #[.string (mk x.proc), .slice ma x.mods.length mc, .int .i64 x.date, .int .i64 x.units, .int .i64 x.billed, .int .i64 x.prior] 46)
 have HZ := Lib.hid (heap_alloc_new w (.cells #[.string (mk x.proc), .slice ma x.mods.length mc, .int .i64 x.date, .int .i64 x.units, .int .i64 x.billed, .int .i64 x.prior] 46))
 have HM := Lib.hid (tx_grw hm hb0)
 have HB0 := Lib.hid hb0
 have HLk := Lib.hid fun (t : Tx) W' (hW : Below (w.alloc (.cells #[.string (mk x.proc), .slice ma x.mods.length mc, .int .i64 x.date, .int .i64 x.units, .int .i64 x.billed, .int .i64 x.prior] 46)).heap.size (w.alloc (.cells #[.string (mk x.proc), .slice ma x.mods.length mc, .int .i64 x.date, .int .i64 x.units, .int .i64 x.billed, .int .i64 x.prior] 46)) W') => look_any l ⟨x.proc, t, net, x.date⟩ v W' ((h.grw hb0).grw hW) hl hU
 obtain ⟨fa, fk, rfl, -, -⟩ := h.form
 clear h hU hb0 hm
 go_enter Tryz.func90, Tryz.ntmps90
 go_upto_region 1 with fail
 generalize w.alloc (.cells #[.string (mk x.proc), .slice ma x.mods.length mc, .int .i64 x.date, .int .i64 x.units, .int .i64 x.billed, .int .i64 x.prior] 46) = W at *
 generalize hp : w.heap.size = p at *
 obtain ⟨z0, z1, z2, z3, z4, z5⟩ := cells6 HZ.out
 go_wp2
 clear z0 z1 z2 z3 z4 z5
 go_loopg [15] (x.mods.length) (fun g i wr => ∃ n : Nat, n ≤ x.mods.length ∧ g = x.mods.length - n ∧ i = .int .i64 (n : Nat) ∧ Hid (Below W.heap.size W wr) ∧ Hid (firstF l x net (x.mods.drop n ++ [[]]) = firstF l x net (x.mods ++ [[]])))
 case atStart => exact ⟨0, Nat.zero_le _, rfl, rfl, Below.refl _ _, rfl⟩
 case round =>
  obtain ⟨n, hn, hgk, rfl, HBn, HE⟩ := hrel
  obtain ⟨z0, z1, z2, z3, z4, z5⟩ := cells6 (keepB HZ.out HBn.out)
  by_cases hlt : n < x.mods.length
  ·obtain ⟨b, oo, rfl, -, hcc⟩ := Cm.tx_get (tx_grw HM.out HBn.out) n hlt
   have HFD : Hid (firstF l x net (x.mods.drop n ++ [[]]) = if lookB ⟨x.proc, x.mods[n], net, x.date⟩ l = true then lookF ⟨x.proc, x.mods[n], net, x.date⟩ l else firstF l x net (x.mods.drop (n + 1) ++ [[]])) := first_drop hlt
   have HLn := Lib.hid (HLk.out x.mods[n] wr HBn.out)
   generalize x.mods[n] = t at *
   go_wp2_with fail
   go_at_call 130
   refine HLn.out.mono ?_
   rintro e w1 ⟨rfl, hb1⟩
   have HB1 := Lib.hid (below_trans HBn.out hb1)
   clear hb1 HLn z0 z1 z2 z3 z4 z5
   obtain ⟨LB, HLB⟩ : ∃ B, Hid (lookB ⟨x.proc, t, net, x.date⟩ l = B) := ⟨_, rfl⟩
   obtain ⟨LV, HLV⟩ : ∃ B, Hid (lookV ⟨x.proc, t, net, x.date⟩ l = B) := ⟨_, rfl⟩
   rw [HLB.out, HLV.out]
   rw [HLB.out] at HFD
   cases LB with
   | true =>
    have HV : Hid (priceV l x net = LV ∧ priceB l x net = true) := price_hit HE.out HFD.out HLB.out HLV.out
    clear HE HFD HLB HLV
    go_wp2
    go_ret2
    exact ⟨by rw [HV.out.1, HV.out.2]; first | done | rfl, by first | exact below_tr hp HB0.out HB1.out | (rw [hp]; exact below_tr hp HB0.out HB1.out)⟩
   | false =>
    have HE2 : Hid (firstF l x net (x.mods.drop (n + 1) ++ [[]]) = firstF l x net (x.mods ++ [[]])) := by show _ = _; rw [← HE.out, HFD.out]; rfl
    clear HE HFD HLB HLV
    go_wp2
    go_roundg (x.mods.length - (n + 1))
    case measure => omega
    case rel => exact ⟨n + 1, by omega, rfl, by first | rfl | go_num | (congr 1; omega), HB1.out, HE2.out⟩
  ·have hltz : ¬ (n : Int) < (x.mods.length : Int) := by omega
   have HV : Hid (priceV l x net = lookV ⟨x.proc, [], net, x.date⟩ l ∧ priceB l x net = lookB ⟨x.proc, [], net, x.date⟩ l) := price_none (by omega) HE.out
   have HLn := Lib.hid (HLk.out [] wr HBn.out)
   go_wp2_with fail
   go_at_call 130
   refine HLn.out.mono ?_
   rintro e w1 ⟨rfl, hb1⟩
   have HB1 := Lib.hid (below_trans HBn.out hb1)
   clear hb1 HLn z0 z1 z2 z3 z4 z5
   go_wp2
   go_ret2
   exact ⟨by rw [HV.out.1, HV.out.2]; first | done | rfl, by first | exact below_tr hp HB0.out HB1.out | (rw [hp]; exact below_tr hp HB0.out HB1.out)⟩
set_option maxHeartbeats 8000000 in
theorem allowed_any (l : List Fee) (v : Value) (x : Ln) (m : Value) (net : Int) (w : World) (h : FesAt All w v l) (hl : l.length ≤ 281474976710656) (hU : Up l) (hm : TxAt All w m x.mods) (hu : x.units ≤ 9223372036854775807) (hu0 : -9223372036854775808 ≤ x.units) :
  Calls Tryz.prog 51 #[v, Cm.lnv x m, .int .i64 net] w fun e w' => e = .returned (.tuple #[.int .i64 (allowV l x net), .bool (priceB l x net)]) ∧ Below w.heap.size w w' := by
 obtain ⟨ma, mc, rfl, hm1, hm2⟩ := Cm.TxAt.form hm
 have hb0 := below_alloc w (.cells #[.string (mk x.proc), .slice ma x.mods.length mc, .int .i64 x.date, .int .i64 x.units, .int .i64 x.billed, .int .i64 x.prior] 46)
 have HZ := Lib.hid (heap_alloc_new w (.cells #[.string (mk x.proc), .slice ma x.mods.length mc, .int .i64 x.date, .int .i64 x.units, .int .i64 x.billed, .int .i64 x.prior] 46))
 have HB0 := Lib.hid hb0
 have HPr := Lib.hid (price_any l v x _ net _ (h.grw hb0) hl hU (tx_grw hm hb0))
 have HSc := Lib.hid fun (u : Int) W' => Ce.scale_one u x.units W' hu
 obtain ⟨fa, fk, rfl, -, -⟩ := h.form
 clear h hU hb0 hm
 go_enter Tryz.func51, Tryz.ntmps51
 go_upto_region 1 with fail
 generalize w.alloc (.cells #[.string (mk x.proc), .slice ma x.mods.length mc, .int .i64 x.date, .int .i64 x.units, .int .i64 x.billed, .int .i64 x.prior] 46) = W at *
 generalize hp : w.heap.size = p at *
 obtain ⟨z0, z1, z2, z3, z4, z5⟩ := cells6 HZ.out
 go_wp2_with fail
 go_at_call 90
 refine HPr.out.mono ?_
 rintro e w1 ⟨rfl, hb1⟩
 have HB1 := Lib.hid (below_tr hp HB0.out hb1)
 have HZ1 := Lib.hid (keepB HZ.out hb1)
 clear hb1 HPr HZ z0 z1 z2 z3 z4 z5
 obtain ⟨z0, z1, z2, z3, z4, z5⟩ := cells6 HZ1.out
 obtain ⟨PB, HPB⟩ : ∃ B, Hid (priceB l x net = B) := ⟨_, rfl⟩
 obtain ⟨PV, HPV⟩ : ∃ B, Hid (priceV l x net = B) := ⟨_, rfl⟩
 rw [HPB.out, HPV.out]
 cases PB with
 | false =>
  have HV : Hid (allowV l x net = 0) := by show _ = _; unfold allowV; rw [HPB.out]; rfl
  go_wp2
  go_ret2
  exact ⟨by rw [HV.out, HPB.out]; first | done | rfl, by first | exact HB1.out | (rw [hp]; exact HB1.out)⟩
 | true =>
  have HV : Hid (allowV l x net = if Ce.scaleE PV x.units 1 ≠ 0 ∨ x.billed < Ce.scaleV PV x.units 1 then x.billed else Ce.scaleV PV x.units 1) := by show _ = _; unfold allowV; rw [HPB.out, HPV.out]; rfl
  have HS := Lib.hid (HSc.out PV)
  obtain ⟨SE, HSE⟩ : ∃ B, Hid (Ce.scaleE PV x.units 1 = B) := ⟨_, rfl⟩
  obtain ⟨SV, HSV⟩ : ∃ B, Hid (Ce.scaleV PV x.units 1 = B) := ⟨_, rfl⟩
  rw [HSE.out, HSV.out] at HV HS
  clear HSc
  by_cases hse : SE = 0
  ·have q1 : (SE != 0) = false := by rw [hse]; rfl
   by_cases hbl : x.billed < SV
   ·have HV2 : Hid (allowV l x net = x.billed) := by show _ = _; rw [HV.out, if_pos (Or.inr hbl)]
    clear HV hse
    go_wp2_with (go_at_call 91; refine (HS.out _).mono ?_; rintro e w2 ⟨rfl, kq, rfl⟩)
    go_ret2
    exact ⟨by rw [HV2.out, HPB.out]; first | done | rfl, by first | exact below_tr hp HB1.out (Cm.below_drewq ⟨_, rfl⟩) | (rw [hp]; exact below_tr hp HB1.out (Cm.below_drewq ⟨_, rfl⟩))⟩
   ·have HV2 : Hid (allowV l x net = SV) := by show _ = _; rw [HV.out, if_neg (by omega)]
    clear HV hse
    go_wp2_with (go_at_call 91; refine (HS.out _).mono ?_; rintro e w2 ⟨rfl, kq, rfl⟩)
    go_ret2
    exact ⟨by rw [HV2.out, HPB.out]; first | done | rfl, by first | exact below_tr hp HB1.out (Cm.below_drewq ⟨_, rfl⟩) | (rw [hp]; exact below_tr hp HB1.out (Cm.below_drewq ⟨_, rfl⟩))⟩
  ·have q1 : (SE != 0) = true := by simpa using hse
   have HV2 : Hid (allowV l x net = x.billed) := by show _ = _; rw [HV.out, if_pos (Or.inl hse)]
   clear HV hse
   go_wp2_with (go_at_call 91; refine (HS.out _).mono ?_; rintro e w2 ⟨rfl, kq, rfl⟩)
   go_ret2
   exact ⟨by rw [HV2.out, HPB.out]; first | done | rfl, by first | exact below_tr hp HB1.out (Cm.below_drewq ⟨_, rfl⟩) | (rw [hp]; exact below_tr hp HB1.out (Cm.below_drewq ⟨_, rfl⟩))⟩
end Go.Proofs.YtfoooldkmokjpaaGreatDoor.Fe
end
