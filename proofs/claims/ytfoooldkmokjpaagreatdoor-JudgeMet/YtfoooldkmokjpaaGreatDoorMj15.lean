/-
  Texts put together (merge.py): PMem, PCode, PChk.
-/
import Derived.Lib.Hide
import Derived.Deep.DeepCutAuto
import Derived.BigQuiet
import Derived.Deep.LoopGhost
import Derived.Deep.RegionHeld3
import Derived.WalkLawsBesides
import Derived.Test.YtfoooldkmokjpaaGreatDoorMj2
import Derived.Test.YtfoooldkmokjpaaGreatDoorMj4
import Derived.Test.YtfoooldkmokjpaaGreatDoorMj13
set_option linter.unusedSimpArgs false
set_option linter.unusedVariables false
section
namespace Go.Proofs.YtfoooldkmokjpaaGreatDoor.Pl
open Go.RowKit
abbrev Big : Nat := 281474976710656
def Ok1 (c : Cd) : Prop := Cm.I64 c.kind ∧ Cm.I64 c.n ∧ c.lo.length ≤ Big ∧ c.hi.length ≤ Big ∧ c.kids.length ≤ Big
abbrev cdv (c : Cd) (m : Value) : Value := .agg #[.int .i64 c.kind, .string (mk c.lo), .string (mk c.hi), .int .i64 c.n, m]
abbrev stv (s : St) : Value := .agg #[.int .i64 s.what, .int .i64 s.n]
abbrev ruv (r : Ru) (k u s : Value) : Value := .agg #[.int .i64 r.rank, .int .i64 r.cif.kind, .string (mk r.cif.lo), .string (mk r.cif.hi), .int .i64 r.cif.n, k, u, s]
abbrev pnv (p : Pn) (m : Value) : Value := .agg #[.int .i64 p.mode, .int .i64 p.indDed, .int .i64 p.famDed, .int .i64 p.indOop, .int .i64 p.famOop, m]
def CdCells (w : World) (b o : Nat) (c : Cd) (m : Value) : Prop :=
 w.cell? ⟨b, o, none⟩ = some (.int .i64 c.kind) ∧ w.cell? ⟨b, o + 1, none⟩ = some (.string (mk c.lo)) ∧ w.cell? ⟨b, o + 2, none⟩ = some (.string (mk c.hi)) ∧ w.cell? ⟨b, o + 3, none⟩ = some (.int .i64 c.n) ∧ w.cell? ⟨b, o + 4, none⟩ = some m
def KsStep (K : Nat → Prop) (w : World) (P : Value → List Cd → Prop) (v : Value) (ks : List Cd) : Prop :=
 ∃ (a : Option Addr) (c : Nat) (M : Nat → Value), v = .slice a ks.length c ∧ ks.length ≤ c ∧ c ≤ maxLen ∧ (∀ x ∈ ks, Ok1 x) ∧
  (ks = [] ∨ ∃ b o, a = some ⟨b, o, none⟩ ∧ K b ∧ b < w.heap.size ∧ ∀ (j : Nat) x, ks[j]? = some x → CdCells w b (o + j * 5) x (M j)) ∧
  ∀ (j : Nat) x, ks[j]? = some x → P (M j) x.kids
def KsAt (K : Nat → Prop) (w : World) (v : Value) (ks : List Cd) : Prop :=
 ∀ P : Value → List Cd → Prop, (∀ v ks, KsStep K w P v ks → P v ks) → P v ks
theorem KsAt.mk {K : Nat → Prop} {w : World} {v : Value} {ks : List Cd} (a : Option Addr) (c : Nat) (M : Nat → Value) (hv : v = .slice a ks.length c) (hc : ks.length ≤ c) (hm : c ≤ maxLen)
  (hok : ∀ x ∈ ks, Ok1 x) (hcells : ks = [] ∨ ∃ b o, a = some ⟨b, o, none⟩ ∧ K b ∧ b < w.heap.size ∧ ∀ (j : Nat) x, ks[j]? = some x → CdCells w b (o + j * 5) x (M j))
  (hkids : ∀ (j : Nat) x, ks[j]? = some x → KsAt K w (M j) x.kids) : KsAt K w v ks :=
 fun P h => h v ks ⟨a, c, M, hv, hc, hm, hok, hcells, fun j x hj => hkids j x hj P h⟩
theorem KsAt.opened {K : Nat → Prop} {w : World} {v : Value} {ks : List Cd} (h : KsAt K w v ks) : KsStep K w (KsAt K w) v ks := by
 refine h (KsStep K w (KsAt K w)) ?_
 rintro v ks ⟨a, c, M, hv, hc, hm, hok, hcells, hk⟩
 refine ⟨a, c, M, hv, hc, hm, hok, hcells, fun j x hj => ?_⟩
 obtain ⟨a', c', M', hv', hc', hm', hok', hcells', hk'⟩ := hk j x hj
 exact KsAt.mk a' c' M' hv' hc' hm' hok' hcells' hk'
theorem CdCells.of {w w' : World} {b o : Nat} {x : Cd} {m : Value} (h : CdCells w b o x m) (he : w'.heap[b]? = w.heap[b]?) : CdCells w' b o x m := by
 obtain ⟨h0, h1, h2, h3, h4⟩ := h
 refine ⟨?_, ?_, ?_, ?_, ?_⟩ <;> rw [World.cell?_of_block (w := w) he] <;> assumption
theorem KsAt.move {K K' : Nat → Prop} {w w' : World} {v : Value} {ks : List Cd} (h : KsAt K w v ks) (hm : Moves K K' w w') : KsAt K' w' v ks := by
 refine h (KsAt K' w') ?_
 rintro v ks ⟨a, c, M, hv, hc, hx, hok, hcells, ih⟩
 refine KsAt.mk a c M hv hc hx hok (hcells.imp id ?_) ih
 rintro ⟨b, o, rfl, hk, hb, hcc⟩
 obtain ⟨k', hh⟩ := hm.2 b hb hk
 exact ⟨b, o, rfl, k', Nat.lt_of_lt_of_le hb hm.1, fun j x hj => (hcc j x hj).of hh⟩
theorem KsAt.nil (K : Nat → Prop) (w : World) : KsAt K w (.slice none 0 0) [] := KsAt.mk none 0 (fun _ => .slice none 0 0) rfl (by simp) (by simp [maxLen]) (by simp) (Or.inl rfl) (by simp)
theorem KsAt.form {K : Nat → Prop} {w : World} {v : Value} {ks : List Cd} (h : KsAt K w v ks) : ∃ a c, v = .slice a ks.length c ∧ ks.length ≤ c ∧ c ≤ 9223372036854775807 := by
 obtain ⟨a, c, M, rfl, h1, h2, _⟩ := h.opened
 exact ⟨a, c, rfl, h1, by unfold maxLen at h2; exact h2⟩
theorem KsAt.get {K : Nat → Prop} {w : World} {a : Option Addr} {n c : Nat} {ks : List Cd} (h : KsAt K w (.slice a n c) ks) (k : Nat) (hk : k < ks.length) :
  ∃ b o m, a = some ⟨b, o, none⟩ ∧ b < w.heap.size ∧ ks[k]? = some ks[k] ∧ CdCells w b (o + k * 5) ks[k] m ∧ KsAt K w m ks[k].kids ∧ Ok1 ks[k] := by
 obtain ⟨a', c', M, he, h1, h2, hok, h3, h4⟩ := h.opened
 have ha : a = a' := by injection he
 subst ha
 rcases h3 with h | ⟨b, o, ha, _, hb, hc⟩
 ·subst h; simp at hk
 ·have hx := List.getElem?_eq_getElem hk
  exact ⟨b, o, M k, ha, hb, hx, hc k _ hx, h4 k _ hx, hok _ (List.getElem_mem hk)⟩
def StsAt (K : Nat → Prop) (w : World) (v : Value) (ss : List St) : Prop :=
 ∃ a c, v = .slice a ss.length c ∧ ss.length ≤ c ∧ c ≤ maxLen ∧ ss.length ≤ Big ∧ (∀ x ∈ ss, Cm.I64 x.what ∧ Cm.I64 x.n) ∧ (ss = [] ∨ ∃ b o, a = some ⟨b, o, none⟩ ∧ K b ∧ b < w.heap.size ∧ ∀ (j : Nat) x, ss[j]? = some x → w.cell? ⟨b, o + j * 2, none⟩ = some (.int .i64 x.what) ∧ w.cell? ⟨b, o + j * 2 + 1, none⟩ = some (.int .i64 x.n))
theorem StsAt.move {K K' : Nat → Prop} {w w' : World} {v : Value} {ss : List St} (h : StsAt K w v ss) (hm : Moves K K' w w') : StsAt K' w' v ss := by
 obtain ⟨a, c, rfl, h1, h2, h4, h5, h3⟩ := h
 refine ⟨a, c, rfl, h1, h2, h4, h5, h3.imp id ?_⟩
 rintro ⟨b, o, rfl, hk, hb, hc⟩
 obtain ⟨k', hh⟩ := hm.2 b hb hk
 refine ⟨b, o, rfl, k', Nat.lt_of_lt_of_le hb hm.1, fun j x hj => ?_⟩
 obtain ⟨q1, q2⟩ := hc j x hj
 exact ⟨by rw [World.cell?_of_block (w := w) hh]; exact q1, by rw [World.cell?_of_block (w := w) hh]; exact q2⟩
theorem StsAt.nil (K : Nat → Prop) (w : World) : StsAt K w (.slice none 0 0) [] := ⟨none, 0, rfl, by simp, by simp [maxLen], by simp, by simp, Or.inl rfl⟩
theorem StsAt.form {K : Nat → Prop} {w : World} {v : Value} {ss : List St} (h : StsAt K w v ss) : ∃ a c, v = .slice a ss.length c ∧ ss.length ≤ c ∧ c ≤ 9223372036854775807 ∧ ss.length ≤ Big := by
 obtain ⟨a, c, rfl, h1, h2, h3, _⟩ := h
 exact ⟨a, c, rfl, h1, by unfold maxLen at h2; exact h2, h3⟩
theorem StsAt.get {K : Nat → Prop} {w : World} {a : Option Addr} {n c : Nat} {ss : List St} (h : StsAt K w (.slice a n c) ss) (k : Nat) (hk : k < ss.length) :
  ∃ b o, a = some ⟨b, o, none⟩ ∧ b < w.heap.size ∧ ss[k]? = some ss[k] ∧ w.cell? ⟨b, o + k * 2, none⟩ = some (.int .i64 ss[k].what) ∧ w.cell? ⟨b, o + k * 2 + 1, none⟩ = some (.int .i64 ss[k].n) ∧ Cm.I64 ss[k].what ∧ Cm.I64 ss[k].n := by
 obtain ⟨a', c', he, h1, h2, _, hok, h3⟩ := h
 have ha : a = a' := by injection he
 subst ha
 rcases h3 with h | ⟨b, o, ha, _, hb, hc⟩
 ·subst h; simp at hk
 ·have hx := List.getElem?_eq_getElem hk
  obtain ⟨q1, q2⟩ := hc k _ hx
  have := hok _ (List.getElem_mem hk)
  exact ⟨b, o, ha, hb, hx, q1, q2, this.1, this.2⟩
def RuCells (w : World) (b o : Nat) (r : Ru) (k u s : Value) : Prop :=
 w.cell? ⟨b, o, none⟩ = some (.int .i64 r.rank) ∧ w.cell? ⟨b, o + 1, none⟩ = some (.int .i64 r.cif.kind) ∧ w.cell? ⟨b, o + 2, none⟩ = some (.string (mk r.cif.lo)) ∧ w.cell? ⟨b, o + 3, none⟩ = some (.string (mk r.cif.hi)) ∧ w.cell? ⟨b, o + 4, none⟩ = some (.int .i64 r.cif.n) ∧ w.cell? ⟨b, o + 5, none⟩ = some k ∧ w.cell? ⟨b, o + 6, none⟩ = some u ∧ w.cell? ⟨b, o + 7, none⟩ = some s
theorem RuCells.of {w w' : World} {b o : Nat} {x : Ru} {k u s : Value} (h : RuCells w b o x k u s) (he : w'.heap[b]? = w.heap[b]?) : RuCells w' b o x k u s := by
 obtain ⟨h0, h1, h2, h3, h4, h5, h6, h7⟩ := h
 refine ⟨?_, ?_, ?_, ?_, ?_, ?_, ?_, ?_⟩ <;> rw [World.cell?_of_block (w := w) he] <;> assumption
def RuIn (K : Nat → Prop) (w : World) (r : Ru) (k u s : Value) : Prop := Cm.I64 r.rank ∧ Ok1 r.cif ∧ r.unl.length ≤ Big ∧ KsAt K w k r.cif.kids ∧ KsAt K w u r.unl ∧ StsAt K w s r.sets
theorem RuIn.move {K K' : Nat → Prop} {w w' : World} {r : Ru} {k u s : Value} (h : RuIn K w r k u s) (hm : Moves K K' w w') : RuIn K' w' r k u s :=
 ⟨h.1, h.2.1, h.2.2.1, h.2.2.2.1.move hm, h.2.2.2.2.1.move hm, h.2.2.2.2.2.move hm⟩
def RusAt (K : Nat → Prop) (w : World) (v : Value) (rs : List Ru) : Prop :=
 ∃ a c, v = .slice a rs.length c ∧ rs.length ≤ c ∧ c ≤ maxLen ∧ rs.length ≤ Big ∧ (rs = [] ∨ ∃ b o, a = some ⟨b, o, none⟩ ∧ K b ∧ b < w.heap.size ∧ ∀ (j : Nat) x, rs[j]? = some x → ∃ k u s, RuCells w b (o + j * 8) x k u s ∧ RuIn K w x k u s)
theorem RusAt.move {K K' : Nat → Prop} {w w' : World} {v : Value} {rs : List Ru} (h : RusAt K w v rs) (hm : Moves K K' w w') : RusAt K' w' v rs := by
 obtain ⟨a, c, rfl, h1, h2, h4, h3⟩ := h
 refine ⟨a, c, rfl, h1, h2, h4, h3.imp id ?_⟩
 rintro ⟨b, o, rfl, hk, hb, hc⟩
 obtain ⟨k', hh⟩ := hm.2 b hb hk
 refine ⟨b, o, rfl, k', Nat.lt_of_lt_of_le hb hm.1, fun j x hj => ?_⟩
 obtain ⟨k, u, s, q1, q2⟩ := hc j x hj
 exact ⟨k, u, s, q1.of hh, q2.move hm⟩
theorem RusAt.nil (K : Nat → Prop) (w : World) : RusAt K w (.slice none 0 0) [] := ⟨none, 0, rfl, by simp, by simp [maxLen], by simp, Or.inl rfl⟩
theorem RusAt.form {K : Nat → Prop} {w : World} {v : Value} {rs : List Ru} (h : RusAt K w v rs) : ∃ a c, v = .slice a rs.length c ∧ rs.length ≤ c ∧ c ≤ 9223372036854775807 ∧ rs.length ≤ Big := by
 obtain ⟨a, c, rfl, h1, h2, h3, _⟩ := h
 exact ⟨a, c, rfl, h1, by unfold maxLen at h2; exact h2, h3⟩
theorem RusAt.get {K : Nat → Prop} {w : World} {a : Option Addr} {n c : Nat} {rs : List Ru} (h : RusAt K w (.slice a n c) rs) (k : Nat) (hk : k < rs.length) :
  ∃ b o q u s, a = some ⟨b, o, none⟩ ∧ b < w.heap.size ∧ rs[k]? = some rs[k] ∧ RuCells w b (o + k * 8) rs[k] q u s ∧ RuIn K w rs[k] q u s := by
 obtain ⟨a', c', he, h1, h2, _, h3⟩ := h
 have ha : a = a' := by injection he
 subst ha
 rcases h3 with h | ⟨b, o, ha, _, hb, hc⟩
 ·subst h; simp at hk
 ·have hx := List.getElem?_eq_getElem hk
  obtain ⟨q, u, s, q1, q2⟩ := hc k _ hx
  exact ⟨b, o, q, u, s, ha, hb, hx, q1, q2⟩
def PnOk (p : Pn) : Prop := Cm.I64 p.mode ∧ Cm.I64 p.indDed ∧ Cm.I64 p.famDed ∧ Cm.I64 p.indOop ∧ Cm.I64 p.famOop
theorem below_alloc (w : World) (o : Obj) : Below w.heap.size w (w.alloc o) := (Below.refl _ w).alloc (Nat.le_refl _) o
theorem below_trans {a b c : World} (h : Below a.heap.size a b) (k : Below b.heap.size b c) : Below a.heap.size a c := h.trans (k.mono h.size)
theorem KsAt.grw {w w' : World} {v : Value} {ks : List Cd} (h : KsAt All w v ks) (hb : Below w.heap.size w w') : KsAt All w' v ks := h.move (Below.moves hb)
theorem StsAt.grw {w w' : World} {v : Value} {ks : List St} (h : StsAt All w v ks) (hb : Below w.heap.size w w') : StsAt All w' v ks := h.move (Below.moves hb)
theorem RusAt.grw {w w' : World} {v : Value} {ks : List Ru} (h : RusAt All w v ks) (hb : Below w.heap.size w w') : RusAt All w' v ks := h.move (Below.moves hb)
end Go.Proofs.YtfoooldkmokjpaaGreatDoor.Pl
end
section
namespace Go.Proofs.YtfoooldkmokjpaaGreatDoor.Cm
open Go.RowKit
end Go.Proofs.YtfoooldkmokjpaaGreatDoor.Cm
end
section
set_option maxRecDepth 100000
namespace Go.Proofs.YtfoooldkmokjpaaGreatDoor.Pl
open Go.RowKit
open Wo (Wd box_cell box_two keepB heap_far)
theorem eq_lit (x t : Tx) : ((mk x).toList == t) = decide (x = t) := by
 rw [Lib.toList_data, mk_list, Bool.eq_iff_iff]
 simp
theorem proc_any (s : Tx) (w : World) (hs : s.length ≤ 9223372036854775807) :
  Calls Tryz.prog 163 #[.string (mk s)] w fun e w' => e = .returned (.bool (Cm.codeB s 5 5)) ∧ w' = w := by
 have HC := Lib.hid fun w => Cm.code_any s 5 5 w hs
 generalize Cm.codeB s 5 5 = R at *
 go_enter Tryz.func163, Tryz.ntmps163
 go_wp2_with (go_at_call 119; refine (HC.out _).mono ?_; rintro e w' ⟨rfl, rfl⟩)
 go_ret
 exact ⟨rfl, rfl⟩
theorem mod_any (s : Tx) (w : World) (hs : s.length ≤ 9223372036854775807) :
  Calls Tryz.prog 164 #[.string (mk s)] w fun e w' => e = .returned (.bool (Cm.codeB s 2 2)) ∧ w' = w := by
 have HC := Lib.hid fun w => Cm.code_any s 2 2 w hs
 generalize Cm.codeB s 2 2 = R at *
 go_enter Tryz.func164, Tryz.ntmps164
 go_wp2_with (go_at_call 119; refine (HC.out _).mono ?_; rintro e w' ⟨rfl, rfl⟩)
 go_ret
 exact ⟨rfl, rfl⟩
theorem kids_any (k : Int) (w : World) :
  Calls Tryz.prog 143 #[.int .i64 k] w fun e w' => e = .returned (.int .i64 (kidN k : Nat)) ∧ w' = w := by
 by_cases h6 : k = 6
 ·subst h6
  go_enter Tryz.func143, Tryz.ntmps143
  go_wp2
  go_ret
  exact ⟨rfl, rfl⟩
 by_cases h7 : k = 7
 ·subst h7
  go_enter Tryz.func143, Tryz.ntmps143
  go_wp2
  go_ret
  exact ⟨rfl, rfl⟩
 by_cases h8 : k = 8
 ·subst h8
  go_enter Tryz.func143, Tryz.ntmps143
  go_wp2
  go_ret
  exact ⟨rfl, rfl⟩
 have HK : Hid (kidN k = 0) := by show _ = _; unfold kidN; rw [if_neg h6, if_neg (by omega)]
 have b6 : (k == 6) = false := by simpa using h6
 have b7 : (k == 7) = false := by simpa using h7
 have b8 : (k == 8) = false := by simpa using h8
 clear h6 h7 h8
 go_enter Tryz.func143, Tryz.ntmps143
 go_wp2
 go_ret
 exact ⟨by rw [HK.out]; rfl, rfl⟩
theorem good_eq (n : Int) (w : World) : Calls Tryz.prog 79 #[.int .i64 n] w fun e w' => e = .returned (.bool (goodB n)) ∧ w' = w := Ce.good_any n w
set_option maxHeartbeats 8000000 in
theorem fields1 (lo hi : Tx) (n : Int) (m : Value) (w : World) (hlo : lo.length ≤ Big) (hhi : hi.length ≤ Big) :
  Calls Tryz.prog 144 #[.agg #[.int .i64 1, .string (mk lo), .string (mk hi), .int .i64 n, m]] w fun e w' => e = .returned (.bool (leafB 1 lo hi n)) ∧ Below w.heap.size w w' := by
 have HB := Lib.hid (below_alloc w (.cells #[.int .i64 1, .string (mk lo), .string (mk hi), .int .i64 n, m] 82))
 have HP1 := Lib.hid fun W => proc_any lo W (by show _ ≤ _; have : lo.length ≤ 281474976710656 := hlo; omega)
 have HP2 := Lib.hid fun W => proc_any hi W (by show _ ≤ _; have : hi.length ≤ 281474976710656 := hhi; omega)
 have hl : leafB 1 lo hi n = (Cm.codeB lo 5 5 && (Cm.codeB hi 5 5 && (n == 0))) := by rw [show (n == 0) = decide (n = 0) from rfl]; rfl
 rw [hl]
 clear hl
 generalize Cm.codeB lo 5 5 = A at *
 generalize Cm.codeB hi 5 5 = C at *
 cases A <;> cases C <;> cases hn : (n == 0)
 all_goals
  go_enter Tryz.func144, Tryz.ntmps144
  go_wp2_with (first | (go_at_call 163; first | (refine (HP1.out _).mono ?_; rintro e w1 ⟨rfl, rfl⟩) | (refine (HP2.out _).mono ?_; rintro e w1 ⟨rfl, rfl⟩)))
  go_ret
  exact ⟨rfl, HB.out⟩
set_option maxHeartbeats 8000000 in
theorem fields2 (lo hi : Tx) (n : Int) (m : Value) (w : World) (hlo : lo.length ≤ Big) (hhi : hi.length ≤ Big) :
  Calls Tryz.prog 144 #[.agg #[.int .i64 2, .string (mk lo), .string (mk hi), .int .i64 n, m]] w fun e w' => e = .returned (.bool (leafB 2 lo hi n)) ∧ Below w.heap.size w w' := by
 have HB := Lib.hid (below_alloc w (.cells #[.int .i64 2, .string (mk lo), .string (mk hi), .int .i64 n, m] 82))
 have HM := Lib.hid fun W => mod_any lo W (by show _ ≤ _; have : lo.length ≤ 281474976710656 := hlo; omega)
 have hl : leafB 2 lo hi n = (Cm.codeB lo 2 2 && (((mk hi).toList == []) && (n == 0))) := by rw [eq_lit, show (n == 0) = decide (n = 0) from rfl]; rfl
 rw [hl]
 clear hl
 generalize Cm.codeB lo 2 2 = A at *
 cases A <;> cases hh : ((mk hi).toList == []) <;> cases hn : (n == 0)
 all_goals
  go_enter Tryz.func144, Tryz.ntmps144
  go_wp2_with (first | (go_at_call 164; refine (HM.out _).mono ?_; rintro e w1 ⟨rfl, rfl⟩))
  go_ret
  exact ⟨rfl, HB.out⟩
set_option maxHeartbeats 8000000 in
theorem fields3 (lo hi : Tx) (n : Int) (m : Value) (w : World) (hlo : lo.length ≤ Big) (hhi : hi.length ≤ Big) :
  Calls Tryz.prog 144 #[.agg #[.int .i64 3, .string (mk lo), .string (mk hi), .int .i64 n, m]] w fun e w' => e = .returned (.bool (leafB 3 lo hi n)) ∧ Below w.heap.size w w' := by
 have HB := Lib.hid (below_alloc w (.cells #[.int .i64 3, .string (mk lo), .string (mk hi), .int .i64 n, m] 82))
 have hl : leafB 3 lo hi n = (((mk lo).toList == []) && (((mk hi).toList == []) && (decide (0 ≤ n) && decide (n ≤ 9999)))) := by rw [eq_lit, eq_lit]; rfl
 rw [hl]
 clear hl
 cases h0 : ((mk lo).toList == []) <;> cases hh : ((mk hi).toList == []) <;> cases hn : decide (0 ≤ n) <;> cases hm : decide (n ≤ 9999)
 all_goals
  go_enter Tryz.func144, Tryz.ntmps144
  go_wp2
  go_ret
  exact ⟨rfl, HB.out⟩
set_option maxHeartbeats 8000000 in
theorem fields4 (lo hi : Tx) (n : Int) (m : Value) (w : World) (hlo : lo.length ≤ Big) (hhi : hi.length ≤ Big) :
  Calls Tryz.prog 144 #[.agg #[.int .i64 4, .string (mk lo), .string (mk hi), .int .i64 n, m]] w fun e w' => e = .returned (.bool (leafB 4 lo hi n)) ∧ Below w.heap.size w w' := by
 have HB := Lib.hid (below_alloc w (.cells #[.int .i64 4, .string (mk lo), .string (mk hi), .int .i64 n, m] 82))
 have HG := Lib.hid fun W => good_eq n W
 have hl : leafB 4 lo hi n = (((mk lo).toList == []) && (((mk hi).toList == []) && goodB n)) := by rw [eq_lit, eq_lit]; rfl
 rw [hl]
 clear hl
 generalize goodB n = G at *
 cases h0 : ((mk lo).toList == []) <;> cases hh : ((mk hi).toList == []) <;> cases G
 all_goals
  go_enter Tryz.func144, Tryz.ntmps144
  go_wp2_with (first | (go_at_call 79; refine (HG.out _).mono ?_; rintro e w1 ⟨rfl, rfl⟩))
  go_ret
  exact ⟨rfl, HB.out⟩
theorem leaf_plain (k : Int) (lo hi : Tx) (n : Int) (h : k = 0 ∨ k = 5 ∨ k = 6 ∨ k = 7 ∨ k = 8) : leafB k lo hi n = (((mk lo).toList == []) && (((mk hi).toList == []) && (n == 0))) := by
 rw [eq_lit, eq_lit, show (n == 0) = decide (n = 0) from rfl]
 rcases h with rfl | rfl | rfl | rfl | rfl <;> rfl
theorem leaf_other (k : Int) (lo hi : Tx) (n : Int) (h : ¬ (0 ≤ k ∧ k ≤ 8)) : leafB k lo hi n = false := by
 unfold leafB
 have : (decide (0 ≤ k) && decide (k ≤ 8)) = false := by simp; omega
 rw [this]; rfl
set_option maxHeartbeats 8000000 in
theorem fields0 (lo hi : Tx) (n : Int) (m : Value) (w : World) (hlo : lo.length ≤ Big) (hhi : hi.length ≤ Big) :
  Calls Tryz.prog 144 #[.agg #[.int .i64 0, .string (mk lo), .string (mk hi), .int .i64 n, m]] w fun e w' => e = .returned (.bool (leafB 0 lo hi n)) ∧ Below w.heap.size w w' := by
 have HB := Lib.hid (below_alloc w (.cells #[.int .i64 0, .string (mk lo), .string (mk hi), .int .i64 n, m] 82))
 have hl := leaf_plain 0 lo hi n (by simp)
 rw [hl]
 clear hl
 cases h0 : ((mk lo).toList == []) <;> cases hh : ((mk hi).toList == []) <;> cases hn : (n == 0)
 all_goals
  go_enter Tryz.func144, Tryz.ntmps144
  go_wp2
  go_ret
  exact ⟨rfl, HB.out⟩
set_option maxHeartbeats 8000000 in
theorem fields5 (lo hi : Tx) (n : Int) (m : Value) (w : World) (hlo : lo.length ≤ Big) (hhi : hi.length ≤ Big) :
  Calls Tryz.prog 144 #[.agg #[.int .i64 5, .string (mk lo), .string (mk hi), .int .i64 n, m]] w fun e w' => e = .returned (.bool (leafB 5 lo hi n)) ∧ Below w.heap.size w w' := by
 have HB := Lib.hid (below_alloc w (.cells #[.int .i64 5, .string (mk lo), .string (mk hi), .int .i64 n, m] 82))
 have hl := leaf_plain 5 lo hi n (by simp)
 rw [hl]
 clear hl
 cases h0 : ((mk lo).toList == []) <;> cases hh : ((mk hi).toList == []) <;> cases hn : (n == 0)
 all_goals
  go_enter Tryz.func144, Tryz.ntmps144
  go_wp2
  go_ret
  exact ⟨rfl, HB.out⟩
set_option maxHeartbeats 8000000 in
theorem fields6 (lo hi : Tx) (n : Int) (m : Value) (w : World) (hlo : lo.length ≤ Big) (hhi : hi.length ≤ Big) :
  Calls Tryz.prog 144 #[.agg #[.int .i64 6, .string (mk lo), .string (mk hi), .int .i64 n, m]] w fun e w' => e = .returned (.bool (leafB 6 lo hi n)) ∧ Below w.heap.size w w' := by
 have HB := Lib.hid (below_alloc w (.cells #[.int .i64 6, .string (mk lo), .string (mk hi), .int .i64 n, m] 82))
 have hl := leaf_plain 6 lo hi n (by simp)
 rw [hl]
 clear hl
 cases h0 : ((mk lo).toList == []) <;> cases hh : ((mk hi).toList == []) <;> cases hn : (n == 0)
 all_goals
  go_enter Tryz.func144, Tryz.ntmps144
  go_wp2
  go_ret
  exact ⟨rfl, HB.out⟩
set_option maxHeartbeats 8000000 in
theorem fields7 (lo hi : Tx) (n : Int) (m : Value) (w : World) (hlo : lo.length ≤ Big) (hhi : hi.length ≤ Big) :
  Calls Tryz.prog 144 #[.agg #[.int .i64 7, .string (mk lo), .string (mk hi), .int .i64 n, m]] w fun e w' => e = .returned (.bool (leafB 7 lo hi n)) ∧ Below w.heap.size w w' := by
 have HB := Lib.hid (below_alloc w (.cells #[.int .i64 7, .string (mk lo), .string (mk hi), .int .i64 n, m] 82))
 have hl := leaf_plain 7 lo hi n (by simp)
 rw [hl]
 clear hl
 cases h0 : ((mk lo).toList == []) <;> cases hh : ((mk hi).toList == []) <;> cases hn : (n == 0)
 all_goals
  go_enter Tryz.func144, Tryz.ntmps144
  go_wp2
  go_ret
  exact ⟨rfl, HB.out⟩
set_option maxHeartbeats 8000000 in
theorem fields8 (lo hi : Tx) (n : Int) (m : Value) (w : World) (hlo : lo.length ≤ Big) (hhi : hi.length ≤ Big) :
  Calls Tryz.prog 144 #[.agg #[.int .i64 8, .string (mk lo), .string (mk hi), .int .i64 n, m]] w fun e w' => e = .returned (.bool (leafB 8 lo hi n)) ∧ Below w.heap.size w w' := by
 have HB := Lib.hid (below_alloc w (.cells #[.int .i64 8, .string (mk lo), .string (mk hi), .int .i64 n, m] 82))
 have hl := leaf_plain 8 lo hi n (by simp)
 rw [hl]
 clear hl
 cases h0 : ((mk lo).toList == []) <;> cases hh : ((mk hi).toList == []) <;> cases hn : (n == 0)
 all_goals
  go_enter Tryz.func144, Tryz.ntmps144
  go_wp2
  go_ret
  exact ⟨rfl, HB.out⟩
set_option maxHeartbeats 8000000 in
theorem fieldsX (lo hi : Tx) (n : Int) (m : Value) (w : World) (k : Int) (hk : ¬ (0 ≤ k ∧ k ≤ 8)) (hlo : lo.length ≤ Big) (hhi : hi.length ≤ Big) :
  Calls Tryz.prog 144 #[.agg #[.int .i64 k, .string (mk lo), .string (mk hi), .int .i64 n, m]] w fun e w' => e = .returned (.bool (leafB k lo hi n)) ∧ Below w.heap.size w w' := by
 have HB := Lib.hid (below_alloc w (.cells #[.int .i64 k, .string (mk lo), .string (mk hi), .int .i64 n, m] 82))
 have hl := leaf_other k lo hi n hk
 rw [hl]
 clear hl
 have b0 : (k == 0) = false := by simp; omega
 have b1 : (k == 1) = false := by simp; omega
 have b2 : (k == 2) = false := by simp; omega
 have b3 : (k == 3) = false := by simp; omega
 have b4 : (k == 4) = false := by simp; omega
 have b5 : (k == 5) = false := by simp; omega
 have b6 : (k == 6) = false := by simp; omega
 have b7 : (k == 7) = false := by simp; omega
 have b8 : (k == 8) = false := by simp; omega
 clear hk
 go_enter Tryz.func144, Tryz.ntmps144
 go_wp2
 go_ret
 exact ⟨rfl, HB.out⟩
theorem fields_any (c : Cd) (m : Value) (w : World) (ho : Ok1 c) :
  Calls Tryz.prog 144 #[cdv c m] w fun e w' => e = .returned (.bool (leafB c.kind c.lo c.hi c.n)) ∧ Below w.heap.size w w' := by
 obtain ⟨k, lo, hi, n, ks⟩ := c
 obtain ⟨_, _, hlo, hhi, _⟩ := ho
 by_cases hk : 0 ≤ k ∧ k ≤ 8
 ·rcases k_cases hk.1 hk.2 with rfl | rfl | rfl | rfl | rfl | rfl | rfl | rfl | rfl
  ·exact fields0 lo hi n m w hlo hhi
  ·exact fields1 lo hi n m w hlo hhi
  ·exact fields2 lo hi n m w hlo hhi
  ·exact fields3 lo hi n m w hlo hhi
  ·exact fields4 lo hi n m w hlo hhi
  ·exact fields5 lo hi n m w hlo hhi
  ·exact fields6 lo hi n m w hlo hhi
  ·exact fields7 lo hi n m w hlo hhi
  ·exact fields8 lo hi n m w hlo hhi
 ·exact fieldsX lo hi n m w k hk hlo hhi
end Go.Proofs.YtfoooldkmokjpaaGreatDoor.Pl
end
