/-
  Texts put together (merge.py): NLib, QLib, QSign, QGood, QText.
-/
import Derived.Lib.ItoaMem
import Derived.Below
import Derived.Deep.QuietTactic
import Derived.BigQuiet
import Derived.RegionTactic
import Derived.ChangeAlike
import Derived.Lib.Hide
import Derived.WalkLawsBesides
import Derived.Deep.LoopGhost
import Derived.Test.YtpmnepihaljamaaGreatDoorShelf
import Derived.Test.YtpmnepihaljamaaGreatDoorM7
import Derived.Test.YtpmnepihaljamaaGreatDoorM2
/-
  What strconv.FormatInt and FormatUint (at base 10), strings.Cut (at a dot) and strings.CutPrefix (at a -) answer at this program, as contracts; the world behind: as it was, or grown.
-/
section
namespace Go.Proofs.YtpmnepihaljamaaGreatDoor.Nu
open Go.RowKit Go.Sort Go.Lib

def Tab (w : World) : Prop := Lib.TabIs Tryz.prog w "internal/strconv.uint64pow10" .u64 Lib.pow10Tab
def Grw (w w' : World) : Prop := Below w.heap.size w w'
theorem grw_refl (w : World) : Grw w w := Below.refl _ _
theorem grw_trans {a b c : World} (h : Grw a b) (k : Grw b c) : Grw a c := Below.trans h (Below.mono k h.size)
theorem grw_drewN (w : World) (k : Nat) : Grw w (w.drewN k) := ⟨rfl, rfl, rfl, Nat.le_refl _, fun _ _ => rfl⟩
theorem grw_grow (w : World) (k : Nat) (os : Array Obj) : Grw w (grow (w.drewN k) os) :=
  ⟨rfl, rfl, rfl, by simp [grow, World.drewN], fun _ hi => heap_grow_old (w.drewN k) os hi⟩
theorem tab_grw {w w' : World} (h : Tab w) (b : Grw w w') : Tab w' := by
  unfold Tab Lib.TabIs World.var? at *
  cases hg : Tryz.prog.globalNamed "internal/strconv.uint64pow10" with
  | none => simp [hg] at h
  | some g =>
    simp only [hg, Option.bind_some] at h ⊢
    have hlt : g < w.heap.size := by
      rcases Nat.lt_or_ge g w.heap.size with h' | h'
      · exact h'
      · rw [Array.getElem?_eq_none h'] at h; simp at h
    rw [b.block g hlt]
    exact h

theorem tab_below {B : Nat} {w w' : World} (h : Tab w) (b : Below B w w') (hB : 0 < B) : Tab w' := by
  unfold Tab Lib.TabIs World.var? at *
  have hg : Tryz.prog.globalNamed "internal/strconv.uint64pow10" = some 0 := by kernel_rfl
  simp only [hg, Option.bind_some] at h ⊢
  rw [b.block 0 hB]
  exact h
theorem int_any (n : Int) (h0 : -9223372036854775808 ≤ n) (h1 : n ≤ 9223372036854775807) (w : World) (hT : Tab w) :
    Calls Tryz.prog 41 #[.int .i64 n] w fun e w' => e = .returned (.string ⟨(Lib.itoa n).toArray⟩) ∧ Grw w w' := by
  go_enter Tryz.func41, Tryz.ntmps41
  go_wp2_with (go_at_call 77; refine (Tryz.strconv_FormatInt_10 n h0 h1 _ hT).mono ?_; rintro e w1 ⟨rfl, k, os, rfl⟩)
  go_ret
  exact ⟨rfl, grw_grow _ _ _⟩
end Go.Proofs.YtpmnepihaljamaaGreatDoor.Nu
end

/-
  What strings.Split, Join, HasPrefix and the Builder answer, at this program.
-/
section
namespace Go.Proofs.YtpmnepihaljamaaGreatDoor
open Go.Shelf Go.RowKit

def ren167 : Go.Shelf.Ren := ⟨fun | 167 => 85 | n => Tryz.lays156_ren.f n, Tryz.lays156_ren.t, Tryz.lays156_ren.g⟩
theorem lays166 : Go.Proofs.Lays.n166 Tryz.prog Tryz.lays156_ren := { Tryz.lays156 with }
theorem extra167 : Builder.Extra Tryz.prog ren167 := {
  sizeBuilder := by kernel_rfl
  liesBuilder := by kernel_rfl
  t5 := Tryz.underlying5
  a5 := Tryz.isAgg5
  z5 := Tryz.sizeOf5
  v5 := Tryz.zeroValue5
  infoByte := by kernel_rfl
  cellsByte := by kernel_rfl
  sizeByte := by kernel_rfl
  neB5 := by decide }
theorem lays167 : Go.Proofs.Lays.n167 Tryz.prog ren167 := {
  mixed := by kernel_rfl
  f167 := Tryz.func85.trans (congrArg some (by kernel_rfl))
  f240 := Tryz.func117.trans (congrArg some (by kernel_rfl))
  f276 := Tryz.func140.trans (congrArg some (by kernel_rfl))
  t0 := Tryz.underlying0
  a0 := Tryz.isAgg0
  z0 := Tryz.sizeOf0
  v0 := Tryz.zeroValue0
  t4 := Tryz.underlying4
  a4 := Tryz.isAgg4
  z4 := Tryz.sizeOf4
  v4 := Tryz.zeroValue4
  t5 := Tryz.underlying5
  a5 := Tryz.isAgg5
  z5 := Tryz.sizeOf5
  v5 := Tryz.zeroValue5
  t9 := Tryz.underlying9
  a9 := Tryz.isAgg9
  z9 := Tryz.sizeOf9
  v9 := Tryz.zeroValue9
  t20 := Tryz.underlying20
  a20 := Tryz.isAgg20
  z20 := Tryz.sizeOf20
  v20 := Tryz.zeroValue20
  t37 := Tryz.underlying107
  a37 := Tryz.isAgg107
  z37 := Tryz.sizeOf107
  v37 := Tryz.zeroValue107
  t70 := Tryz.underlying106
  a70 := Tryz.isAgg106
  z70 := Tryz.sizeOf106
  v70 := Tryz.zeroValue106
  t72 := Tryz.underlying109
  a72 := Tryz.isAgg109
  z72 := Tryz.sizeOf109
  v72 := Tryz.zeroValue109
  t75 := Tryz.underlying113
  a75 := Tryz.isAgg113
  z75 := Tryz.sizeOf113
  v75 := Tryz.zeroValue113
  t164 := Tryz.underlying162
  a164 := Tryz.isAgg162
  z164 := Tryz.sizeOf162
  v164 := Tryz.zeroValue162 }
theorem writeString_b (B b : Nat) (bs : List Value) (s : ByteArray) (w : World) (h : Lib.IsBuilder 109 5 B b bs w) (hlen : bs.length + s.size ≤ 140737488355328) (hBw : B ≤ w.heap.size) :
    Calls Tryz.prog 84 #[.pointer (some ⟨b, 0, none⟩), .string s] w fun e w' => e = .returned (.tuple #[.int .i64 s.size, .nilIface]) ∧ (Lib.BuilderAt 109 5 B b (.pointer (some ⟨b, 0, none⟩)) (bs ++ Lib.strCells s) w' ∧ Below B w w') :=
  Any.Builder_WriteString lays166 Tryz.Builder_Extra_156 B b bs s w h hlen hBw
theorem writeByte_b (B b : Nat) (bs : List Value) (c : Int) (w : World) (h : Lib.IsBuilder 109 5 B b bs w) (hlen : bs.length + 1 ≤ 140737488355328) (hBw : B ≤ w.heap.size) :
    Calls Tryz.prog 85 #[.pointer (some ⟨b, 0, none⟩), .int .u8 c] w fun e w' => e = .returned .nilIface ∧ (Lib.BuilderAt 109 5 B b (.pointer (some ⟨b, 0, none⟩)) (bs ++ [.int .u8 c]) w' ∧ Below B w w') :=
  Any.Builder_WriteByte lays167 extra167 B b bs c w h hlen hBw

/-- The variables that the library reads on these roads: the greatest length, whatever it holds; the powers of ten. -/
def Low (n : Nat) : Prop := 4 < n ∧ 0 < n
theorem Low.le {n m : Nat} (h : Low n) (k : n ≤ m) : Low m := ⟨Nat.lt_of_lt_of_le h.1 k, Nat.lt_of_lt_of_le h.2 k⟩
def Tab (w : World) : Prop := Low w.heap.size ∧ (∃ m, w.cell? ⟨4, 0, none⟩ = some (.int .i64 m)) ∧ Nu.Tab w
theorem tab_below {B : Nat} {w w' : World} (h : Tab w) (hb : Below B w w') (hB : Low B) : Tab w' := ⟨h.1.le hb.size, by obtain ⟨m, hm⟩ := h.2.1; exact ⟨m, by rw [hb.cell (p := ⟨4, 0, none⟩) hB.1]; exact hm⟩, Nu.tab_below h.2.2 hb hB.2⟩
theorem tab_grw {w w' : World} (h : Tab w) (hb : Below w.heap.size w w') : Tab w' := tab_below h hb h.1

theorem strings_split (s : ByteArray) (c : UInt8) (w : World) (hT : Tab w) (hs : s.size ≤ 65536) :
    Calls Tryz.prog 123 #[.string s, .string (mk [c])] w fun e w' => ∃ v, e = .returned v ∧ TxAt (fun b => w.heap.size ≤ b) w' v (splitC c s.data.toList) ∧ Below w.heap.size w w' := by
  obtain ⟨_, ⟨m, hm⟩, _⟩ := hT
  refine (Tryz.strings_Split s (mk [c]) m w (by omega) hm (by rw [mk_size]; simp)).mono ?_
  rintro e w' ⟨rfl, rfl⟩
  have h1 : Lib.splitB (mk [c]) 0 (Lib.countB s (mk [c])) s = (splitC c s.data.toList).map mk := splitB_one c s
  have h2 : Lib.countB s (mk [c]) + 1 = (splitC c s.data.toList).length := by
    have := Lib.splitB_all (mk [c]) (by rw [mk_size]; simp) 0 _ s rfl
    rw [h1, List.length_map] at this
    exact this.symm
  have hl := split_len c s.data.toList
  rw [← Lib.size_eq] at hl
  rw [h1, h2]
  refine ⟨_, rfl, ⟨_, _, rfl, Nat.le_refl _, by simp only [maxLen]; omega, Or.inr ⟨_, 0, rfl, Nat.le_refl _, by simp, fun j x hj => ⟨_, ?_, rfl⟩⟩⟩, (Below.refl _ w).alloc (Nat.le_refl _) _⟩
  rw [Nat.zero_add, cell_of_row _ w.heap.size j _ _ _ (heap_alloc_new w _)]
  simp [hj]
theorem sum_many : ∀ xs : List Tx, xs.length ≤ (xs.map fun x => 1 + x.length).sum
  | [] => by simp
  | x :: r => by have := sum_many r; simp only [List.length_cons, List.map_cons, List.sum_cons]; omega
theorem join_many (c : UInt8) (xs : List Tx) : xs.length ≤ (joinC c xs).length + 1 := by
  by_cases h : xs = []
  · subst h; simp
  · rw [join_len c xs h]; exact sum_many xs
theorem strings_join (v : Value) (xs : List Tx) (c : UInt8) (w : World) (h : TxAt All w v xs) (hl : (joinC c xs).length ≤ 1000000) :
    Calls Tryz.prog 115 #[v, .string (mk [c])] w fun e w' => e = .returned (.string (mk (joinC c xs))) ∧ Below w.heap.size w w' := by
  obtain ⟨a, cap, rfl, h1, h2, h3⟩ := h
  rcases h3 with rfl | ⟨b, o, rfl, _, hb, hc⟩
  · refine (Tryz.strings_Join_none a cap _ w).mono ?_
    rintro e w' ⟨rfl, rfl⟩
    exact ⟨rfl, Below.refl _ _⟩
  · have e1 : (xs.map mk).map (·.data.toList) = xs := by
      rw [List.map_map]
      conv => rhs; rw [← List.map_id xs]
      exact List.map_congr_left fun x _ => mk_list x
    have e2 : (xs.map mk).length = xs.length := List.length_map ..
    have e3 : (mk [c]).data.toList = [c] := mk_list _
    have := Tryz.strings_Join b o cap (xs.map mk) (mk [c]) w (fun j x hx => by
      rw [List.getElem?_map, Option.map_eq_some_iff] at hx
      obtain ⟨y, hy, rfl⟩ := hx
      obtain ⟨u, hu, rfl⟩ := hc j y hy
      exact hu) hb (by rw [e2]; have := join_many c xs; omega) (by rw [e2]; exact h1) (by rw [e1, e3]; exact Nat.le_trans hl (by omega))
    rw [e1, e2, e3] at this
    exact this
end Go.Proofs.YtpmnepihaljamaaGreatDoor
end

/-
  Which bytes may be signs: seg.mayBeSign and its reference, as contracts.
-/
section
set_option linter.unusedSimpArgs false
namespace Go.Proofs.YtpmnepihaljamaaGreatDoor
open Go.RowKit

abbrev dv (e p s : UInt8) : Value := .agg #[.int .u8 e.toNat, .int .u8 p.toNat, .int .u8 s.toNat]

theorem sign_of (n : Nat) : ∀ c : UInt8, c.toNat = n → (signB c = true ↔ (33 ≤ n ∧ n ≤ 126 ∧ n ≠ 45 ∧ n ≠ 46 ∧ ¬ (48 ≤ n ∧ n ≤ 57) ∧ ¬ (65 ≤ n ∧ n ≤ 90) ∧ ¬ (97 ≤ n ∧ n ≤ 122))) := by
  intro c h
  rw [signB, h]
  simp only [Bool.and_eq_true, decide_eq_true_eq, Bool.not_eq_true', decide_eq_false_iff_not, Bool.and_eq_false_iff]
  omega
set_option maxHeartbeats 2000000 in
theorem mayBe_any (c : UInt8) (w : World) :
    Calls Tryz.prog 80 #[.int .u8 c.toNat] w fun e w' => e = .returned (.bool (signB c)) ∧ w' = w := by
  have hc := c.toNat_lt
  have hs := sign_of c.toNat c rfl
  generalize c.toNat = n at hc hs
  generalize signB c = b at hs
  have HS := Lib.hid hs
  clear hs
  go_enter Tryz.func80, Tryz.ntmps80
  go_wp2
  all_goals (go_ret; refine ⟨congrArg (fun z => Ending.returned (Value.bool z)) ?_, rfl⟩; rw [Bool.eq_iff_iff, HS.out]; (try simp only [beq_iff_eq] at *); (try simp only [Bool.and_eq_true, Bool.or_eq_true, Bool.not_eq_true', decide_eq_true_eq, decide_eq_false_iff_not, Bool.and_eq_false_iff, beq_iff_eq, Bool.false_eq_true, true_iff, false_iff]); first | omega | (intro h; simp_all; done) | (simp_all; done) | (simp_all; omega) | trace_state)
set_option maxHeartbeats 2000000 in
theorem rsign_any (c : UInt8) (w : World) :
    Calls Tryz.prog 38 #[.int .u8 c.toNat] w fun e w' => e = .returned (.bool (signB c)) ∧ w' = w := by
  have hc := c.toNat_lt
  have hs := sign_of c.toNat c rfl
  generalize c.toNat = n at hc hs
  generalize signB c = b at hs
  have HS := Lib.hid hs
  clear hs
  go_enter Tryz.func38, Tryz.ntmps38
  go_wp2
  all_goals (go_ret; refine ⟨congrArg (fun z => Ending.returned (Value.bool z)) ?_, rfl⟩; rw [Bool.eq_iff_iff, HS.out]; (try simp only [beq_iff_eq] at *); (try simp only [Bool.and_eq_true, Bool.or_eq_true, Bool.not_eq_true', decide_eq_true_eq, decide_eq_false_iff_not, Bool.and_eq_false_iff, beq_iff_eq, Bool.false_eq_true, true_iff, false_iff]); first | omega | (intro h; simp_all; done) | (simp_all; done) | (simp_all; omega) | trace_state)
end Go.Proofs.YtpmnepihaljamaaGreatDoor
end

/-
  What seg.Good and its reference answer, as contracts: whatever the signs.
-/
section
set_option linter.unusedSimpArgs false
namespace Go.Proofs.YtpmnepihaljamaaGreatDoor
open Go.RowKit

theorem u8_eq (a b : UInt8) : ((a.toNat : Int) == (b.toNat : Int)) = (a == b) := by
  rw [Bool.eq_iff_iff, beq_iff_eq, beq_iff_eq]
  constructor
  · intro h; exact UInt8.toNat_inj.1 (by omega)
  · intro h; rw [h]
theorem u8_ne (a b : UInt8) : ((a.toNat : Int) != (b.toNat : Int)) = (a != b) := by rw [bne, u8_eq]; rfl
set_option maxHeartbeats 2000000 in
theorem good_any (e p s : UInt8) (w : World) :
    Calls Tryz.prog 45 #[dv e p s] w fun x w' => x = .returned (.bool (goodB e p s)) ∧ Below w.heap.size w w' := by
  have hB : Hid (∀ o, Below w.heap.size w (w.alloc o)) := fun o => (Below.refl _ w).alloc (Nat.le_refl _) o
  by_cases h0 : e = p
  · have hv : goodB e p s = false := by simp [goodB, h0]
    have q0 : ((e.toNat : Int) == (p.toNat : Int)) = true := by rw [u8_eq]; simpa using h0
    clear h0
    have HV := Lib.hid hv
    clear hv
    go_enter Tryz.func45, Tryz.ntmps45
    go_wp2_with (go_at_call 80; refine (mayBe_any _ _).mono ?_; rintro e w' ⟨rfl, rfl⟩)
    go_ret
    exact ⟨by rw [HV.out]; rfl, hB.out _⟩
  have q0 : ((e.toNat : Int) == (p.toNat : Int)) = false := by rw [u8_eq]; simpa using h0
  by_cases h1 : e = s
  · have hv : goodB e p s = false := by simp [goodB, h1]
    have q1 : ((e.toNat : Int) == (s.toNat : Int)) = true := by rw [u8_eq]; simpa using h1
    clear h1
    have HV := Lib.hid hv
    clear hv
    go_enter Tryz.func45, Tryz.ntmps45
    go_wp2_with (go_at_call 80; refine (mayBe_any _ _).mono ?_; rintro e w' ⟨rfl, rfl⟩)
    go_ret
    exact ⟨by rw [HV.out]; rfl, hB.out _⟩
  have q1 : ((e.toNat : Int) == (s.toNat : Int)) = false := by rw [u8_eq]; simpa using h1
  by_cases h2 : p = s
  · have hv : goodB e p s = false := by simp [goodB, h2]
    have q2 : ((p.toNat : Int) == (s.toNat : Int)) = true := by rw [u8_eq]; simpa using h2
    clear h2
    have HV := Lib.hid hv
    clear hv
    go_enter Tryz.func45, Tryz.ntmps45
    go_wp2_with (go_at_call 80; refine (mayBe_any _ _).mono ?_; rintro e w' ⟨rfl, rfl⟩)
    go_ret
    exact ⟨by rw [HV.out]; rfl, hB.out _⟩
  have q2 : ((p.toNat : Int) == (s.toNat : Int)) = false := by rw [u8_eq]; simpa using h2
  cases b0 : signB e
  · have hv : goodB e p s = false := by simp [goodB, b0]
    clear h0 h1 h2
    have HV := Lib.hid hv
    clear hv
    go_enter Tryz.func45, Tryz.ntmps45
    go_wp2_with (go_at_call 80; refine (mayBe_any _ _).mono ?_; rintro e w' ⟨rfl, rfl⟩)
    go_ret
    exact ⟨by rw [HV.out]; rfl, hB.out _⟩
  cases b1 : signB p
  · have hv : goodB e p s = false := by simp [goodB, b1]
    clear h0 h1 h2
    have HV := Lib.hid hv
    clear hv
    go_enter Tryz.func45, Tryz.ntmps45
    go_wp2_with (go_at_call 80; refine (mayBe_any _ _).mono ?_; rintro e w' ⟨rfl, rfl⟩)
    go_ret
    exact ⟨by rw [HV.out]; rfl, hB.out _⟩
  cases b2 : signB s
  · have hv : goodB e p s = false := by simp [goodB, b2]
    clear h0 h1 h2
    have HV := Lib.hid hv
    clear hv
    go_enter Tryz.func45, Tryz.ntmps45
    go_wp2_with (go_at_call 80; refine (mayBe_any _ _).mono ?_; rintro e w' ⟨rfl, rfl⟩)
    go_ret
    exact ⟨by rw [HV.out]; rfl, hB.out _⟩
  have hv : goodB e p s = true := by simp [goodB, b0, b1, b2, h0, h1, h2, Ne.symm h0, Ne.symm h1, Ne.symm h2]
  clear h0 h1 h2
  have HV := Lib.hid hv
  clear hv
  go_enter Tryz.func45, Tryz.ntmps45
  go_wp2_with (go_at_call 80; refine (mayBe_any _ _).mono ?_; rintro e w' ⟨rfl, rfl⟩)
  go_ret
  exact ⟨by rw [HV.out]; rfl, hB.out _⟩
set_option maxHeartbeats 2000000 in
theorem rgood_any (e p s : UInt8) (w : World) :
    Calls Tryz.prog 17 #[dv e p s] w fun x w' => x = .returned (.bool (goodB e p s)) ∧ Below w.heap.size w w' := by
  have hB : Hid (∀ o, Below w.heap.size w (w.alloc o)) := fun o => (Below.refl _ w).alloc (Nat.le_refl _) o
  by_cases h0 : e = p
  · have hv : goodB e p s = false := by simp [goodB, h0]
    have q0 : ((e.toNat : Int) == (p.toNat : Int)) = true := by rw [u8_eq]; simpa using h0
    clear h0
    have HV := Lib.hid hv
    clear hv
    go_enter Tryz.func17, Tryz.ntmps17
    go_wp2_with (go_at_call 38; refine (rsign_any _ _).mono ?_; rintro e w' ⟨rfl, rfl⟩)
    go_ret
    exact ⟨by rw [HV.out]; rfl, hB.out _⟩
  have q0 : ((e.toNat : Int) == (p.toNat : Int)) = false := by rw [u8_eq]; simpa using h0
  by_cases h1 : p = s
  · have hv : goodB e p s = false := by simp [goodB, h1]
    have q1 : ((p.toNat : Int) == (s.toNat : Int)) = true := by rw [u8_eq]; simpa using h1
    clear h1
    have HV := Lib.hid hv
    clear hv
    go_enter Tryz.func17, Tryz.ntmps17
    go_wp2_with (go_at_call 38; refine (rsign_any _ _).mono ?_; rintro e w' ⟨rfl, rfl⟩)
    go_ret
    exact ⟨by rw [HV.out]; rfl, hB.out _⟩
  have q1 : ((p.toNat : Int) == (s.toNat : Int)) = false := by rw [u8_eq]; simpa using h1
  by_cases h2 : s = e
  · have hv : goodB e p s = false := by simp [goodB, h2]
    have q2 : ((s.toNat : Int) == (e.toNat : Int)) = true := by rw [u8_eq]; simpa using h2
    clear h2
    have HV := Lib.hid hv
    clear hv
    go_enter Tryz.func17, Tryz.ntmps17
    go_wp2_with (go_at_call 38; refine (rsign_any _ _).mono ?_; rintro e w' ⟨rfl, rfl⟩)
    go_ret
    exact ⟨by rw [HV.out]; rfl, hB.out _⟩
  have q2 : ((s.toNat : Int) == (e.toNat : Int)) = false := by rw [u8_eq]; simpa using h2
  cases b0 : signB e
  · have hv : goodB e p s = false := by simp [goodB, b0]
    clear h0 h1 h2
    have HV := Lib.hid hv
    clear hv
    go_enter Tryz.func17, Tryz.ntmps17
    go_wp2_with (go_at_call 38; refine (rsign_any _ _).mono ?_; rintro e w' ⟨rfl, rfl⟩)
    go_ret
    exact ⟨by rw [HV.out]; rfl, hB.out _⟩
  cases b1 : signB p
  · have hv : goodB e p s = false := by simp [goodB, b1]
    clear h0 h1 h2
    have HV := Lib.hid hv
    clear hv
    go_enter Tryz.func17, Tryz.ntmps17
    go_wp2_with (go_at_call 38; refine (rsign_any _ _).mono ?_; rintro e w' ⟨rfl, rfl⟩)
    go_ret
    exact ⟨by rw [HV.out]; rfl, hB.out _⟩
  cases b2 : signB s
  · have hv : goodB e p s = false := by simp [goodB, b2]
    clear h0 h1 h2
    have HV := Lib.hid hv
    clear hv
    go_enter Tryz.func17, Tryz.ntmps17
    go_wp2_with (go_at_call 38; refine (rsign_any _ _).mono ?_; rintro e w' ⟨rfl, rfl⟩)
    go_ret
    exact ⟨by rw [HV.out]; rfl, hB.out _⟩
  have hv : goodB e p s = true := by simp [goodB, b0, b1, b2, h0, h1, h2, Ne.symm h0, Ne.symm h1, Ne.symm h2]
  clear h0 h1 h2
  have HV := Lib.hid hv
  clear hv
  go_enter Tryz.func17, Tryz.ntmps17
  go_wp2_with (go_at_call 38; refine (rsign_any _ _).mono ?_; rintro e w' ⟨rfl, rfl⟩)
  go_ret
  exact ⟨by rw [HV.out]; rfl, hB.out _⟩
end Go.Proofs.YtpmnepihaljamaaGreatDoor
end

/-
  What seg.printable, seg.Plain and the reference's Plain answer, as contracts: for every text.
-/
section
set_option linter.unusedSimpArgs false
namespace Go.Proofs.YtpmnepihaljamaaGreatDoor
open Go.RowKit

theorem take_snoc (s : ByteArray) (k : Nat) (h : k < s.size) : s.data.toList.take (k + 1) = s.data.toList.take k ++ [s[k]] := by
  have h' : k < s.data.toList.length := by rw [← Lib.size_eq]; exact h
  rw [List.take_succ_eq_append_getElem h']
  rfl
theorem take_all (s : ByteArray) (k : Nat) (h : s.size ≤ k) : s.data.toList.take k = s.data.toList := List.take_of_length_le (by rw [← Lib.size_eq]; exact h)
theorem at_mem (s : ByteArray) (k : Nat) (h : k < s.size) : s[k] ∈ s.data.toList := by
  have : s.data.toList[k]'(by rw [← Lib.size_eq]; exact h) ∈ s.data.toList := List.getElem_mem _
  exact this
theorem prn_iff (c : UInt8) : prn c = true ↔ 32 ≤ c.toNat ∧ c.toNat ≤ 126 := by simp [prn]
theorem all_false {f : UInt8 → Bool} (s : ByteArray) (k : Nat) (h : k < s.size) (hf : f s[k] = false) : s.data.toList.all f = false := by
  cases e : s.data.toList.all f
  · rfl
  · have := List.all_eq_true.1 e _ (at_mem s k h)
    rw [hf] at this
    cases this
theorem all_snoc (f : UInt8 → Bool) (s : ByteArray) (k : Nat) (h : k < s.size) (ha : (s.data.toList.take k).all f = true) (hf : f s[k] = true) : (s.data.toList.take (k + 1)).all f = true := by
  rw [take_snoc s k h, List.all_append, ha]
  simp [hf]

set_option maxHeartbeats 800000 in
theorem print_any (s : ByteArray) (w : World) (hs : s.size ≤ maxLen) :
    Calls Tryz.prog 121 #[.string s] w fun e w' => e = .returned (.bool (printB s.data.toList)) ∧ w' = w := by
  unfold maxLen at hs
  go_enter Tryz.func121, Tryz.ntmps121
  go_wp2
  go_loop [6] (fun i => ∃ k : Nat, k ≤ s.size ∧ i = .int .i64 k ∧ Hid ((s.data.toList.take k).all prn = true)) (fun i => s.size - (intOf i).toNat)
  case atStart => exact ⟨0, Nat.zero_le _, rfl, rfl⟩
  case round =>
    obtain ⟨k, hk, rfl, HA⟩ := hrel
    by_cases hlt : k < s.size
    · have HF := Lib.hid (all_false (f := prn) s k hlt)
      have HT := Lib.hid (all_snoc prn s k hlt HA.out)
      by_cases h1 : (s[k].toNat : Int) < 32
      · have HP : Hid (prn s[k] = false) := by show prn s[k] = false; cases e : prn s[k]; rfl; have := (prn_iff _).1 e; omega
        go_wp2
        go_ret
        exact ⟨by show _ = Ending.returned (Value.bool (s.data.toList.all prn)); rw [HF.out HP.out]; rfl, rfl⟩
      · by_cases h2 : 126 < (s[k].toNat : Int)
        · have HP : Hid (prn s[k] = false) := by show prn s[k] = false; cases e : prn s[k]; rfl; have := (prn_iff _).1 e; omega
          go_wp2
          go_ret
          exact ⟨by show _ = Ending.returned (Value.bool (s.data.toList.all prn)); rw [HF.out HP.out]; rfl, rfl⟩
        · have HP : Hid (prn s[k] = true) := by show prn s[k] = true; rw [prn_iff]; omega
          go_wp2
          go_round
          case rel => exact ⟨k + 1, by omega, by go_num, HT.out HP.out⟩
          case measure => simp [intOf]; omega
    · go_wp2
      go_ret
      exact ⟨by show _ = Ending.returned (Value.bool (s.data.toList.all prn)); rw [← take_all s k (by omega), HA.out]; rfl, rfl⟩

/-- No byte is one of the signs. -/
def free1 (e p s c : UInt8) : Bool := c != e && c != p && c != s
theorem plain_split (e p s : UInt8) (l : Tx) : plainB e p s l = (l.all (free1 e p s) && printB l) := by
  unfold plainB printB
  rw [Bool.eq_iff_iff]
  simp only [Bool.and_eq_true, List.all_eq_true, plain1, free1]
  constructor
  · intro h; exact ⟨fun x hx => ⟨⟨(h x hx).1.1.2, (h x hx).1.2⟩, (h x hx).2⟩, fun x hx => (h x hx).1.1.1⟩
  · intro h x hx; exact ⟨⟨⟨h.2 x hx, (h.1 x hx).1.1⟩, (h.1 x hx).1.2⟩, (h.1 x hx).2⟩
theorem below_drewN {B : Nat} {a w : World} (h : Below B a w) (k : Nat) : Below B a (w.drewN k) := h.trans ⟨rfl, rfl, rfl, Nat.le_refl _, fun _ _ => rfl⟩

set_option maxHeartbeats 2000000 in
theorem plain_any (e p s : UInt8) (t : ByteArray) (w : World) (hs : t.size ≤ maxLen) :
    Calls Tryz.prog 116 #[dv e p s, .string t] w fun x w' => x = .returned (.bool (plainB e p s t.data.toList)) ∧ Below w.heap.size w w' := by
  have hmax := hs
  unfold maxLen at hs
  have HM := Lib.hid hmax
  clear hmax
  go_enter Tryz.func116, Tryz.ntmps116
  go_wp2
  go_loopg [8] (t.size) (fun g i wr => ∃ (k q : Nat), k ≤ t.size ∧ g = t.size - k ∧ i = .int .i64 k ∧ wr = (w.alloc (.cells #[.int .u8 e.toNat, .int .u8 p.toNat, .int .u8 s.toNat] 23)).drewN q ∧ Hid ((t.data.toList.take k).all (free1 e p s) = true))
  case atStart => exact ⟨0, 0, Nat.zero_le _, rfl, rfl, rfl, rfl⟩
  case round =>
    obtain ⟨k, q, hk, hg, rfl, rfl, HA⟩ := hrel
    by_cases hlt : k < t.size
    · have HF := Lib.hid (all_false (f := free1 e p s) t k hlt)
      have HT := Lib.hid (all_snoc (free1 e p s) t k hlt HA.out)
      have HV := Lib.hid (plain_split e p s t.data.toList)
      cases q1 : (t[k] == e)
      case true =>
        have c1 : ((t[k].toNat : Int) == (e.toNat : Int)) = true := by rw [u8_eq]; exact q1
        have HP : Hid (free1 e p s t[k] = false) := by show free1 e p s t[k] = false; simp [free1, bne, q1]
        clear q1
        go_wp2_with fail
        go_quiet (fail)
        go_wp2
        go_ret
        exact ⟨by rw [HV.out, HF.out HP.out]; rfl, below_drewN (below_drewN ((Below.refl _ w).alloc (Nat.le_refl _) _) _) _⟩
      have c1 : ((t[k].toNat : Int) == (e.toNat : Int)) = false := by rw [u8_eq]; exact q1
      cases q2 : (t[k] == p)
      case true =>
        have c2 : ((t[k].toNat : Int) == (p.toNat : Int)) = true := by rw [u8_eq]; exact q2
        have HP : Hid (free1 e p s t[k] = false) := by show free1 e p s t[k] = false; simp [free1, bne, q1, q2]
        clear q1 q2
        go_wp2_with fail
        go_quiet (fail)
        go_wp2
        go_ret
        exact ⟨by rw [HV.out, HF.out HP.out]; rfl, below_drewN (below_drewN ((Below.refl _ w).alloc (Nat.le_refl _) _) _) _⟩
      have c2 : ((t[k].toNat : Int) == (p.toNat : Int)) = false := by rw [u8_eq]; exact q2
      cases q3 : (t[k] == s)
      case true =>
        have c3 : ((t[k].toNat : Int) == (s.toNat : Int)) = true := by rw [u8_eq]; exact q3
        have HP : Hid (free1 e p s t[k] = false) := by show free1 e p s t[k] = false; simp [free1, bne, q1, q2, q3]
        clear q1 q2 q3
        go_wp2_with fail
        go_quiet (fail)
        go_wp2
        go_ret
        exact ⟨by rw [HV.out, HF.out HP.out]; rfl, below_drewN (below_drewN ((Below.refl _ w).alloc (Nat.le_refl _) _) _) _⟩
      have c3 : ((t[k].toNat : Int) == (s.toNat : Int)) = false := by rw [u8_eq]; exact q3
      have HP : Hid (free1 e p s t[k] = true) := by show free1 e p s t[k] = true; simp [free1, bne, q1, q2, q3]
      clear q1 q2 q3
      go_wp2_with fail
      go_quiet (fail)
      go_wp2
      go_roundg (t.size - (k + 1))
      case rel => exact ⟨k + 1, _, by omega, rfl, by go_num, rfl, HT.out HP.out⟩
      case measure => omega
    · have HV := Lib.hid (plain_split e p s t.data.toList)
      go_wp2_with (go_at_call 121; refine (print_any _ _ HM.out).mono ?_; rintro e w' ⟨rfl, rfl⟩)
      go_ret
      exact ⟨by rw [HV.out, ← take_all t k (by omega), HA.out, take_all t k (by omega)]; rfl, below_drewN ((Below.refl _ w).alloc (Nat.le_refl _) _) _⟩

theorem plain1_of (e p s c : UInt8) : plain1 e p s c = (prn c && !(c == e) && !(c == p) && !(c == s)) := rfl
set_option maxHeartbeats 2000000 in
theorem rplain_any (e p s : UInt8) (t : ByteArray) (w : World) (hs : t.size ≤ maxLen) :
    Calls Tryz.prog 119 #[dv e p s, .string t] w fun x w' => x = .returned (.bool (plainB e p s t.data.toList)) ∧ Below w.heap.size w w' := by
  unfold maxLen at hs
  have HB : Hid (∀ o, Below w.heap.size w (w.alloc o)) := fun o => (Below.refl _ w).alloc (Nat.le_refl _) o
  go_enter Tryz.func119, Tryz.ntmps119
  go_wp2
  go_loop [5] (fun i => ∃ k : Nat, k ≤ t.size ∧ i = .int .i64 k ∧ Hid ((t.data.toList.take k).all (plain1 e p s) = true)) (fun i => t.size - (intOf i).toNat)
  case atStart => exact ⟨0, Nat.zero_le _, rfl, rfl⟩
  case round =>
    obtain ⟨k, hk, rfl, HA⟩ := hrel
    by_cases hlt : k < t.size
    · have HF := Lib.hid (all_false (f := plain1 e p s) t k hlt)
      have HT := Lib.hid (all_snoc (plain1 e p s) t k hlt HA.out)
      have HP := Lib.hid (plain1_of e p s t[k])
      have e1 := u8_eq t[k] e
      have e2 := u8_eq t[k] p
      have e3 := u8_eq t[k] s
      have hpn := prn_iff t[k]
      generalize (t[k] == e) = b1 at e1 HP
      generalize (t[k] == p) = b2 at e2 HP
      generalize (t[k] == s) = b3 at e3 HP
      generalize prn t[k] = b0 at hpn HP
      by_cases h1 : (t[k].toNat : Int) < 32
      · have h0 : b0 = false := by cases b0; rfl; have := hpn.1 rfl; omega
        subst h0
        clear hpn e1 e2 e3
        go_wp2
        go_ret
        exact ⟨by show _ = Ending.returned (Value.bool (t.data.toList.all (plain1 e p s))); rw [HF.out (by rw [HP.out]; simp)]; rfl, HB.out _⟩
      by_cases h2 : 126 < (t[k].toNat : Int)
      · have h0 : b0 = false := by cases b0; rfl; have := hpn.1 rfl; omega
        subst h0
        clear hpn e1 e2 e3
        go_wp2
        go_ret
        exact ⟨by show _ = Ending.returned (Value.bool (t.data.toList.all (plain1 e p s))); rw [HF.out (by rw [HP.out]; simp)]; rfl, HB.out _⟩
      have h0 : b0 = true := hpn.2 (by omega)
      subst h0
      clear hpn
      cases b1
      case true =>
        go_wp2
        go_ret
        exact ⟨by show _ = Ending.returned (Value.bool (t.data.toList.all (plain1 e p s))); rw [HF.out (by rw [HP.out]; simp)]; rfl, HB.out _⟩
      cases b2
      case true =>
        go_wp2
        go_ret
        exact ⟨by show _ = Ending.returned (Value.bool (t.data.toList.all (plain1 e p s))); rw [HF.out (by rw [HP.out]; simp)]; rfl, HB.out _⟩
      cases b3
      case true =>
        go_wp2
        go_ret
        exact ⟨by show _ = Ending.returned (Value.bool (t.data.toList.all (plain1 e p s))); rw [HF.out (by rw [HP.out]; simp)]; rfl, HB.out _⟩
      go_wp2
      go_round
      case rel => exact ⟨k + 1, by omega, by go_num, HT.out (by rw [HP.out]; rfl)⟩
      case measure => simp [intOf]; omega
    · go_wp2
      go_ret
      exact ⟨by show _ = Ending.returned (Value.bool (t.data.toList.all (plain1 e p s))); rw [← take_all t k (by omega), HA.out]; rfl, HB.out _⟩
end Go.Proofs.YtpmnepihaljamaaGreatDoor
end
