/-
  Texts put together (merge.py): BLight, LSameLn, LSame, LRSame.
-/
import Derived.Test.YtjgceppbhmmbjaaDoorMb20
import Derived.Test.YtjgceppbhmmbjaaDoorMb22
import Derived.Test.YtjgceppbhmmbjaaDoorMb10
import Derived.Test.YtjgceppbhmmbjaaDoorMb8
/-
  What layer 18's light answers, and what its Made leaves, as contracts.
-/
section
set_option linter.unusedSimpArgs false
set_option linter.unusedVariables false
set_option maxRecDepth 100000
namespace Go.Proofs.YtjgceppbhmmbjaaDoor.Bk
open Go.RowKit
open Cm (Ln Cl cl0 LnsAt ClsAt ClCells lnv clv LnOk ClOk ClLight boxc)
open Sh (Ot)

/-- What is not too much. -/
def LtP (l : List En) (c : Cl) : Prop := ((l.length : Int) ≤ 300 ∧ ∀ x ∈ l, EnLight 300 x) ∧ ClLight c
def LtV (l : List En) (c : Cl) (e : Ending) : Prop := ∃ b : Bool, e = .returned (.bool b) ∧ (b = true → LtP l c)
theorem box_cls {w : World} {g : Nat} {c : Cl} {m : Value} (h : w.heap[g]? = some (.cells #[.string (mk c.id), .string (mk c.mem), .string (mk c.fam), .int .i64 c.net, .int .i64 c.does, .string (mk c.ref), m] 25 (0, 0))) (hl : LnsAt All w m c.lines) : ClsAt All w (.slice (some ⟨g, 0, none⟩) 1 1) [c] := cls_one h hl
set_option maxHeartbeats 4000000 in
theorem light_any (l : List En) (c : Cl) (v m : Value) (w : World) (h : EnsAt All w v l) (hm : LnsAt All w m c.lines) (hz : ∀ x ∈ l, EnOk x) (hc : ClOk c) :
    Calls Tryd.prog 9 #[v, clv c m] w fun e w' => LtV l c e ∧ Below w.heap.size w w' := by
  obtain ⟨fa, fk, rfl, -, -⟩ := h.form
  obtain ⟨ma, mc, rfl, -, -⟩ := Cm.LnsAt.form hm
  have HB0 := Lib.hid (below_alloc w (boxc c (.slice ma c.lines.length mc)))
  have HW := Lib.hid fun W (hb : Below w.heap.size w W) => bweight_any 300 (by decide) (by decide) l (.slice fa l.length fk) W (h.grw hb) hz
  have HC := Lib.hid fun W g (hb : Below w.heap.size w W) (hg : W.heap[g]? = some (.cells #[.string (mk c.id), .string (mk c.mem), .string (mk c.fam), .int .i64 c.net, .int .i64 c.does, .string (mk c.ref), .slice ma c.lines.length mc] 25 (0, 0))) => Cm.weight2_any 100 (by decide) (by decide) (.slice (some ⟨g, 0, none⟩) 1 1) [c] W (cls_one hg (LnsAt.move hm (Below.moves hb))) (by intro x hx; simp at hx; rw [hx]; exact hc)
  have HX := Lib.hid (alloc_new w #[.string (mk c.id), .string (mk c.mem), .string (mk c.fam), .int .i64 c.net, .int .i64 c.does, .string (mk c.ref), .slice ma c.lines.length mc] 25)
  clear h hm hz hc
  go_enter Tryd.func9, Tryd.ntmps9
  go_wp2_with fail
  try (go_at_call 24)
  refine (HW.out _ HB0.out).mono ?_
  rintro e w1 ⟨⟨n1, rfl, hn1⟩, hb1⟩
  have HB1 := Lib.hid (below_trans HB0.out hb1)
  have HX1 := Lib.hid (keepB HX.out hb1)
  have HN1 := Lib.hid hn1
  clear hb1 hn1 HX HB0 HW
  obtain ⟨c0, c1, c2, c3, c4, c5, c6⟩ : w1.cell? ⟨w.heap.size, 0, none⟩ = some (.string (mk c.id)) ∧ w1.cell? ⟨w.heap.size, 1, none⟩ = some (.string (mk c.mem)) ∧ w1.cell? ⟨w.heap.size, 2, none⟩ = some (.string (mk c.fam)) ∧ w1.cell? ⟨w.heap.size, 3, none⟩ = some (.int .i64 c.net) ∧ w1.cell? ⟨w.heap.size, 4, none⟩ = some (.int .i64 c.does) ∧ w1.cell? ⟨w.heap.size, 5, none⟩ = some (.string (mk c.ref)) ∧ w1.cell? ⟨w.heap.size, 6, none⟩ = some (.slice ma c.lines.length mc) := by
    refine ⟨?_, ?_, ?_, ?_, ?_, ?_, ?_⟩ <;> rw [cell_of_row w1 w.heap.size _ _ _ (0, 0) HX1.out] <;> rfl
  by_cases g1 : n1 ≤ 300
  case neg =>
    have d1 : decide (n1 ≤ 300) = false := decide_eq_false g1
    clear HN1 HC
    go_wp2
    go_ret
    exact ⟨⟨false, rfl, fun h => by cases h⟩, HB1.out⟩
  have d1 : decide (n1 ≤ 300) = true := decide_eq_true g1
  have HL := Lib.hid (HN1.out g1)
  clear HN1
  go_wp2_with fail
  try (go_at_call 20)
  refine (HC.out _ _ (below_trans HB1.out (below_alloc _ _)) (alloc_new _ _ _)).mono ?_
  rintro e w2 ⟨⟨n2, rfl, hn2, -⟩, hb2⟩
  have HB2 := Lib.hid (below_trans (below_trans HB1.out (below_alloc _ _)) hb2)
  have HN2 : Hid (n2 ≤ 100 → ClLight c) := fun q => hn2 q c (List.mem_singleton.2 rfl)
  clear hb2 hn2 HC HX1
  by_cases g2 : n2 ≤ 100
  · have d2 : decide (n2 ≤ 100) = true := decide_eq_true g2
    have HL2 := Lib.hid (HN2.out g2)
    clear HN2
    go_wp2
    go_ret
    exact ⟨⟨true, rfl, fun _ => ⟨HL.out, HL2.out⟩⟩, HB2.out⟩
  · have d2 : decide (n2 ≤ 100) = false := decide_eq_false g2
    clear HN2
    go_wp2
    go_ret
    exact ⟨⟨false, rfl, fun h => by cases h⟩, HB2.out⟩
end Go.Proofs.YtjgceppbhmmbjaaDoor.Bk
end

/-
  What claim.sameLine and the reference's SameLine answer, as contracts: whether two services are the same.
-/
section
set_option linter.unusedSimpArgs false
namespace Go.Proofs.YtjgceppbhmmbjaaDoor.Cm
open Go.RowKit
open Classical

abbrev boxl (x : Ln) (m : Value) : Obj := .cells #[.string (mk x.proc), m, .int .i64 x.date, .int .i64 x.units, .int .i64 x.billed, .int .i64 x.prior] 58
theorem ln_ne (x y : Ln) (h : decide (x.proc = y.proc) = false ∨ decide (x.mods = y.mods) = false ∨ decide (x.date = y.date) = false ∨ decide (x.units = y.units) = false ∨ decide (x.billed = y.billed) = false ∨ decide (x.prior = y.prior) = false) : decide (x = y) = false := by
  rw [decide_eq_false_iff_not]
  rintro rfl
  simp at h
theorem ln_same (x y : Ln) (h1 : decide (x.proc = y.proc) = true) (h3 : decide (x.date = y.date) = true) (h4 : decide (x.units = y.units) = true) (h5 : decide (x.billed = y.billed) = true) (h6 : decide (x.prior = y.prior) = true) (h2 : decide (x.mods = y.mods) = true) : decide (x = y) = true := by
  rw [decide_eq_true_eq] at *
  obtain ⟨p, m, d, u, b, r⟩ := x
  obtain ⟨p', m', d', u', b', r'⟩ := y
  simp at h1 h2 h3 h4 h5 h6
  simp [h1, h2, h3, h4, h5, h6]

set_option maxHeartbeats 4000000 in
theorem rsameLine_any (x y : Ln) (m m' : Value) (w : World) (hm : TxAt All w m x.mods) (hm' : TxAt All w m' y.mods) :
    Calls Tryd.prog 34 #[lnv x m, lnv y m'] w fun e w' => e = .returned (.bool (decide (x = y))) ∧ Below w.heap.size w w' := by
  have HG : Hid (∀ o1 o2, Below w.heap.size w ((w.alloc o1).alloc o2)) := fun o1 o2 => below_trans (below_alloc w o1) (below_alloc _ o2)
  have HE := Lib.hid fun o1 o2 => texts_b m m' x.mods y.mods ((w.alloc o1).alloc o2) (TxAt.move hm (Below.moves (HG.out o1 o2))) (TxAt.move hm' (Below.moves (HG.out o1 o2)))
  have HX : Hid (∀ w1, Below ((w.alloc (boxl x m)).alloc (boxl y m')).heap.size ((w.alloc (boxl x m)).alloc (boxl y m')) w1 → LnBox w1 w.heap.size x m ∧ LnBox w1 (w.heap.size + 1) y m') := fun w1 hb => by
    refine ⟨(LnBox.new w x m _).grw (below_trans (below_alloc _ _) hb), ?_⟩
    have := (LnBox.new (w.alloc (boxl x m)) y m' 58).grw hb
    rwa [show (w.alloc (boxl x m)).heap.size = w.heap.size + 1 from by simp] at this
  obtain ⟨a, c, rfl, -, -⟩ := TxAt.form hm
  obtain ⟨a', c', rfl, -, -⟩ := TxAt.form hm'
  clear hm hm'
  have e_proc := mk_ne x.proc y.proc
  have e_date : (x.date == y.date) = decide (x.date = y.date) := by rw [Bool.eq_iff_iff]; simp
  have n_date : (x.date != y.date) = !decide (x.date = y.date) := by rw [Bool.eq_iff_iff]; simp
  have e_units : (x.units == y.units) = decide (x.units = y.units) := by rw [Bool.eq_iff_iff]; simp
  have n_units : (x.units != y.units) = !decide (x.units = y.units) := by rw [Bool.eq_iff_iff]; simp
  have e_billed : (x.billed == y.billed) = decide (x.billed = y.billed) := by rw [Bool.eq_iff_iff]; simp
  have n_billed : (x.billed != y.billed) = !decide (x.billed = y.billed) := by rw [Bool.eq_iff_iff]; simp
  have e_prior : (x.prior == y.prior) = decide (x.prior = y.prior) := by rw [Bool.eq_iff_iff]; simp
  have n_prior : (x.prior != y.prior) = !decide (x.prior = y.prior) := by rw [Bool.eq_iff_iff]; simp
  cases h_proc : decide (x.proc = y.proc)
  · rw [h_proc] at e_proc
    have hF : decide (x = y) = false := ln_ne x y (by simp [h_proc])
    rw [hF]
    clear hF
    clear e_date e_units e_billed e_prior n_date n_units n_billed n_prior h_proc
    go_enter Tryd.func34, Tryd.ntmps34
    go_wp2
    go_ret
    exact ⟨rfl, HG.out _ _⟩
  rw [h_proc] at e_proc
  cases h_mods : decide (x.mods = y.mods)
  · rw [h_mods] at HE
    have hF : decide (x = y) = false := ln_ne x y (by simp [h_mods])
    rw [hF]
    clear hF
    clear e_date e_units e_billed e_prior n_date n_units n_billed n_prior h_proc h_mods
    go_enter Tryd.func34, Tryd.ntmps34
    go_wp2_with (first | (go_at_call 44; refine (HE.out _ _).mono ?_; rintro e w' ⟨rfl, hb⟩; have HB2 := Lib.hid (below_trans (HG.out _ _) hb); obtain ⟨⟨p0, p1, p2, p3, p4, p5⟩, r0, r1, r2, r3, r4, r5⟩ := HX.out _ hb; clear hb))
    go_ret
    exact ⟨rfl, HB2.out⟩
  rw [h_mods] at HE
  cases h_date : decide (x.date = y.date)
  · rw [h_date] at e_date n_date
    have hF : decide (x = y) = false := ln_ne x y (by simp [h_date])
    rw [hF]
    clear hF
    clear e_units e_billed e_prior n_units n_billed n_prior h_proc h_mods h_date
    go_enter Tryd.func34, Tryd.ntmps34
    go_wp2_with (first | (go_at_call 44; refine (HE.out _ _).mono ?_; rintro e w' ⟨rfl, hb⟩; have HB2 := Lib.hid (below_trans (HG.out _ _) hb); obtain ⟨⟨p0, p1, p2, p3, p4, p5⟩, r0, r1, r2, r3, r4, r5⟩ := HX.out _ hb; clear hb))
    go_ret
    exact ⟨rfl, HB2.out⟩
  rw [h_date] at e_date n_date
  cases h_units : decide (x.units = y.units)
  · rw [h_units] at e_units n_units
    have hF : decide (x = y) = false := ln_ne x y (by simp [h_units])
    rw [hF]
    clear hF
    clear e_billed e_prior n_billed n_prior h_proc h_mods h_date h_units
    go_enter Tryd.func34, Tryd.ntmps34
    go_wp2_with (first | (go_at_call 44; refine (HE.out _ _).mono ?_; rintro e w' ⟨rfl, hb⟩; have HB2 := Lib.hid (below_trans (HG.out _ _) hb); obtain ⟨⟨p0, p1, p2, p3, p4, p5⟩, r0, r1, r2, r3, r4, r5⟩ := HX.out _ hb; clear hb))
    go_ret
    exact ⟨rfl, HB2.out⟩
  rw [h_units] at e_units n_units
  cases h_billed : decide (x.billed = y.billed)
  · rw [h_billed] at e_billed n_billed
    have hF : decide (x = y) = false := ln_ne x y (by simp [h_billed])
    rw [hF]
    clear hF
    clear e_prior n_prior h_proc h_mods h_date h_units h_billed
    go_enter Tryd.func34, Tryd.ntmps34
    go_wp2_with (first | (go_at_call 44; refine (HE.out _ _).mono ?_; rintro e w' ⟨rfl, hb⟩; have HB2 := Lib.hid (below_trans (HG.out _ _) hb); obtain ⟨⟨p0, p1, p2, p3, p4, p5⟩, r0, r1, r2, r3, r4, r5⟩ := HX.out _ hb; clear hb))
    go_ret
    exact ⟨rfl, HB2.out⟩
  rw [h_billed] at e_billed n_billed
  cases h_prior : decide (x.prior = y.prior)
  · rw [h_prior] at e_prior n_prior
    have hF : decide (x = y) = false := ln_ne x y (by simp [h_prior])
    rw [hF]
    clear hF
    clear h_proc h_mods h_date h_units h_billed h_prior
    go_enter Tryd.func34, Tryd.ntmps34
    go_wp2_with (first | (go_at_call 44; refine (HE.out _ _).mono ?_; rintro e w' ⟨rfl, hb⟩; have HB2 := Lib.hid (below_trans (HG.out _ _) hb); obtain ⟨⟨p0, p1, p2, p3, p4, p5⟩, r0, r1, r2, r3, r4, r5⟩ := HX.out _ hb; clear hb))
    go_ret
    exact ⟨rfl, HB2.out⟩
  rw [h_prior] at e_prior n_prior
  have hF : decide (x = y) = true := ln_same x y h_proc h_date h_units h_billed h_prior h_mods
  rw [hF]
  clear hF h_proc h_mods h_date h_units h_billed h_prior
  go_enter Tryd.func34, Tryd.ntmps34
  go_wp2_with (first | (go_at_call 44; refine (HE.out _ _).mono ?_; rintro e w' ⟨rfl, hb⟩; have HB2 := Lib.hid (below_trans (HG.out _ _) hb); obtain ⟨⟨p0, p1, p2, p3, p4, p5⟩, r0, r1, r2, r3, r4, r5⟩ := HX.out _ hb; clear hb))
  go_ret
  exact ⟨rfl, HB2.out⟩
end Go.Proofs.YtjgceppbhmmbjaaDoor.Cm
end

/-
  What slices.EqualFunc (at services, with sameLine) and claim.Same answer, as contracts: whether two claims are the same.
-/
section
set_option linter.unusedSimpArgs false
namespace Go.Proofs.YtjgceppbhmmbjaaDoor.Cm
open Go.RowKit
open Classical

theorem cl_ne (x y : Cl) (h : decide (x.id = y.id) = false ∨ decide (x.mem = y.mem) = false ∨ decide (x.fam = y.fam) = false ∨ decide (x.net = y.net) = false ∨ decide (x.does = y.does) = false ∨ decide (x.ref = y.ref) = false ∨ decide (x.lines = y.lines) = false) : decide (x = y) = false := by
  rw [decide_eq_false_iff_not]
  rintro rfl
  simp at h
theorem cl_same (x y : Cl) (h1 : decide (x.id = y.id) = true) (h2 : decide (x.mem = y.mem) = true) (h3 : decide (x.fam = y.fam) = true) (h4 : decide (x.net = y.net) = true) (h5 : decide (x.does = y.does) = true) (h6 : decide (x.ref = y.ref) = true) (h7 : decide (x.lines = y.lines) = true) : decide (x = y) = true := by
  rw [decide_eq_true_eq] at *
  obtain ⟨a, b, c, d, e, f, g⟩ := x
  obtain ⟨a', b', c', d', e', f', g'⟩ := y
  simp at h1 h2 h3 h4 h5 h6 h7
  simp [h1, h2, h3, h4, h5, h6, h7]
theorem LnCells.alloc {w : World} {b o : Nat} {x : Ln} {m : Value} (h : LnCells w b o x m) (ob : Obj) : LnCells (w.alloc ob) b o x m := h.of (Below.heap_alloc w ob b (World.block_lt_of_cell? w _ h.1))

end Go.Proofs.YtjgceppbhmmbjaaDoor.Cm
end

/-
  What the reference's Same answers, as a contract: whether two claims are the same.
-/
section
set_option linter.unusedSimpArgs false
namespace Go.Proofs.YtjgceppbhmmbjaaDoor.Cm
open Go.RowKit
open Classical

theorem below_drewN (w : World) (q : Nat) : Below w.heap.size w (w.drewN q) := below_drewq ⟨q, rfl⟩

set_option maxHeartbeats 4000000 in
theorem rsame_any (x y : Cl) (m m' : Value) (w : World) (hm : LnsAt All w m x.lines) (hm' : LnsAt All w m' y.lines) :
    Calls Tryd.prog 23 #[clv x m, clv y m'] w fun e w' => e = .returned (.bool (decide (x = y))) ∧ Below w.heap.size w w' := by
  have HG : Hid (∀ o1 o2, Below w.heap.size w ((w.alloc o1).alloc o2)) := fun o1 o2 => below_trans (below_alloc w o1) (below_alloc _ o2)
  have HW := Lib.hid hm
  have HW' := Lib.hid hm'
  have HX : Hid (∀ w1, Below ((w.alloc (boxc x m)).alloc (boxc y m')).heap.size ((w.alloc (boxc x m)).alloc (boxc y m')) w1 → (w1.cell? ⟨w.heap.size, 6, none⟩ = some m ∧ w1.cell? ⟨w.heap.size + 1, 6, none⟩ = some m') ∧ Below w.heap.size w w1) := fun w1 hb => by
    have h1 := (ClBox.new w x m 25).grw (below_trans (below_alloc (w.alloc (boxc x m)) (boxc y m')) hb)
    have h2 := (ClBox.new (w.alloc (boxc x m)) y m' 25).grw hb
    rw [show (w.alloc (boxc x m)).heap.size = w.heap.size + 1 from by simp] at h2
    exact ⟨⟨h1.2.2.2.2.2.2, h2.2.2.2.2.2.2⟩, below_trans (HG.out _ _) hb⟩
  obtain ⟨a, c, rfl, f1, f2⟩ := LnsAt.form hm
  obtain ⟨a', c', rfl, f1', f2'⟩ := LnsAt.form hm'
  clear hm hm'
  have e_id := mk_ne x.id y.id
  have e_mem := mk_ne x.mem y.mem
  have e_fam := mk_ne x.fam y.fam
  have e_net : (x.net == y.net) = decide (x.net = y.net) := by rw [Bool.eq_iff_iff]; simp
  have n_net : (x.net != y.net) = !decide (x.net = y.net) := by rw [Bool.eq_iff_iff]; simp
  have e_does : (x.does == y.does) = decide (x.does = y.does) := by rw [Bool.eq_iff_iff]; simp
  have n_does : (x.does != y.does) = !decide (x.does = y.does) := by rw [Bool.eq_iff_iff]; simp
  have e_ref := mk_ne x.ref y.ref
  cases h_id : decide (x.id = y.id)
  · rw [h_id] at e_id
    have hF : decide (x = y) = false := cl_ne x y (by simp [h_id])
    rw [hF]
    clear hF e_mem e_fam e_net e_does e_ref n_net n_does h_id
    go_enter Tryd.func23, Tryd.ntmps23
    go_wp2
    go_ret
    exact ⟨rfl, HG.out _ _⟩
  rw [h_id] at e_id
  cases h_mem : decide (x.mem = y.mem)
  · rw [h_mem] at e_mem
    have hF : decide (x = y) = false := cl_ne x y (by simp [h_mem])
    rw [hF]
    clear hF e_fam e_net e_does e_ref n_net n_does h_id h_mem
    go_enter Tryd.func23, Tryd.ntmps23
    go_wp2
    go_ret
    exact ⟨rfl, HG.out _ _⟩
  rw [h_mem] at e_mem
  cases h_fam : decide (x.fam = y.fam)
  · rw [h_fam] at e_fam
    have hF : decide (x = y) = false := cl_ne x y (by simp [h_fam])
    rw [hF]
    clear hF e_net e_does e_ref n_net n_does h_id h_mem h_fam
    go_enter Tryd.func23, Tryd.ntmps23
    go_wp2
    go_ret
    exact ⟨rfl, HG.out _ _⟩
  rw [h_fam] at e_fam
  cases h_net : decide (x.net = y.net)
  · rw [h_net] at e_net n_net
    have hF : decide (x = y) = false := cl_ne x y (by simp [h_net])
    rw [hF]
    clear hF e_does e_ref n_does h_id h_mem h_fam h_net
    go_enter Tryd.func23, Tryd.ntmps23
    go_wp2
    go_ret
    exact ⟨rfl, HG.out _ _⟩
  rw [h_net] at e_net n_net
  cases h_does : decide (x.does = y.does)
  · rw [h_does] at e_does n_does
    have hF : decide (x = y) = false := cl_ne x y (by simp [h_does])
    rw [hF]
    clear hF e_ref h_id h_mem h_fam h_net h_does
    go_enter Tryd.func23, Tryd.ntmps23
    go_wp2
    go_ret
    exact ⟨rfl, HG.out _ _⟩
  rw [h_does] at e_does n_does
  cases h_ref : decide (x.ref = y.ref)
  · rw [h_ref] at e_ref
    have hF : decide (x = y) = false := cl_ne x y (by simp [h_ref])
    rw [hF]
    clear hF h_id h_mem h_fam h_net h_does h_ref
    go_enter Tryd.func23, Tryd.ntmps23
    go_wp2
    go_ret
    exact ⟨rfl, HG.out _ _⟩
  rw [h_ref] at e_ref
  have HS : Hid (decide (x.lines = y.lines) = true → decide (x = y) = true) := fun h7 => cl_same x y h_id h_mem h_fam h_net h_does h_ref h7
  have HF : Hid (decide (x.lines = y.lines) = false → decide (x = y) = false) := fun h7 => cl_ne x y (by simp [h7])
  clear h_id h_mem h_fam h_net h_does h_ref
  generalize decide (x = y) = R at *
  by_cases hl : x.lines.length = y.lines.length
  case neg =>
    have hlb : ((x.lines.length : Int) != (y.lines.length : Int)) = true := by simp; omega
    rw [HF.out (lens_ne _ _ hl)]
    clear hl
    go_enter Tryd.func23, Tryd.ntmps23
    go_wp2
    go_ret
    exact ⟨rfl, HG.out _ _⟩
  have hlb : ((x.lines.length : Int) != (y.lines.length : Int)) = false := by rw [hl]; simp
  have HL := Lib.hid hl
  have hl2 : x.lines.length ≤ y.lines.length := by omega
  clear hl
  go_enter Tryd.func23, Tryd.ntmps23
  go_wp2
  go_loopg [5] (x.lines.length) (fun gg i wr => ∃ k : Nat, k ≤ x.lines.length ∧ gg = x.lines.length - k ∧ i = .int .i64 k ∧ Hid (x.lines.take k = y.lines.take k) ∧ Hid (Below ((w.alloc (boxc x (.slice a x.lines.length c))).alloc (boxc y (.slice a' y.lines.length c'))).heap.size ((w.alloc (boxc x (.slice a x.lines.length c))).alloc (boxc y (.slice a' y.lines.length c'))) wr))
  case atStart => exact ⟨0, Nat.zero_le _, rfl, rfl, rfl, Below.refl _ _⟩
  case round =>
    obtain ⟨k, hk, hg, rfl, HA, HB⟩ := hrel
    obtain ⟨⟨x6, y6⟩, hbw⟩ := HX.out _ HB.out
    have HBW := Lib.hid hbw
    by_cases hlt : k < x.lines.length
    · obtain ⟨b, o, m, rfl, hx, hc, hr⟩ := LnsAt.get (LnsAt.move HW.out (Below.moves hbw)) k hlt
      have hlt' : k < y.lines.length := by omega
      obtain ⟨b', o', m', rfl, hx', hc', hr'⟩ := LnsAt.get (LnsAt.move HW'.out (Below.moves hbw)) k hlt'
      have HC := Lib.hid fun w1 (hb : Below wr.heap.size wr w1) => rsameLine_any x.lines[k] y.lines[k] m m' w1 (TxAt.move hr (Below.moves hb)) (TxAt.move hr' (Below.moves hb))
      have HQ := Lib.hid (takes_eq x.lines y.lines k _ _ hx hx' HA.out)
      have HN := Lib.hid (takes_ne x.lines y.lines k _ _ hx hx')
      obtain ⟨au, cu, rfl, -, -⟩ := TxAt.form hr
      obtain ⟨au', cu', rfl, -, -⟩ := TxAt.form hr'
      clear hx hx' hr hr' hbw
      have HSX : Hid (∀ w', Below wr.heap.size wr w' → w'.cell? ⟨w.heap.size, 6, none⟩ = some (.slice (some ⟨b, o, none⟩) x.lines.length c) ∧ w'.cell? ⟨w.heap.size + 1, 6, none⟩ = some (.slice (some ⟨b', o', none⟩) y.lines.length c') ∧ w'.cell? ⟨b, o + k * 6, none⟩ = some (.string (mk x.lines[k].proc)) ∧ w'.cell? ⟨b, o + k * 6 + 1, none⟩ = some (.slice au x.lines[k].mods.length cu) ∧ w'.cell? ⟨b, o + k * 6 + 2, none⟩ = some (.int .i64 x.lines[k].date) ∧ w'.cell? ⟨b, o + k * 6 + 3, none⟩ = some (.int .i64 x.lines[k].units) ∧ w'.cell? ⟨b, o + k * 6 + 4, none⟩ = some (.int .i64 x.lines[k].billed) ∧ w'.cell? ⟨b, o + k * 6 + 5, none⟩ = some (.int .i64 x.lines[k].prior) ∧ w'.cell? ⟨b', o' + k * 6, none⟩ = some (.string (mk y.lines[k].proc)) ∧ w'.cell? ⟨b', o' + k * 6 + 1, none⟩ = some (.slice au' y.lines[k].mods.length cu') ∧ w'.cell? ⟨b', o' + k * 6 + 2, none⟩ = some (.int .i64 y.lines[k].date) ∧ w'.cell? ⟨b', o' + k * 6 + 3, none⟩ = some (.int .i64 y.lines[k].units) ∧ w'.cell? ⟨b', o' + k * 6 + 4, none⟩ = some (.int .i64 y.lines[k].billed) ∧ w'.cell? ⟨b', o' + k * 6 + 5, none⟩ = some (.int .i64 y.lines[k].prior)) := fun w' hb => by
        obtain ⟨⟨g1, g2⟩, -⟩ := HX.out _ (below_trans HB.out hb)
        have q1 := hc.of (hb.block _ (World.block_lt_of_cell? wr _ hc.1))
        have q2 := hc'.of (hb.block _ (World.block_lt_of_cell? wr _ hc'.1))
        exact ⟨g1, g2, q1.1, q1.2.1, q1.2.2.1, q1.2.2.2.1, q1.2.2.2.2.1, q1.2.2.2.2.2, q2.1, q2.2.1, q2.2.2.1, q2.2.2.2.1, q2.2.2.2.2.1, q2.2.2.2.2.2⟩
      have HBd : Hid (Below wr.heap.size wr wr.drew) := Below.drew (Below.refl _ _)
      obtain ⟨c0, c1, c2, c3, c4, c5⟩ := hc
      obtain ⟨d0, d1, d2, d3, d4, d5⟩ := hc'
      by_cases he : x.lines[k] = y.lines[k]
      · rw [decide_eq_true he] at HC
        have HE2 := Lib.hid (HQ.out he)
        clear he HN HQ
        go_wp2_with fail
        go_region_held3 (fun w' => w'.cell? ⟨w.heap.size, 6, none⟩ = some (.slice (some ⟨b, o, none⟩) x.lines.length c) ∧ w'.cell? ⟨w.heap.size + 1, 6, none⟩ = some (.slice (some ⟨b', o', none⟩) y.lines.length c') ∧ w'.cell? ⟨b, o + k * 6, none⟩ = some (.string (mk x.lines[k].proc)) ∧ w'.cell? ⟨b, o + k * 6 + 1, none⟩ = some (.slice au x.lines[k].mods.length cu) ∧ w'.cell? ⟨b, o + k * 6 + 2, none⟩ = some (.int .i64 x.lines[k].date) ∧ w'.cell? ⟨b, o + k * 6 + 3, none⟩ = some (.int .i64 x.lines[k].units) ∧ w'.cell? ⟨b, o + k * 6 + 4, none⟩ = some (.int .i64 x.lines[k].billed) ∧ w'.cell? ⟨b, o + k * 6 + 5, none⟩ = some (.int .i64 x.lines[k].prior) ∧ w'.cell? ⟨b', o' + k * 6, none⟩ = some (.string (mk y.lines[k].proc)) ∧ w'.cell? ⟨b', o' + k * 6 + 1, none⟩ = some (.slice au' y.lines[k].mods.length cu') ∧ w'.cell? ⟨b', o' + k * 6 + 2, none⟩ = some (.int .i64 y.lines[k].date) ∧ w'.cell? ⟨b', o' + k * 6 + 3, none⟩ = some (.int .i64 y.lines[k].units) ∧ w'.cell? ⟨b', o' + k * 6 + 4, none⟩ = some (.int .i64 y.lines[k].billed) ∧ w'.cell? ⟨b', o' + k * 6 + 5, none⟩ = some (.int .i64 y.lines[k].prior)) (go_keep) (first | (go_at_call 34; refine (HC.out _ HBd.out).mono ?_; rintro e w1 ⟨rfl, hb⟩; have HB2 := Lib.hid (below_trans HBd.out hb); obtain ⟨r0, r1, r2, r3, r4, r5, r6, r7, r8, r9, r10, r11, r12, r13⟩ := HSX.out _ HB2.out; clear hb))
        go_wp2
        go_roundg (x.lines.length - (k + 1))
        case rel => exact ⟨k + 1, by omega, rfl, by go_num, HE2.out, below_trans HB.out HB2.out⟩
        case measure => omega
      · rw [decide_eq_false he] at HC
        have HE2 := Lib.hid (HF.out (HN.out he))
        clear he HN HQ
        go_wp2_with fail
        go_region_held3 (fun w' => w'.cell? ⟨w.heap.size, 6, none⟩ = some (.slice (some ⟨b, o, none⟩) x.lines.length c) ∧ w'.cell? ⟨w.heap.size + 1, 6, none⟩ = some (.slice (some ⟨b', o', none⟩) y.lines.length c') ∧ w'.cell? ⟨b, o + k * 6, none⟩ = some (.string (mk x.lines[k].proc)) ∧ w'.cell? ⟨b, o + k * 6 + 1, none⟩ = some (.slice au x.lines[k].mods.length cu) ∧ w'.cell? ⟨b, o + k * 6 + 2, none⟩ = some (.int .i64 x.lines[k].date) ∧ w'.cell? ⟨b, o + k * 6 + 3, none⟩ = some (.int .i64 x.lines[k].units) ∧ w'.cell? ⟨b, o + k * 6 + 4, none⟩ = some (.int .i64 x.lines[k].billed) ∧ w'.cell? ⟨b, o + k * 6 + 5, none⟩ = some (.int .i64 x.lines[k].prior) ∧ w'.cell? ⟨b', o' + k * 6, none⟩ = some (.string (mk y.lines[k].proc)) ∧ w'.cell? ⟨b', o' + k * 6 + 1, none⟩ = some (.slice au' y.lines[k].mods.length cu') ∧ w'.cell? ⟨b', o' + k * 6 + 2, none⟩ = some (.int .i64 y.lines[k].date) ∧ w'.cell? ⟨b', o' + k * 6 + 3, none⟩ = some (.int .i64 y.lines[k].units) ∧ w'.cell? ⟨b', o' + k * 6 + 4, none⟩ = some (.int .i64 y.lines[k].billed) ∧ w'.cell? ⟨b', o' + k * 6 + 5, none⟩ = some (.int .i64 y.lines[k].prior)) (go_keep) (first | (go_at_call 34; refine (HC.out _ HBd.out).mono ?_; rintro e w1 ⟨rfl, hb⟩; have HB2 := Lib.hid (below_trans HBd.out hb); obtain ⟨r0, r1, r2, r3, r4, r5, r6, r7, r8, r9, r10, r11, r12, r13⟩ := HSX.out _ HB2.out; clear hb))
        go_wp2
        go_ret
        exact ⟨by rw [HE2.out]; rfl, below_trans HBW.out HB2.out⟩
    · have HE2 := Lib.hid (HS.out (takes_all x.lines y.lines k (by omega) HL.out HA.out))
      go_wp2
      go_ret
      exact ⟨by rw [HE2.out]; rfl, HBW.out⟩
end Go.Proofs.YtjgceppbhmmbjaaDoor.Cm
end
