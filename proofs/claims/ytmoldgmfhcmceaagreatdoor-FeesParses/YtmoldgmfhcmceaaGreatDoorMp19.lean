/-
  Texts put together (merge.py): ZRead.
-/
import Derived.Test.YtmoldgmfhcmceaaGreatDoorMp15
import Derived.Test.YtmoldgmfhcmceaaGreatDoorMp18
/-
  What fees.readMod, readNet, readDay, fault and readRow answer, as contracts.
-/
section
set_option linter.unusedSimpArgs false
set_option linter.unusedVariables false
set_option maxRecDepth 100000
namespace Go.Proofs.YtmoldgmfhcmceaaGreatDoor.Fe
open Go.RowKit
open Wo (Wd WdsAt keepB box_cell box_two heap_far below_alloc below_trans)

abbrev put5 (w : World) (p : Nat) (a b c d e : Value) : World := ((((w.setCell ⟨p, 0, none⟩ a).setCell ⟨p, 1, none⟩ b).setCell ⟨p, 2, none⟩ c).setCell ⟨p, 3, none⟩ d).setCell ⟨p, 4, none⟩ e
abbrev put2 (w : World) (p : Nat) (a b : Value) : World := (w.setCell ⟨p, 0, none⟩ a).setCell ⟨p, 1, none⟩ b
theorem hp2_same {w : World} {p : Nat} {x0 x1 : Value} {T : TypeId} (h : w.heap[p]? = some (.cells #[x0, x1] T (0, 0))) (a0 a1 : Value) : (put2 w p a0 a1).heap[p]? = some (.cells #[a0, a1] T (0, 0)) := by
  have h0 : (w.setCell ⟨p, 0, none⟩ a0).heap[p]? = some (.cells #[a0, x1] T (0, 0)) := heap_setCell_same w p 0 _ _ _ h
  exact heap_setCell_same _ p 1 _ _ _ h0
theorem hp2_far {w : World} {k p : Nat} {o : Obj} (h : w.heap[k]? = some o) (hk : k ≠ p) (a0 a1 : Value) : (put2 w p a0 a1).heap[k]? = some o := heap_far (heap_far h hk) hk
theorem hp5_far {w : World} {k p : Nat} {o : Obj} (h : w.heap[k]? = some o) (hk : k ≠ p) (a b c d e : Value) : (put5 w p a b c d e).heap[k]? = some o := heap_far (heap_far (heap_far (heap_far (heap_far h hk) hk) hk) hk) hk
theorem hp5_same {w : World} {p : Nat} {x0 x1 x2 x3 x4 : Value} {T : TypeId} (h : w.heap[p]? = some (.cells #[x0, x1, x2, x3, x4] T (0, 0))) (a b c d e : Value) : (put5 w p a b c d e).heap[p]? = some (.cells #[a, b, c, d, e] T (0, 0)) := by
  have h0 : (w.setCell ⟨p, 0, none⟩ a).heap[p]? = some (.cells #[a, x1, x2, x3, x4] T (0, 0)) := heap_setCell_same w p 0 _ _ _ h
  have h1 : ((w.setCell ⟨p, 0, none⟩ a).setCell ⟨p, 1, none⟩ b).heap[p]? = some (.cells #[a, b, x2, x3, x4] T (0, 0)) := heap_setCell_same _ p 1 _ _ _ h0
  have h2 : (((w.setCell ⟨p, 0, none⟩ a).setCell ⟨p, 1, none⟩ b).setCell ⟨p, 2, none⟩ c).heap[p]? = some (.cells #[a, b, c, x3, x4] T (0, 0)) := heap_setCell_same _ p 2 _ _ _ h1
  have h3 : ((((w.setCell ⟨p, 0, none⟩ a).setCell ⟨p, 1, none⟩ b).setCell ⟨p, 2, none⟩ c).setCell ⟨p, 3, none⟩ d).heap[p]? = some (.cells #[a, b, c, d, x4] T (0, 0)) := heap_setCell_same _ p 3 _ _ _ h2
  exact heap_setCell_same _ p 4 _ _ _ h3
theorem below_p2 {B : Nat} {w W : World} (h : Below B w W) {p : Nat} (hp : B ≤ p) (a0 a1 : Value) : Below B w (put2 W p a0 a1) := (h.setCell (p := ⟨p, 0, none⟩) hp a0).setCell (p := ⟨p, 1, none⟩) hp a1
theorem below_p5 {B : Nat} {w W : World} (h : Below B w W) {p : Nat} (hp : B ≤ p) (a b c d e : Value) : Below B w (put5 W p a b c d e) := ((((h.setCell (p := ⟨p, 0, none⟩) hp a).setCell (p := ⟨p, 1, none⟩) hp b).setCell (p := ⟨p, 2, none⟩) hp c).setCell (p := ⟨p, 3, none⟩) hp d).setCell (p := ⟨p, 4, none⟩) hp e
theorem lit_t {x l : Tx} (h : x = l) : ((mk x).toList == l) = true := by rw [mk_list', h]; simp
theorem lit_f {x l : Tx} (h : ¬ x = l) : ((mk x).toList == l) = false := by rw [mk_list']; simpa using h

def modB (s : Tx) : Bool := decide (s = tNone) || Cm.codeB s 2 2
def modV (s : Tx) : Tx := if s = tNone then [] else s
def netB (s : Tx) : Bool := decide (s = tOut) || decide (s = tIn)
def netV (s : Tx) : Int := if s = tOut then 1 else 0
def dayB (s : Tx) : Bool := decide (Nu.riE s 8 = 0) && Da.good (Nu.riV s 8)
def dayV (s : Tx) : Int := if dayB s = true then Nu.riV s 8 else 0
theorem row_form (a b c d e g : Wd) : pRow a b c d e g = if a.1 = tFee then (if Cm.codeB b.1 5 5 = true then (if modB c.1 = true then (if netB d.1 = true then (if dayB e.1 = true then (if Nu.mnE g.1 = 0 then .ok ⟨b.1, modV c.1, netV d.1, dayV e.1, Nu.mnV g.1⟩ else .error (Nu.mnE g.1, g.2)) else .error (7, e.2)) else .error (4, d.2)) else .error (9, c.2)) else .error (9, b.2)) else .error (4, a.2) := by
  have h1 : (c.1 = tNone ∨ Cm.codeB c.1 2 2 = true) = (modB c.1 = true) := by simp [modB]
  have h2 : (d.1 = tOut ∨ d.1 = tIn) = (netB d.1 = true) := by simp [netB]
  have h3 : (Nu.riE e.1 8 = 0 ∧ Da.good (Nu.riV e.1 8) = true) = (dayB e.1 = true) := by simp [dayB]
  unfold pRow
  simp only [h1, h2, h3]
  by_cases k : dayB e.1 = true
  · unfold dayV modV netV
    rw [if_pos k, if_pos k, if_pos k]
  · rw [if_neg k, if_neg k]
theorem readMod_any (s : Tx) (w : World) (hs : s.length ≤ 9223372036854775807) : Calls Tryz.prog 80 #[.string (mk s)] w fun e w' => e = .returned (.tuple #[.string (mk (modV s)), .bool (modB s)]) ∧ w' = w := by
  by_cases h : s = tNone
  · have e1 : modV s = [] := if_pos h
    have e2 : modB s = true := by unfold modB; rw [decide_eq_true h]; rfl
    have b0 : ((mk s).toList == [110, 111, 110, 101]) = true := lit_t h
    rw [e1, e2]
    clear h e1 e2
    go_enter Tryz.func80, Tryz.ntmps80
    go_wp2
    go_ret2
    exact ⟨rfl, rfl⟩
  · have e1 : modV s = s := if_neg h
    have e2 : modB s = Cm.codeB s 2 2 := by unfold modB; rw [decide_eq_false h]; rfl
    have b0 : ((mk s).toList == [110, 111, 110, 101]) = false := lit_f h
    rw [e1, e2]
    clear h e1 e2
    go_enter Tryz.func80, Tryz.ntmps80
    go_wp2_with (go_at_call 53; refine (mod_any _ _ hs).mono ?_; rintro e w' ⟨rfl, rfl⟩)
    go_ret2
    exact ⟨rfl, rfl⟩
theorem readNet_any (s : Tx) (w : World) : Calls Tryz.prog 81 #[.string (mk s)] w fun e w' => e = .returned (.tuple #[.int .i64 (netV s), .bool (netB s)]) ∧ w' = w := by
  by_cases h : s = tIn
  · have e1 : netV s = 0 := by unfold netV; rw [if_neg (by rw [h]; decide)]
    have e2 : netB s = true := by unfold netB; rw [decide_eq_true h]; simp
    have b0 : ((mk s).toList == [105, 110]) = true := lit_t h
    rw [e1, e2]
    clear h e1 e2
    go_enter Tryz.func81, Tryz.ntmps81
    go_wp2
    go_ret2
    exact ⟨rfl, rfl⟩
  · have b0 : ((mk s).toList == [105, 110]) = false := lit_f h
    by_cases h2 : s = tOut
    · have e1 : netV s = 1 := if_pos h2
      have e2 : netB s = true := by unfold netB; rw [decide_eq_true h2]; rfl
      have b1 : ((mk s).toList == [111, 117, 116]) = true := lit_t h2
      rw [e1, e2]
      clear h h2 e1 e2
      go_enter Tryz.func81, Tryz.ntmps81
      go_wp2
      go_ret2
      exact ⟨rfl, rfl⟩
    · have e1 : netV s = 0 := if_neg h2
      have e2 : netB s = false := by unfold netB; rw [decide_eq_false h2, decide_eq_false h]; rfl
      have b1 : ((mk s).toList == [111, 117, 116]) = false := lit_f h2
      rw [e1, e2]
      clear h h2 e1 e2
      go_enter Tryz.func81, Tryz.ntmps81
      go_wp2
      go_ret2
      exact ⟨rfl, rfl⟩
theorem readDay_any (s : Tx) (w : World) (hs : s.length ≤ 9223372036854775807) (hT : Da.Tab w) : Calls Tryz.prog 82 #[.string (mk s)] w fun e w' => e = .returned (.tuple #[.int .i64 (dayV s), .bool (dayB s)]) ∧ w' = w := by
  have HR := Nu.readInt_any (mk s) 8 w (by rw [mk_size]; unfold maxLen; exact hs)
  rw [mk_list] at HR
  obtain ⟨r0, r1⟩ := Nu.ri_bd s 8
  have HG := Da.good_any (Nu.riV s 8) w hT (by omega) (by omega)
  have e1 : dayV s = if dayB s = true then Nu.riV s 8 else 0 := rfl
  have e2 : dayB s = (decide (Nu.riE s 8 = 0) && Da.good (Nu.riV s 8)) := rfl
  generalize Nu.riV s 8 = n at *
  generalize Nu.riE s 8 = ne at *
  rw [e1, e2]
  clear e1 e2
  by_cases h : ne = 0
  · subst h
    cases hg : Da.good n
    · rw [hg] at HG
      show Calls _ _ _ _ fun e w' => e = .returned (.tuple #[.int .i64 0, .bool false]) ∧ w' = w
      go_enter Tryz.func82, Tryz.ntmps82
      go_wp2_with (first | (go_at_call 98; refine HR.mono ?_; rintro e w' ⟨rfl, rfl⟩) | (go_at_call 54; refine HG.mono ?_; rintro e w' ⟨rfl, rfl⟩))
      go_ret2
      exact ⟨rfl, rfl⟩
    · rw [hg] at HG
      show Calls _ _ _ _ fun e w' => e = .returned (.tuple #[.int .i64 n, .bool true]) ∧ w' = w
      go_enter Tryz.func82, Tryz.ntmps82
      go_wp2_with (first | (go_at_call 98; refine HR.mono ?_; rintro e w' ⟨rfl, rfl⟩) | (go_at_call 54; refine HG.mono ?_; rintro e w' ⟨rfl, rfl⟩))
      go_ret2
      exact ⟨rfl, rfl⟩
  · have q1 : (ne != 0) = true := by simpa using h
    have e3 : (decide (ne = 0) && Da.good n) = false := by rw [decide_eq_false h]; rfl
    rw [e3]
    show Calls _ _ _ _ fun e w' => e = .returned (.tuple #[.int .i64 0, .bool false]) ∧ w' = w
    clear e3 h HG
    go_enter Tryz.func82, Tryz.ntmps82
    go_wp2_with (first | (go_at_call 98; refine HR.mono ?_; rintro e w' ⟨rfl, rfl⟩))
    go_ret2
    exact ⟨rfl, rfl⟩
abbrev zfe : Value := .agg #[.string ⟨#[]⟩, .string ⟨#[]⟩, .int .i64 0, .int .i64 0, .int .i64 0]
set_option maxHeartbeats 2000000 in
theorem fault_any (e : Int) (x : Wd) (w : World) :
    Calls Tryz.prog 84 #[.int .i64 e, .agg #[.string (mk x.1), .int .i64 (x.2 : Nat)]] w fun r w' => r = .returned (.tuple #[zfe, .agg #[.int .i64 e, .int .i64 (x.2 : Nat)]]) ∧ Below w.heap.size w w' := by
  have HB : Hid (∀ o o' o'', Below w.heap.size w ((((w.alloc o).alloc o').alloc o'').drew)) := fun o o' o'' => Below.drew (below_trans (below_alloc _ _) (below_trans (below_alloc _ _) (below_alloc _ _)))
  go_enter Tryz.func84, Tryz.ntmps84
  go_wp2
  go_region
  all_goals go_wp2
  all_goals
    refine bodyPost_ret (v := .tuple #[zfe, .agg #[.int .i64 e, .int .i64 (x.2 : Nat)]]) (by simp [results, Tryz.results84, go_sem]) rfl ?_
    exact ⟨rfl, HB.out _ _ _⟩
def rowA : Except (Int × Nat) Fee → Value
  | .ok f => .tuple #[fev f, .agg #[.int .i64 0, .int .i64 0]]
  | .error x => .tuple #[zfe, .agg #[.int .i64 x.1, .int .i64 (x.2 : Nat)]]
theorem wd_at {w : World} {b oo n c : Nat} {l : List Wd} (h : WdsAt All w (.slice (some ⟨b, oo, none⟩) n c) l) (k : Nat) (x : Wd) (hk : l[k]? = some x) : w.cell? ⟨b, oo + k * 2, none⟩ = some (.string (mk x.1)) ∧ w.cell? ⟨b, oo + k * 2 + 1, none⟩ = some (.int .i64 (x.2 : Nat)) := by
  have hlt := (List.getElem?_eq_some_iff.1 hk).1
  obtain ⟨b1, o1, e1, -, e2, c0, c1⟩ := WdsAt.get h k hlt
  simp only [Option.some.injEq, Addr.mk.injEq, and_true] at e1
  obtain ⟨rfl, rfl⟩ := e1
  have e3 : l[k] = x := Option.some.inj (e2.symm.trans hk)
  rw [e3] at c0 c1
  exact ⟨c0, c1⟩
def Six (w : World) (b oo : Nat) (x0 x1 x2 x3 x4 x5 : Wd) : Prop :=
  (w.cell? ⟨b, oo, none⟩ = some (.string (mk x0.1)) ∧ w.cell? ⟨b, oo + 1, none⟩ = some (.int .i64 (x0.2 : Nat))) ∧ (w.cell? ⟨b, oo + 2, none⟩ = some (.string (mk x1.1)) ∧ w.cell? ⟨b, oo + 3, none⟩ = some (.int .i64 (x1.2 : Nat))) ∧ (w.cell? ⟨b, oo + 4, none⟩ = some (.string (mk x2.1)) ∧ w.cell? ⟨b, oo + 5, none⟩ = some (.int .i64 (x2.2 : Nat))) ∧ (w.cell? ⟨b, oo + 6, none⟩ = some (.string (mk x3.1)) ∧ w.cell? ⟨b, oo + 7, none⟩ = some (.int .i64 (x3.2 : Nat))) ∧ (w.cell? ⟨b, oo + 8, none⟩ = some (.string (mk x4.1)) ∧ w.cell? ⟨b, oo + 9, none⟩ = some (.int .i64 (x4.2 : Nat))) ∧ (w.cell? ⟨b, oo + 10, none⟩ = some (.string (mk x5.1)) ∧ w.cell? ⟨b, oo + 11, none⟩ = some (.int .i64 (x5.2 : Nat)))
theorem six_of {w : World} {b oo n c : Nat} {x0 x1 x2 x3 x4 x5 : Wd} (h : WdsAt All w (.slice (some ⟨b, oo, none⟩) n c) [x0, x1, x2, x3, x4, x5]) : Six w b oo x0 x1 x2 x3 x4 x5 :=
  ⟨wd_at h 0 x0 rfl, wd_at h 1 x1 rfl, wd_at h 2 x2 rfl, wd_at h 3 x3 rfl, wd_at h 4 x4 rfl, wd_at h 5 x5 rfl⟩
theorem wds_six {w : World} {v : Value} {x0 x1 x2 x3 x4 x5 : Wd} (h : WdsAt All w v [x0, x1, x2, x3, x4, x5]) : ∃ b o c, v = .slice (some ⟨b, o, none⟩) 6 c := by
  obtain ⟨a, c, rfl, h1, h2, h3⟩ := h
  rcases h3 with h | ⟨b, o, rfl, -, -, -⟩
  · cases h
  · exact ⟨b, o, c, rfl⟩
set_option maxHeartbeats 8000000 in
theorem readRow_any (x0 x1 x2 x3 x4 x5 : Wd) (v : Value) (w : World) (h : WdsAt All w v [x0, x1, x2, x3, x4, x5]) (hl : ∀ x ∈ [x0, x1, x2, x3, x4, x5], x.1.length ≤ 9223372036854775807) (hT : Da.Tab w) :
    Calls Tryz.prog 61 #[v] w fun r w' => r = .returned (rowA (pRow x0 x1 x2 x3 x4 x5)) ∧ Below w.heap.size w w' := by
  have l1 := hl x1 (by simp)
  have l2 := hl x2 (by simp)
  have l4 := hl x4 (by simp)
  have l5 := hl x5 (by simp)
  obtain ⟨b, oo, ck, rfl⟩ := wds_six h
  have hb1 := below_alloc w (.cells #[.string ⟨#[]⟩, .string ⟨#[]⟩, .int .i64 0, .int .i64 0, .int .i64 0] 45)
  have hb2 := below_alloc (w.alloc (.cells #[.string ⟨#[]⟩, .string ⟨#[]⟩, .int .i64 0, .int .i64 0, .int .i64 0] 45)) (.cells #[.int .i64 0, .int .i64 0] 30)
  have hb0 := below_trans hb1 hb2
  have HZP := Lib.hid (keepB (heap_alloc_new w (.cells #[.string ⟨#[]⟩, .string ⟨#[]⟩, .int .i64 0, .int .i64 0, .int .i64 0] 45)) hb2)
  have hzq := heap_alloc_new (w.alloc (.cells #[.string ⟨#[]⟩, .string ⟨#[]⟩, .int .i64 0, .int .i64 0, .int .i64 0] 45)) (.cells #[.int .i64 0, .int .i64 0] 30)
  rw [show (w.alloc (.cells #[.string ⟨#[]⟩, .string ⟨#[]⟩, .int .i64 0, .int .i64 0, .int .i64 0] 45)).heap.size = w.heap.size + 1 by simp] at hzq
  have HZQ := Lib.hid hzq
  have HS := Lib.hid fun W' (hW : Below ((w.alloc (.cells #[.string ⟨#[]⟩, .string ⟨#[]⟩, .int .i64 0, .int .i64 0, .int .i64 0] 45)).alloc (.cells #[.int .i64 0, .int .i64 0] 30)).heap.size ((w.alloc (.cells #[.string ⟨#[]⟩, .string ⟨#[]⟩, .int .i64 0, .int .i64 0, .int .i64 0] 45)).alloc (.cells #[.int .i64 0, .int .i64 0] 30)) W') => six_of (h.move (Below.moves (below_trans hb0 hW)))
  have HB0 := Lib.hid hb0
  have HDy := Lib.hid (readDay_any x4.1 _ l4 (Cm.tab_below hT hb0))
  have HMy : Hid (∀ W' : World, Calls Tryz.prog 83 #[.string (mk x5.1)] W' fun e w' => e = .returned (.tuple #[.int .i64 (Nu.mnV x5.1), .int .i64 (Nu.mnE x5.1)]) ∧ Below W'.heap.size W' w') := fun W' => by
    have := Nu.readMoney_any (mk x5.1) W' (by rw [mk_size]; unfold maxLen; exact l5)
    rw [mk_list] at this
    exact this
  have HMd := Lib.hid fun W' => readMod_any x2.1 W' l2
  have HNt := Lib.hid fun W' => readNet_any x3.1 W'
  have HPr := Lib.hid fun W' => proc_any x1.1 W' l1
  have HF := Lib.hid (row_form x0 x1 x2 x3 x4 x5)
  rw [HF.out]
  clear h hl hT hb0 hb1 hb2 hzq HF l1 l2 l4 l5
  obtain ⟨MB, hMB⟩ : ∃ z, z = modB x2.1 := ⟨_, rfl⟩
  obtain ⟨MV, hMV⟩ : ∃ z, z = modV x2.1 := ⟨_, rfl⟩
  obtain ⟨NB, hNB⟩ : ∃ z, z = netB x3.1 := ⟨_, rfl⟩
  obtain ⟨NV, hNV⟩ : ∃ z, z = netV x3.1 := ⟨_, rfl⟩
  obtain ⟨DB, hDB⟩ : ∃ z, z = dayB x4.1 := ⟨_, rfl⟩
  obtain ⟨DV, hDV⟩ : ∃ z, z = dayV x4.1 := ⟨_, rfl⟩
  obtain ⟨QE, hQE⟩ : ∃ z, z = Nu.mnE x5.1 := ⟨_, rfl⟩
  obtain ⟨QV, hQV⟩ : ∃ z, z = Nu.mnV x5.1 := ⟨_, rfl⟩
  obtain ⟨CB, hCB⟩ : ∃ z, z = Cm.codeB x1.1 5 5 := ⟨_, rfl⟩
  rw [← hMB, ← hMV] at HMd
  rw [← hNB, ← hNV] at HNt
  rw [← hDB, ← hDV] at HDy
  rw [← hQE, ← hQV] at HMy
  rw [← hCB] at HPr
  rw [← hMB, ← hMV, ← hNB, ← hNV, ← hDB, ← hDV, ← hQE, ← hQV, ← hCB]
  clear hMB hMV hNB hNV hDB hDV hQE hQV hCB
  obtain ⟨RES, HRES⟩ : ∃ z, Hid ((if x0.1 = tFee then (if CB = true then (if MB = true then (if NB = true then (if DB = true then (if QE = 0 then .ok ⟨x1.1, MV, NV, DV, QV⟩ else .error (QE, x5.2)) else .error (7, x4.2)) else .error (4, x3.2)) else .error (9, x2.2)) else .error (9, x1.2)) else .error (4, x0.2) : Except (Int × Nat) Fee) = z) := ⟨_, rfl⟩
  rw [HRES.out]
  go_enter Tryz.func61, Tryz.ntmps61
  go_upto_region 1 with fail
  generalize (w.alloc (.cells #[.string ⟨#[]⟩, .string ⟨#[]⟩, .int .i64 0, .int .i64 0, .int .i64 0] 45)).alloc (.cells #[.int .i64 0, .int .i64 0] 30) = W at *
  generalize hp : w.heap.size = p at *
  obtain ⟨q, hq⟩ : ∃ q, q = p + 1 := ⟨_, rfl⟩
  rw [← hq] at HZQ ⊢
  have hpq : p ≤ q := by omega
  have hne : p ≠ q := by omega
  clear hq
  have HBR := Lib.hid (Below.refl W.heap.size W)
  obtain ⟨⟨c0, d0⟩, ⟨c1, d1⟩, ⟨c2, d2⟩, ⟨c3, d3⟩, ⟨c4, d4⟩, ⟨c5, d5⟩⟩ := HS.out W HBR.out
  go_wp2_with (first | (go_at_call 80; refine (HMd.out _).mono ?_; rintro e w' ⟨rfl, rfl⟩) | (go_at_call 81; refine (HNt.out _).mono ?_; rintro e w' ⟨rfl, rfl⟩) | (go_at_call 82; refine HDy.out.mono ?_; rintro e w' ⟨rfl, rfl⟩) | fail)
  go_at_call 83
  refine (HMy.out _).mono ?_
  rintro e w1 ⟨rfl, hb1⟩
  have HB1 := Lib.hid hb1
  have HZP1 := Lib.hid (keepB HZP.out hb1)
  have HZQ1 := Lib.hid (keepB HZQ.out hb1)
  have HBW := Lib.hid (show Below p w w1 by subst hp; exact below_trans HB0.out hb1)
  clear hb1 c0 d0 c1 d1 c2 d2 c3 d3 c4 d4 c5 d5 HZP HZQ HB0 HMd HNt HDy HMy HBR
  obtain ⟨⟨c0, d0⟩, ⟨c1, d1⟩, ⟨c2, d2⟩, ⟨c3, d3⟩, ⟨c4, d4⟩, ⟨c5, d5⟩⟩ := HS.out w1 HB1.out
  clear HS HB1
  by_cases hb0 : x0.1 = tFee
  rotate_left
  · have b0 : ((mk x0.1).toList == [102, 101, 101]) = false := lit_f hb0
    go_wp2_with (first | (go_at_call 52; refine (HPr.out _).mono ?_; rintro e w9 ⟨rfl, hw9⟩; rw [hw9]; clear hw9 w9) | fail)
    go_at_call 84
    refine (fault_any 4 x0 w1).mono ?_
    rintro e w2 ⟨rfl, hb2⟩
    have HZP2 := Lib.hid (keepB HZP1.out hb2)
    have HZQ2 := Lib.hid (keepB HZQ1.out hb2)
    have HB2 := Lib.hid (show Below p w w2 by subst hp; exact below_trans HBW.out hb2)
    clear hb2 c0 d0 c1 d1 c2 d2 c3 d3 c4 d4 c5 d5
    have f5 := Lib.frozen_of_heap HZP2.out
    have f2 := Lib.frozen_of_heap HZQ2.out
    obtain ⟨z0, z1, z2, z3, z4⟩ := cells5 HZP2.out
    obtain ⟨y0, y1, -, -⟩ := box_two HZQ2.out
    go_wp2_with fail
    clear z0 z1 z2 z3 z4 y0 y1 f5 f2
    have hr5 := hp2_far (hp5_same HZP2.out (.string ⟨#[]⟩) (.string ⟨#[]⟩) (.int .i64 0) (.int .i64 0) (.int .i64 0)) hne (.int .i64 4) (.int .i64 (x0.2 : Nat))
    have hr2 := hp2_same (hp5_far HZQ2.out (Ne.symm hne) (.string ⟨#[]⟩) (.string ⟨#[]⟩) (.int .i64 0) (.int .i64 0) (.int .i64 0)) (.int .i64 4) (.int .i64 (x0.2 : Nat))
    have hbf := below_p2 (below_p5 HB2.out (Nat.le_refl p) (.string ⟨#[]⟩) (.string ⟨#[]⟩) (.int .i64 0) (.int .i64 0) (.int .i64 0)) hpq (.int .i64 4) (.int .i64 (x0.2 : Nat))
    simp only [put2, put5] at hr5 hr2 hbf
    obtain ⟨FW, hFW⟩ : ∃ z, z = ((((((w2.setCell ⟨p, 0, none⟩ (.string ⟨#[]⟩)).setCell ⟨p, 1, none⟩ (.string ⟨#[]⟩)).setCell ⟨p, 2, none⟩ (.int .i64 0)).setCell ⟨p, 3, none⟩ (.int .i64 0)).setCell ⟨p, 4, none⟩ (.int .i64 0)).setCell ⟨q, 0, none⟩ (.int .i64 4)).setCell ⟨q, 1, none⟩ (.int .i64 (x0.2 : Nat)) := ⟨_, rfl⟩
    rw [← hFW] at hr5 hr2 hbf ⊢
    clear hFW
    obtain ⟨r0, r1, r2, r3, r4⟩ := cells5 hr5
    obtain ⟨t0, t1, -, -⟩ := box_two hr2
    refine bodyPost_ret (v := .tuple #[.agg #[.string ⟨#[]⟩, .string ⟨#[]⟩, .int .i64 0, .int .i64 0, .int .i64 0], .agg #[.int .i64 4, .int .i64 (x0.2 : Nat)]]) (by simp [results, Tryz.results61, go_sem, r0, r1, r2, r3, r4, t0, t1]) rfl ?_
    exact ⟨by rw [← HRES.out]; rw [if_neg hb0]; rfl, by first | exact hbf | (rw [hp]; exact hbf)⟩
  have b0 : ((mk x0.1).toList == [102, 101, 101]) = true := lit_t hb0
  rw [if_pos hb0] at HRES
  clear hb0
  cases CB with
  | false =>
    go_wp2_with (first | (go_at_call 52; refine (HPr.out _).mono ?_; rintro e w9 ⟨rfl, hw9⟩; rw [hw9]; clear hw9 w9) | fail)
    go_at_call 84
    refine (fault_any 9 x1 w1).mono ?_
    rintro e w2 ⟨rfl, hb2⟩
    have HZP2 := Lib.hid (keepB HZP1.out hb2)
    have HZQ2 := Lib.hid (keepB HZQ1.out hb2)
    have HB2 := Lib.hid (show Below p w w2 by subst hp; exact below_trans HBW.out hb2)
    clear hb2 c0 d0 c1 d1 c2 d2 c3 d3 c4 d4 c5 d5
    have f5 := Lib.frozen_of_heap HZP2.out
    have f2 := Lib.frozen_of_heap HZQ2.out
    obtain ⟨z0, z1, z2, z3, z4⟩ := cells5 HZP2.out
    obtain ⟨y0, y1, -, -⟩ := box_two HZQ2.out
    go_wp2_with fail
    clear z0 z1 z2 z3 z4 y0 y1 f5 f2
    have hr5 := hp2_far (hp5_same HZP2.out (.string ⟨#[]⟩) (.string ⟨#[]⟩) (.int .i64 0) (.int .i64 0) (.int .i64 0)) hne (.int .i64 9) (.int .i64 (x1.2 : Nat))
    have hr2 := hp2_same (hp5_far HZQ2.out (Ne.symm hne) (.string ⟨#[]⟩) (.string ⟨#[]⟩) (.int .i64 0) (.int .i64 0) (.int .i64 0)) (.int .i64 9) (.int .i64 (x1.2 : Nat))
    have hbf := below_p2 (below_p5 HB2.out (Nat.le_refl p) (.string ⟨#[]⟩) (.string ⟨#[]⟩) (.int .i64 0) (.int .i64 0) (.int .i64 0)) hpq (.int .i64 9) (.int .i64 (x1.2 : Nat))
    simp only [put2, put5] at hr5 hr2 hbf
    obtain ⟨FW, hFW⟩ : ∃ z, z = ((((((w2.setCell ⟨p, 0, none⟩ (.string ⟨#[]⟩)).setCell ⟨p, 1, none⟩ (.string ⟨#[]⟩)).setCell ⟨p, 2, none⟩ (.int .i64 0)).setCell ⟨p, 3, none⟩ (.int .i64 0)).setCell ⟨p, 4, none⟩ (.int .i64 0)).setCell ⟨q, 0, none⟩ (.int .i64 9)).setCell ⟨q, 1, none⟩ (.int .i64 (x1.2 : Nat)) := ⟨_, rfl⟩
    rw [← hFW] at hr5 hr2 hbf ⊢
    clear hFW
    obtain ⟨r0, r1, r2, r3, r4⟩ := cells5 hr5
    obtain ⟨t0, t1, -, -⟩ := box_two hr2
    refine bodyPost_ret (v := .tuple #[.agg #[.string ⟨#[]⟩, .string ⟨#[]⟩, .int .i64 0, .int .i64 0, .int .i64 0], .agg #[.int .i64 9, .int .i64 (x1.2 : Nat)]]) (by simp [results, Tryz.results61, go_sem, r0, r1, r2, r3, r4, t0, t1]) rfl ?_
    exact ⟨by rw [← HRES.out]; rfl, by first | exact hbf | (rw [hp]; exact hbf)⟩
  | true =>
  cases MB with
  | false =>
    go_wp2_with (first | (go_at_call 52; refine (HPr.out _).mono ?_; rintro e w9 ⟨rfl, hw9⟩; rw [hw9]; clear hw9 w9) | fail)
    go_at_call 84
    refine (fault_any 9 x2 w1).mono ?_
    rintro e w2 ⟨rfl, hb2⟩
    have HZP2 := Lib.hid (keepB HZP1.out hb2)
    have HZQ2 := Lib.hid (keepB HZQ1.out hb2)
    have HB2 := Lib.hid (show Below p w w2 by subst hp; exact below_trans HBW.out hb2)
    clear hb2 c0 d0 c1 d1 c2 d2 c3 d3 c4 d4 c5 d5
    have f5 := Lib.frozen_of_heap HZP2.out
    have f2 := Lib.frozen_of_heap HZQ2.out
    obtain ⟨z0, z1, z2, z3, z4⟩ := cells5 HZP2.out
    obtain ⟨y0, y1, -, -⟩ := box_two HZQ2.out
    go_wp2_with fail
    clear z0 z1 z2 z3 z4 y0 y1 f5 f2
    have hr5 := hp2_far (hp5_same HZP2.out (.string ⟨#[]⟩) (.string ⟨#[]⟩) (.int .i64 0) (.int .i64 0) (.int .i64 0)) hne (.int .i64 9) (.int .i64 (x2.2 : Nat))
    have hr2 := hp2_same (hp5_far HZQ2.out (Ne.symm hne) (.string ⟨#[]⟩) (.string ⟨#[]⟩) (.int .i64 0) (.int .i64 0) (.int .i64 0)) (.int .i64 9) (.int .i64 (x2.2 : Nat))
    have hbf := below_p2 (below_p5 HB2.out (Nat.le_refl p) (.string ⟨#[]⟩) (.string ⟨#[]⟩) (.int .i64 0) (.int .i64 0) (.int .i64 0)) hpq (.int .i64 9) (.int .i64 (x2.2 : Nat))
    simp only [put2, put5] at hr5 hr2 hbf
    obtain ⟨FW, hFW⟩ : ∃ z, z = ((((((w2.setCell ⟨p, 0, none⟩ (.string ⟨#[]⟩)).setCell ⟨p, 1, none⟩ (.string ⟨#[]⟩)).setCell ⟨p, 2, none⟩ (.int .i64 0)).setCell ⟨p, 3, none⟩ (.int .i64 0)).setCell ⟨p, 4, none⟩ (.int .i64 0)).setCell ⟨q, 0, none⟩ (.int .i64 9)).setCell ⟨q, 1, none⟩ (.int .i64 (x2.2 : Nat)) := ⟨_, rfl⟩
    rw [← hFW] at hr5 hr2 hbf ⊢
    clear hFW
    obtain ⟨r0, r1, r2, r3, r4⟩ := cells5 hr5
    obtain ⟨t0, t1, -, -⟩ := box_two hr2
    refine bodyPost_ret (v := .tuple #[.agg #[.string ⟨#[]⟩, .string ⟨#[]⟩, .int .i64 0, .int .i64 0, .int .i64 0], .agg #[.int .i64 9, .int .i64 (x2.2 : Nat)]]) (by simp [results, Tryz.results61, go_sem, r0, r1, r2, r3, r4, t0, t1]) rfl ?_
    exact ⟨by rw [← HRES.out]; rfl, by first | exact hbf | (rw [hp]; exact hbf)⟩
  | true =>
  cases NB with
  | false =>
    go_wp2_with (first | (go_at_call 52; refine (HPr.out _).mono ?_; rintro e w9 ⟨rfl, hw9⟩; rw [hw9]; clear hw9 w9) | fail)
    go_at_call 84
    refine (fault_any 4 x3 w1).mono ?_
    rintro e w2 ⟨rfl, hb2⟩
    have HZP2 := Lib.hid (keepB HZP1.out hb2)
    have HZQ2 := Lib.hid (keepB HZQ1.out hb2)
    have HB2 := Lib.hid (show Below p w w2 by subst hp; exact below_trans HBW.out hb2)
    clear hb2 c0 d0 c1 d1 c2 d2 c3 d3 c4 d4 c5 d5
    have f5 := Lib.frozen_of_heap HZP2.out
    have f2 := Lib.frozen_of_heap HZQ2.out
    obtain ⟨z0, z1, z2, z3, z4⟩ := cells5 HZP2.out
    obtain ⟨y0, y1, -, -⟩ := box_two HZQ2.out
    go_wp2_with fail
    clear z0 z1 z2 z3 z4 y0 y1 f5 f2
    have hr5 := hp2_far (hp5_same HZP2.out (.string ⟨#[]⟩) (.string ⟨#[]⟩) (.int .i64 0) (.int .i64 0) (.int .i64 0)) hne (.int .i64 4) (.int .i64 (x3.2 : Nat))
    have hr2 := hp2_same (hp5_far HZQ2.out (Ne.symm hne) (.string ⟨#[]⟩) (.string ⟨#[]⟩) (.int .i64 0) (.int .i64 0) (.int .i64 0)) (.int .i64 4) (.int .i64 (x3.2 : Nat))
    have hbf := below_p2 (below_p5 HB2.out (Nat.le_refl p) (.string ⟨#[]⟩) (.string ⟨#[]⟩) (.int .i64 0) (.int .i64 0) (.int .i64 0)) hpq (.int .i64 4) (.int .i64 (x3.2 : Nat))
    simp only [put2, put5] at hr5 hr2 hbf
    obtain ⟨FW, hFW⟩ : ∃ z, z = ((((((w2.setCell ⟨p, 0, none⟩ (.string ⟨#[]⟩)).setCell ⟨p, 1, none⟩ (.string ⟨#[]⟩)).setCell ⟨p, 2, none⟩ (.int .i64 0)).setCell ⟨p, 3, none⟩ (.int .i64 0)).setCell ⟨p, 4, none⟩ (.int .i64 0)).setCell ⟨q, 0, none⟩ (.int .i64 4)).setCell ⟨q, 1, none⟩ (.int .i64 (x3.2 : Nat)) := ⟨_, rfl⟩
    rw [← hFW] at hr5 hr2 hbf ⊢
    clear hFW
    obtain ⟨r0, r1, r2, r3, r4⟩ := cells5 hr5
    obtain ⟨t0, t1, -, -⟩ := box_two hr2
    refine bodyPost_ret (v := .tuple #[.agg #[.string ⟨#[]⟩, .string ⟨#[]⟩, .int .i64 0, .int .i64 0, .int .i64 0], .agg #[.int .i64 4, .int .i64 (x3.2 : Nat)]]) (by simp [results, Tryz.results61, go_sem, r0, r1, r2, r3, r4, t0, t1]) rfl ?_
    exact ⟨by rw [← HRES.out]; rfl, by first | exact hbf | (rw [hp]; exact hbf)⟩
  | true =>
  cases DB with
  | false =>
    go_wp2_with (first | (go_at_call 52; refine (HPr.out _).mono ?_; rintro e w9 ⟨rfl, hw9⟩; rw [hw9]; clear hw9 w9) | fail)
    go_at_call 84
    refine (fault_any 7 x4 w1).mono ?_
    rintro e w2 ⟨rfl, hb2⟩
    have HZP2 := Lib.hid (keepB HZP1.out hb2)
    have HZQ2 := Lib.hid (keepB HZQ1.out hb2)
    have HB2 := Lib.hid (show Below p w w2 by subst hp; exact below_trans HBW.out hb2)
    clear hb2 c0 d0 c1 d1 c2 d2 c3 d3 c4 d4 c5 d5
    have f5 := Lib.frozen_of_heap HZP2.out
    have f2 := Lib.frozen_of_heap HZQ2.out
    obtain ⟨z0, z1, z2, z3, z4⟩ := cells5 HZP2.out
    obtain ⟨y0, y1, -, -⟩ := box_two HZQ2.out
    go_wp2_with fail
    clear z0 z1 z2 z3 z4 y0 y1 f5 f2
    have hr5 := hp2_far (hp5_same HZP2.out (.string ⟨#[]⟩) (.string ⟨#[]⟩) (.int .i64 0) (.int .i64 0) (.int .i64 0)) hne (.int .i64 7) (.int .i64 (x4.2 : Nat))
    have hr2 := hp2_same (hp5_far HZQ2.out (Ne.symm hne) (.string ⟨#[]⟩) (.string ⟨#[]⟩) (.int .i64 0) (.int .i64 0) (.int .i64 0)) (.int .i64 7) (.int .i64 (x4.2 : Nat))
    have hbf := below_p2 (below_p5 HB2.out (Nat.le_refl p) (.string ⟨#[]⟩) (.string ⟨#[]⟩) (.int .i64 0) (.int .i64 0) (.int .i64 0)) hpq (.int .i64 7) (.int .i64 (x4.2 : Nat))
    simp only [put2, put5] at hr5 hr2 hbf
    obtain ⟨FW, hFW⟩ : ∃ z, z = ((((((w2.setCell ⟨p, 0, none⟩ (.string ⟨#[]⟩)).setCell ⟨p, 1, none⟩ (.string ⟨#[]⟩)).setCell ⟨p, 2, none⟩ (.int .i64 0)).setCell ⟨p, 3, none⟩ (.int .i64 0)).setCell ⟨p, 4, none⟩ (.int .i64 0)).setCell ⟨q, 0, none⟩ (.int .i64 7)).setCell ⟨q, 1, none⟩ (.int .i64 (x4.2 : Nat)) := ⟨_, rfl⟩
    rw [← hFW] at hr5 hr2 hbf ⊢
    clear hFW
    obtain ⟨r0, r1, r2, r3, r4⟩ := cells5 hr5
    obtain ⟨t0, t1, -, -⟩ := box_two hr2
    refine bodyPost_ret (v := .tuple #[.agg #[.string ⟨#[]⟩, .string ⟨#[]⟩, .int .i64 0, .int .i64 0, .int .i64 0], .agg #[.int .i64 7, .int .i64 (x4.2 : Nat)]]) (by simp [results, Tryz.results61, go_sem, r0, r1, r2, r3, r4, t0, t1]) rfl ?_
    exact ⟨by rw [← HRES.out]; rfl, by first | exact hbf | (rw [hp]; exact hbf)⟩
  | true =>
  by_cases hqe : QE = 0
  rotate_left
  · have q1 : (QE != 0) = true := by simpa using hqe
    have HQE := Lib.hid hqe
    clear hqe
    go_wp2_with (first | (go_at_call 52; refine (HPr.out _).mono ?_; rintro e w9 ⟨rfl, hw9⟩; rw [hw9]; clear hw9 w9) | fail)
    go_at_call 84
    refine (fault_any QE x5 w1).mono ?_
    rintro e w2 ⟨rfl, hb2⟩
    have HZP2 := Lib.hid (keepB HZP1.out hb2)
    have HZQ2 := Lib.hid (keepB HZQ1.out hb2)
    have HB2 := Lib.hid (show Below p w w2 by subst hp; exact below_trans HBW.out hb2)
    clear hb2 c0 d0 c1 d1 c2 d2 c3 d3 c4 d4 c5 d5
    have f5 := Lib.frozen_of_heap HZP2.out
    have f2 := Lib.frozen_of_heap HZQ2.out
    obtain ⟨z0, z1, z2, z3, z4⟩ := cells5 HZP2.out
    obtain ⟨y0, y1, -, -⟩ := box_two HZQ2.out
    go_wp2_with fail
    clear z0 z1 z2 z3 z4 y0 y1 f5 f2
    have hr5 := hp2_far (hp5_same HZP2.out (.string ⟨#[]⟩) (.string ⟨#[]⟩) (.int .i64 0) (.int .i64 0) (.int .i64 0)) hne (.int .i64 QE) (.int .i64 (x5.2 : Nat))
    have hr2 := hp2_same (hp5_far HZQ2.out (Ne.symm hne) (.string ⟨#[]⟩) (.string ⟨#[]⟩) (.int .i64 0) (.int .i64 0) (.int .i64 0)) (.int .i64 QE) (.int .i64 (x5.2 : Nat))
    have hbf := below_p2 (below_p5 HB2.out (Nat.le_refl p) (.string ⟨#[]⟩) (.string ⟨#[]⟩) (.int .i64 0) (.int .i64 0) (.int .i64 0)) hpq (.int .i64 QE) (.int .i64 (x5.2 : Nat))
    simp only [put2, put5] at hr5 hr2 hbf
    obtain ⟨FW, hFW⟩ : ∃ z, z = ((((((w2.setCell ⟨p, 0, none⟩ (.string ⟨#[]⟩)).setCell ⟨p, 1, none⟩ (.string ⟨#[]⟩)).setCell ⟨p, 2, none⟩ (.int .i64 0)).setCell ⟨p, 3, none⟩ (.int .i64 0)).setCell ⟨p, 4, none⟩ (.int .i64 0)).setCell ⟨q, 0, none⟩ (.int .i64 QE)).setCell ⟨q, 1, none⟩ (.int .i64 (x5.2 : Nat)) := ⟨_, rfl⟩
    rw [← hFW] at hr5 hr2 hbf ⊢
    clear hFW
    obtain ⟨r0, r1, r2, r3, r4⟩ := cells5 hr5
    obtain ⟨t0, t1, -, -⟩ := box_two hr2
    refine bodyPost_ret (v := .tuple #[.agg #[.string ⟨#[]⟩, .string ⟨#[]⟩, .int .i64 0, .int .i64 0, .int .i64 0], .agg #[.int .i64 QE, .int .i64 (x5.2 : Nat)]]) (by simp [results, Tryz.results61, go_sem, r0, r1, r2, r3, r4, t0, t1]) rfl ?_
    exact ⟨by rw [← HRES.out]; show _ = Ending.returned (rowA (if QE = 0 then _ else _)); rw [if_neg HQE.out]; rfl, by first | exact hbf | (rw [hp]; exact hbf)⟩
  have q1 : (QE != 0) = false := by rw [hqe]; rfl
  have HQE := Lib.hid hqe
  clear hqe
  have f5 := Lib.frozen_of_heap HZP1.out
  have f2 := Lib.frozen_of_heap HZQ1.out
  obtain ⟨z0, z1, z2, z3, z4⟩ := cells5 HZP1.out
  obtain ⟨y0, y1, -, -⟩ := box_two HZQ1.out
  go_wp2_with (first | (go_at_call 52; refine (HPr.out _).mono ?_; rintro e w9 ⟨rfl, hw9⟩; rw [hw9]; clear hw9 w9) | fail)
  clear z0 z1 z2 z3 z4 y0 y1 f5 f2 c0 d0 c1 d1 c2 d2 c3 d3 c4 d4 c5 d5
  have hr5 := hp2_far (hp5_same HZP1.out (.string (mk x1.1)) (.string (mk MV)) (.int .i64 NV) (.int .i64 DV) (.int .i64 QV)) hne (.int .i64 0) (.int .i64 0)
  have hr2 := hp2_same (hp5_far HZQ1.out (Ne.symm hne) (.string (mk x1.1)) (.string (mk MV)) (.int .i64 NV) (.int .i64 DV) (.int .i64 QV)) (.int .i64 0) (.int .i64 0)
  have hbf := below_p2 (below_p5 HBW.out (Nat.le_refl p) (.string (mk x1.1)) (.string (mk MV)) (.int .i64 NV) (.int .i64 DV) (.int .i64 QV)) hpq (.int .i64 0) (.int .i64 0)
  simp only [put2, put5] at hr5 hr2 hbf
  obtain ⟨FW, hFW⟩ : ∃ z, z = ((((((w1.setCell ⟨p, 0, none⟩ (.string (mk x1.1))).setCell ⟨p, 1, none⟩ (.string (mk MV))).setCell ⟨p, 2, none⟩ (.int .i64 NV)).setCell ⟨p, 3, none⟩ (.int .i64 DV)).setCell ⟨p, 4, none⟩ (.int .i64 QV)).setCell ⟨q, 0, none⟩ (.int .i64 0)).setCell ⟨q, 1, none⟩ (.int .i64 0) := ⟨_, rfl⟩
  rw [← hFW] at hr5 hr2 hbf ⊢
  clear hFW
  obtain ⟨r0, r1, r2, r3, r4⟩ := cells5 hr5
  obtain ⟨t0, t1, -, -⟩ := box_two hr2
  refine bodyPost_ret (v := .tuple #[.agg #[.string (mk x1.1), .string (mk MV), .int .i64 NV, .int .i64 DV, .int .i64 QV], .agg #[.int .i64 0, .int .i64 0]]) (by simp [results, Tryz.results61, go_sem, r0, r1, r2, r3, r4, t0, t1]) rfl ?_
  exact ⟨by rw [← HRES.out]; show _ = Ending.returned (rowA (if QE = 0 then _ else _)); rw [if_pos HQE.out]; rfl, by first | exact hbf | (rw [hp]; exact hbf)⟩
end Go.Proofs.YtmoldgmfhcmceaaGreatDoor.Fe
end
