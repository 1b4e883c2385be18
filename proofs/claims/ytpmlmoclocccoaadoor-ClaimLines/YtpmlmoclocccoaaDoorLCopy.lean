/-
  What claim.copyMods, copyLines and Copy answer, as contracts: the same in new memory.
-/
import Derived.Test.YtpmlmoclocccoaaDoorLCheck
import Derived.Test.YtpmlmoclocccoaaDoorLRow
set_option linter.unusedSimpArgs false
namespace Go.Proofs.YtpmlmoclocccoaaDoor.Cm
open Go.RowKit
theorem info9 : (Tryd.prog.info? 9).map (fun i => (i.zero, i.size, i.bytes)) = some (some (.string ByteArray.empty), 1, 16) := by kernel_rfl
theorem size9 : (Tryd.prog.info? 9).map (·.size) = some 1 := by kernel_rfl
theorem infoL : (Tryd.prog.info? 35).map (fun i => (i.zero, i.size, i.bytes)) = some (some (.agg #[.string ByteArray.empty, .slice none 0 0, .int .i64 0, .int .i64 0, .int .i64 0, .int .i64 0]), 6, 72) := by kernel_rfl
theorem sizeL : (Tryd.prog.info? 35).map (·.size) = some 6 := by kernel_rfl
theorem run_make_lines (n : Nat) (hn : n ≤ 1000000) (w : World) : (Instr.makeSlice 22 (.int .i64 (n : Int)) (.int .i64 (n : Int))).run Tryd.prog w = .ok (.slice (some ⟨w.heap.size, 0, none⟩) n n) (w.alloc (.cells (madeCells #[.string ByteArray.empty, .slice none 0 0, .int .i64 0, .int .i64 0, .int .i64 0, .int .i64 0] (n * 6)) 35)) := by
  obtain ⟨i, hi, hzz⟩ := Option.map_eq_some_iff.1 infoL
  simp only [Prod.mk.injEq] at hzz
  obtain ⟨hz, hs, hb⟩ := hzz
  have hr := run_make (P := Tryd.prog) w 22 35 i _ Tryd.underlying22 hi hz .i64 .i64 n n (by omega) (Int.le_refl _) (by rw [hb]; omega) (by omega)
  rw [hs] at hr
  simp only [Int.toNat_natCast] at hr
  rw [hr]
  rfl

set_option maxHeartbeats 1000000 in
theorem copyMods_any (v : Value) (l : List Tx) (w : World) (h : TxAt All w v l) (hl : l.length ≤ 1000000) :
    Calls Tryd.prog 50 #[v] w fun e w' => (∃ u, e = .returned u ∧ NewTx w.heap.size w' u l) ∧ Below w.heap.size w w' := by
  have HV := Lib.hid h
  obtain ⟨a, c, rfl, h1, h2⟩ := TxAt.form h
  clear h
  cases l with
  | nil =>
    go_enter Tryd.func50, Tryd.ntmps50
    go_wp2
    go_ret
    exact ⟨⟨_, rfl, Or.inl ⟨rfl, rfl⟩⟩, Below.refl _ _⟩
  | cons t0 r =>
    generalize hL : t0 :: r = L at *
    have hne : L ≠ [] := by rw [← hL]; simp
    have hpos : 0 < L.length := by rw [← hL]; simp
    clear hL
    have hz : ((L.length : Int) == 0) = false := by simp; omega
    obtain ⟨b, o, rfl, -, -⟩ := tx_get HV.out 0 hpos
    have HMK := run_make_row' (P := Tryd.prog) 33 9 (.string ByteArray.empty) 16 Tryd.underlying33 info9 rfl .i64 .i64 L.length (by omega) (by omega)
    have HCP : ∀ ty, (Builtin.copy_ #[33, 33] ty #[.slice (some ⟨w.heap.size, 0, none⟩) L.length L.length, .slice (some ⟨b, o, none⟩) L.length c]).run Tryd.prog (w.alloc (.cells (madeCells #[.string ByteArray.empty] L.length) 9)) = .ok (goInt L.length) (w.alloc (.cells ((List.range (L.length * 1)).map fun i => Value.string (mk (L.getD i []))).toArray 9)) := fun ty =>
      copy_new Tryd.prog w 33 33 ty 9 1 L.length _ 9 b o c (fun i => Value.string (mk (L.getD i []))) Tryd.underlying33 size9 (by rw [size_madeCells]; omega) (fun q hq => by
        have hql : q < L.length := by omega
        obtain ⟨b', o', e0, hx, hu⟩ := tx_get HV.out q hql
        injection e0 with e0
        injection e0 with e1 e2
        subst e1 e2
        rw [hu, List.getD_eq_getElem?_getD, hx]; rfl) (fun _ _ => rfl)
    rw [Nat.mul_one] at HCP
    have HN : Hid (NewTx w.heap.size (w.alloc (.cells ((List.range L.length).map fun i => Value.string (mk (L.getD i []))).toArray 9)) (.slice (some ⟨w.heap.size, 0, none⟩) L.length L.length) L) := by
      refine Or.inr ⟨hne, rfl, ?_⟩
      have := World.rowIs_alloc w ((List.range L.length).map fun i => Value.string (mk (L.getD i []))).toArray 9 (fun i => Value.string (mk (L.getD i []))) (fun i hi => by
        have : i < L.length := by simpa using hi
        simp [this])
      simpa using this
    go_enter Tryd.func50, Tryd.ntmps50
    go_wp2
    go_ret
    exact ⟨⟨_, rfl, HN.out⟩, below_alloc _ _⟩

/-- Behind some rounds: the first k services have modifiers of their own, the others share them still. -/
def Half (B : Nat) (w0 w : World) (ls : List Ln) (k : Nat) (M : Nat → Value) : Prop :=
  w.rowIs B 35 (ls.length * 6) (rowc ls M) ∧ (∀ j x, ls[j]? = some x → j < k → ∃ b, B < b ∧ NewTx b w (M j) x.mods) ∧ (∀ j x, ls[j]? = some x → k ≤ j → TxAt All w0 (M j) x.mods)
theorem Half.step {B : Nat} {w0 wr w1 : World} {ls : List Ln} {k : Nat} {M : Nat → Value} (h : Half B w0 wr ls k M) (hb : Below wr.heap.size wr w1) {x : Ln} (hx : ls[k]? = some x) {u : Value} (hu : NewTx wr.heap.size w1 u x.mods) :
    Half B w0 (w1.setCell ⟨B, k * 6 + 1, none⟩ u) ls (k + 1) (fun j => if j = k then u else M j) := by
  obtain ⟨hr, ho, ht⟩ := h
  have hB := hr.lt
  have hblk : ∀ b, B < b → (w1.setCell ⟨B, k * 6 + 1, none⟩ u).heap[b]? = w1.heap[b]? := fun b hb' => Below.heap_setCell _ _ _ _ (Nat.ne_of_gt hb')
  refine ⟨?_, fun j y hj hjk => ?_, fun j y hj hjk => ?_⟩
  · have h1 := hr.of_block (w' := w1) (hb.block B hB)
    exact (h1.set (k * 6 + 1) u).congr fun q _ => rowc_set ls M k u q
  · by_cases e : j = k
    · subst e
      rw [hx] at hj
      obtain rfl := Option.some.inj hj
      refine ⟨wr.heap.size, hB, ?_⟩
      show NewTx _ _ (if j = j then u else M j) _
      rw [if_pos rfl]
      exact hu.of_block fun _ => hblk _ hB
    · obtain ⟨b, hb1, hn⟩ := ho j y hj (by omega)
      refine ⟨b, hb1, ?_⟩
      show NewTx _ _ (if j = k then u else M j) _
      rw [if_neg e]
      exact hn.of_block fun hlt => (hblk b hb1).trans (hb.block b hlt)
  · show TxAt _ _ (if j = k then u else M j) _
    rw [if_neg (show ¬ j = k by omega)]
    exact ht j y hj (by omega)

set_option maxHeartbeats 2000000 in
theorem copyLines_any (v : Value) (ls : List Ln) (w : World) (h : LnsAt All w v ls) (hl : ls.length ≤ 1000000) (hml : ∀ x ∈ ls, x.mods.length ≤ 1000000) :
    Calls Tryd.prog 39 #[v] w fun e w' => (∃ u, e = .returned u ∧ NewLns w.heap.size w' u ls) ∧ Below w.heap.size w w' := by
  have HV := Lib.hid h
  obtain ⟨a, c, rfl, h1, h2⟩ := LnsAt.form h
  cases ls with
  | nil =>
    clear h
    go_enter Tryd.func39, Tryd.ntmps39
    go_wp2
    go_ret
    exact ⟨⟨_, rfl, Or.inl ⟨rfl, rfl⟩⟩, Below.refl _ _⟩
  | cons t0 r =>
    generalize hL : t0 :: r = L at *
    have hne : L ≠ [] := by rw [← hL]; simp
    have hpos : 0 < L.length := by rw [← hL]; simp
    clear hL
    have hz : ((L.length : Int) == 0) = false := by simp; omega
    obtain ⟨b, o, m0, rfl, -, -, -⟩ := LnsAt.get h 0 hpos
    obtain ⟨M0, HM0⟩ := Deep.choose_lt (α := Value) (n := L.length) (p := fun j m => ∀ x, L[j]? = some x → LnCells w b (o + j * 6) x m ∧ TxAt All w m x.mods) (fun j hj => by
      obtain ⟨b', o', m, e0, hx, hc, hr⟩ := LnsAt.get h j hj
      injection e0 with e0
      injection e0 with e1 e2
      subst e1 e2
      exact ⟨m, fun x hx' => by rw [hx] at hx'; obtain rfl := Option.some.inj hx'; exact ⟨hc, hr⟩⟩)
    have hM1 : ∀ j x, L[j]? = some x → LnCells w b (o + j * 6) x (M0 j) ∧ TxAt All w (M0 j) x.mods := fun j x hx => HM0 j (List.getElem?_eq_some_iff.1 hx).1 x hx
    clear h HM0
    have HMK := run_make_lines L.length hl
    have HCP : ∀ ty, (Builtin.copy_ #[22, 22] ty #[.slice (some ⟨w.heap.size, 0, none⟩) L.length L.length, .slice (some ⟨b, o, none⟩) L.length c]).run Tryd.prog (w.alloc (.cells (madeCells #[.string ByteArray.empty, .slice none 0 0, .int .i64 0, .int .i64 0, .int .i64 0, .int .i64 0] (L.length * 6)) 35)) = .ok (goInt L.length) (w.alloc (.cells ((List.range (L.length * 6)).map (rowc L M0)).toArray 35)) := fun ty =>
      copy_new Tryd.prog w 22 22 ty 35 6 L.length _ 35 b o c (rowc L M0) Tryd.underlying22 sizeL (size_madeCells _ _) (fun q hq => row_of_cells (fun j x hx => (hM1 j x hx).1) q hq) (rowc_one L M0 fun j hj => by
        obtain ⟨a, c, e, -, -⟩ := TxAt.form (hM1 j _ (List.getElem?_eq_getElem hj)).2
        rw [e]; rfl)
    have HST : Hid (Half w.heap.size w (w.alloc (.cells ((List.range (L.length * 6)).map (rowc L M0)).toArray 35)) L 0 M0) := by
      refine ⟨?_, fun j x _ hj => absurd hj (by omega), fun j x hj _ => (hM1 j x hj).2⟩
      have := World.rowIs_alloc w ((List.range (L.length * 6)).map (rowc L M0)).toArray 35 (rowc L M0) (fun i hi => by
        have : i < L.length * 6 := by simpa using hi
        simp [this])
      simpa using this
    have HML := Lib.hid hml
    clear hM1 hml
    go_enter Tryd.func39, Tryd.ntmps39
    go_wp2
    go_loopg [16] (L.length) (fun g i wr => ∃ k : Nat, ∃ M : Nat → Value, k ≤ L.length ∧ g = L.length - k ∧ i = .int .i64 k ∧ Hid (Below w.heap.size w wr) ∧ Hid (Half w.heap.size w wr L k M))
    case atStart => exact ⟨0, M0, Nat.zero_le _, rfl, rfl, below_alloc _ _, HST.out⟩
    case round =>
      obtain ⟨k, M, hk, hg, rfl, HB, HH⟩ := hrel
      clear HMK HCP
      by_cases hlt : k < L.length
      · have hx := List.getElem?_eq_getElem hlt
        have hcell := (cells_of_row HH.out.1 k _ hx).2.1
        rw [Nat.zero_add] at hcell
        have htx := TxAt.move (HH.out.2.2 k _ hx (Nat.le_refl _)) (Below.moves HB.out)
        have HC := Lib.hid (copyMods_any (M k) L[k].mods wr htx (HML.out _ (List.mem_of_getElem? hx)))
        have HW : Hid (∀ w1, Below wr.heap.size wr w1 → w1.cell? ⟨w.heap.size, k * 6 + 1, none⟩ = some (M k) ∧ w1.frozen? ⟨w.heap.size, k * 6 + 1, none⟩ = false) := fun w1 hb => by
          have h1 := HH.out.1.of_block (w' := w1) (hb.block _ HH.out.1.lt)
          have h2 := (cells_of_row h1 k _ hx).2.1
          rw [Nat.zero_add] at h2
          exact ⟨h2, h1.frozen _⟩
        have HS : Hid (∀ w1 u, Below wr.heap.size wr w1 → NewTx wr.heap.size w1 u L[k].mods → Half w.heap.size w (w1.setCell ⟨w.heap.size, k * 6 + 1, none⟩ u) L (k + 1) (fun j => if j = k then u else M j)) := fun w1 u hb hu => HH.out.step hb hx hu
        clear hx
        obtain ⟨am, cm, hmk, -, -⟩ := TxAt.form htx
        rw [hmk] at hcell HC HW
        clear htx
        go_wp2_with (first | (go_at_call 50; refine (HC.out).mono ?_; rintro e w1 ⟨⟨u, rfl, hu⟩, hb⟩; obtain ⟨n1, n2⟩ := HW.out _ hb; have HB1 := Lib.hid hb; have HU := Lib.hid hu; obtain ⟨ua, uc, rfl⟩ := NewTx.form hu; clear hb hu))
        go_roundg (L.length - (k + 1))
        case rel => exact ⟨k + 1, _, by omega, rfl, by go_num, (below_trans HB.out HB1.out).setCell (p := ⟨w.heap.size, k * 6 + 1, none⟩) (Nat.le_refl _) _, HS.out _ _ HB1.out HU.out⟩
        case measure => omega
      · have hkk : k = L.length := by omega
        have HN : Hid (NewLns w.heap.size wr (.slice (some ⟨w.heap.size, 0, none⟩) L.length L.length) L) := Or.inr ⟨hne, rfl, M, HH.out.1, fun j x hj => HH.out.2.1 j x hj (by rw [hkk]; exact (List.getElem?_eq_some_iff.1 hj).1)⟩
        clear hkk
        go_wp2
        go_ret
        exact ⟨⟨_, rfl, HN.out⟩, HB.out⟩

abbrev zeroc : Obj := .cells #[.string { data := #[] }, .string { data := #[] }, .string { data := #[] }, .int .i64 0, .int .i64 0, .string { data := #[] }, .slice none 0 0] 24
theorem frozen_new (w w' : World) (cs : Array Value) (t : TypeId) (hb : Below (w.alloc (.cells cs t)).heap.size (w.alloc (.cells cs t)) w') (i : Nat) : w'.frozen? ⟨w.heap.size, i, none⟩ = false := by
  have h := hb.block w.heap.size (by simp)
  rw [heap_alloc_new] at h
  simp [World.frozen?, h]

set_option maxHeartbeats 2000000 in
theorem copy_any (c : Cl) (m : Value) (w : World) (hm : LnsAt All w m c.lines) (hl : c.lines.length ≤ 1000000) (hml : ∀ x ∈ c.lines, x.mods.length ≤ 1000000) :
    Calls Tryd.prog 23 #[clv c m] w fun e w' => (∃ u, e = .returned (clv c u) ∧ NewLns (w.heap.size + 2) w' u c.lines) ∧ Below w.heap.size w w' := by
  have HC := Lib.hid (copyLines_any m c.lines ((w.alloc (boxc c m)).alloc zeroc) (LnsAt.move hm (Below.moves (below_trans (below_alloc w (boxc c m)) (below_alloc _ zeroc)))) hl hml)
  have HX : Hid (∀ w1, Below ((w.alloc (boxc c m)).alloc zeroc).heap.size ((w.alloc (boxc c m)).alloc zeroc) w1 → ClBox w1 w.heap.size c m ∧ w1.frozen? ⟨w.heap.size, 6, none⟩ = false ∧ (∀ i, w1.frozen? ⟨w.heap.size + 1, i, none⟩ = false) ∧ (∃ z, ClBox w1 (w.heap.size + 1) ⟨[], [], [], 0, 0, [], []⟩ z) ∧ Below w.heap.size w w1 ∧ w.heap.size + 2 ≤ w1.heap.size) := fun w1 hb => by
    have hb0 := below_trans (below_alloc (w.alloc (boxc c m)) zeroc) hb
    have e1 : (w.alloc (boxc c m)).heap.size = w.heap.size + 1 := by simp
    have e2 : ((w.alloc (boxc c m)).alloc zeroc).heap.size = w.heap.size + 2 := by simp
    refine ⟨(ClBox.new w c m _).grw hb0, frozen_new w w1 _ _ hb0 6, fun i => ?_, ⟨.slice none 0 0, ?_⟩, below_trans (below_alloc w _) hb0, by have := hb.size; omega⟩
    · have := frozen_new (w.alloc (boxc c m)) w1 _ _ hb i
      rwa [e1] at this
    · have := (ClBox.new (w.alloc (boxc c m)) ⟨[], [], [], 0, 0, [], []⟩ (.slice none 0 0) 24).grw hb
      rwa [e1] at this
  have e2 : ((w.alloc (boxc c m)).alloc zeroc).heap.size = w.heap.size + 2 := by simp
  have HN : Hid (∀ w1 u, NewLns ((w.alloc (boxc c m)).alloc zeroc).heap.size w1 u c.lines → NewLns (w.heap.size + 2) w1 u c.lines) := fun w1 u h => by rwa [e2] at h
  clear e2
  obtain ⟨a, k, rfl, -, -⟩ := LnsAt.form hm
  clear hm
  go_enter Tryd.func23, Tryd.ntmps23
  go_wp2_with (first | (go_at_call 39; refine (HC.out).mono ?_; rintro e w1 ⟨⟨u, rfl, hu⟩, hb⟩; obtain ⟨⟨n0, n1, n2, n3, n4, n5, n6⟩, hf, hf1, ⟨z, q0, q1, q2, q3, q4, q5, q6⟩, hb0, hsz⟩ := HX.out _ hb; have HU := Lib.hid (HN.out _ _ hu); have HB := Lib.hid hb0; have HSZ := Lib.hid hsz; obtain ⟨ua, uc, rfl⟩ := NewLns.form hu; clear hb hu hb0 hsz))
  refine bodyPost_ret (v := clv c (.slice ua c.lines.length uc)) (by simp [results, Tryd.results23, go_sem, n0, n1, n2, n3, n4, n5, n6, q0, q1, q2, q3, q4, q5, q6]) rfl ?_
  refine ⟨⟨_, rfl, HU.out.of_blocks fun b hb _ => ?_⟩, ?_⟩
  · have h0 : b ≠ w.heap.size := by omega
    have h1 : b ≠ w.heap.size + 1 := by omega
    repeat rw [Below.heap_setCell _ _ _ _ (by first | exact h0 | exact h1)]
  · exact ((((((((HB.out.setCell (p := ⟨w.heap.size, 6, none⟩) (by simp) _).setCell (p := ⟨w.heap.size + 1, 0, none⟩) (by simp) _).setCell (p := ⟨w.heap.size + 1, 1, none⟩) (by simp) _).setCell (p := ⟨w.heap.size + 1, 2, none⟩) (by simp) _).setCell (p := ⟨w.heap.size + 1, 3, none⟩) (by simp) _).setCell (p := ⟨w.heap.size + 1, 4, none⟩) (by simp) _).setCell (p := ⟨w.heap.size + 1, 5, none⟩) (by simp) _).setCell (p := ⟨w.heap.size + 1, 6, none⟩) (by simp) _)
end Go.Proofs.YtpmlmoclocccoaaDoor.Cm
