/-
  What ratio.Sort answers, as a contract, given what slices.SortStableFunc leaves: a new row that holds a permutation of what it was handed, in order; all that was there is as it was. And: slices.SortStableFunc at fewer than twenty.
-/
import Derived.Test.YtcfmacpogmkadaaSKey
import Derived.Laws.CopyOwn
import Derived.Laws.MakeOwn
namespace Go.Proofs.Ytcfmacpogmkadaa
open Go.Shelf Go.RowKit Go.Lib Go.Sort

theorem info23 : (Try.prog.info? 23).map (fun i => (i.zero, i.size, i.bytes)) = some (some (.float .f64 0), 1, 8) := by kernel_rfl
theorem size23 : (Try.prog.info? 23).map (·.size) = some 1 := by kernel_rfl
theorem run_mk (n : Nat) (hn : n < 17592186044416) (w : World) : (Instr.makeSlice 29 (.int .i64 n) (.int .i64 n)).run Try.prog w = .ok (.slice (some ⟨w.heap.size, 0, none⟩) n n) (w.alloc (.cells (madeCells #[.float .f64 0] n) 23)) := by
  have hi := info23
  cases hq : Try.prog.info? 23 with
  | none => rw [hq] at hi; cases hi
  | some i =>
    rw [hq] at hi
    simp only [Option.map_some, Option.some.injEq, Prod.mk.injEq] at hi
    obtain ⟨h1, h2, h3⟩ := hi
    have := run_make (P := Try.prog) w 29 23 i (.float .f64 0) Try.underlying29 hq h1 .i64 .i64 n n (by omega) (by omega) (by rw [h3]; omega) (by omega)
    rw [h2, Nat.mul_one, Int.toNat_natCast] at this
    exact this

/-- Whatever row of floats is read: its cells. -/
def Row (a : Option Addr) (n : Nat) (f : Nat → UInt64) (w : World) : Prop := ∀ i, i < n → ∃ b off, a = some ⟨b, off, none⟩ ∧ b < w.heap.size ∧ w.cell? ⟨b, off + i, none⟩ = some (encF (f i))
theorem row_below {a : Option Addr} {n : Nat} {f : Nat → UInt64} {w w' : World} (h : Row a n f w) (hb : Below w.heap.size w w') : Row a n f w' := fun i hi => by
  obtain ⟨b, off, e, hlt, hc⟩ := h i hi
  exact ⟨b, off, e, Nat.lt_of_lt_of_le hlt hb.size, (hb.cell (p := ⟨b, off + i, none⟩) hlt).trans hc⟩
theorem row_drew {a : Option Addr} {n : Nat} {f : Nat → UInt64} {w : World} (h : Row a n f w) (q : Nat) : Row a n f (w.drewN q) := h
def arr (n : Nat) (f : Nat → UInt64) : Array UInt64 := ((List.range n).map f).toArray
theorem size_arr (n : Nat) (f : Nat → UInt64) : (arr n f).size = n := by simp [arr]
theorem arr_get (n : Nat) (f : Nat → UInt64) (i : Nat) (h : i < n) : (arr n f)[i]! = f i := by
  rw [getElem!_pos _ i (by rw [size_arr]; exact h)]
  simp [arr]

theorem below_alloc1 (w : World) (o : Obj) : Below w.heap.size w (w.alloc o) := (Below.refl _ w).alloc (Nat.le_refl _) o

theorem copy_new (a : Option Addr) (n cap : Nat) (f : Nat → UInt64) (w : World) (hr : Row a n f w) :
    ∃ w2, (Builtin.copy_ #[29, 29] 3 #[.slice (some ⟨w.heap.size, 0, none⟩) n n, .slice a n cap]).run Try.prog (w.alloc (.cells (madeCells #[.float .f64 0] n) 23)) = .ok (.int .i64 n) w2 ∧
      Holds encF w2 w.heap.size 0 (arr n f) ∧ w.heap.size < w2.heap.size ∧ Below w.heap.size w w2 := by
  have hg : (w.alloc (.cells (madeCells #[.float .f64 0] n) 23)).heap[w.heap.size]? = some (.cells (madeCells #[.float .f64 0] n) 23 (0, 0)) := by
    show (w.heap.push _)[w.heap.size]? = _
    simp
  have hbel := below_alloc1 w (.cells (madeCells #[.float .f64 0] n) 23)
  by_cases h0 : n = 0
  · subst h0
    refine ⟨_, run_copy_none _ 29 29 3 23 _ _ _ _ _ _ Try.underlying29 size23 (by simp), fun j hj => by rw [size_arr] at hj; omega, ?_, hbel⟩
    show w.heap.size < (w.heap.push _).size
    simp
  · obtain ⟨b, off, rfl, hlt, _⟩ := hr 0 (by omega)
    have hcs : ∀ j v, ((List.range n).map fun i => encF (f i))[j]? = some v → (w.alloc (.cells (madeCells #[.float .f64 0] n) 23)).cell? ((⟨b, off, none⟩ : Addr).add j) = some v := fun j v hv => by
      have hj : j < n := by
        rcases Nat.lt_or_ge j n with c | c
        · exact c
        · rw [List.getElem?_eq_none (by simpa using c)] at hv; cases hv
      obtain ⟨b', off', e, hlt', hc⟩ := hr j hj
      simp only [Option.some.injEq, Addr.mk.injEq, and_true] at e
      obtain ⟨rfl, rfl⟩ := e
      rw [List.getElem?_map, List.getElem?_range hj] at hv
      simp only [Option.map_some, Option.some.injEq] at hv
      rw [← hv]
      rw [show (⟨b, off, none⟩ : Addr).add j = ⟨b, off + j, none⟩ from by unfold Addr.add; split <;> simp_all]
      exact (hbel.cell (p := ⟨b, off + j, none⟩) hlt').trans hc
    have h := run_copy_row (P := Try.prog) (w.alloc (.cells (madeCells #[.float .f64 0] n) 23)) 29 29 3 23 w.heap.size 0 n n ⟨b, off, none⟩ n cap (madeCells #[.float .f64 0] n) 23 ((List.range n).map fun i => encF (f i)) Try.underlying29 size23 hg (by simp) hcs (by rw [size_madeCells]; simp) (fun v hv => by obtain ⟨i, _, rfl⟩ := List.mem_map.1 hv; rfl)
    have el : ((List.range n).map fun i => encF (f i)).length = n := by simp
    rw [el] at h
    refine ⟨_, h, ?_, ?_, below_setRow hbel (Nat.le_refl _) _⟩
    · have hg2 := setRow_heap (w.alloc (.cells (madeCells #[.float .f64 0] n) 23)) w.heap.size _ ((madeCells #[Value.float .f64 0] n).toList.take 0 ++ ((List.range n).map fun i => encF (f i)) ++ (madeCells #[Value.float .f64 0] n).toList.drop (0 + n)).toArray 23 (0, 0) hg
      intro j hj
      rw [size_arr] at hj
      have ed : (madeCells #[Value.float .f64 0] n).toList.drop (0 + n) = [] := List.drop_eq_nil_of_le (by rw [Array.length_toList, size_madeCells]; omega)
      rw [ed] at hg2 ⊢
      constructor
      · unfold World.cell?
        simp only [hg2]
        rw [arr_get n f j hj]
        simp [List.getElem?_range hj]
      · unfold World.frozen?
        simp only [hg2]
        simp
    · show w.heap.size < ((w.alloc _).setRow _ _).heap.size
      simp [World.setRow]

theorem below_SW {B g off : Nat} {d : Array UInt64} {w w2 w3 : World} (hb : Below B w w2) (hg : B ≤ g) (hgs : g < w2.heap.size) (S : SW encF w2 g off d w3) : Below B w w3 := by
  obtain ⟨m, os, rfl⟩ := S
  refine hb.trans ⟨rfl, rfl, rfl, ?_, fun k hk => ?_⟩
  · unfold sortWorld; rw [size_grow, size_putRow]; exact Nat.le_add_right _ _
  · unfold sortWorld
    by_cases hks : k < w2.heap.size
    · rw [heap_grow_old _ _ (by rw [size_putRow]; exact hks)]
      show (mapBlock (Sort.ahead w2 m) g _).heap[k]? = _
      unfold mapBlock
      rw [Array.getElem?_modify, if_neg (by omega)]
      rfl
    · exfalso; omega

/-- What slices.SortStableFunc leaves with ratio.Cmp, of n floats. -/
def StabOK (n : Nat) : Prop := ∀ (blk off cap : Nat) (d : Array UInt64) (w : World), Holds encF w blk off d → blk < w.heap.size → d.size = n →
    Calls Try.prog 36 #[.slice (some ⟨blk, off, none⟩) n cap, .func (.func 15) #[] #[]] w fun e w' => e = .returned (.tuple #[]) ∧ ∃ d', PermIn 0 n d d' ∧ SortedIn (ltOf cfF) 0 n d' ∧ SW encF w blk off d' w'

set_option maxHeartbeats 1000000 in
theorem sort_of (a : Option Addr) (n cap : Nat) (f : Nat → UInt64) (w : World) (hm : n < 17592186044416) (hst : StabOK n) (hr : Row a n f w) :
    Calls Try.prog 17 #[.slice a n cap] w fun e w' => e = .returned (.slice (some ⟨w.heap.size, 0, none⟩) n n) ∧ ∃ d, PermIn 0 n (arr n f) d ∧ SortedIn (ltOf cfF) 0 n d ∧ Holds encF w' w.heap.size 0 d ∧ w.heap.size < w'.heap.size ∧ Below w.heap.size w w' := by
  have hmk := run_mk n hm
  obtain ⟨w2, hcp, hH, hlt, hbel⟩ := copy_new a n cap f w hr
  have hs := hst w.heap.size 0 n (arr n f) w2 hH hlt (size_arr n f)
  have HH : Aside (Holds encF w2 w.heap.size 0 (arr n f)) := hH
  have HB : Aside (Below w.heap.size w w2) := hbel
  have HL : Aside (w.heap.size < w2.heap.size) := hlt
  clear hr hH hbel hlt hst
  go_enter Try.func17, Try.ntmps17
  go_wp2_with fail
  refine hs.mono ?_
  rintro e w' ⟨rfl, d, P, Q, S⟩
  have HP : Aside (PermIn 0 n (arr n f) d) := P
  have HQ : Aside (SortedIn (ltOf cfF) 0 n d) := Q
  have HS : Aside (SW encF w2 w.heap.size 0 d w') := S
  clear S P Q hs hcp hmk
  go_wp2
  go_ret
  refine ⟨rfl, d, HP.out, HQ.out, HS.out.holds HL.out HH.out HP.out.1, HS.out.lt HL.out, below_SW HB.out (Nat.le_refl _) HL.out HS.out⟩

set_option maxHeartbeats 1000000 in
theorem stable_small (blk off cap n : Nat) (d : Array UInt64) (w : World) (hH : Holds encF w blk off d) (hblk : blk < w.heap.size) (hn : d.size = n) (hsz : n < 20) :
    Calls Try.prog 42 #[.slice (some ⟨blk, off, none⟩) n cap, .int .i64 n, .func (.func 15) #[] #[]] w fun e w' => e = .returned (.tuple #[]) ∧ ∃ d', PermIn 0 n d d' ∧ SortedIn (ltOf cfF) 0 n d' ∧ SW encF w blk off d' w' := by
  have hc := Try.insertionSortCmpFunc_s encF cfF 15 #[] blk off cap 0 n d d w w egF (cmpF blk off d.size w) ⟨oneF, hH, hblk⟩ rfl (SW.start hH) (Nat.zero_le _) (by omega) (by omega)
  rw [hn, show ((0 : Nat) : Int) = 0 from rfl] at hc
  have k := insertionSort_holds swoF d 0 n (Nat.zero_le _) (by omega)
  have HK1 : Aside (PermIn 0 n d (Sort.insertionSort (ltOf cfF) d 0 n)) := k.1
  have HK2 : Aside (SortedIn (ltOf cfF) 0 n (Sort.insertionSort (ltOf cfF) d 0 n)) := k.2
  generalize Sort.insertionSort (ltOf cfF) d 0 n = d' at *
  clear hH hn k hblk
  have q1 : ¬ (20 : Int) ≤ (n : Int) := by omega
  have q2 : ¬ (20 : Int) < (n : Int) := by omega
  go_enter Try.func42, Try.ntmps42
  go_wp2
  refine wp_loop_rounds 1 ?_
  rw [rounds_succ]
  go_wp2_with fail
  refine hc.mono ?_
  rintro e w1 ⟨rfl, S⟩
  have HS : Aside (SW encF w blk off d' w1) := S
  clear S hc
  go_wp2
  refine wp_loop_rounds 1 ?_
  rw [rounds_succ]
  go_wp2
  go_end0
  exact ⟨rfl, d', HK1.out, HK2.out, HS.out⟩
set_option maxHeartbeats 1000000 in
theorem stab_small (n : Nat) (hsz : n < 20) : StabOK n := fun blk off cap d w hH hblk hn => by
  have hc := stable_small blk off cap n d w hH hblk hn hsz
  clear hH hn
  go_enter Try.func36, Try.ntmps36
  go_wp2_with fail
  refine hc.mono ?_
  rintro e w' ⟨rfl, d', P, Q, S⟩
  have HS : Aside _ := S
  clear S hc
  go_wp2
  go_end0
  exact ⟨rfl, d', P, Q, HS.out⟩
end Go.Proofs.Ytcfmacpogmkadaa
