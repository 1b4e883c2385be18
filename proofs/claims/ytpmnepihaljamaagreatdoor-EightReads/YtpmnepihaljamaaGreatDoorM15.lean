/-
  Texts put together (merge.py): KCat, KOf, EMath.
-/
import Derived.Lib.AppendZeros
import Derived.Laws.AppendOwnNone
import Derived.Test.YtpmnepihaljamaaGreatDoorM14
import Derived.Test.YtpmnepihaljamaaGreatDoorM7
import Derived.Test.YtpmnepihaljamaaGreatDoorM2
/-
  What slices.Grow (of nothing) and slices.Concat answer at segments, as contracts.
-/
section
set_option linter.unusedSimpArgs false
namespace Go.Proofs.YtpmnepihaljamaaGreatDoor
open Go.RowKit

set_option maxHeartbeats 1000000 in
set_option maxRecDepth 100000 in
theorem grow_any (n : Nat) (w : World) (h0 : 0 < n) (hn : n ≤ 1000000) :
    Calls Tryz.prog 87 #[.slice none 0 0, .int .i64 n] w fun e w' => (∃ c, e = .returned (.slice (some ⟨w.heap.size, 0, none⟩) 0 c) ∧ w'.ownsRow w.heap.size 50 1 (.slice (some ⟨w.heap.size, 0, none⟩) 0 c) 0 []) ∧ Below w.heap.size w w' := by
  obtain ⟨i47, q1, q2, q3, q4⟩ := info47
  have hrz := fun ty => Lib.run_append_nil_zeros (P := Tryz.prog) w 53 3 ty 50 i47 _ .i64 .i64 Tryz.underlying53 Tryz.underlying3 q1 q2 n h0 (by rw [q3]; omega) (by omega) (by rw [q4]; omega)
  have hge : n ≤ grownCap w n 0 50 := grownCap_ge w _ _ _
  have hle := grownCap_le_maxLen w n 0 50 (by simp only [maxLen]; omega)
  have hE := fun cur hs => World.ownsRow_made (base := w.heap.size) (size := 1) (e := 50) w.drew cur (grownCap w n 0 50) (Nat.le_refl _) hle hs
  have hB := fun o => Below.trans (Below.drew (Below.refl w.heap.size w)) (below_alloc w.drew o)
  have hz : (Builtin.zeroCells (Value.agg #[Value.slice none 0 0]).cells n ++ Builtin.zeroCells (Value.agg #[Value.slice none 0 0]).cells (grownCap w n 0 50 - n)).size = grownCap w n 0 50 * 1 := by
    have hzc : ∀ m, (Builtin.zeroCells (Value.agg #[Value.slice none 0 0]).cells m).size = m := fun m => by simp [Builtin.zeroCells, Value.cells]
    rw [Array.size_append, hzc, hzc]
    omega
  have HE := Lib.hid (hE _ hz)
  have HB := Lib.hid hB
  unfold maxLen at hle
  generalize Builtin.zeroCells (Value.agg #[Value.slice none 0 0]).cells n ++ Builtin.zeroCells (Value.agg #[Value.slice none 0 0]).cells (grownCap w n 0 50 - n) = cur at *
  generalize grownCap w n 0 50 = G at *
  clear hE hB hz
  go_enter Tryz.func87, Tryz.ntmps87
  go_wp2_with (at_builtin; refine Lib.wpList_append_run _ rfl _ _ _ _ rfl _ _ rfl rfl _ _ (hrz _) ?_)
  go_ret
  exact ⟨⟨_, rfl, HE.out⟩, HB.out _⟩

/-- A row's cells, as a list. -/
theorem sg_cells {K : Nat → Prop} {w : World} {ad : Addr} {n c : Nat} {l : List Sg} (h : SgAt K w (.slice (some ad) n c) l) :
    ∃ news : List Value, news.length = l.length ∧ (∀ j u, news[j]? = some u → w.cell? (ad.add j) = some u) ∧ (∀ (j : Nat) u g, news[j]? = some u → l[j]? = some g → ElAt K w u g) ∧ ∀ u ∈ news, u.oneCell' = true := by
  obtain ⟨a', c', e, _, _, h⟩ := h
  simp only [Value.slice.injEq] at e
  obtain ⟨rfl, rfl, rfl⟩ := e
  rcases h with rfl | ⟨b, o, he, _, _, hc⟩
  · exact ⟨[], rfl, fun j u h => by simp at h, fun j u g h => by simp at h, fun u h => by simp at h⟩
  · obtain rfl := Option.some.inj he
    have hx : ∀ (j : Nat) u, ((List.range l.length).map fun j => (w.cell? ⟨b, o + j, none⟩).getD .nilIface)[j]? = some u → ∃ g, l[j]? = some g ∧ w.cell? ⟨b, o + j, none⟩ = some u ∧ ElAt K w u g := fun j u hj => by
      have hjl : j < l.length := by have := (List.getElem?_eq_some_iff.1 hj).1; simpa using this
      obtain ⟨u', hu, hr⟩ := hc j l[j] (List.getElem?_eq_getElem hjl)
      rw [List.getElem?_map, List.getElem?_range hjl] at hj
      simp only [Option.map_some, Option.some.injEq, hu, Option.getD_some] at hj
      subst hj
      exact ⟨_, List.getElem?_eq_getElem hjl, hu, hr⟩
    refine ⟨(List.range l.length).map fun j => (w.cell? ⟨b, o + j, none⟩).getD .nilIface, by simp, fun j u hj => ?_, fun j u g hj hg => ?_, fun u hu => ?_⟩
    · obtain ⟨_, _, h1, _⟩ := hx j u hj
      rw [add_off]; exact h1
    · obtain ⟨g', hg', _, h1⟩ := hx j u hj
      rw [hg] at hg'
      obtain rfl := Option.some.inj hg'
      exact h1
    · obtain ⟨j, hj⟩ := List.getElem?_of_mem hu
      obtain ⟨_, _, _, h1⟩ := hx j u hj
      obtain ⟨_, _, rfl, _⟩ := h1
      rfl
/-- Behind an append of a whole row that lay there before. -/
theorem DoneAt.app {B : Nat} {gs l : List Sg} {lv v' : Value} {w w' : World} {cs news : List Value} (h1 : w.ownsRow B 50 1 lv gs.length cs) (h2 : ∀ (i : Nat) g, gs[i]? = some g → ∃ u, cs[i]? = some u ∧ ElAt (fun b => lv.ownBlock ≠ some b) w u g)
    (hl : news.length = l.length) (hu : ∀ (j : Nat) u g, news[j]? = some u → l[j]? = some g → ElAt (fun b => b < B) w u g) (ho : w'.ownsRow B 50 1 v' (gs.length + l.length) (cs ++ news)) (hg : w.grownBy w' lv.ownBlock) (hat : v'.ownBlock = lv.ownBlock ∨ v'.ownBlock = some w.heap.size) : DoneAt B (gs ++ l) v' w' := by
  have hm : Moves (fun b => lv.ownBlock ≠ some b) (fun b => v'.ownBlock ≠ some b) w w' := moves_grown hg fun b hb hk => ⟨by
    rcases hat with e | e
    · rw [e]; exact hk
    · rw [e]; intro e2; have := Option.some.inj e2; omega, Ne.symm hk⟩
  have hm2 : Moves (fun b => b < B) (fun b => v'.ownBlock ≠ some b) w w' := Moves.trans (moves_weak w fun b _ hk => fun e => by have := (h1.lt b e).1; omega) hm
  have hcl : cs.length = gs.length := by have := h1.1; omega
  refine ⟨cs ++ news, by rw [List.length_append]; exact ho, fun i x hi => ?_⟩
  rcases Nat.lt_or_ge i gs.length with hlt | hge
  · rw [List.getElem?_append_left hlt] at hi
    obtain ⟨u', hu', he⟩ := h2 i x hi
    exact ⟨u', by rw [List.getElem?_append_left (by omega)]; exact hu', ElAt.move he hm⟩
  · rw [List.getElem?_append_right hge] at hi
    have hil : i - gs.length < news.length := by rw [hl]; exact (List.getElem?_eq_some_iff.1 hi).1
    have hn := List.getElem?_eq_getElem hil
    refine ⟨news[i - gs.length], by rw [List.getElem?_append_right (by omega), hcl]; exact hn, ElAt.move (hu _ _ _ hn hi) hm2⟩
theorem app_none {w : World} {B : Nat} (ty c : Nat) (v : Value) (n : Nat) (xs : List Value) (hown : w.ownsRow B 50 1 v n xs) : (Builtin.append_ #[53, 53] ty #[v, .slice none 0 c]).run Tryz.prog w = .ok v w := by
  obtain ⟨i47, q1, _, _, _⟩ := info47
  rcases hown.2 with ⟨rfl, rfl⟩ | ⟨g, cap, cur, rfl, _, _, hnc, _⟩
  · simp [Builtin.append_, run_underlying Tryz.underlying53, sizeOf, typeInfo, q1, Builtin.lenOf, Builtin.firstCells]
  · simp [Builtin.append_, run_underlying Tryz.underlying53, sizeOf, typeInfo, q1, Builtin.lenOf, Builtin.firstCells, hnc, storeCells]
def SgsAt (w : World) (v : Value) (ls : List (List Sg)) : Prop := RowAt All (SgAt All) w v ls
theorem SgsAt.move {w w' : World} {v : Value} {ls : List (List Sg)} (h : SgsAt w v ls) (hb : Below w.heap.size w w') : SgsAt w' v ls := RowAt.move h (Below.moves hb) fun _ _ _ h => SgAt.move h (Below.moves hb)
theorem sgs_low {w w' : World} {u : Value} {l : List Sg} (h : SgAt All w u l) (hb : Below w.heap.size w w') : SgAt (fun b => b < w.heap.size) w' u l := SgAt.move h ⟨hb.size, fun b hb' _ => ⟨hb', hb.block b hb'⟩⟩
theorem flat_snoc (ls : List (List Sg)) (k : Nat) (l : List Sg) (h : ls[k]? = some l) : (ls.take (k + 1)).flatten = (ls.take k).flatten ++ l := by
  rw [List.take_add_one, h]
  simp
theorem flat_le (ls : List (List Sg)) (k : Nat) : (ls.take k).flatten.length ≤ ls.flatten.length := by
  conv => rhs; rw [← List.take_append_drop k ls, List.flatten_append, List.length_append]
  omega
def fln (ls : List (List Sg)) (k : Nat) : Nat := (ls.take k).flatten.length
theorem fln_succ (ls : List (List Sg)) (k : Nat) (l : List Sg) (h : ls[k]? = some l) : fln ls (k + 1) = fln ls k + l.length := by
  unfold fln
  rw [flat_snoc ls k l h, List.length_append]
theorem fln_le (ls : List (List Sg)) (k n : Nat) (h : ls.flatten.length = n) : fln ls k ≤ n := by subst h; exact flat_le ls k
theorem fln_all (ls : List (List Sg)) (k n : Nat) (h : ls.flatten.length = n) (hk : ls.length ≤ k) : fln ls k = n := by
  subst h
  unfold fln
  rw [List.take_of_length_le hk]

set_option maxHeartbeats 2000000 in
set_option maxRecDepth 100000 in
theorem concat_any (v : Value) (ls : List (List Sg)) (w : World) (h : SgsAt w v ls) (h0 : 0 < ls.flatten.length) (hn : ls.flatten.length ≤ 200000) :
    Calls Tryz.prog 48 #[v] w fun x w' => (∃ u, x = .returned u ∧ SgAt All w' u ls.flatten) ∧ Below w.heap.size w w' := by
  have hv := h
  obtain ⟨a, c, rfl, h1, h2, -⟩ := h
  unfold maxLen at h2
  have HV : Hid (SgsAt w (.slice a ls.length c) ls) := hv
  clear hv
  obtain ⟨i47, q1, q2, q3, q4⟩ := info47
  obtain ⟨n, hfn⟩ : ∃ n, ls.flatten.length = n := ⟨_, rfl⟩
  rw [hfn] at h0 hn
  have HFN := Lib.hid hfn
  have HGr := Lib.hid (grow_any n w h0 (by omega))
  clear hfn
  go_enter Tryz.func48, Tryz.ntmps48
  go_wp2
  go_loopg [3, 11] (ls.length) (fun gg sz i wr => ∃ k : Nat, k ≤ ls.length ∧ gg = ls.length - k ∧ i = .int .i64 k ∧ sz = .int .i64 (fln ls k) ∧ wr = w)
  case atStart => exact ⟨0, Nat.zero_le _, rfl, rfl, rfl, rfl⟩
  case round =>
    obtain ⟨k, hk, hgk, rfl, rfl, hww⟩ := hrel
    rw [hww]
    clear hww wr
    by_cases hlt : k < ls.length
    · obtain ⟨b, o, u, rfl, hx, hu, hr⟩ := RowAt.get HV.out k hlt
      have hf := fln_succ ls k _ hx
      have hle := fln_le ls (k + 1) n HFN.out
      have HF := Lib.hid hf
      obtain ⟨au, cu, rfl, hu1, hu2, -⟩ := hr
      unfold maxLen at hu2
      have hz1 : fln ls k + ls[k].length ≤ 200000 := by omega
      clear hx hf hle
      go_wp2
      go_roundg (ls.length - (k + 1))
      case rel => exact ⟨k + 1, by omega, rfl, by go_num, by rw [HF.out]; go_num, rfl⟩
      case measure => omega
    · have hfa := fln_all ls k n HFN.out (by omega)
      rw [hfa]
      clear hfa hgk
      go_wp2_with (go_at_call 87; refine HGr.out.mono ?_; rintro e w1 ⟨⟨cp, rfl, ho⟩, hb⟩; have HB1 := Lib.hid hb; have HO1 := Lib.hid ho; clear hb ho)
      clear hk hlt
      go_loopg [6, 27] (ls.length) (fun gg lv i wr => ∃ k : Nat, k ≤ ls.length ∧ gg = ls.length - k ∧ i = .int .i64 k ∧ Hid (DoneAt w.heap.size (ls.take k).flatten lv wr) ∧ Hid (Below w.heap.size w wr))
      case atStart => exact ⟨0, Nat.zero_le _, rfl, rfl, ⟨[], HO1.out, fun i g hi => by simp at hi⟩, HB1⟩
      case round =>
        clear HB1 HO1
        obtain ⟨k, hk, hgk, rfl, HD, HB⟩ := hrel
        by_cases hlt : k < ls.length
        · obtain ⟨b, o, u, rfl, hx, hu, hr⟩ := RowAt.get (SgsAt.move HV.out HB.out) k hlt
          obtain ⟨b', o', u', e', _, hu', hr'⟩ := RowAt.get HV.out k hlt
          simp only [Option.some.injEq, Addr.mk.injEq] at e'
          obtain ⟨rfl, rfl, -⟩ := e'
          have huu : u' = u := by
            have := (HB.out).cell (p := ⟨b, o + k, none⟩) (World.block_lt_of_cell? _ _ hu')
            rw [hu, hu'] at this
            exact (Option.some.inj this).symm
          subst huu
          have HL := Lib.hid (sgs_low hr' HB.out)
          clear hu' hr'
          have hf := flat_snoc ls k _ hx
          have hfl := flat_le ls (k + 1)
          rw [HFN.out, hf, List.length_append] at hfl
          have HF := Lib.hid hf
          clear hf hx
          obtain ⟨cs, hd1, hd2⟩ := HD.out
          have HD1 := Lib.hid hd1
          have HD2 := Lib.hid hd2
          have hBw := HB.out.size
          obtain ⟨la, lc, rfl⟩ := own_form hd1
          clear hd1 hd2
          obtain ⟨au, cu, rfl, hu1, hu2, hu3⟩ := hr
          unfold maxLen at hu2
          generalize ls[k] = l at *
          generalize hgs : (ls.take k).flatten = gs at *
          clear hgs
          cases au with
          | none =>
            obtain rfl : l = [] := by
              rcases hu3 with h | ⟨b2, o2, h, _⟩
              · exact h
              · cases h
            rw [List.append_nil] at HF
            have HA := Lib.hid fun ty => app_none ty cu _ _ _ HD1.out
            clear hu3 hfl HL
            go_wp2_with (at_builtin; refine Lib.wpList_append_run _ rfl _ _ _ _ rfl _ _ rfl rfl _ _ (HA.out _) ?_)
            go_roundg (ls.length - (k + 1))
            case rel => exact ⟨k + 1, by omega, rfl, by go_num, by rw [HF.out]; exact HD.out, HB⟩
            case measure => omega
          | some ad =>
            obtain ⟨news, n1, n2, n3, n4⟩ := sg_cells HL.out
            have N1 := Lib.hid n1
            have N2 := Lib.hid n2
            have N3 := Lib.hid n3
            have N4 := Lib.hid n4
            clear hu3 n1 n2 n3 n4
            go_wp2_with (at_builtin; refine wpList_append_own_at _ (by rfl) _ _ 53 (by rfl) w.heap.size 50 i47 (.agg #[.slice none 0 0]) 1 24 Tryz.underlying53 q1 q2 q3 q4 (by rfl) (by omega) (.slice la gs.length lc) gs.length cs (by rfl) HD1.out ad l.length cu news (by rfl) ?c1 N2.out N4.out ?c3 ?c4 ?c5 ?_)
            case c1 => rw [N1.out, Nat.mul_one]
            case c3 => simp only [maxLen]; omega
            case c4 => omega
            case c5 => exact hBw
            intro lv w8 hown hgrow hnil hat
            obtain ⟨ga, gc, rfl⟩ := own_form hown
            have HD8 := Lib.hid (DoneAt.app HD1.out HD2.out N1.out N3.out hown hgrow hat)
            have HB8 := Lib.hid (HB.out.grown hgrow hBw fun k hk => (HD1.out.lt k hk).1)
            clear hown hgrow hnil hat
            go_wp2
            go_roundg (ls.length - (k + 1))
            case rel => exact ⟨k + 1, by omega, rfl, by go_num, by rw [HF.out]; exact HD8.out, HB8⟩
            case measure => omega
        · have HS := Lib.hid (DoneAt.segs HD.out)
          rw [List.take_of_length_le (by omega)] at HS
          obtain ⟨cs, hd1, -⟩ := HD.out
          obtain ⟨la, lc, rfl⟩ := own_form hd1
          clear hd1
          go_wp2
          go_ret
          exact ⟨⟨_, rfl, HS.out⟩, HB.out⟩
end Go.Proofs.YtpmnepihaljamaaGreatDoor
end

/-
  What the reference's Of answers, as a contract: a segment of three plain elements, in new memory.
-/
section
set_option linter.unusedSimpArgs false
namespace Go.Proofs.YtpmnepihaljamaaGreatDoor
open Go.RowKit

theorem row_newK {α : Type} {K : Nat → Prop} {R : World → Value → α → Prop} (w : World) (us : List Value) (xs : List α) (t : TypeId) (hK : K w.heap.size) (hl : us.length = xs.length) (hm : xs.length ≤ maxLen) (hR : ∀ (j : Nat) u x, us[j]? = some u → xs[j]? = some x → R (w.alloc (.cells us.toArray t)) u x) :
    RowAt K R (w.alloc (.cells us.toArray t)) (.slice (some ⟨w.heap.size, 0, none⟩) xs.length xs.length) xs := by
  refine ⟨_, _, rfl, Nat.le_refl _, hm, Or.inr ⟨w.heap.size, 0, rfl, hK, by simp, fun j x hj => ?_⟩⟩
  have hjl : j < us.length := by rw [hl]; exact (List.getElem?_eq_some_iff.1 hj).1
  refine ⟨us[j], ?_, hR j _ x (List.getElem?_eq_getElem hjl) hj⟩
  rw [Nat.zero_add, World.cell?_alloc_new]
  simp [hjl]
theorem tx_oneK {K : Nat → Prop} (w : World) (a : Tx) (hK : K w.heap.size) : TxAt K (w.alloc (.cells #[.string (mk a)] 9)) (.slice (some ⟨w.heap.size, 0, none⟩) 1 1) [a] := by
  refine row_newK (R := StrAt) w [.string (mk a)] [a] 9 hK rfl (by simp only [maxLen]; simp) fun j u x hu hx => ?_
  match j, hu, hx with
  | 0, hu, hx => simp at hu hx; subst hu hx; rfl
theorem el_threeK {K : Nat → Prop} {w : World} {u1 u2 u3 : Value} {g1 g2 g3 : List Tx} (hK : K w.heap.size) (h1 : TxAt K w u1 g1) (h2 : TxAt K w u2 g2) (h3 : TxAt K w u3 g3) : ElAt K (w.alloc (.cells #[u1, u2, u3] 45)) (.slice (some ⟨w.heap.size, 0, none⟩) 3 3) [g1, g2, g3] := by
  refine row_newK (R := TxAt K) w [u1, u2, u3] [g1, g2, g3] 45 hK rfl (by simp only [maxLen]; simp) fun j u x hu hx => ?_
  have hm := moves_alloc K w (.cells #[u1, u2, u3] 45)
  match j, hu, hx with
  | 0, hu, hx => simp at hu hx; subst hu hx; exact TxAt.move h1 hm
  | 1, hu, hx => simp at hu hx; subst hu hx; exact TxAt.move h2 hm
  | 2, hu, hx => simp at hu hx; subst hu hx; exact TxAt.move h3 hm

set_option maxHeartbeats 1000000 in
theorem of_new (a b c : Tx) (w : World) :
    Calls Tryz.prog 91 #[.string (mk a), .string (mk b), .string (mk c)] w fun x w' => (∃ q, x = .returned (.agg #[.slice (some ⟨q, 0, none⟩) 3 3]) ∧ ElAt (fun b => w.heap.size ≤ b) w' (.slice (some ⟨q, 0, none⟩) 3 3) (seg3 a b c)) ∧ Below w.heap.size w w' := by
  have HE : Hid (∀ o1, ElAt (fun b => w.heap.size ≤ b) (((((w.alloc o1).alloc (.cells #[.string (mk a)] 9)).alloc (.cells #[.string (mk b)] 9)).alloc (.cells #[.string (mk c)] 9)).alloc (.cells #[.slice (some ⟨w.heap.size + 1, 0, none⟩) 1 1, .slice (some ⟨w.heap.size + 2, 0, none⟩) 1 1, .slice (some ⟨w.heap.size + 3, 0, none⟩) 1 1] 45)) (.slice (some ⟨w.heap.size + 4, 0, none⟩) 3 3) (seg3 a b c)) := fun o1 => by
    have e0 : (w.alloc o1).heap.size = w.heap.size + 1 := by simp
    have e1 : ((w.alloc o1).alloc (.cells #[.string (mk a)] 9)).heap.size = w.heap.size + 2 := by simp
    have e2 : (((w.alloc o1).alloc (.cells #[.string (mk a)] 9)).alloc (.cells #[.string (mk b)] 9)).heap.size = w.heap.size + 3 := by simp
    have e3 : ((((w.alloc o1).alloc (.cells #[.string (mk a)] 9)).alloc (.cells #[.string (mk b)] 9)).alloc (.cells #[.string (mk c)] 9)).heap.size = w.heap.size + 4 := by simp
    have t1 := tx_oneK (K := fun b => w.heap.size ≤ b) (w.alloc o1) a (by show w.heap.size ≤ _; rw [e0]; omega)
    have t2 := tx_oneK (K := fun b => w.heap.size ≤ b) ((w.alloc o1).alloc (.cells #[.string (mk a)] 9)) b (by show w.heap.size ≤ _; rw [e1]; omega)
    have t3 := tx_oneK (K := fun b => w.heap.size ≤ b) (((w.alloc o1).alloc (.cells #[.string (mk a)] 9)).alloc (.cells #[.string (mk b)] 9)) c (by show w.heap.size ≤ _; rw [e2]; omega)
    rw [e0] at t1
    rw [e1] at t2
    rw [e2] at t3
    have := el_threeK (K := fun b => w.heap.size ≤ b) (by show w.heap.size ≤ _; rw [e3]; omega) (TxAt.move (TxAt.move t1 (moves_alloc _ _ _)) (moves_alloc _ _ (.cells #[.string (mk c)] 9))) (TxAt.move t2 (moves_alloc _ _ (.cells #[.string (mk c)] 9))) t3
    rw [e3] at this
    exact this
  have HB : Hid (∀ o1 o2 o3 o4 o5, Below w.heap.size w (((((w.alloc o1).alloc o2).alloc o3).alloc o4).alloc o5)) := fun o1 o2 o3 o4 o5 => below_trans (below_trans (below_trans (below_trans (below_alloc w o1) (below_alloc _ o2)) (below_alloc _ o3)) (below_alloc _ o4)) (below_alloc _ o5)
  generalize mk a = X at *
  generalize mk b = Y at *
  generalize mk c = Z at *
  go_enter Tryz.func91, Tryz.ntmps91
  go_wp2
  refine bodyPost_ret (v := .agg #[.slice (some ⟨w.heap.size + 4, 0, none⟩) 3 3]) (by simp [results, Tryz.results91, go_sem]) rfl ?_
  exact ⟨⟨w.heap.size + 4, rfl, HE.out _⟩, HB.out _ _ _ _ _⟩
theorem of_any (a b c : Tx) (w : World) :
    Calls Tryz.prog 91 #[.string (mk a), .string (mk b), .string (mk c)] w fun x w' => (∃ q, x = .returned (.agg #[.slice (some ⟨q, 0, none⟩) 3 3]) ∧ ElAt All w' (.slice (some ⟨q, 0, none⟩) 3 3) (seg3 a b c)) ∧ Below w.heap.size w w' :=
  (of_new a b c w).mono fun _ _ ⟨⟨q, h1, h2⟩, h3⟩ => ⟨⟨q, h1, ElAt.move h2 (moves_weak _ fun _ _ _ => trivial)⟩, h3⟩
end Go.Proofs.YtpmnepihaljamaaGreatDoor
end

/-
  Batches as segments, and segments as batches, over plain lists: what layer 8's calls answer.
-/
section
namespace Go.Proofs.YtpmnepihaljamaaGreatDoor.Et
open Cm

def tBHT : Tx := [66, 72, 84]
def tHL : Tx := [72, 76]
def tNM : Tx := [78, 77]
def tCLM : Tx := [67, 76, 77]
def tLX : Tx := [76, 88]
def tSV : Tx := [83, 86]
def tHC : Tx := [72, 67]
def tDTP : Tx := [68, 84, 80]
def t472 : Tx := [52, 55, 50]
def tAMT : Tx := [65, 77, 84]
def tD : Tx := [68]
def t837 : Tx := [56, 51, 55]

/-! ### Writing -/
def lnS (k : Nat) (x : Ln) : List Sg :=
  [[[tLX], [Lib.itoa (k : Int)]], [[tSV], tHC :: x.proc :: x.mods, [Nu.moneyL x.billed], [Lib.itoa x.units]], [[tDTP], [t472], [Lib.itoa x.date]]] ++ (if 0 < x.prior then [[[tAMT], [tD], [Nu.moneyL x.prior]]] else [])
def lnsS : Nat → List Ln → List Sg
  | _, [] => []
  | k, x :: r => lnS (k + 1) x ++ lnsS (k + 1) r
def hdS (k : Nat) (c : Cl) : List Sg := [[[tHL], [Lib.itoa (k : Int)]], [[tNM], [c.mem], [c.fam]], [[tCLM], [c.id], [Nu.moneyL (totV c.lines)], [Lib.itoa c.net], [Lib.itoa c.does], [c.ref]]]
def clS (k : Nat) (c : Cl) : List Sg := hdS k c ++ lnsS 0 c.lines
def clsS : Nat → List Cl → List Sg
  | _, [] => []
  | k, c :: r => clS (k + 1) c ++ clsS (k + 1) r
def segs (l : List Cl) : List Sg := [[tBHT], [Lib.itoa (l.length : Int)]] :: clsS 0 l
theorem lnsS_app : ∀ (a b : List Ln) (k : Nat), lnsS k (a ++ b) = lnsS k a ++ lnsS (k + a.length) b
  | [], b, k => by simp [lnsS]
  | x :: a, b, k => by
    show lnS (k + 1) x ++ lnsS (k + 1) (a ++ b) = (lnS (k + 1) x ++ lnsS (k + 1) a) ++ lnsS (k + (a.length + 1)) b
    rw [lnsS_app a b (k + 1), List.append_assoc, show k + 1 + a.length = k + (a.length + 1) by omega]
theorem clsS_app : ∀ (a b : List Cl) (k : Nat), clsS k (a ++ b) = clsS k a ++ clsS (k + a.length) b
  | [], b, k => by simp [clsS]
  | x :: a, b, k => by
    show clS (k + 1) x ++ clsS (k + 1) (a ++ b) = (clS (k + 1) x ++ clsS (k + 1) a) ++ clsS (k + (a.length + 1)) b
    rw [clsS_app a b (k + 1), List.append_assoc, show k + 1 + a.length = k + (a.length + 1) by omega]
theorem take_len {α : Type} (l : List α) (k : Nat) (x : α) (h : l[k]? = some x) : (l.take k).length = k := by
  have := (List.getElem?_eq_some_iff.1 h).1
  simp; omega
theorem lnsS_snoc (ls : List Ln) (k : Nat) (x : Ln) (h : ls[k]? = some x) : lnsS 0 (ls.take (k + 1)) = lnsS 0 (ls.take k) ++ lnS (k + 1) x := by
  rw [List.take_add_one, h, lnsS_app, take_len ls k x h, Nat.zero_add]
  simp [lnsS]
theorem clsS_snoc (ls : List Cl) (k : Nat) (x : Cl) (h : ls[k]? = some x) : clsS 0 (ls.take (k + 1)) = clsS 0 (ls.take k) ++ clS (k + 1) x := by
  rw [List.take_add_one, h, clsS_app, take_len ls k x h, Nat.zero_add]
  simp [clsS]
def wtE (e p s : UInt8) (n : Int) (l : List Cl) : Int := if batchE n l = 0 then wpE e p s t837 n (segs l) else batchE n l
def wtV (e p s : UInt8) (n : Int) (l : List Cl) : Tx := if batchE n l = 0 then wpV e p s t837 n (segs l) else []

/-! ### Reading -/
def el (l : List Sg) (i : Nat) : List Tx := (l.headD []).getD i []
def tx (l : List Sg) (i : Nat) : Tx := (el l i).headD []
def behB (l : List Sg) (t : Tx) (n : Nat) : Bool := !l.isEmpty && (decide (tx l 0 = t) && decide ((l.headD []).length = n + 1))
def behV (l : List Sg) (t : Tx) (n : Nat) : Sg := if behB l t n = true then (l.headD []).tail else []
def oneB (g : Sg) : Bool := g.all fun ps => decide (ps.length = 1)
def txB (l : List Sg) (t : Tx) (n : Nat) : Bool := behB l t n && oneB (l.headD []).tail
def txV (l : List Sg) (t : Tx) (n : Nat) : List Tx := if txB l t n = true then (l.headD []).tail.map (fun ps => ps.headD []) else []
def plB (l : List Sg) (t : Tx) (k : Nat) : Bool := txB l t 1 && decide (tx l 1 = Lib.itoa (k : Int))
def isLX (l : List Sg) : Bool := !l.isEmpty && decide (tx l 0 = tLX)
def dnOk (l : List Sg) : Bool := behB l tSV 3 && (decide (2 ≤ (el l 1).length) && (decide (tx l 1 = tHC) && (decide ((el l 2).length = 1) && decide ((el l 3).length = 1))))
def dnE (l : List Sg) : Int := if dnOk l = true then (if Nu.mnE (tx l 2) = 0 then Nu.riE (tx l 3) 4 else Nu.mnE (tx l 2)) else 4
def dnX (l : List Sg) : Ln := ⟨(el l 1).getD 1 [], (el l 1).drop 2, 0, Nu.riV (tx l 3) 4, Nu.mnV (tx l 2), 0⟩
def dnV (l : List Sg) : Ln := if dnE l = 0 then dnX l else ln0
def dyOk (l : List Sg) : Bool := txB l tDTP 2 && decide (tx l 1 = t472)
def dyE (l : List Sg) : Int := if dyOk l = true then (if Nu.riE (tx l 2) 8 = 0 then 0 else 7) else 4
def dyV (l : List Sg) : Int := if dyE l = 0 then Nu.riV (tx l 2) 8 else 0
def amB (l : List Sg) : Bool := txB l tAMT 2
def amOk (l : List Sg) : Bool := decide (tx l 1 = tD) && (decide (Nu.mnE (tx l 2) = 0) && decide (Nu.mnV (tx l 2) ≠ 0))
def svE (l : List Sg) : Int := if dnE l = 0 then (if dyE l.tail = 0 then (if amB l.tail.tail = true then (if amOk l.tail.tail = true then 0 else 8) else 0) else dyE l.tail) else dnE l
def svX (l : List Sg) : Ln := ⟨(dnX l).proc, (dnX l).mods, dyV l.tail, (dnX l).units, (dnX l).billed, if amB l.tail.tail = true then Nu.mnV (tx l.tail.tail 2) else 0⟩
def svV (l : List Sg) : Ln := if svE l = 0 then svX l else ln0
def svN (l : List Sg) : List Sg := if amB l.tail.tail = true then l.tail.tail.tail else l.tail.tail
def svR (l : List Sg) : List Sg := if svE l = 0 then svN l else []
def svsA : Nat → List Ln → List Sg → Int × List Ln × List Sg
  | 0, acc, l => (0, acc, l)
  | f + 1, acc, l => if isLX l = true then (if plB l tLX (acc.length + 1) = true then (if svE l.tail = 0 then svsA f (acc ++ [svX l.tail]) (svN l.tail) else (svE l.tail, [], [])) else (11, [], [])) else (0, acc, l)
def hdOk (l : List Sg) : Bool := txB l tNM 2 && txB l.tail tCLM 5
def hdE (l : List Sg) : Int := if hdOk l = true then (if Nu.mnE (tx l.tail 2) = 0 then (if Nu.riE (tx l.tail 3) 1 = 0 then (if Nu.riE (tx l.tail 4) 1 = 0 then 0 else 4) else 4) else Nu.mnE (tx l.tail 2)) else 4
def hdC (l : List Sg) : Cl := ⟨tx l.tail 1, tx l 1, tx l 2, Nu.riV (tx l.tail 3) 1, Nu.riV (tx l.tail 4) 1, tx l.tail 5, []⟩
def hdT (l : List Sg) : Int := Nu.mnV (tx l.tail 2)
def clP (l : List Sg) : Int × List Ln × List Sg := svsA l.length [] l.tail.tail.tail
def clC (l : List Sg) : Cl := { hdC l.tail with lines := (clP l).2.1 }
def clE (k : Nat) (l : List Sg) : Int := if plB l tHL k = true then (if hdE l.tail = 0 then (if (clP l).1 = 0 then (if checkE (clC l) = 0 then (if totV (clC l).lines = hdT l.tail then 0 else 17) else checkE (clC l)) else (clP l).1) else hdE l.tail) else 11
def clsA : Nat → List Cl → List Sg → Int × List Cl
  | 0, acc, _ => (0, acc)
  | f + 1, acc, l => if l.isEmpty = true then (0, acc) else if acc.length = 256 then (10, []) else if clE (acc.length + 1) l = 0 then clsA f (acc ++ [clC l]) (clP l).2.2 else (clE (acc.length + 1) l, [])
def rsP (l : List Sg) : Int × List Cl := clsA l.length [] l.tail
def rsE (l : List Sg) : Int := if txB l tBHT 1 = true then (if Nu.riE (tx l 1) 3 = 0 then (if (rsP l).1 = 0 then (if ((rsP l).2.length : Int) = Nu.riV (tx l 1) 3 then 0 else 6) else (rsP l).1) else Nu.riE (tx l 1) 3) else 4
def rsV (l : List Sg) : List Cl := if rsE l = 0 then (rsP l).2 else []
def rE (s : Tx) : Int := if opE t837 s = 0 then rsE (opL t837 s) else opE t837 s
def rD (s : Tx) : UInt8 × UInt8 × UInt8 := if rE s = 0 then opD t837 s else (0, 0, 0)
def rN (s : Tx) : Int := if rE s = 0 then opN t837 s else 0
def rV (s : Tx) : List Cl := if rE s = 0 then rsV (opL t837 s) else []

/-! ### What a check says -/
theorem ri_itoa (n : Int) (k : Nat) (h0 : 0 ≤ n) (h1 : n < 10 ^ k) (hk : 1 ≤ k) (h18 : k ≤ 18) : Nu.riE (Lib.itoa n) (k : Int) = 0 ∧ Nu.riV (Lib.itoa n) (k : Int) = n ∧ (Lib.itoa n).length ≤ k ∧ 1 ≤ (Lib.itoa n).length := by
  obtain ⟨m, rfl⟩ : ∃ m : Nat, n = m := ⟨n.toNat, by omega⟩
  have e : Lib.itoa (m : Int) = Lib.decDigits m := by simp [Lib.itoa]
  have hm : m < 10 ^ k := by exact_mod_cast h1
  have ho := Nu.ri_dec m (k : Int) k hm hk h18 (Int.le_refl _)
  rw [e]
  refine ⟨by unfold Nu.riE; rw [if_pos ho], by unfold Nu.riV; rw [if_pos ho, Nu.dec_num], Nu.dec_len m k hm hk, ?_⟩
  have := Nu.dec_ne m
  cases h : Lib.decDigits m with
  | nil => exact absurd h this
  | cons a t => simp
theorem mn_moneyL (a : Int) (h0 : 0 ≤ a) (h1 : a ≤ 10000000000000) : Nu.mnE (Nu.moneyL a) = 0 ∧ Nu.mnV (Nu.moneyL a) = a ∧ (Nu.moneyL a).length ≤ 15 := by
  have e : Nu.moneyL a = Nu.moneyU a.natAbs := by unfold Nu.moneyL; rw [if_neg (by omega)]; rfl
  obtain ⟨ho, hv⟩ := Nu.mn_money a.natAbs (by omega)
  rw [e]
  refine ⟨by unfold Nu.mnE; rw [if_pos ho], by rw [hv]; omega, ?_⟩
  unfold Nu.moneyU
  have := Nu.dec_len (a.natAbs / 100) 12 (by omega) (by omega)
  simp [Nu.two]
  omega
theorem code_len {t : Tx} {f m : Int} (h : codeB t f m = true) : f ≤ (t.length : Int) ∧ (t.length : Int) ≤ m ∧ t.all Cm.signB = true := by
  simp only [codeB, Bool.and_eq_true, decide_eq_true_eq] at h
  exact ⟨h.1.1, h.1.2, h.2⟩
theorem line_facts {x : Ln} (h : lineE x = 0) : codeB x.proc 5 5 = true ∧ x.mods.length ≤ 4 ∧ (∀ t ∈ x.mods, codeB t 2 2 = true) ∧ 0 ≤ x.date ∧ x.date < 100000000 ∧ 1 ≤ x.units ∧ x.units ≤ 9999 ∧ 0 ≤ x.billed ∧ x.billed ≤ 10000000000000 ∧ 0 ≤ x.prior ∧ x.prior ≤ 10000000000000 := by
  unfold lineE at h
  split at h
  · next h1 =>
    split at h
    · next h2 =>
      split at h
      · next h3 =>
        split at h
        · next h4 =>
          simp only [codesB, modsB, Bool.and_eq_true, decide_eq_true_eq, List.all_eq_true] at h1
          simp only [unitsB, Bool.and_eq_true, decide_eq_true_eq] at h3
          simp only [moneyB, Ce.good, Bool.and_eq_true, decide_eq_true_eq] at h4
          have h2' := Da.good_bd _ h2
          refine ⟨h1.1, h1.2.1, h1.2.2, ?_, ?_, by omega, by omega, by omega, by omega, by omega, by omega⟩ <;> omega
        · cases h
      · cases h
    · cases h
  · cases h
theorem firstE_all (y : Int) : ∀ (ls : List Ln), firstE y ls = 0 → ∀ x ∈ ls, lineE x = 0
  | [], _, x, hx => by cases hx
  | z :: r, h, x, hx => by
    unfold firstE at h
    split at h
    · next h0 =>
      split at h
      · rcases List.mem_cons.1 hx with e | e
        · rw [e]; exact h0
        · exact firstE_all y r h x e
      · cases h
    · next h0 => exact absurd h h0
theorem check_facts {c : Cl} (h : checkE c = 0) : codeB c.id 1 12 = true ∧ codeB c.mem 1 12 = true ∧ codeB c.fam 1 12 = true ∧ (c.net = 0 ∨ c.net = 1) ∧ (c.does = 1 ∨ c.does = 7 ∨ c.does = 8) ∧ (c.ref = [] ∨ codeB c.ref 1 12 = true) ∧ c.lines.length ≤ 999 ∧ (∀ x ∈ c.lines, lineE x = 0) ∧ totE c.lines = 0 ∧ 0 ≤ totV c.lines ∧ totV c.lines ≤ 10000000000000 := by
  unfold checkE at h
  split at h
  case isFalse h0 => exact absurd h h0
  case isTrue h0 =>
    unfold headE at h0
    split at h0
    case isFalse => cases h0
    case isTrue n1 =>
    split at h0
    case isFalse => cases h0
    case isTrue n2 =>
    split at h0
    case isFalse => cases h0
    case isTrue n3 =>
    split at h0
    case isFalse => cases h0
    case isTrue n4 =>
    unfold restE at h
    split at h
    case isFalse => cases h
    case isTrue r1 =>
    split at h
    case isFalse => cases h
    case isTrue r2 =>
    split at h
    case isFalse r3 => exact absurd h r3
    case isTrue r3 =>
    simp only [namesB, Bool.and_eq_true] at n1
    simp only [netB, Bool.or_eq_true, decide_eq_true_eq] at n2
    simp only [doesB, Bool.or_eq_true, decide_eq_true_eq] at n4
    have n3' : c.ref = [] ∨ codeB c.ref 1 12 = true := by
      unfold refB at n3
      split at n3
      · exact Or.inl (by simpa using n3)
      · exact Or.inr n3
    have ht : 0 ≤ totV c.lines ∧ totV c.lines ≤ 10000000000000 := by
      unfold totE at h
      split at h
      case isFalse => cases h
      case isTrue s0 =>
      unfold totV
      rw [if_pos s0]
      unfold Ce.sumV
      obtain ⟨g, t⟩ := (sumE_zero _ _).1 s0
      have := Ce.tot_le (bil c.lines) c.lines.length g c.lines.length 0 (by omega)
      simp only [Ce.tot] at this
      repeat' split
      all_goals omega
    exact ⟨n1.1, n1.2.1, n1.2.2, n2, n4, n3', r1, firstE_all _ _ r3, h, ht.1, ht.2⟩
theorem firstC_all : ∀ (l : List Cl), firstC l = 0 → ∀ c ∈ l, checkE c = 0
  | [], _, x, hx => by cases hx
  | z :: r, h, x, hx => by
    unfold firstC at h
    split at h
    · next h0 =>
      rcases List.mem_cons.1 hx with e | e
      · rw [e]; exact h0
      · exact firstC_all r h x e
    · next h0 => exact absurd h h0
theorem firstC_of : ∀ (l : List Cl), (∀ c ∈ l, checkE c = 0) → firstC l = 0
  | [], _ => rfl
  | z :: r, h => by
    unfold firstC
    rw [if_pos (h z List.mem_cons_self)]
    exact firstC_of r fun c hc => h c (List.mem_cons_of_mem _ hc)
theorem batch_facts {n : Int} {l : List Cl} (h : batchE n l = 0) : 0 ≤ n ∧ n ≤ 999999999 ∧ l.length ≤ 256 ∧ ∀ c ∈ l, checkE c = 0 := by
  unfold batchE at h
  split at h
  case isFalse => cases h
  case isTrue h1 =>
  split at h
  case isFalse => cases h
  case isTrue h2 =>
  simp only [Bool.and_eq_true, decide_eq_true_eq] at h1
  exact ⟨h1.1, h1.2, h2, firstC_all l h⟩
theorem batch_of {n : Int} {l : List Cl} (h0 : 0 ≤ n) (h1 : n ≤ 999999999) (h2 : l.length ≤ 256) (h3 : ∀ c ∈ l, checkE c = 0) : batchE n l = 0 := by
  unfold batchE
  rw [if_pos (by simp [h0, h1]), if_pos h2]
  exact firstC_of l h3
end Go.Proofs.YtpmnepihaljamaaGreatDoor.Et
end
