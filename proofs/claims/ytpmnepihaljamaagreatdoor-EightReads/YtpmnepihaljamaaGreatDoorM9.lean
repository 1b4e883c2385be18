/-
  Texts put together (merge.py): QSame, QParts, KEq, QNamed.
-/
import Derived.Test.YtpmnepihaljamaaGreatDoorM8
import Derived.Test.YtpmnepihaljamaaGreatDoorM7
/-
  What the reference's Texts, same and Same answer, as contracts: whether two rows are the same, part by part.
-/
section
namespace Go.Proofs.YtpmnepihaljamaaGreatDoor
open Go.RowKit

theorem takes_eq {α : Type} [DecidableEq α] (xs ys : List α) (k : Nat) (x y : α) (hx : xs[k]? = some x) (hy : ys[k]? = some y) (h : xs.take k = ys.take k) (he : x = y) : xs.take (k + 1) = ys.take (k + 1) := by
  rw [List.take_add_one, List.take_add_one, hx, hy, h, he]
theorem takes_ne {α : Type} [DecidableEq α] (xs ys : List α) (k : Nat) (x y : α) (hx : xs[k]? = some x) (hy : ys[k]? = some y) (he : x ≠ y) : decide (xs = ys) = false := by
  rw [decide_eq_false_iff_not]
  rintro rfl
  rw [hx] at hy
  exact he (Option.some.inj hy)
theorem takes_all {α : Type} [DecidableEq α] (xs ys : List α) (k : Nat) (hx : xs.length ≤ k) (hl : xs.length = ys.length) (h : xs.take k = ys.take k) : decide (xs = ys) = true := by
  rw [decide_eq_true_iff]
  rwa [List.take_of_length_le hx, List.take_of_length_le (by omega)] at h
theorem lens_ne {α : Type} [DecidableEq α] (xs ys : List α) (h : xs.length ≠ ys.length) : decide (xs = ys) = false := by
  rw [decide_eq_false_iff_not]
  rintro rfl
  exact h rfl
theorem mk_ne (x y : Tx) : ((mk x).toList == (mk y).toList) = decide (x = y) := by
  rw [Lib.toList_data, Lib.toList_data, mk_list, mk_list]
  rw [Bool.eq_iff_iff]
  simp
/-- A cell of a row, at a place that is in it. -/
theorem RowAt.at {α : Type} {K : Nat → Prop} {R : World → Value → α → Prop} {w : World} {a : Option Addr} {xs : List α} (h : xs = [] ∨ ∃ b o, a = some ⟨b, o, none⟩ ∧ K b ∧ b < w.heap.size ∧ ∀ (j : Nat) x, xs[j]? = some x → ∃ u, w.cell? ⟨b, o + j, none⟩ = some u ∧ R w u x) (k : Nat) (hk : k < xs.length) :
    ∃ b o u, a = some ⟨b, o, none⟩ ∧ xs[k]? = some xs[k] ∧ w.cell? ⟨b, o + k, none⟩ = some u ∧ R w u xs[k] := by
  rcases h with h | ⟨b, o, ha, _, _, hc⟩
  · subst h; simp at hk
  · have hx := List.getElem?_eq_getElem hk
    obtain ⟨u, h1, h2⟩ := hc k _ hx
    exact ⟨b, o, u, ha, hx, h1, h2⟩

theorem quiet_sum {P : Program} {f : FuncId} {args : Array Value} {w : World} {q n : Nat} {v : Value}
    (h : Calls P f args (w.drewN (q + n)) fun e w' => e = .returned v ∧ ∃ m, w' = (w.drewN (q + n)).drewN m) : Calls P f args (w.drewN (q + n)) fun e w'' => e = .returned v ∧ ∃ n, w'' = w.drewN (q + n) :=
  h.mono fun _ _ ⟨he, m, hm⟩ => ⟨he, n + m, by rw [hm, World.drewN_drewN, Nat.add_assoc]⟩
set_option maxHeartbeats 2000000 in
theorem texts_any (v v' : Value) (xs ys : List Tx) (w : World) (h : TxAt All w v xs) (h' : TxAt All w v' ys) :
    Calls Tryz.prog 74 #[v, v'] w fun e w' => e = .returned (.bool (decide (xs = ys))) ∧ ∃ q, w' = w.drewN q := by
  obtain ⟨a, c, rfl, h1, h2, h3⟩ := h
  obtain ⟨a', c', rfl, h1', h2', h3'⟩ := h'
  have H3 := Lib.hid h3
  have H3' := Lib.hid h3'
  clear h3 h3'
  unfold maxLen at h2 h2'
  by_cases hl : xs.length = ys.length
  · have hlb : ((xs.length : Int) != (ys.length : Int)) = false := by rw [hl]; simp
    have HL := Lib.hid hl
    have hl2 : xs.length ≤ ys.length := by omega
    clear hl
    go_enter Tryz.func74, Tryz.ntmps74
    go_wp2
    go_loopg [5] (xs.length) (fun g i wr => ∃ (k q : Nat), k ≤ xs.length ∧ g = xs.length - k ∧ i = .int .i64 k ∧ wr = w.drewN q ∧ Hid (xs.take k = ys.take k))
    case atStart => exact ⟨0, 0, Nat.zero_le _, rfl, rfl, rfl, rfl⟩
    case round =>
      obtain ⟨k, q, hk, hg, rfl, rfl, HA⟩ := hrel
      by_cases hlt : k < xs.length
      · obtain ⟨b, o, u, rfl, hx, hu, hr⟩ := RowAt.at (K := All) (R := StrAt) H3.out k hlt
        have hlt' : k < ys.length := by omega
        obtain ⟨b', o', u', rfl, hx', hu', hr'⟩ := RowAt.at (K := All) (R := StrAt) H3'.out k hlt'
        obtain rfl : u = .string (mk xs[k]) := hr
        obtain rfl : u' = .string (mk ys[k]) := hr'
        have hn := mk_ne xs[k] ys[k]
        have HX := Lib.hid hx
        have HX' := Lib.hid hx'
        have HE := Lib.hid (takes_eq xs ys k _ _ hx hx' HA.out)
        have HN := Lib.hid (takes_ne xs ys k _ _ hx hx')
        clear hx hx'
        generalize mk xs[k] = X at *
        generalize mk ys[k] = Y at *
        by_cases he : xs[k] = ys[k]
        · rw [decide_eq_true he] at hn
          have HE2 := Lib.hid (HE.out he)
          clear he
          go_wp2_with fail
          go_quiet (fail)
          go_wp2
          go_roundg (xs.length - (k + 1))
          case rel => exact ⟨k + 1, q + nq, by omega, rfl, by go_num, by first | rfl | rw [World.drewN_drewN], HE2.out⟩
          case measure => omega
        · rw [decide_eq_false he] at hn
          have HE2 := Lib.hid (HN.out he)
          clear he
          go_wp2_with fail
          go_quiet (fail)
          go_wp2
          go_ret
          exact ⟨by rw [HE2.out]; rfl, q + nq, by first | rfl | rw [World.drewN_drewN]⟩
      · go_wp2
        go_ret
        exact ⟨by rw [takes_all xs ys k (by omega) HL.out HA.out]; rfl, _, rfl⟩
  · have hlb : ((xs.length : Int) != (ys.length : Int)) = true := by simp; omega
    have HN := Lib.hid (lens_ne xs ys hl)
    clear hl
    go_enter Tryz.func74, Tryz.ntmps74
    go_wp2
    go_ret
    exact ⟨by rw [HN.out]; rfl, 0, rfl⟩

set_option maxHeartbeats 2000000 in
theorem same_any (v v' : Value) (xs ys : Sg) (w : World) (h : ElAt All w v xs) (h' : ElAt All w v' ys) :
    Calls Tryz.prog 104 #[v, v'] w fun e w' => e = .returned (.bool (decide (xs = ys))) ∧ ∃ q, w' = w.drewN q := by
  obtain ⟨a, c, rfl, h1, h2, h3⟩ := h
  obtain ⟨a', c', rfl, h1', h2', h3'⟩ := h'
  have H3 := Lib.hid h3
  have H3' := Lib.hid h3'
  clear h3 h3'
  unfold maxLen at h2 h2'
  by_cases hl : xs.length = ys.length
  · have hlb : ((xs.length : Int) != (ys.length : Int)) = false := by rw [hl]; simp
    have HL := Lib.hid hl
    have hl2 : xs.length ≤ ys.length := by omega
    clear hl
    go_enter Tryz.func104, Tryz.ntmps104
    go_wp2
    go_loopg [5] (xs.length) (fun g i wr => ∃ (k q : Nat), k ≤ xs.length ∧ g = xs.length - k ∧ i = .int .i64 k ∧ wr = w.drewN q ∧ Hid (xs.take k = ys.take k))
    case atStart => exact ⟨0, 0, Nat.zero_le _, rfl, rfl, rfl, rfl⟩
    case round =>
      obtain ⟨k, q, hk, hg, rfl, rfl, HA⟩ := hrel
      by_cases hlt : k < xs.length
      · obtain ⟨b, o, u, rfl, hx, hu, hr⟩ := RowAt.at H3.out k hlt
        have hlt' : k < ys.length := by omega
        obtain ⟨b', o', u', rfl, hx', hu', hr'⟩ := RowAt.at H3'.out k hlt'
        have HC := Lib.hid fun n => texts_any u u' xs[k] ys[k] (w.drewN (q + n)) hr hr'
        have HE := Lib.hid (takes_eq xs ys k _ _ hx hx' HA.out)
        have HN := Lib.hid (takes_ne xs ys k _ _ hx hx')
        obtain ⟨au, cu, rfl, _⟩ := hr
        obtain ⟨au', cu', rfl, _⟩ := hr'
        clear hx hx'
        by_cases he : xs[k] = ys[k]
        · rw [decide_eq_true he] at HC
          have HE2 := Lib.hid (HE.out he)
          clear he HN HE
          go_wp2_with fail
          go_quiet (first | (go_at_call 74; refine quiet_sum (HC.out _)))
          go_wp2
          go_roundg (xs.length - (k + 1))
          case rel => exact ⟨k + 1, q + nq, by omega, rfl, by go_num, by first | rfl | rw [World.drewN_drewN], HE2.out⟩
          case measure => omega
        · rw [decide_eq_false he] at HC
          have HE2 := Lib.hid (HN.out he)
          clear he HN HE
          go_wp2_with fail
          go_quiet (first | (go_at_call 74; refine quiet_sum (HC.out _)))
          go_wp2
          go_ret
          exact ⟨by rw [HE2.out]; rfl, q + nq, by first | rfl | rw [World.drewN_drewN]⟩
      · go_wp2
        go_ret
        exact ⟨by rw [takes_all xs ys k (by omega) HL.out HA.out]; rfl, _, rfl⟩
  · have hlb : ((xs.length : Int) != (ys.length : Int)) = true := by simp; omega
    have HN := Lib.hid (lens_ne xs ys hl)
    clear hl
    go_enter Tryz.func104, Tryz.ntmps104
    go_wp2
    go_ret
    exact ⟨by rw [HN.out]; rfl, 0, rfl⟩

set_option maxHeartbeats 2000000 in
theorem Same_any (v v' : Value) (xs ys : List Sg) (w : World) (h : SgAt All w v xs) (h' : SgAt All w v' ys) :
    Calls Tryz.prog 68 #[v, v'] w fun e w' => e = .returned (.bool (decide (xs = ys))) ∧ ∃ q, w' = w.drewN q := by
  obtain ⟨a, c, rfl, h1, h2, h3⟩ := h
  obtain ⟨a', c', rfl, h1', h2', h3'⟩ := h'
  have H3 := Lib.hid h3
  have H3' := Lib.hid h3'
  clear h3 h3'
  unfold maxLen at h2 h2'
  by_cases hl : xs.length = ys.length
  · have hlb : ((xs.length : Int) != (ys.length : Int)) = false := by rw [hl]; simp
    have HL := Lib.hid hl
    have hl2 : xs.length ≤ ys.length := by omega
    clear hl
    go_enter Tryz.func68, Tryz.ntmps68
    go_wp2
    go_loopg [5] (xs.length) (fun g i wr => ∃ (k q : Nat), k ≤ xs.length ∧ g = xs.length - k ∧ i = .int .i64 k ∧ wr = w.drewN q ∧ Hid (xs.take k = ys.take k))
    case atStart => exact ⟨0, 0, Nat.zero_le _, rfl, rfl, rfl, rfl⟩
    case round =>
      obtain ⟨k, q, hk, hg, rfl, rfl, HA⟩ := hrel
      by_cases hlt : k < xs.length
      · obtain ⟨b, o, u, rfl, hx, hu, hr⟩ := RowAt.at H3.out k hlt
        have hlt' : k < ys.length := by omega
        obtain ⟨b', o', u', rfl, hx', hu', hr'⟩ := RowAt.at H3'.out k hlt'
        have HC := Lib.hid fun n => same_any u u' xs[k] ys[k] (w.drewN (q + n)) hr hr'
        have HE := Lib.hid (takes_eq xs ys k _ _ hx hx' HA.out)
        have HN := Lib.hid (takes_ne xs ys k _ _ hx hx')
        obtain ⟨au, cu, rfl, _⟩ := hr
        obtain ⟨au', cu', rfl, _⟩ := hr'
        clear hx hx'
        by_cases he : xs[k] = ys[k]
        · rw [decide_eq_true he] at HC
          have HE2 := Lib.hid (HE.out he)
          clear he HN HE
          go_wp2_with fail
          go_quiet (first | (go_at_call 104; refine quiet_sum (HC.out _)))
          go_wp2
          go_roundg (xs.length - (k + 1))
          case rel => exact ⟨k + 1, q + nq, by omega, rfl, by go_num, by first | rfl | rw [World.drewN_drewN], HE2.out⟩
          case measure => omega
        · rw [decide_eq_false he] at HC
          have HE2 := Lib.hid (HN.out he)
          clear he HN HE
          go_wp2_with fail
          go_quiet (first | (go_at_call 104; refine quiet_sum (HC.out _)))
          go_wp2
          go_ret
          exact ⟨by rw [HE2.out]; rfl, q + nq, by first | rfl | rw [World.drewN_drewN]⟩
      · go_wp2
        go_ret
        exact ⟨by rw [takes_all xs ys k (by omega) HL.out HA.out]; rfl, _, rfl⟩
  · have hlb : ((xs.length : Int) != (ys.length : Int)) = true := by simp; omega
    have HN := Lib.hid (lens_ne xs ys hl)
    clear hl
    go_enter Tryz.func68, Tryz.ntmps68
    go_wp2
    go_ret
    exact ⟨by rw [HN.out]; rfl, 0, rfl⟩
end Go.Proofs.YtpmnepihaljamaaGreatDoor
end

/-
  What seg.plainParts answers, as a contract: for every segment.
-/
section
set_option linter.unusedSimpArgs false
namespace Go.Proofs.YtpmnepihaljamaaGreatDoor
open Go.RowKit

theorem RowAt.get {α : Type} {K : Nat → Prop} {R : World → Value → α → Prop} {w : World} {a : Option Addr} {n c : Nat} {xs : List α} (h : RowAt K R w (.slice a n c) xs) (k : Nat) (hk : k < xs.length) :
    ∃ b o u, a = some ⟨b, o, none⟩ ∧ xs[k]? = some xs[k] ∧ w.cell? ⟨b, o + k, none⟩ = some u ∧ R w u xs[k] := by
  obtain ⟨a', c', e, _, _, h⟩ := h
  simp only [Value.slice.injEq] at e
  obtain ⟨rfl, rfl, rfl⟩ := e
  exact RowAt.at h k hk
/-- Signs in a box of the call's own. -/
def DBox (w : World) (b : Nat) (e p s : UInt8) : Prop := b < w.heap.size ∧ w.cell? ⟨b, 0, none⟩ = some (.int .u8 e.toNat) ∧ w.cell? ⟨b, 1, none⟩ = some (.int .u8 p.toNat) ∧ w.cell? ⟨b, 2, none⟩ = some (.int .u8 s.toNat)
theorem DBox.below {w w' : World} {b B : Nat} {e p s : UInt8} (h : DBox w b e p s) (hb : Below B w w') (hB : b < B) : DBox w' b e p s :=
  ⟨Nat.lt_of_lt_of_le h.1 hb.size, by rw [hb.cell (p := ⟨b, 0, none⟩) hB]; exact h.2.1, by rw [hb.cell (p := ⟨b, 1, none⟩) hB]; exact h.2.2.1, by rw [hb.cell (p := ⟨b, 2, none⟩) hB]; exact h.2.2.2⟩
theorem DBox.grw {w w' : World} {b : Nat} {e p s : UInt8} (h : DBox w b e p s) (hb : Below w.heap.size w w') : DBox w' b e p s := h.below hb h.1
theorem DBox.new (w : World) (e p s : UInt8) : DBox (w.alloc (.cells #[.int .u8 e.toNat, .int .u8 p.toNat, .int .u8 s.toNat] 23)) w.heap.size e p s := by
  refine ⟨by simp, ?_, ?_, ?_⟩ <;> simp
theorem below_alloc (w : World) (o : Obj) : Below w.heap.size w (w.alloc o) := (Below.refl _ w).alloc (Nat.le_refl _) o
theorem below_trans {a b c : World} (h : Below a.heap.size a b) (k : Below b.heap.size b c) : Below a.heap.size a c := h.trans (k.mono h.size)

theorem parts_snoc (e p s : UInt8) (g : Sg) (k : Nat) (ps : List Tx) (hx : g[k]? = some ps) (h : partsB e p s (g.take k) = true) (hp : ps ≠ []) (ha : ps.all (plainB e p s) = true) : partsB e p s (g.take (k + 1)) = true := by
  unfold partsB at h ⊢
  rw [List.take_add_one, hx, List.all_append, h]
  simp only [Option.toList_some, List.all_cons, List.all_nil, ha]
  cases ps with
  | nil => exact absurd rfl hp
  | cons x r => rfl
theorem parts_false (e p s : UInt8) (g : Sg) (k : Nat) (ps : List Tx) (hx : g[k]? = some ps) (h : ps = [] ∨ ps.all (plainB e p s) = false) : partsB e p s g = false := by
  cases hh : partsB e p s g
  · rfl
  · obtain ⟨a, b⟩ := parts_mem hh ps (List.mem_of_getElem? hx)
    rcases h with h | h
    · exact absurd h a
    · rw [List.all_eq_true.2 b] at h; cases h
theorem all_take (f : Tx → Bool) (ps : List Tx) (k : Nat) (x : Tx) (hx : ps[k]? = some x) (h : (ps.take k).all f = true) (hf : f x = true) : (ps.take (k + 1)).all f = true := by
  rw [List.take_add_one, hx, List.all_append, h]
  simp [hf]
theorem all_not (f : Tx → Bool) (ps : List Tx) (k : Nat) (x : Tx) (hx : ps[k]? = some x) (hf : f x = false) : ps.all f = false := by
  cases hh : ps.all f
  · rfl
  · have := List.all_eq_true.1 hh x (List.mem_of_getElem? hx)
    rw [hf] at this; cases this

set_option maxHeartbeats 4000000 in
theorem parts_any (e p s : UInt8) (v : Value) (g : Sg) (w : World) (h : ElAt All w v g) (hz : ∀ ps ∈ g, ∀ x ∈ ps, x.length ≤ maxLen) :
    Calls Tryz.prog 83 #[dv e p s, .agg #[v]] w fun x w' => x = .returned (.bool (partsB e p s g)) ∧ Below w.heap.size w w' := by
  have hv := h
  obtain ⟨a, c, rfl, h1, h2, -⟩ := h
  unfold maxLen at h2
  have HZ := Lib.hid hz
  have HW : Hid (ElAt All w (.slice a g.length c) g) := hv
  clear hv hz
  have HG : Hid (∀ o1 o2, Below w.heap.size w ((w.alloc o1).alloc o2)) := fun o1 o2 => below_trans (below_alloc w o1) (below_alloc _ o2)
  go_enter Tryz.func83, Tryz.ntmps83
  go_wp2
  go_loopg [12] (g.length) (fun gg i wr => ∃ k : Nat, k ≤ g.length ∧ gg = g.length - k ∧ i = .int .i64 k ∧ Hid (partsB e p s (g.take k) = true) ∧ Hid (Below w.heap.size w wr) ∧ Hid (ElAt All wr (.slice a g.length c) g) ∧ Hid (DBox wr w.heap.size e p s))
  case atStart =>
    refine ⟨0, Nat.zero_le _, rfl, rfl, rfl, HG.out _ _, ElAt.move HW.out (Below.moves (HG.out _ _)), ?_⟩
    exact DBox.grw (DBox.new w e p s) (below_alloc _ _)
  case round =>
    obtain ⟨k, hk, hg, rfl, HA, HB, HE, HD⟩ := hrel
    by_cases hlt : k < g.length
    · obtain ⟨b, o, u, rfl, hx, hu, hr⟩ := RowAt.get HE.out k hlt
      have HR : Hid (TxAt All wr u g[k]) := hr
      obtain ⟨au, cu, rfl, hu1, hu2, -⟩ := hr
      unfold maxLen at hu2
      have HS := Lib.hid (parts_snoc e p s g k _ hx HA.out)
      have HF := Lib.hid (parts_false e p s g k _ hx)
      have HZ2 : Hid (∀ x ∈ g[k], x.length ≤ maxLen) := HZ.out _ (List.mem_of_getElem? hx)
      clear hx
      generalize g[k] = ps at *
      by_cases h0 : ps = []
      · have HF2 := Lib.hid (HF.out (Or.inl h0))
        subst h0
        go_wp2
        go_ret
        exact ⟨by rw [HF2.out]; rfl, HB.out⟩
      · have hl0 : ((ps.length : Int) == 0) = false := by
          rw [beq_eq_false_iff_ne]
          intro e
          exact h0 (List.length_eq_zero_iff.1 (by omega))
        have H0 := Lib.hid h0
        clear h0
        go_wp2
        go_loopg [21] (ps.length) (fun gg i wr => ∃ j : Nat, j ≤ ps.length ∧ gg = ps.length - j ∧ i = .int .i64 j ∧ Hid ((ps.take j).all (plainB e p s) = true) ∧ Hid (Below w.heap.size w wr) ∧ Hid (ElAt All wr (.slice (some ⟨b, o, none⟩) g.length c) g) ∧ Hid (DBox wr w.heap.size e p s) ∧ Hid (TxAt All wr (.slice au ps.length cu) ps))
        case atStart => exact ⟨0, Nat.zero_le _, rfl, rfl, rfl, HB, HE, HD, HR⟩
        case round =>
          clear HB HE HD HR hu
          obtain ⟨j, hj, hgj, rfl, HAj, HB, HE, HD, HR⟩ := hrel
          by_cases hltj : j < ps.length
          · obtain ⟨bx, ox, ux, rfl, hxx, hux, rfl⟩ := RowAt.get HR.out j hltj
            obtain ⟨-, d0, d1, d2⟩ := HD.out
            have HT := Lib.hid (all_take (plainB e p s) ps j _ hxx HAj.out)
            have HN := Lib.hid (all_not (plainB e p s) ps j _ hxx)
            have hzx := HZ2.out _ (List.mem_of_getElem? hxx)
            have hcall := fun W => plain_any e p s (mk ps[j]) W (by rw [mk_size]; exact hzx)
            rw [mk_list] at hcall
            have HC := Lib.hid hcall
            clear hcall hxx hzx
            generalize mk ps[j] = X at *
            generalize ps[j] = x at *
            cases hq : plainB e p s x
            · rw [hq] at HC
              have HN2 := Lib.hid (HN.out hq)
              clear hq
              go_wp2_with (go_at_call 116; refine (HC.out _).mono ?_; rintro e w' ⟨rfl, hb⟩; have HB2 := Lib.hid hb; clear hb)
              go_ret
              exact ⟨by rw [HF.out (Or.inr HN2.out)]; rfl, below_trans HB.out HB2.out⟩
            · rw [hq] at HC
              have HT2 := Lib.hid (HT.out hq)
              clear hq
              go_wp2_with (go_at_call 116; refine (HC.out _).mono ?_; rintro e w' ⟨rfl, hb⟩; have HB2 := Lib.hid hb; clear hb)
              go_roundg (ps.length - (j + 1))
              case rel => exact ⟨j + 1, by omega, rfl, by go_num, HT2, below_trans HB.out HB2.out, ElAt.move HE.out (Below.moves HB2.out), DBox.grw HD.out HB2.out, TxAt.move HR.out (Below.moves HB2.out)⟩
              case measure => omega
          · have hall : ps.take j = ps := List.take_of_length_le (by omega)
            have HQ : Hid (ps.all (plainB e p s) = true) := by show _ = _; rw [← hall]; exact HAj.out
            clear hall
            go_wp2
            go_roundg (g.length - (k + 1))
            case rel => exact ⟨k + 1, by omega, rfl, by go_num, HS.out H0.out HQ.out, HB, HE, HD⟩
            case measure => omega
    · have hall : g.take k = g := List.take_of_length_le (by omega)
      have HQ : Hid (partsB e p s g = true) := by show _ = _; rw [← hall]; exact HA.out
      clear hall
      go_wp2
      go_ret
      exact ⟨by rw [HQ.out]; rfl, HB.out⟩
end Go.Proofs.YtpmnepihaljamaaGreatDoor
end

/-
  What slices.Equal (at texts), cover.sameSeg, slices.EqualFunc (at segments, with sameSeg) and cover.sameSegs answer, as contracts: whether two rows are the same, part by part.
-/
section
set_option linter.unusedSimpArgs false
namespace Go.Proofs.YtpmnepihaljamaaGreatDoor
open Go.RowKit

set_option maxHeartbeats 2000000 in
theorem equal_any (v v' : Value) (xs ys : List Tx) (w : World) (h : TxAt All w v xs) (h' : TxAt All w v' ys) :
    Calls Tryz.prog 125 #[v, v'] w fun e w' => e = .returned (.bool (decide (xs = ys))) ∧ ∃ q, w' = w.drewN q := by
  obtain ⟨a, c, rfl, h1, h2, h3⟩ := h
  obtain ⟨a', c', rfl, h1', h2', h3'⟩ := h'
  have H3 := Lib.hid h3
  have H3' := Lib.hid h3'
  clear h3 h3'
  unfold maxLen at h2 h2'
  by_cases hl : xs.length = ys.length
  · have hlb : ((xs.length : Int) != (ys.length : Int)) = false := by rw [hl]; simp
    have HL := Lib.hid hl
    have hl2 : xs.length ≤ ys.length := by omega
    clear hl
    go_enter Tryz.func125, Tryz.ntmps125
    go_wp2
    go_loopg [13] (xs.length) (fun g i wr => ∃ (k q : Nat), k ≤ xs.length ∧ g = xs.length - k ∧ i = .int .i64 k ∧ wr = w.drewN q ∧ Hid (xs.take k = ys.take k))
    case atStart => exact ⟨0, 0, Nat.zero_le _, rfl, rfl, rfl, rfl⟩
    case round =>
      obtain ⟨k, q, hk, hg, rfl, rfl, HA⟩ := hrel
      by_cases hlt : k < xs.length
      · obtain ⟨b, o, u, rfl, hx, hu, hr⟩ := RowAt.at (K := All) (R := StrAt) H3.out k hlt
        have hlt' : k < ys.length := by omega
        obtain ⟨b', o', u', rfl, hx', hu', hr'⟩ := RowAt.at (K := All) (R := StrAt) H3'.out k hlt'
        obtain rfl : u = .string (mk xs[k]) := hr
        obtain rfl : u' = .string (mk ys[k]) := hr'
        have hn := mk_ne xs[k] ys[k]
        have HE := Lib.hid (takes_eq xs ys k _ _ hx hx' HA.out)
        have HN := Lib.hid (takes_ne xs ys k _ _ hx hx')
        clear hx hx'
        generalize mk xs[k] = X at *
        generalize mk ys[k] = Y at *
        by_cases he : xs[k] = ys[k]
        · rw [decide_eq_true he] at hn
          have HE2 := Lib.hid (HE.out he)
          clear he
          go_wp2_with fail
          go_quiet (fail)
          go_wp2
          go_roundg (xs.length - (k + 1))
          case rel => exact ⟨k + 1, q + nq, by omega, rfl, by go_num, by first | rfl | rw [World.drewN_drewN], HE2.out⟩
          case measure => omega
        · rw [decide_eq_false he] at hn
          have HE2 := Lib.hid (HN.out he)
          clear he
          go_wp2_with fail
          go_quiet (fail)
          go_wp2
          go_ret
          exact ⟨by rw [HE2.out]; rfl, q + nq, by first | rfl | rw [World.drewN_drewN]⟩
      · go_wp2
        go_ret
        exact ⟨by rw [takes_all xs ys k (by omega) HL.out HA.out]; rfl, _, rfl⟩
  · have hlb : ((xs.length : Int) != (ys.length : Int)) = true := by simp; omega
    have HN := Lib.hid (lens_ne xs ys hl)
    clear hl
    go_enter Tryz.func125, Tryz.ntmps125
    go_wp2
    go_ret
    exact ⟨by rw [HN.out]; rfl, 0, rfl⟩

/-- A value in a box of the call's own. -/
def Box (w : World) (b : Nat) (v : Value) : Prop := b < w.heap.size ∧ w.cell? ⟨b, 0, none⟩ = some v
theorem Box.grw {w w' : World} {b : Nat} {v : Value} (h : Box w b v) (hb : Below w.heap.size w w') : Box w' b v :=
  ⟨Nat.lt_of_lt_of_le h.1 hb.size, by rw [hb.cell (p := ⟨b, 0, none⟩) h.1]; exact h.2⟩
theorem Box.new (w : World) (v : Value) (t : TypeId) : Box (w.alloc (.cells #[v] t)) w.heap.size v := ⟨by simp, by simp⟩
theorem below_drewq {w w' : World} (h : ∃ q, w' = w.drewN q) : Below w.heap.size w w' := by
  obtain ⟨q, rfl⟩ := h
  exact (Below.refl _ _).trans ⟨rfl, rfl, rfl, Nat.le_refl _, fun _ _ => rfl⟩
theorem equal_b (v v' : Value) (xs ys : List Tx) (w : World) (h : TxAt All w v xs) (h' : TxAt All w v' ys) :
    Calls Tryz.prog 125 #[v, v'] w fun e w' => e = .returned (.bool (decide (xs = ys))) ∧ Below w.heap.size w w' :=
  (equal_any v v' xs ys w h h').mono fun _ _ ⟨h1, h2⟩ => ⟨h1, below_drewq h2⟩

set_option maxHeartbeats 2000000 in
theorem sameSeg_any (v v' : Value) (xs ys : Sg) (w : World) (h : ElAt All w v xs) (h' : ElAt All w v' ys) :
    Calls Tryz.prog 97 #[.agg #[v], .agg #[v']] w fun e w' => e = .returned (.bool (decide (xs = ys))) ∧ Below w.heap.size w w' := by
  have hv := h
  have hv' := h'
  obtain ⟨a, c, rfl, h1, h2, -⟩ := h
  obtain ⟨a', c', rfl, h1', h2', -⟩ := h'
  unfold maxLen at h2 h2'
  have HW : Hid (ElAt All w (.slice a xs.length c) xs) := hv
  have HW' : Hid (ElAt All w (.slice a' ys.length c') ys) := hv'
  clear hv hv'
  have HG : Hid (∀ o1 o2, Below w.heap.size w ((w.alloc o1).alloc o2)) := fun o1 o2 => below_trans (below_alloc w o1) (below_alloc _ o2)
  by_cases hl : xs.length = ys.length
  · have hlb : ((xs.length : Int) != (ys.length : Int)) = false := by rw [hl]; simp
    have HL := Lib.hid hl
    have hl2 : xs.length ≤ ys.length := by omega
    clear hl
    go_enter Tryz.func97, Tryz.ntmps97
    go_wp2
    go_loopg [17] (xs.length) (fun gg i wr => ∃ k : Nat, k ≤ xs.length ∧ gg = xs.length - k ∧ i = .int .i64 k ∧ Hid (xs.take k = ys.take k) ∧ Hid (Below w.heap.size w wr) ∧ Hid (ElAt All wr (.slice a xs.length c) xs) ∧ Hid (ElAt All wr (.slice a' ys.length c') ys) ∧ Hid (Box wr (w.heap.size + 1) (.slice a' ys.length c')))
    case atStart =>
      refine ⟨0, Nat.zero_le _, rfl, rfl, rfl, HG.out _ _, ElAt.move HW.out (Below.moves (HG.out _ _)), ElAt.move HW'.out (Below.moves (HG.out _ _)), ?_⟩
      have := Box.new (w.alloc (.cells #[.slice a xs.length c] 50)) (.slice a' ys.length c') 50
      rw [show (w.alloc (.cells #[.slice a xs.length c] 50)).heap.size = w.heap.size + 1 from by simp] at this
      exact this
    case round =>
      obtain ⟨k, hk, hg, rfl, HA, HB, HE, HE', HX⟩ := hrel
      by_cases hlt : k < xs.length
      · obtain ⟨b, o, u, rfl, hx, hu, hr⟩ := RowAt.get HE.out k hlt
        have hlt' : k < ys.length := by omega
        obtain ⟨b', o', u', rfl, hx', hu', hr'⟩ := RowAt.get HE'.out k hlt'
        have HC := Lib.hid (equal_b u u' xs[k] ys[k] wr hr hr')
        have HQ := Lib.hid (takes_eq xs ys k _ _ hx hx' HA.out)
        have HN := Lib.hid (takes_ne xs ys k _ _ hx hx')
        obtain ⟨au, cu, rfl, _⟩ := hr
        obtain ⟨au', cu', rfl, _⟩ := hr'
        clear hx hx'
        obtain ⟨-, hbx⟩ := HX.out
        by_cases he : xs[k] = ys[k]
        · rw [decide_eq_true he] at HC
          have HE2 := Lib.hid (HQ.out he)
          clear he HN HQ
          go_wp2_with (go_at_call 125; refine HC.out.mono ?_; rintro e w' ⟨rfl, hb⟩; have HB2 := Lib.hid hb; clear hb)
          go_roundg (xs.length - (k + 1))
          case rel => exact ⟨k + 1, by omega, rfl, by go_num, HE2, below_trans HB.out HB2.out, ElAt.move HE.out (Below.moves HB2.out), ElAt.move HE'.out (Below.moves HB2.out), Box.grw HX.out HB2.out⟩
          case measure => omega
        · rw [decide_eq_false he] at HC
          have HE2 := Lib.hid (HN.out he)
          clear he HN HQ
          go_wp2_with (go_at_call 125; refine HC.out.mono ?_; rintro e w' ⟨rfl, hb⟩; have HB2 := Lib.hid hb; clear hb)
          go_ret
          exact ⟨by rw [HE2.out]; rfl, below_trans HB.out HB2.out⟩
      · go_wp2
        go_ret
        exact ⟨by rw [takes_all xs ys k (by omega) HL.out HA.out]; rfl, HB.out⟩
  · have hlb : ((xs.length : Int) != (ys.length : Int)) = true := by simp; omega
    have HN := Lib.hid (lens_ne xs ys hl)
    clear hl
    go_enter Tryz.func97, Tryz.ntmps97
    go_wp2
    go_ret
    exact ⟨by rw [HN.out]; rfl, HG.out _ _⟩

set_option maxHeartbeats 2000000 in
theorem equalFunc_any (v v' : Value) (xs ys : List Sg) (w : World) (h : SgAt All w v xs) (h' : SgAt All w v' ys) :
    Calls Tryz.prog 124 #[v, v', .func (.func 97) #[] #[]] w fun e w' => e = .returned (.bool (decide (xs = ys))) ∧ Below w.heap.size w w' := by
  have hv := h
  have hv' := h'
  obtain ⟨a, c, rfl, h1, h2, -⟩ := h
  obtain ⟨a', c', rfl, h1', h2', -⟩ := h'
  unfold maxLen at h2 h2'
  have HW : Hid (SgAt All w (.slice a xs.length c) xs) := hv
  have HW' : Hid (SgAt All w (.slice a' ys.length c') ys) := hv'
  clear hv hv'
  by_cases hl : xs.length = ys.length
  · have hlb : ((xs.length : Int) != (ys.length : Int)) = false := by rw [hl]; simp
    have HL := Lib.hid hl
    have hl2 : xs.length ≤ ys.length := by omega
    clear hl
    go_enter Tryz.func124, Tryz.ntmps124
    go_wp2
    go_loopg [17] (xs.length) (fun gg i wr => ∃ k : Nat, k ≤ xs.length ∧ gg = xs.length - k ∧ i = .int .i64 k ∧ Hid (xs.take k = ys.take k) ∧ Hid (Below w.heap.size w wr) ∧ Hid (SgAt All wr (.slice a xs.length c) xs) ∧ Hid (SgAt All wr (.slice a' ys.length c') ys))
    case atStart => exact ⟨0, Nat.zero_le _, rfl, rfl, rfl, Below.refl _ _, HW, HW'⟩
    case round =>
      obtain ⟨k, hk, hg, rfl, HA, HB, HE, HE'⟩ := hrel
      by_cases hlt : k < xs.length
      · obtain ⟨b, o, u, rfl, hx, hu, hr⟩ := RowAt.get HE.out k hlt
        have hlt' : k < ys.length := by omega
        obtain ⟨b', o', u', rfl, hx', hu', hr'⟩ := RowAt.get HE'.out k hlt'
        have hbl := World.block_lt_of_cell? wr ⟨b', o' + k, none⟩ hu'
        have hn' : b' ≠ wr.heap.size := Nat.ne_of_lt hbl
        have HG : Hid (∀ o1 o2, Below wr.heap.size wr ((wr.alloc o1).alloc o2)) := fun o1 o2 => below_trans (below_alloc wr o1) (below_alloc _ o2)
        have HC := Lib.hid fun o1 o2 => sameSeg_any u u' xs[k] ys[k] ((wr.alloc o1).alloc o2) (ElAt.move hr (Below.moves (HG.out o1 o2))) (ElAt.move hr' (Below.moves (HG.out o1 o2)))
        have HQ := Lib.hid (takes_eq xs ys k _ _ hx hx' HA.out)
        have HN := Lib.hid (takes_ne xs ys k _ _ hx hx')
        obtain ⟨au, cu, rfl, _⟩ := hr
        obtain ⟨au', cu', rfl, _⟩ := hr'
        clear hx hx'
        have hu2 : (wr.alloc (.cells #[.slice au xs[k].length cu] 50)).cell? ⟨b', o' + k, none⟩ = some (.slice au' ys[k].length cu') := by rw [(below_alloc wr _).cell (p := ⟨b', o' + k, none⟩) hbl]; exact hu'
        clear hbl
        by_cases he : xs[k] = ys[k]
        · rw [decide_eq_true he] at HC
          have HE2 := Lib.hid (HQ.out he)
          clear he HN HQ
          go_wp2_with (go_at_call 97; refine (HC.out _ _).mono ?_; rintro e w' ⟨rfl, hb⟩; have HB2 := Lib.hid (below_trans (HG.out _ _) hb); clear hb)
          go_roundg (xs.length - (k + 1))
          case rel => exact ⟨k + 1, by omega, rfl, by go_num, HE2, below_trans HB.out HB2.out, SgAt.move HE.out (Below.moves HB2.out), SgAt.move HE'.out (Below.moves HB2.out)⟩
          case measure => omega
        · rw [decide_eq_false he] at HC
          have HE2 := Lib.hid (HN.out he)
          clear he HN HQ
          go_wp2_with (go_at_call 97; refine (HC.out _ _).mono ?_; rintro e w' ⟨rfl, hb⟩; have HB2 := Lib.hid (below_trans (HG.out _ _) hb); clear hb)
          go_ret
          exact ⟨by rw [HE2.out]; rfl, below_trans HB.out HB2.out⟩
      · go_wp2
        go_ret
        exact ⟨by rw [takes_all xs ys k (by omega) HL.out HA.out]; rfl, HB.out⟩
  · have hlb : ((xs.length : Int) != (ys.length : Int)) = true := by simp; omega
    have HN := Lib.hid (lens_ne xs ys hl)
    clear hl
    go_enter Tryz.func124, Tryz.ntmps124
    go_wp2
    go_ret
    exact ⟨by rw [HN.out]; rfl, Below.refl _ _⟩

set_option maxHeartbeats 1000000 in
theorem sameSegs_any (v v' : Value) (xs ys : List Sg) (w : World) (h : SgAt All w v xs) (h' : SgAt All w v' ys) :
    Calls Tryz.prog 96 #[v, v'] w fun e w' => e = .returned (.bool (decide (xs = ys))) ∧ Below w.heap.size w w' := by
  have HC := Lib.hid (equalFunc_any v v' xs ys w h h')
  obtain ⟨a, c, rfl, -, -, -⟩ := h
  obtain ⟨a', c', rfl, -, -, -⟩ := h'
  generalize decide (xs = ys) = b at *
  go_enter Tryz.func96, Tryz.ntmps96
  go_wp2_with (go_at_call 124; refine HC.out.mono ?_; rintro e w' ⟨rfl, hb⟩; have HB2 := Lib.hid hb; clear hb)
  go_ret
  exact ⟨rfl, HB2.out⟩
end Go.Proofs.YtpmnepihaljamaaGreatDoor
end

/-
  What seg.named and seg.plainParts answer, as contracts: for every segment.
-/
section
set_option linter.unusedSimpArgs false
namespace Go.Proofs.YtpmnepihaljamaaGreatDoor
open Go.RowKit

theorem mk_nil (x : Tx) : ((mk x).toList == []) = x.isEmpty := by
  rw [Lib.toList_data, mk_list]
  cases x <;> rfl
theorem mk_empty (x : Tx) : (mk x).toList.isEmpty = x.isEmpty := by rw [Lib.toList_data, mk_list]

set_option maxHeartbeats 1000000 in
theorem named_any (v : Value) (g : Sg) (w : World) (h : ElAt All w v g) :
    Calls Tryz.prog 82 #[.agg #[v]] w fun e w' => e = .returned (.bool (namedB g)) ∧ Below w.heap.size w w' := by
  have hB : Hid (∀ o, Below w.heap.size w (w.alloc o)) := fun o => (Below.refl _ w).alloc (Nat.le_refl _) o
  obtain ⟨a, c, rfl, h1, h2, h3⟩ := h
  unfold maxLen at h2
  cases g with
  | nil =>
    clear h3
    go_enter Tryz.func82, Tryz.ntmps82
    go_wp2
    go_ret
    exact ⟨rfl, hB.out _⟩
  | cons ps r =>
    rcases h3 with h3 | ⟨b, o, rfl, _, hb, hc⟩
    · cases h3
    obtain ⟨u, hu, a', c', rfl, h1', h2', h3'⟩ := hc 0 ps rfl
    have hn : b ≠ w.heap.size := Nat.ne_of_lt hb
    rw [Nat.add_zero] at hu
    unfold maxLen at h2'
    rw [List.length_cons] at h1 ⊢
    generalize r.length = n at h1 ⊢
    clear hc
    rcases ps with _ | ⟨x, _ | ⟨y, z⟩⟩
    · have HV : Hid (namedB ([] :: r) = false) := rfl
      clear h3'
      go_enter Tryz.func82, Tryz.ntmps82
      go_wp2
      go_ret
      exact ⟨by rw [HV.out]; rfl, hB.out _⟩
    · rcases h3' with h3' | ⟨b', o', rfl, _, hb', hc'⟩
      · cases h3'
      obtain ⟨u', hu', rfl⟩ := hc' 0 x rfl
      have hn' : b' ≠ w.heap.size := Nat.ne_of_lt hb'
      rw [Nat.add_zero] at hu'
      have HV : Hid (namedB ([x] :: r) = !x.isEmpty) := rfl
      have e1 := mk_nil x
      have e2 := mk_empty x
      generalize mk x = X at *
      generalize x.isEmpty = q at *
      clear hc'
      cases q
      · have e3 : ¬ X.toList = [] := by intro e; rw [e] at e1; cases e1
        go_enter Tryz.func82, Tryz.ntmps82
        go_wp2
        go_ret
        exact ⟨by rw [HV.out]; rfl, hB.out _⟩
      · have e3 : X.toList = [] := by simpa using e1
        go_enter Tryz.func82, Tryz.ntmps82
        go_wp2
        go_ret
        exact ⟨by rw [HV.out]; rfl, hB.out _⟩
    · have HV : Hid (namedB ((x :: y :: z) :: r) = false) := rfl
      rw [List.length_cons, List.length_cons] at h1' hu
      generalize hz : z.length + 1 + 1 = m at h1' hu
      have hm : ((m : Int) == 1) = false := by rw [beq_eq_false_iff_ne]; omega
      clear h3' hz
      go_enter Tryz.func82, Tryz.ntmps82
      go_wp2
      go_ret
      exact ⟨by rw [HV.out]; rfl, hB.out _⟩
end Go.Proofs.YtpmnepihaljamaaGreatDoor
end
