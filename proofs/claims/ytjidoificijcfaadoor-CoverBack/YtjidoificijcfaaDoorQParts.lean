/-
  What seg.plainParts answers, as a contract: for every segment.
-/
import Derived.Test.YtjidoificijcfaaDoorQSame
set_option linter.unusedSimpArgs false
namespace Go.Proofs.YtjidoificijcfaaDoor
open Go.RowKit

theorem RowAt.get {α : Type} {K : Nat → Prop} {R : World → Value → α → Prop} {w : World} {a : Option Addr} {n c : Nat} {xs : List α} (h : RowAt K R w (.slice a n c) xs) (k : Nat) (hk : k < xs.length) :
    ∃ b o u, a = some ⟨b, o, none⟩ ∧ xs[k]? = some xs[k] ∧ w.cell? ⟨b, o + k, none⟩ = some u ∧ R w u xs[k] := by
  obtain ⟨a', c', e, _, _, h⟩ := h
  simp only [Value.slice.injEq] at e
  obtain ⟨rfl, rfl, rfl⟩ := e
  exact RowAt.at h k hk
/-- Signs in a box of the call's own. -/
def DBox (w : World) (b : Nat) (e p s : UInt8) : Prop := b < w.heap.size ∧ w.cell? ⟨b, 0, none⟩ = some (.int .u8 e.toNat) ∧ w.cell? ⟨b, 1, none⟩ = some (.int .u8 p.toNat) ∧ w.cell? ⟨b, 2, none⟩ = some (.int .u8 s.toNat)
theorem DBox.below {w w' : World} {b B : Nat} {e p s : UInt8} (h : DBox w b e p s) (hb : Below B w w') (hB : b < B) : DBox w' b e p s :=
  ⟨Nat.lt_of_lt_of_le h.1 hb.size, by rw [hb.cell (p := ⟨b, 0, none⟩) hB]; exact h.2.1, by rw [hb.cell (p := ⟨b, 1, none⟩) hB]; exact h.2.2.1, by rw [hb.cell (p := ⟨b, 2, none⟩) hB]; exact h.2.2.2⟩
theorem DBox.grw {w w' : World} {b : Nat} {e p s : UInt8} (h : DBox w b e p s) (hb : Below w.heap.size w w') : DBox w' b e p s := h.below hb h.1
theorem DBox.new (w : World) (e p s : UInt8) : DBox (w.alloc (.cells #[.int .u8 e.toNat, .int .u8 p.toNat, .int .u8 s.toNat] 23)) w.heap.size e p s := by
  refine ⟨by simp, ?_, ?_, ?_⟩ <;> simp
theorem below_alloc (w : World) (o : Obj) : Below w.heap.size w (w.alloc o) := (Below.refl _ w).alloc (Nat.le_refl _) o
theorem below_trans {a b c : World} (h : Below a.heap.size a b) (k : Below b.heap.size b c) : Below a.heap.size a c := h.trans (k.mono h.size)

theorem parts_snoc (e p s : UInt8) (g : Sg) (k : Nat) (ps : List Tx) (hx : g[k]? = some ps) (h : partsB e p s (g.take k) = true) (hp : ps ≠ []) (ha : ps.all (plainB e p s) = true) : partsB e p s (g.take (k + 1)) = true := by
  unfold partsB at h ⊢
  rw [List.take_add_one, hx, List.all_append, h]
  simp only [Option.toList_some, List.all_cons, List.all_nil, ha]
  cases ps with
  | nil => exact absurd rfl hp
  | cons x r => rfl
theorem parts_false (e p s : UInt8) (g : Sg) (k : Nat) (ps : List Tx) (hx : g[k]? = some ps) (h : ps = [] ∨ ps.all (plainB e p s) = false) : partsB e p s g = false := by
  cases hh : partsB e p s g
  · rfl
  · obtain ⟨a, b⟩ := parts_mem hh ps (List.mem_of_getElem? hx)
    rcases h with h | h
    · exact absurd h a
    · rw [List.all_eq_true.2 b] at h; cases h
theorem all_take (f : Tx → Bool) (ps : List Tx) (k : Nat) (x : Tx) (hx : ps[k]? = some x) (h : (ps.take k).all f = true) (hf : f x = true) : (ps.take (k + 1)).all f = true := by
  rw [List.take_add_one, hx, List.all_append, h]
  simp [hf]
theorem all_not (f : Tx → Bool) (ps : List Tx) (k : Nat) (x : Tx) (hx : ps[k]? = some x) (hf : f x = false) : ps.all f = false := by
  cases hh : ps.all f
  · rfl
  · have := List.all_eq_true.1 hh x (List.mem_of_getElem? hx)
    rw [hf] at this; cases this

set_option maxHeartbeats 4000000 in
theorem parts_any (e p s : UInt8) (v : Value) (g : Sg) (w : World) (h : ElAt All w v g) (hz : ∀ ps ∈ g, ∀ x ∈ ps, x.length ≤ maxLen) :
    Calls Tryd.prog 42 #[dv e p s, .agg #[v]] w fun x w' => x = .returned (.bool (partsB e p s g)) ∧ Below w.heap.size w w' := by
  have hv := h
  obtain ⟨a, c, rfl, h1, h2, -⟩ := h
  unfold maxLen at h2
  have HZ := Lib.hid hz
  have HW : Hid (ElAt All w (.slice a g.length c) g) := hv
  clear hv hz
  have HG : Hid (∀ o1 o2, Below w.heap.size w ((w.alloc o1).alloc o2)) := fun o1 o2 => below_trans (below_alloc w o1) (below_alloc _ o2)
  go_enter Tryd.func42, Tryd.ntmps42
  go_wp2
  go_loopg [12] (g.length) (fun gg i wr => ∃ k : Nat, k ≤ g.length ∧ gg = g.length - k ∧ i = .int .i64 k ∧ Hid (partsB e p s (g.take k) = true) ∧ Hid (Below w.heap.size w wr) ∧ Hid (ElAt All wr (.slice a g.length c) g) ∧ Hid (DBox wr w.heap.size e p s))
  case atStart =>
    refine ⟨0, Nat.zero_le _, rfl, rfl, rfl, HG.out _ _, ElAt.move HW.out (Below.moves (HG.out _ _)), ?_⟩
    exact DBox.grw (DBox.new w e p s) (below_alloc _ _)
  case round =>
    obtain ⟨k, hk, hg, rfl, HA, HB, HE, HD⟩ := hrel
    by_cases hlt : k < g.length
    · obtain ⟨b, o, u, rfl, hx, hu, hr⟩ := RowAt.get HE.out k hlt
      have HR : Hid (TxAt All wr u g[k]) := hr
      obtain ⟨au, cu, rfl, hu1, hu2, -⟩ := hr
      unfold maxLen at hu2
      have HS := Lib.hid (parts_snoc e p s g k _ hx HA.out)
      have HF := Lib.hid (parts_false e p s g k _ hx)
      have HZ2 : Hid (∀ x ∈ g[k], x.length ≤ maxLen) := HZ.out _ (List.mem_of_getElem? hx)
      clear hx
      generalize g[k] = ps at *
      by_cases h0 : ps = []
      · have HF2 := Lib.hid (HF.out (Or.inl h0))
        subst h0
        go_wp2
        go_ret
        exact ⟨by rw [HF2.out]; rfl, HB.out⟩
      · have hl0 : ((ps.length : Int) == 0) = false := by
          rw [beq_eq_false_iff_ne]
          intro e
          exact h0 (List.length_eq_zero_iff.1 (by omega))
        have H0 := Lib.hid h0
        clear h0
        go_wp2
        go_loopg [21] (ps.length) (fun gg i wr => ∃ j : Nat, j ≤ ps.length ∧ gg = ps.length - j ∧ i = .int .i64 j ∧ Hid ((ps.take j).all (plainB e p s) = true) ∧ Hid (Below w.heap.size w wr) ∧ Hid (ElAt All wr (.slice (some ⟨b, o, none⟩) g.length c) g) ∧ Hid (DBox wr w.heap.size e p s) ∧ Hid (TxAt All wr (.slice au ps.length cu) ps))
        case atStart => exact ⟨0, Nat.zero_le _, rfl, rfl, rfl, HB, HE, HD, HR⟩
        case round =>
          clear HB HE HD HR hu
          obtain ⟨j, hj, hgj, rfl, HAj, HB, HE, HD, HR⟩ := hrel
          by_cases hltj : j < ps.length
          · obtain ⟨bx, ox, ux, rfl, hxx, hux, rfl⟩ := RowAt.get HR.out j hltj
            obtain ⟨-, d0, d1, d2⟩ := HD.out
            have HT := Lib.hid (all_take (plainB e p s) ps j _ hxx HAj.out)
            have HN := Lib.hid (all_not (plainB e p s) ps j _ hxx)
            have hzx := HZ2.out _ (List.mem_of_getElem? hxx)
            have hcall := fun W => plain_any e p s (mk ps[j]) W (by rw [mk_size]; exact hzx)
            rw [mk_list] at hcall
            have HC := Lib.hid hcall
            clear hcall hxx hzx
            generalize mk ps[j] = X at *
            generalize ps[j] = x at *
            cases hq : plainB e p s x
            · rw [hq] at HC
              have HN2 := Lib.hid (HN.out hq)
              clear hq
              go_wp2_with (go_at_call 62; refine (HC.out _).mono ?_; rintro e w' ⟨rfl, hb⟩; have HB2 := Lib.hid hb; clear hb)
              go_ret
              exact ⟨by rw [HF.out (Or.inr HN2.out)]; rfl, below_trans HB.out HB2.out⟩
            · rw [hq] at HC
              have HT2 := Lib.hid (HT.out hq)
              clear hq
              go_wp2_with (go_at_call 62; refine (HC.out _).mono ?_; rintro e w' ⟨rfl, hb⟩; have HB2 := Lib.hid hb; clear hb)
              go_roundg (ps.length - (j + 1))
              case rel => exact ⟨j + 1, by omega, rfl, by go_num, HT2, below_trans HB.out HB2.out, ElAt.move HE.out (Below.moves HB2.out), DBox.grw HD.out HB2.out, TxAt.move HR.out (Below.moves HB2.out)⟩
              case measure => omega
          · have hall : ps.take j = ps := List.take_of_length_le (by omega)
            have HQ : Hid (ps.all (plainB e p s) = true) := by show _ = _; rw [← hall]; exact HAj.out
            clear hall
            go_wp2
            go_roundg (g.length - (k + 1))
            case rel => exact ⟨k + 1, by omega, rfl, by go_num, HS.out H0.out HQ.out, HB, HE, HD⟩
            case measure => omega
    · have hall : g.take k = g := List.take_of_length_le (by omega)
      have HQ : Hid (partsB e p s g = true) := by show _ = _; rw [← hall]; exact HA.out
      clear hall
      go_wp2
      go_ret
      exact ⟨by rw [HQ.out]; rfl, HB.out⟩
end Go.Proofs.YtjidoificijcfaaDoor
