/-
  What seg.Head and its reference answer, as contracts; what a text's head tells, over plain lists.
-/
import Derived.Test.YtjidoificijcfaaDoorQWrite
import Derived.Test.YtjidoificijcfaaDoorQGoodX
set_option linter.unusedSimpArgs false
namespace Go.Proofs.YtjidoificijcfaaDoor
open Go.RowKit
attribute [local go_sem ↓] Go.wp_at_zero Go.wp_at_succ

theorem convL (W : World) (l : Tx) (cs : Array Value) (h : cs.toList = l.map fun c => Value.int .u8 c.toNat) (n : Nat) (hn : n = l.length) : (convert 65 9 (.slice (some ⟨W.heap.size, 0, none⟩) n n)).run Tryd.prog (W.alloc (.cells cs 5)) = .ok (.string (mk l)) (W.alloc (.cells cs 5)) := by
  subst hn
  exact run_convert_bytes_back (P := Tryd.prog) (W.alloc (.cells cs 5)) 65 9 5 ⟨W.heap.size, 0, none⟩ l.length l Tryd.underlying65 Tryd.underlying5 Tryd.underlying9 (fun j hj => by
    rw [add_off, Nat.zero_add, World.cell?_alloc_new]
    have : cs[j]? = cs.toList[j]? := by simp
    rw [this, h, List.getElem?_map, List.getElem?_eq_getElem hj]
    rfl)
theorem mk_app (a b : Tx) : mk a ++ mk b = mk (a ++ b) := by
  unfold mk
  apply ByteArray.ext
  simp

set_option maxHeartbeats 800000 in
theorem rhead_any (e p s : UInt8) (w : World) :
    Calls Tryd.prog 30 #[dv e p s] w fun x w' => x = .returned (.string (mk (headL e p s))) ∧ w' = (w.alloc (.cells #[.int .u8 e.toNat, .int .u8 p.toNat, .int .u8 s.toNat] 23)).alloc (.cells #[.int .u8 73, .int .u8 83, .int .u8 65, .int .u8 e.toNat, .int .u8 p.toNat, .int .u8 s.toNat] 5) := by
  have hc := convL (w.alloc (.cells #[.int .u8 e.toNat, .int .u8 p.toNat, .int .u8 s.toNat] 23)) (headL e p s) #[.int .u8 73, .int .u8 83, .int .u8 65, .int .u8 e.toNat, .int .u8 p.toNat, .int .u8 s.toNat] rfl 6 rfl
  generalize mk (headL e p s) = m at hc
  rw [show (w.alloc (.cells #[.int .u8 e.toNat, .int .u8 p.toNat, .int .u8 s.toNat] 23)).heap.size = w.heap.size + 1 from by simp] at hc
  go_enter Tryd.func30, Tryd.ntmps30
  go_wp2
  go_ret
  exact ⟨rfl, rfl⟩
set_option maxHeartbeats 800000 in
theorem head_any (e p s : UInt8) (w : World) :
    Calls Tryd.prog 26 #[dv e p s] w fun x w' => x = .returned (.string (mk (headL e p s))) ∧ Below w.heap.size w w' := by
  have hc := convL (w.alloc (.cells #[.int .u8 e.toNat, .int .u8 p.toNat, .int .u8 s.toNat] 23)) [e, p, s] #[.int .u8 e.toNat, .int .u8 p.toNat, .int .u8 s.toNat] rfl 3 rfl
  have HB := Lib.hid fun o1 o2 => below_trans (below_alloc w o1) (below_alloc _ o2)
  have hm := mk_app [73, 83, 65] [e, p, s]
  have hz := mk_size [e, p, s]
  have HM : Hid ((⟨#[73, 83, 65]⟩ : ByteArray) ++ mk [e, p, s] = mk (headL e p s)) := hm
  clear hm
  generalize mk [e, p, s] = m at hc hz HM
  have hz3 : m.size = 3 := hz
  clear hz
  rw [show (w.alloc (.cells #[.int .u8 e.toNat, .int .u8 p.toNat, .int .u8 s.toNat] 23)).heap.size = w.heap.size + 1 from by simp] at hc
  go_enter Tryd.func26, Tryd.ntmps26
  go_wp2
  go_ret
  exact ⟨by rw [← HM.out]; rfl, HB.out _ _⟩

/-! ### Find -/
def fdV : Option (UInt8 × UInt8 × UInt8) → Value
  | some (e, p, s) => dv e p s
  | none => .agg #[.int .u8 0, .int .u8 0, .int .u8 0]
def fdE : Option (UInt8 × UInt8 × UInt8) → Int
  | some _ => 0
  | none => 5
theorem byte_at (t : ByteArray) (i : Nat) (h : i < t.size) : t.data.toList[i]? = some t[i] := by
  rw [List.getElem?_eq_getElem (by rw [← Lib.size_eq]; exact h)]
  rfl
/-- What the code and the reference look at, of a text of six bytes and more. -/
theorem find_at (t : ByteArray) (h3 : 3 < t.size) (h4 : 4 < t.size) (h5 : 5 < t.size) :
    (Lib.hasPrefix t.data.toList [73, 83, 65] = false → findO t.data.toList = none) ∧ (goodB t[3] t[4] t[5] = false → findO t.data.toList = none) ∧ (Lib.hasPrefix t.data.toList [73, 83, 65] = true → goodB t[3] t[4] t[5] = true → findO t.data.toList = some (t[3], t[4], t[5])) ∧
    ((t.extract 0 6).data.toList = headL t[3] t[4] t[5] ↔ Lib.hasPrefix t.data.toList [73, 83, 65] = true) := by
  have hl : 6 ≤ t.data.toList.length := by rw [← Lib.size_eq]; omega
  have e3 := byte_at t 3 h3
  have e4 := byte_at t 4 h4
  have e5 := byte_at t 5 h5
  rw [Lib.extract_data, List.drop_zero, Nat.sub_zero]
  obtain ⟨a, b, c, e, p, s, r, hh⟩ := find_six _ hl
  rw [hh] at e3 e4 e5 ⊢
  simp only [List.getElem?_cons_succ, List.getElem?_cons_zero, Option.some.injEq] at e3 e4 e5
  rw [← e3, ← e4, ← e5]
  have hp : Lib.hasPrefix (a :: b :: c :: e :: p :: s :: r) [73, 83, 65] = true ↔ (a = 73 ∧ b = 83 ∧ c = 65) := by
    simp only [Lib.hasPrefix, List.isPrefixOf, Bool.and_eq_true, beq_iff_eq, and_true]
    constructor
    · rintro ⟨x, y, z⟩; exact ⟨x.symm, y.symm, z.symm⟩
    · rintro ⟨x, y, z⟩; exact ⟨x.symm, y.symm, z.symm⟩
  refine ⟨fun h => ?_, fun h => ?_, fun h1 h2 => ?_, ?_⟩
  · show (if _ then _ else _) = _; rw [if_neg]; rintro ⟨x, y, z, _⟩; rw [hp.2 ⟨x, y, z⟩] at h; cases h
  · show (if _ then _ else _) = _; rw [if_neg]; rintro ⟨_, _, _, z⟩; rw [h] at z; cases z
  · obtain ⟨x, y, z⟩ := hp.1 h1
    show (if _ then _ else _) = _; rw [if_pos ⟨x, y, z, h2⟩]
  · rw [hp]
    simp [headL]
theorem sub_at (t : ByteArray) (h3 : 3 < t.size) (h4 : 4 < t.size) (h5 : 5 < t.size) (S : ByteArray) (hS : t.extract 3 6 = S) (k0 : 0 < S.size) (k1 : 1 < S.size) (k2 : 2 < S.size) : S[0] = t[3] ∧ S[1] = t[4] ∧ S[2] = t[5] := by
  subst hS
  refine ⟨?_, ?_, ?_⟩ <;> rw [ByteArray.getElem_extract]

end Go.Proofs.YtjidoificijcfaaDoor
