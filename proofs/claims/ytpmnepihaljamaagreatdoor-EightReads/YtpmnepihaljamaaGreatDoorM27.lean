/-
  Texts put together (merge.py): QGoodX, QHead, KOpenM.
-/
import Derived.Test.YtpmnepihaljamaaGreatDoorM8
import Derived.Test.YtpmnepihaljamaaGreatDoorM10
import Derived.Test.YtpmnepihaljamaaGreatDoorM26
/-
  What seg.Good and its reference answer, and the world behind them, to the cell.
-/
section
set_option linter.unusedSimpArgs false
namespace Go.Proofs.YtpmnepihaljamaaGreatDoor
open Go.RowKit

set_option maxHeartbeats 2000000 in
theorem good_ex (e p s : UInt8) (w : World) :
    Calls Tryz.prog 45 #[dv e p s] w fun x w' => x = .returned (.bool (goodB e p s)) ∧ w' = w.alloc (.cells #[.int .u8 e.toNat, .int .u8 p.toNat, .int .u8 s.toNat] 23) := by
  by_cases h0 : e = p
  · have hv : goodB e p s = false := by simp [goodB, h0]
    have q0 : ((e.toNat : Int) == (p.toNat : Int)) = true := by rw [u8_eq]; simpa using h0
    clear h0
    have HV := Lib.hid hv
    clear hv
    go_enter Tryz.func45, Tryz.ntmps45
    go_wp2_with (go_at_call 80; refine (mayBe_any _ _).mono ?_; rintro e w' ⟨rfl, rfl⟩)
    go_ret
    exact ⟨by rw [HV.out]; rfl, rfl⟩
  have q0 : ((e.toNat : Int) == (p.toNat : Int)) = false := by rw [u8_eq]; simpa using h0
  by_cases h1 : e = s
  · have hv : goodB e p s = false := by simp [goodB, h1]
    have q1 : ((e.toNat : Int) == (s.toNat : Int)) = true := by rw [u8_eq]; simpa using h1
    clear h1
    have HV := Lib.hid hv
    clear hv
    go_enter Tryz.func45, Tryz.ntmps45
    go_wp2_with (go_at_call 80; refine (mayBe_any _ _).mono ?_; rintro e w' ⟨rfl, rfl⟩)
    go_ret
    exact ⟨by rw [HV.out]; rfl, rfl⟩
  have q1 : ((e.toNat : Int) == (s.toNat : Int)) = false := by rw [u8_eq]; simpa using h1
  by_cases h2 : p = s
  · have hv : goodB e p s = false := by simp [goodB, h2]
    have q2 : ((p.toNat : Int) == (s.toNat : Int)) = true := by rw [u8_eq]; simpa using h2
    clear h2
    have HV := Lib.hid hv
    clear hv
    go_enter Tryz.func45, Tryz.ntmps45
    go_wp2_with (go_at_call 80; refine (mayBe_any _ _).mono ?_; rintro e w' ⟨rfl, rfl⟩)
    go_ret
    exact ⟨by rw [HV.out]; rfl, rfl⟩
  have q2 : ((p.toNat : Int) == (s.toNat : Int)) = false := by rw [u8_eq]; simpa using h2
  cases b0 : signB e
  · have hv : goodB e p s = false := by simp [goodB, b0]
    clear h0 h1 h2
    have HV := Lib.hid hv
    clear hv
    go_enter Tryz.func45, Tryz.ntmps45
    go_wp2_with (go_at_call 80; refine (mayBe_any _ _).mono ?_; rintro e w' ⟨rfl, rfl⟩)
    go_ret
    exact ⟨by rw [HV.out]; rfl, rfl⟩
  cases b1 : signB p
  · have hv : goodB e p s = false := by simp [goodB, b1]
    clear h0 h1 h2
    have HV := Lib.hid hv
    clear hv
    go_enter Tryz.func45, Tryz.ntmps45
    go_wp2_with (go_at_call 80; refine (mayBe_any _ _).mono ?_; rintro e w' ⟨rfl, rfl⟩)
    go_ret
    exact ⟨by rw [HV.out]; rfl, rfl⟩
  cases b2 : signB s
  · have hv : goodB e p s = false := by simp [goodB, b2]
    clear h0 h1 h2
    have HV := Lib.hid hv
    clear hv
    go_enter Tryz.func45, Tryz.ntmps45
    go_wp2_with (go_at_call 80; refine (mayBe_any _ _).mono ?_; rintro e w' ⟨rfl, rfl⟩)
    go_ret
    exact ⟨by rw [HV.out]; rfl, rfl⟩
  have hv : goodB e p s = true := by simp [goodB, b0, b1, b2, h0, h1, h2, Ne.symm h0, Ne.symm h1, Ne.symm h2]
  clear h0 h1 h2
  have HV := Lib.hid hv
  clear hv
  go_enter Tryz.func45, Tryz.ntmps45
  go_wp2_with (go_at_call 80; refine (mayBe_any _ _).mono ?_; rintro e w' ⟨rfl, rfl⟩)
  go_ret
  exact ⟨by rw [HV.out]; rfl, rfl⟩
set_option maxHeartbeats 2000000 in
theorem rgood_ex (e p s : UInt8) (w : World) :
    Calls Tryz.prog 17 #[dv e p s] w fun x w' => x = .returned (.bool (goodB e p s)) ∧ w' = w.alloc (.cells #[.int .u8 e.toNat, .int .u8 p.toNat, .int .u8 s.toNat] 23) := by
  by_cases h0 : e = p
  · have hv : goodB e p s = false := by simp [goodB, h0]
    have q0 : ((e.toNat : Int) == (p.toNat : Int)) = true := by rw [u8_eq]; simpa using h0
    clear h0
    have HV := Lib.hid hv
    clear hv
    go_enter Tryz.func17, Tryz.ntmps17
    go_wp2_with (go_at_call 38; refine (rsign_any _ _).mono ?_; rintro e w' ⟨rfl, rfl⟩)
    go_ret
    exact ⟨by rw [HV.out]; rfl, rfl⟩
  have q0 : ((e.toNat : Int) == (p.toNat : Int)) = false := by rw [u8_eq]; simpa using h0
  by_cases h1 : p = s
  · have hv : goodB e p s = false := by simp [goodB, h1]
    have q1 : ((p.toNat : Int) == (s.toNat : Int)) = true := by rw [u8_eq]; simpa using h1
    clear h1
    have HV := Lib.hid hv
    clear hv
    go_enter Tryz.func17, Tryz.ntmps17
    go_wp2_with (go_at_call 38; refine (rsign_any _ _).mono ?_; rintro e w' ⟨rfl, rfl⟩)
    go_ret
    exact ⟨by rw [HV.out]; rfl, rfl⟩
  have q1 : ((p.toNat : Int) == (s.toNat : Int)) = false := by rw [u8_eq]; simpa using h1
  by_cases h2 : s = e
  · have hv : goodB e p s = false := by simp [goodB, h2]
    have q2 : ((s.toNat : Int) == (e.toNat : Int)) = true := by rw [u8_eq]; simpa using h2
    clear h2
    have HV := Lib.hid hv
    clear hv
    go_enter Tryz.func17, Tryz.ntmps17
    go_wp2_with (go_at_call 38; refine (rsign_any _ _).mono ?_; rintro e w' ⟨rfl, rfl⟩)
    go_ret
    exact ⟨by rw [HV.out]; rfl, rfl⟩
  have q2 : ((s.toNat : Int) == (e.toNat : Int)) = false := by rw [u8_eq]; simpa using h2
  cases b0 : signB e
  · have hv : goodB e p s = false := by simp [goodB, b0]
    clear h0 h1 h2
    have HV := Lib.hid hv
    clear hv
    go_enter Tryz.func17, Tryz.ntmps17
    go_wp2_with (go_at_call 38; refine (rsign_any _ _).mono ?_; rintro e w' ⟨rfl, rfl⟩)
    go_ret
    exact ⟨by rw [HV.out]; rfl, rfl⟩
  cases b1 : signB p
  · have hv : goodB e p s = false := by simp [goodB, b1]
    clear h0 h1 h2
    have HV := Lib.hid hv
    clear hv
    go_enter Tryz.func17, Tryz.ntmps17
    go_wp2_with (go_at_call 38; refine (rsign_any _ _).mono ?_; rintro e w' ⟨rfl, rfl⟩)
    go_ret
    exact ⟨by rw [HV.out]; rfl, rfl⟩
  cases b2 : signB s
  · have hv : goodB e p s = false := by simp [goodB, b2]
    clear h0 h1 h2
    have HV := Lib.hid hv
    clear hv
    go_enter Tryz.func17, Tryz.ntmps17
    go_wp2_with (go_at_call 38; refine (rsign_any _ _).mono ?_; rintro e w' ⟨rfl, rfl⟩)
    go_ret
    exact ⟨by rw [HV.out]; rfl, rfl⟩
  have hv : goodB e p s = true := by simp [goodB, b0, b1, b2, h0, h1, h2, Ne.symm h0, Ne.symm h1, Ne.symm h2]
  clear h0 h1 h2
  have HV := Lib.hid hv
  clear hv
  go_enter Tryz.func17, Tryz.ntmps17
  go_wp2_with (go_at_call 38; refine (rsign_any _ _).mono ?_; rintro e w' ⟨rfl, rfl⟩)
  go_ret
  exact ⟨by rw [HV.out]; rfl, rfl⟩
end Go.Proofs.YtpmnepihaljamaaGreatDoor
end

/-
  What seg.Head and its reference answer, as contracts; what a text's head tells, over plain lists.
-/
section
set_option linter.unusedSimpArgs false
namespace Go.Proofs.YtpmnepihaljamaaGreatDoor
open Go.RowKit
attribute [local go_sem ↓] Go.wp_at_zero Go.wp_at_succ

theorem convL (W : World) (l : Tx) (cs : Array Value) (h : cs.toList = l.map fun c => Value.int .u8 c.toNat) (n : Nat) (hn : n = l.length) : (convert 107 9 (.slice (some ⟨W.heap.size, 0, none⟩) n n)).run Tryz.prog (W.alloc (.cells cs 5)) = .ok (.string (mk l)) (W.alloc (.cells cs 5)) := by
  subst hn
  exact run_convert_bytes_back (P := Tryz.prog) (W.alloc (.cells cs 5)) 107 9 5 ⟨W.heap.size, 0, none⟩ l.length l Tryz.underlying107 Tryz.underlying5 Tryz.underlying9 (fun j hj => by
    rw [add_off, Nat.zero_add, World.cell?_alloc_new]
    have : cs[j]? = cs.toList[j]? := by simp
    rw [this, h, List.getElem?_map, List.getElem?_eq_getElem hj]
    rfl)
theorem mk_app (a b : Tx) : mk a ++ mk b = mk (a ++ b) := by
  unfold mk
  apply ByteArray.ext
  simp

set_option maxHeartbeats 800000 in
theorem rhead_any (e p s : UInt8) (w : World) :
    Calls Tryz.prog 59 #[dv e p s] w fun x w' => x = .returned (.string (mk (headL e p s))) ∧ w' = (w.alloc (.cells #[.int .u8 e.toNat, .int .u8 p.toNat, .int .u8 s.toNat] 23)).alloc (.cells #[.int .u8 73, .int .u8 83, .int .u8 65, .int .u8 e.toNat, .int .u8 p.toNat, .int .u8 s.toNat] 5) := by
  have hc := convL (w.alloc (.cells #[.int .u8 e.toNat, .int .u8 p.toNat, .int .u8 s.toNat] 23)) (headL e p s) #[.int .u8 73, .int .u8 83, .int .u8 65, .int .u8 e.toNat, .int .u8 p.toNat, .int .u8 s.toNat] rfl 6 rfl
  generalize mk (headL e p s) = m at hc
  rw [show (w.alloc (.cells #[.int .u8 e.toNat, .int .u8 p.toNat, .int .u8 s.toNat] 23)).heap.size = w.heap.size + 1 from by simp] at hc
  go_enter Tryz.func59, Tryz.ntmps59
  go_wp2
  go_ret
  exact ⟨rfl, rfl⟩
set_option maxHeartbeats 800000 in
theorem head_any (e p s : UInt8) (w : World) :
    Calls Tryz.prog 51 #[dv e p s] w fun x w' => x = .returned (.string (mk (headL e p s))) ∧ Below w.heap.size w w' := by
  have hc := convL (w.alloc (.cells #[.int .u8 e.toNat, .int .u8 p.toNat, .int .u8 s.toNat] 23)) [e, p, s] #[.int .u8 e.toNat, .int .u8 p.toNat, .int .u8 s.toNat] rfl 3 rfl
  have HB := Lib.hid fun o1 o2 => below_trans (below_alloc w o1) (below_alloc _ o2)
  have hm := mk_app [73, 83, 65] [e, p, s]
  have hz := mk_size [e, p, s]
  have HM : Hid ((⟨#[73, 83, 65]⟩ : ByteArray) ++ mk [e, p, s] = mk (headL e p s)) := hm
  clear hm
  generalize mk [e, p, s] = m at hc hz HM
  have hz3 : m.size = 3 := hz
  clear hz
  rw [show (w.alloc (.cells #[.int .u8 e.toNat, .int .u8 p.toNat, .int .u8 s.toNat] 23)).heap.size = w.heap.size + 1 from by simp] at hc
  go_enter Tryz.func51, Tryz.ntmps51
  go_wp2
  go_ret
  exact ⟨by rw [← HM.out]; rfl, HB.out _ _⟩

/-! ### Find -/
def fdV : Option (UInt8 × UInt8 × UInt8) → Value
  | some (e, p, s) => dv e p s
  | none => .agg #[.int .u8 0, .int .u8 0, .int .u8 0]
def fdE : Option (UInt8 × UInt8 × UInt8) → Int
  | some _ => 0
  | none => 5
theorem byte_at (t : ByteArray) (i : Nat) (h : i < t.size) : t.data.toList[i]? = some t[i] := by
  rw [List.getElem?_eq_getElem (by rw [← Lib.size_eq]; exact h)]
  rfl
/-- What the code and the reference look at, of a text of six bytes and more. -/
theorem find_at (t : ByteArray) (h3 : 3 < t.size) (h4 : 4 < t.size) (h5 : 5 < t.size) :
    (Lib.hasPrefix t.data.toList [73, 83, 65] = false → findO t.data.toList = none) ∧ (goodB t[3] t[4] t[5] = false → findO t.data.toList = none) ∧ (Lib.hasPrefix t.data.toList [73, 83, 65] = true → goodB t[3] t[4] t[5] = true → findO t.data.toList = some (t[3], t[4], t[5])) ∧
    ((t.extract 0 6).data.toList = headL t[3] t[4] t[5] ↔ Lib.hasPrefix t.data.toList [73, 83, 65] = true) := by
  have hl : 6 ≤ t.data.toList.length := by rw [← Lib.size_eq]; omega
  have e3 := byte_at t 3 h3
  have e4 := byte_at t 4 h4
  have e5 := byte_at t 5 h5
  rw [Lib.extract_data, List.drop_zero, Nat.sub_zero]
  obtain ⟨a, b, c, e, p, s, r, hh⟩ := find_six _ hl
  rw [hh] at e3 e4 e5 ⊢
  simp only [List.getElem?_cons_succ, List.getElem?_cons_zero, Option.some.injEq] at e3 e4 e5
  rw [← e3, ← e4, ← e5]
  have hp : Lib.hasPrefix (a :: b :: c :: e :: p :: s :: r) [73, 83, 65] = true ↔ (a = 73 ∧ b = 83 ∧ c = 65) := by
    simp only [Lib.hasPrefix, List.isPrefixOf, Bool.and_eq_true, beq_iff_eq, and_true]
    constructor
    · rintro ⟨x, y, z⟩; exact ⟨x.symm, y.symm, z.symm⟩
    · rintro ⟨x, y, z⟩; exact ⟨x.symm, y.symm, z.symm⟩
  refine ⟨fun h => ?_, fun h => ?_, fun h1 h2 => ?_, ?_⟩
  · show (if _ then _ else _) = _; rw [if_neg]; rintro ⟨x, y, z, _⟩; rw [hp.2 ⟨x, y, z⟩] at h; cases h
  · show (if _ then _ else _) = _; rw [if_neg]; rintro ⟨_, _, _, z⟩; rw [h] at z; cases z
  · obtain ⟨x, y, z⟩ := hp.1 h1
    show (if _ then _ else _) = _; rw [if_pos ⟨x, y, z, h2⟩]
  · rw [hp]
    simp [headL]
theorem sub_at (t : ByteArray) (h3 : 3 < t.size) (h4 : 4 < t.size) (h5 : 5 < t.size) (S : ByteArray) (hS : t.extract 3 6 = S) (k0 : 0 < S.size) (k1 : 1 < S.size) (k2 : 2 < S.size) : S[0] = t[3] ∧ S[1] = t[4] ∧ S[2] = t[5] := by
  subst hS
  refine ⟨?_, ?_, ?_⟩ <;> rw [ByteArray.getElem_extract]

end Go.Proofs.YtpmnepihaljamaaGreatDoor
end

/-
  What cover.Open and its reference answer, as values; a box of signs that is written anew beside segments.
-/
section
set_option linter.unusedSimpArgs false
namespace Go.Proofs.YtpmnepihaljamaaGreatDoor
open Go.RowKit

def dv3 (t : UInt8 × UInt8 × UInt8) : Value := dv t.1 t.2.1 t.2.2
def isInt : Value → Bool
  | .int _ _ => true
  | _ => false
/-- Rows stand where a block of numbers is written anew. -/
theorem RowAt.off {α : Type} {R R' : World → Value → α → Prop} {W W' : World} {rb : Nat} {v : Value} {xs : List α} (hs : W.heap.size ≤ W'.heap.size) (hW : ∀ b, b ≠ rb → W'.heap[b]? = W.heap[b]?)
    (hno : ∀ o u, W.cell? ⟨rb, o, none⟩ = some u → isInt u = true) (hR : ∀ u x, R W u x → R' W' u x ∧ isInt u = false) (h : RowAt All R W v xs) : RowAt All R' W' v xs := by
  obtain ⟨a, c, rfl, h1, h2, h3⟩ := h
  refine ⟨a, c, rfl, h1, h2, ?_⟩
  rcases h3 with h3 | ⟨b, o, rfl, _, hb, hc⟩
  · exact Or.inl h3
  · by_cases hx : xs = []
    · exact Or.inl hx
    · have hl : 0 < xs.length := List.length_pos_iff.2 hx
      have hbr : b ≠ rb := by
        rintro rfl
        obtain ⟨u, hu, hr⟩ := hc 0 _ (List.getElem?_eq_getElem hl)
        have h1 := hno _ _ hu
        rw [(hR u _ hr).2] at h1
        cases h1
      refine Or.inr ⟨b, o, rfl, trivial, Nat.lt_of_lt_of_le hb hs, fun j x hj => ?_⟩
      obtain ⟨u, hu, hr⟩ := hc j x hj
      exact ⟨u, by rw [World.cell?_of_block (w := W) (hW b hbr)]; exact hu, (hR u x hr).1⟩
theorem TxAt.off {W W' : World} {rb : Nat} {v : Value} {xs : List Tx} (hs : W.heap.size ≤ W'.heap.size) (hW : ∀ b, b ≠ rb → W'.heap[b]? = W.heap[b]?) (hno : ∀ o u, W.cell? ⟨rb, o, none⟩ = some u → isInt u = true) (h : TxAt All W v xs) : TxAt All W' v xs :=
  RowAt.off hs hW hno (fun u x hr => ⟨hr, by rw [show u = _ from hr]; rfl⟩) h
theorem tx_notInt {K : Nat → Prop} {W : World} {v : Value} {xs : List Tx} (h : TxAt K W v xs) : isInt v = false := by obtain ⟨a, c, rfl, _⟩ := h; rfl
theorem el_notInt {K : Nat → Prop} {W : World} {v : Value} {xs : Sg} (h : ElAt K W v xs) : isInt v = false := by obtain ⟨a, c, rfl, _⟩ := h; rfl
theorem ElAt.off {W W' : World} {rb : Nat} {v : Value} {xs : Sg} (hs : W.heap.size ≤ W'.heap.size) (hW : ∀ b, b ≠ rb → W'.heap[b]? = W.heap[b]?) (hno : ∀ o u, W.cell? ⟨rb, o, none⟩ = some u → isInt u = true) (h : ElAt All W v xs) : ElAt All W' v xs :=
  RowAt.off hs hW hno (fun _ _ hr => ⟨TxAt.off hs hW hno hr, tx_notInt hr⟩) h
theorem SgAt.off {W W' : World} {rb : Nat} {v : Value} {xs : List Sg} (hs : W.heap.size ≤ W'.heap.size) (hW : ∀ b, b ≠ rb → W'.heap[b]? = W.heap[b]?) (hno : ∀ o u, W.cell? ⟨rb, o, none⟩ = some u → isInt u = true) (h : SgAt All W v xs) : SgAt All W' v xs :=
  RowAt.off hs hW hno (fun _ _ hr => ⟨ElAt.off hs hW hno hr, el_notInt hr⟩) h

/-- Three numbers in a block. -/
def Blk (W : World) (rb : Nat) (x y z : Int) : Prop := W.heap[rb]? = some (.cells #[.int .u8 x, .int .u8 y, .int .u8 z] 23 (0, 0))
theorem Blk.new (w : World) (x y z : Int) : Blk (w.alloc (.cells #[.int .u8 x, .int .u8 y, .int .u8 z] 23)) w.heap.size x y z := heap_alloc_new w _
theorem Blk.lt {W : World} {rb : Nat} {x y z : Int} (h : Blk W rb x y z) : rb < W.heap.size := (Array.getElem?_eq_some_iff.1 h).1
theorem Blk.grw {W W' : World} {rb : Nat} {x y z : Int} (h : Blk W rb x y z) (hb : Below W.heap.size W W') : Blk W' rb x y z := by
  unfold Blk
  rw [hb.block rb h.lt]
  exact h
theorem Blk.cells {W : World} {rb : Nat} {x y z : Int} (h : Blk W rb x y z) : (W.cell? ⟨rb, 0, none⟩ = some (.int .u8 x) ∧ W.cell? ⟨rb, 1, none⟩ = some (.int .u8 y) ∧ W.cell? ⟨rb, 2, none⟩ = some (.int .u8 z)) ∧ W.frozen? ⟨rb, 0, none⟩ = false ∧ W.frozen? ⟨rb, 1, none⟩ = false ∧ W.frozen? ⟨rb, 2, none⟩ = false := by
  refine ⟨⟨?_, ?_, ?_⟩, Lib.frozen_of_heap h 0, Lib.frozen_of_heap h 1, Lib.frozen_of_heap h 2⟩
  · rw [cell_of_row W rb 0 _ 23 (0, 0) h]; rfl
  · rw [cell_of_row W rb 1 _ 23 (0, 0) h]; rfl
  · rw [cell_of_row W rb 2 _ 23 (0, 0) h]; rfl
theorem Blk.ints {W : World} {rb : Nat} {x y z : Int} (h : Blk W rb x y z) : ∀ o u, W.cell? ⟨rb, o, none⟩ = some u → isInt u = true := by
  intro o u hu
  rw [cell_of_row W rb o _ 23 (0, 0) h] at hu
  match o, hu with
  | 0, hu => simp at hu; subst hu; rfl
  | 1, hu => simp at hu; subst hu; rfl
  | 2, hu => simp at hu; subst hu; rfl
  | _ + 3, hu => simp at hu
/-- What stands behind three numbers written anew. -/
def put3 (W : World) (rb : Nat) (x y z : Value) : World := ((W.setCell ⟨rb, 0, none⟩ x).setCell ⟨rb, 1, none⟩ y).setCell ⟨rb, 2, none⟩ z
theorem put3_size (W : World) (rb : Nat) (x y z : Value) : W.heap.size ≤ (put3 W rb x y z).heap.size := by simp [put3, World.setCell]
theorem put3_block (W : World) (rb : Nat) (x y z : Value) (b : Nat) (h : b ≠ rb) : (put3 W rb x y z).heap[b]? = W.heap[b]? := by
  unfold put3
  rw [Below.heap_setCell _ _ _ _ h, Below.heap_setCell _ _ _ _ h, Below.heap_setCell _ _ _ _ h]
theorem put3_below {B : Nat} {w W : World} (h : Below B w W) (rb : Nat) (hB : B ≤ rb) (x y z : Value) : Below B w (put3 W rb x y z) := ((h.setCell (p := ⟨rb, 0, none⟩) hB x).setCell (p := ⟨rb, 1, none⟩) hB y).setCell (p := ⟨rb, 2, none⟩) hB z
theorem put3_segs {W : World} {rb : Nat} {a b c : Int} (h : Blk W rb a b c) (x y z : Value) {v : Value} {l : List Sg} (hs : SgAt All W v l) : SgAt All (put3 W rb x y z) v l :=
  SgAt.off (put3_size W rb x y z) (fun b hb => put3_block W rb x y z b hb) h.ints hs

/-! ### The answers, way by way -/
theorem op_long {k s : Tx} (h : 65536 < s.length) : opE k s = 10 := by unfold opE; rw [if_pos h]
theorem op_none {k s : Tx} (h : s.length ≤ 65536) (hf : findO s = none) : opE k s = 5 := by unfold opE; rw [if_neg (by omega), hf]
theorem op_kind {k s : Tx} {e p q : UInt8} (h : s.length ≤ 65536) (hf : findO s = some (e, p, q)) (hk : kindB k = false) : opE k s = 5 := by
  unfold opE
  rw [if_neg (by omega), hf]
  simp only [hk, if_true]
theorem op_split {k s : Tx} {e p q : UInt8} (h : s.length ≤ 65536) (hf : findO s = some (e, p, q)) (hk : kindB k = true) (hs : spE e p q (s.drop 6) ≠ 0) : opE k s = spE e p q (s.drop 6) := by
  unfold opE
  rw [if_neg (by omega), hf]
  simp only [hk, Bool.true_eq_false, if_false]
  rw [if_neg hs]
theorem op_un {k s : Tx} {e p q : UInt8} (h : s.length ≤ 65536) (hf : findO s = some (e, p, q)) (hk : kindB k = true) (hs : spE e p q (s.drop 6) = 0) : opE k s = unE k (spV e p q (s.drop 6)) := by
  unfold opE
  rw [if_neg (by omega), hf]
  simp only [hk, Bool.true_eq_false, if_false]
  rw [if_pos hs]
theorem op_good {k s : Tx} {e p q : UInt8} (hf : findO s = some (e, p, q)) (h0 : opE k s = 0) : opD k s = (e, p, q) ∧ opN k s = unN k (spV e p q (s.drop 6)) ∧ opL k s = unL k (spV e p q (s.drop 6)) := by
  have hD : opD k s = (e, p, q) := by unfold opD; rw [if_pos h0, hf]; rfl
  have hA : opA k s = spV e p q (s.drop 6) := by unfold opA; rw [hD]
  refine ⟨hD, ?_, ?_⟩
  · unfold opN; rw [if_pos h0, hA]
  · unfold opL; rw [if_pos h0, hA]
theorem sum_mem : ∀ (l : List Nat) (x : Nat), x ∈ l → x ≤ l.sum
  | [], _, h => by cases h
  | y :: r, x, h => by
    rw [List.sum_cons]
    rcases List.mem_cons.1 h with rfl | h
    · omega
    · have := sum_mem r x h; omega
theorem part_ln {l : List Sg} {g : Sg} {ps : List Tx} {x : Tx} (hg : g ∈ l) (hp : ps ∈ g) (hx : x ∈ ps) : x.length ≤ ln l := by
  have h1 : 1 + x.length ≤ (ps.map fun x => 1 + x.length).sum := sum_mem _ _ (List.mem_map.2 ⟨x, hx, rfl⟩)
  have h2 : (ps.map fun x => 1 + x.length).sum ≤ (g.map fun ps => (ps.map fun x => 1 + x.length).sum).sum := sum_mem _ _ (List.mem_map.2 ⟨ps, hp, rfl⟩)
  have h3 : (g.map fun ps => (ps.map fun x => 1 + x.length).sum).sum ≤ ln l := sum_mem _ _ (List.mem_map.2 ⟨g, hg, rfl⟩)
  omega
theorem sp_small {e p q : UInt8} {t : Tx} : (spV e p q t).length ≤ 4096 ∧ ∀ g ∈ spV e p q t, ∀ ps ∈ g, ∀ x ∈ ps, x.length ≤ 65536 := by
  by_cases h : spE e p q t = 0
  · have hl := ln_sp h
    obtain ⟨_, ht, _⟩ := sp_zero h
    obtain ⟨o1, _⟩ := once h
    refine ⟨(wr_ok o1).2.1, fun g hg ps hp x hx => ?_⟩
    have := part_ln hg hp hx
    omega
  · rw [sp_bad h]
    exact ⟨by simp, fun g hg => by cases hg⟩
end Go.Proofs.YtpmnepihaljamaaGreatDoor
end
