/-
  What cover.ahead and cover.behind answer, as contracts: the segments of an envelope, in new memory.
-/
import Derived.Test.YtjidoificijcfaaDoorKSeg
import Derived.Test.YtjidoificijcfaaDoorKKind
set_option linter.unusedSimpArgs false
namespace Go.Proofs.YtjidoificijcfaaDoor
open Go.RowKit

/-- A row in a block that was just laid. -/
theorem row_new {α : Type} {R : World → Value → α → Prop} (w : World) (us : List Value) (xs : List α) (t : TypeId) (hl : us.length = xs.length) (hm : xs.length ≤ maxLen) (hR : ∀ (j : Nat) u x, us[j]? = some u → xs[j]? = some x → R (w.alloc (.cells us.toArray t)) u x) :
    RowAt All R (w.alloc (.cells us.toArray t)) (.slice (some ⟨w.heap.size, 0, none⟩) xs.length xs.length) xs := by
  refine ⟨_, _, rfl, Nat.le_refl _, hm, Or.inr ⟨w.heap.size, 0, rfl, trivial, by simp, fun j x hj => ?_⟩⟩
  have hjl : j < us.length := by rw [hl]; exact (List.getElem?_eq_some_iff.1 hj).1
  refine ⟨us[j], ?_, hR j _ x (List.getElem?_eq_getElem hjl) hj⟩
  rw [Nat.zero_add, World.cell?_alloc_new]
  simp [hjl]
theorem tx_three (w : World) (a b c : Tx) : TxAt All (w.alloc (.cells #[.string (mk a), .string (mk b), .string (mk c)] 9)) (.slice (some ⟨w.heap.size, 0, none⟩) 3 3) [a, b, c] := by
  refine row_new (R := StrAt) w [.string (mk a), .string (mk b), .string (mk c)] [a, b, c] 9 rfl (by simp only [maxLen]; simp) fun j u x hu hx => ?_
  match j, hu, hx with
  | 0, hu, hx => simp at hu hx; subst hu hx; rfl
  | 1, hu, hx => simp at hu hx; subst hu hx; rfl
  | 2, hu, hx => simp at hu hx; subst hu hx; rfl
theorem sg_two {w : World} {u1 u2 : Value} {g1 g2 : Sg} (h1 : ElAt All w u1 g1) (h2 : ElAt All w u2 g2) : SgAt All (w.alloc (.cells #[u1, u2] 40)) (.slice (some ⟨w.heap.size, 0, none⟩) 2 2) [g1, g2] := by
  refine row_new (R := ElAt All) w [u1, u2] [g1, g2] 40 rfl (by simp only [maxLen]; simp) fun j u x hu hx => ?_
  have hm := Below.moves (below_alloc w (.cells #[u1, u2] 40))
  match j, hu, hx with
  | 0, hu, hx => simp at hu hx; subst hu hx; exact ElAt.move h1 hm
  | 1, hu, hx => simp at hu hx; subst hu hx; exact ElAt.move h2 hm
theorem sg_three {w : World} {u1 u2 u3 : Value} {g1 g2 g3 : Sg} (h1 : ElAt All w u1 g1) (h2 : ElAt All w u2 g2) (h3 : ElAt All w u3 g3) : SgAt All (w.alloc (.cells #[u1, u2, u3] 40)) (.slice (some ⟨w.heap.size, 0, none⟩) 3 3) [g1, g2, g3] := by
  refine row_new (R := ElAt All) w [u1, u2, u3] [g1, g2, g3] 40 rfl (by simp only [maxLen]; simp) fun j u x hu hx => ?_
  have hm := Below.moves (below_alloc w (.cells #[u1, u2, u3] 40))
  match j, hu, hx with
  | 0, hu, hx => simp at hu hx; subst hu hx; exact ElAt.move h1 hm
  | 1, hu, hx => simp at hu hx; subst hu hx; exact ElAt.move h2 hm
  | 2, hu, hx => simp at hu hx; subst hu hx; exact ElAt.move h3 hm
theorem el_form {w : World} {u : Value} {g : Sg} (h : ElAt All w u g) : ∃ a c, u = .slice a g.length c := by
  obtain ⟨a, c, rfl, -⟩ := h
  exact ⟨a, c, rfl⟩
/-- A segment of three, called for where its texts were just laid. -/
theorem segment_three (w : World) (a b c : Tx) : Calls Tryd.prog 47 #[.slice (some ⟨w.heap.size, 0, none⟩) 3 3] (w.alloc (.cells #[.string (mk a), .string (mk b), .string (mk c)] 9)) fun x w' => (∃ sa sc, x = .returned (.agg #[.slice sa 3 sc]) ∧ ElAt All w' (.slice sa 3 sc) (seg3 a b c)) ∧ Below w.heap.size w w' :=
  (segment_any _ [a, b, c] _ (tx_three w a b c) (by simp)).mono fun _ _ ⟨⟨u, hx, he⟩, hb⟩ => by
    obtain ⟨sa, sc, rfl⟩ := el_form he
    exact ⟨⟨sa, sc, hx, he⟩, below_trans (below_alloc w _) hb⟩

set_option maxHeartbeats 1000000 in
theorem ahead_any (k t : Tx) (w : World) :
    Calls Tryd.prog 24 #[.string (mk k), .string (mk t)] w fun x w' => (∃ b, x = .returned (.slice (some ⟨b, 0, none⟩) 2 2) ∧ SgAt All w' (.slice (some ⟨b, 0, none⟩) 2 2) (fore k t)) ∧ Below w.heap.size w w' := by
  have H1 : Hid (∀ W : World, Calls Tryd.prog 47 #[.slice (some ⟨W.heap.size, 0, none⟩) 3 3] (W.alloc (.cells #[.string ⟨#[71, 83]⟩, .string (mk k), .string (mk t)] 9)) fun x w' => (∃ sa sc, x = .returned (.agg #[.slice sa 3 sc]) ∧ ElAt All w' (.slice sa 3 sc) (seg3 tGS k t)) ∧ Below W.heap.size W w') := fun W => segment_three W tGS k t
  have H2 : Hid (∀ W : World, Calls Tryd.prog 47 #[.slice (some ⟨W.heap.size, 0, none⟩) 3 3] (W.alloc (.cells #[.string ⟨#[83, 84]⟩, .string (mk k), .string (mk t)] 9)) fun x w' => (∃ sa sc, x = .returned (.agg #[.slice sa 3 sc]) ∧ ElAt All w' (.slice sa 3 sc) (seg3 tST k t)) ∧ Below W.heap.size W w') := fun W => segment_three W tST k t
  have HF : Hid (fore k t = [seg3 tGS k t, seg3 tST k t]) := rfl
  generalize seg3 tGS k t = g1 at *
  generalize seg3 tST k t = g2 at *
  generalize mk k = X at *
  generalize mk t = Y at *
  go_enter Tryd.func24, Tryd.ntmps24
  go_wp2_with fail
  go_at_call 47
  refine (H1.out _).mono ?_
  rintro x w1 ⟨⟨sa, sc, rfl, he⟩, hb⟩
  have HE1 := Lib.hid he
  have HB1 := Lib.hid hb
  clear hb he
  go_wp2_with fail
  go_at_call 47
  refine (H2.out _).mono ?_
  rintro x w2 ⟨⟨sa2, sc2, rfl, he⟩, hb⟩
  have HE2 := Lib.hid he
  have HB2 := Lib.hid hb
  clear hb he
  go_wp2
  go_ret
  refine ⟨⟨_, rfl, ?_⟩, below_trans HB1.out (below_trans HB2.out (below_alloc _ _))⟩
  rw [HF.out]
  exact sg_two (ElAt.move HE1.out (Below.moves HB2.out)) HE2.out

set_option maxHeartbeats 1000000 in
theorem behind_any (m : Nat) (t : Tx) (w : World) (hT : Tab w) (hm : m ≤ 4611686018427387904) :
    Calls Tryd.prog 25 #[.int .i64 m, .string (mk t)] w fun x w' => (∃ b, x = .returned (.slice (some ⟨b, 0, none⟩) 3 3) ∧ SgAt All w' (.slice (some ⟨b, 0, none⟩) 3 3) (aft m t)) ∧ Below w.heap.size w w' := by
  have HI : Hid (Calls Tryd.prog 21 #[.int .i64 ((m : Int) + 2)] w fun e w' => e = .returned (.string (mk (Lib.itoa ((m : Int) + 2)))) ∧ Below w.heap.size w w') := Nu.int_any _ (by omega) (by omega) w hT.2.2
  have HF : Hid (aft m t = [seg3 tSE (Lib.itoa ((m : Int) + 2)) t, seg3 tGE t1 t, seg3 tIEA t1 t]) := rfl
  generalize Lib.itoa ((m : Int) + 2) = q at *
  have H1 : Hid (∀ W : World, Calls Tryd.prog 47 #[.slice (some ⟨W.heap.size, 0, none⟩) 3 3] (W.alloc (.cells #[.string ⟨#[83, 69]⟩, .string (mk q), .string (mk t)] 9)) fun x w' => (∃ sa sc, x = .returned (.agg #[.slice sa 3 sc]) ∧ ElAt All w' (.slice sa 3 sc) (seg3 tSE q t)) ∧ Below W.heap.size W w') := fun W => segment_three W tSE q t
  have H2 : Hid (∀ W : World, Calls Tryd.prog 47 #[.slice (some ⟨W.heap.size, 0, none⟩) 3 3] (W.alloc (.cells #[.string ⟨#[71, 69]⟩, .string ⟨#[49]⟩, .string (mk t)] 9)) fun x w' => (∃ sa sc, x = .returned (.agg #[.slice sa 3 sc]) ∧ ElAt All w' (.slice sa 3 sc) (seg3 tGE t1 t)) ∧ Below W.heap.size W w') := fun W => segment_three W tGE t1 t
  have H3 : Hid (∀ W : World, Calls Tryd.prog 47 #[.slice (some ⟨W.heap.size, 0, none⟩) 3 3] (W.alloc (.cells #[.string ⟨#[73, 69, 65]⟩, .string ⟨#[49]⟩, .string (mk t)] 9)) fun x w' => (∃ sa sc, x = .returned (.agg #[.slice sa 3 sc]) ∧ ElAt All w' (.slice sa 3 sc) (seg3 tIEA t1 t)) ∧ Below W.heap.size W w') := fun W => segment_three W tIEA t1 t
  generalize seg3 tSE q t = g1 at *
  generalize seg3 tGE t1 t = g2 at *
  generalize seg3 tIEA t1 t = g3 at *
  generalize mk q = X at *
  generalize mk t = Y at *
  clear hT
  go_enter Tryd.func25, Tryd.ntmps25
  go_wp2_with fail
  go_at_call 21
  refine HI.out.mono ?_
  rintro x w0 ⟨rfl, hb⟩
  have HB0 := Lib.hid hb
  clear hb
  go_wp2_with fail
  go_at_call 47
  refine (H1.out _).mono ?_
  rintro x w1 ⟨⟨sa, sc, rfl, he⟩, hb⟩
  have HE1 := Lib.hid he
  have HB1 := Lib.hid hb
  clear hb he
  go_wp2_with fail
  go_at_call 47
  refine (H2.out _).mono ?_
  rintro x w2 ⟨⟨sa2, sc2, rfl, he⟩, hb⟩
  have HE2 := Lib.hid he
  have HB2 := Lib.hid hb
  clear hb he
  go_wp2_with fail
  go_at_call 47
  refine (H3.out _).mono ?_
  rintro x w3 ⟨⟨sa3, sc3, rfl, he⟩, hb⟩
  have HE3 := Lib.hid he
  have HB3 := Lib.hid hb
  clear hb he
  go_wp2
  go_ret
  refine ⟨⟨_, rfl, ?_⟩, below_trans HB0.out (below_trans HB1.out (below_trans HB2.out (below_trans HB3.out (below_alloc _ _))))⟩
  rw [HF.out]
  exact sg_three (ElAt.move HE1.out (Below.moves (below_trans HB2.out HB3.out))) (ElAt.move HE2.out (Below.moves HB3.out)) HE3.out
end Go.Proofs.YtjidoificijcfaaDoor
