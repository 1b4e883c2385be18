/-
  Texts put together (merge.py): XPrint.
-/
import Derived.Test.YtgloihilnbjmeaaDoorMc31
import Derived.Test.YtgloihilnbjmeaaDoorMc34
import Derived.Test.YtgloihilnbjmeaaDoorMc35
import Derived.Test.YtgloihilnbjmeaaDoorMc37
/-
  What edits.printAnswer, printRow and Print answer, as contracts: for every table.
-/
section
set_option linter.unusedSimpArgs false
set_option linter.unusedVariables false
set_option maxRecDepth 100000
namespace Go.Proofs.YtgloihilnbjmeaaDoor.Ex
open Go.RowKit
open Wo (Wd WdsAt keepB box_cell box_two heap_far below_alloc below_trans)

def txc (xs : List Tx) : List Value := xs.map fun x => .string (mk x)
theorem infoS : ∃ i, Tryd.prog.info? 9 = some i ∧ i.zero = some (.string ByteArray.empty) ∧ i.size = 1 ∧ i.bytes = 16 := by
  have hi : (Tryd.prog.info? 9).map (fun i => (i.zero, i.size, i.bytes)) = some (some (.string ByteArray.empty), 1, 16) := by kernel_rfl
  cases hq : Tryd.prog.info? 9 with
  | none => rw [hq] at hi; cases hi
  | some i =>
    rw [hq] at hi
    simp only [Option.map_some, Option.some.injEq, Prod.mk.injEq] at hi
    exact ⟨i, rfl, hi⟩
/-- append(v, x...) over texts. -/
theorem wp_appT {o : Oper} {a : Act} {w : World} {K : Act → World → Prop} {Q : Exit → Act → World → Prop} (s x : Operand) (ho : o.op = .call { callee := .builtin .append, args := #[s, x], argTypes := #[40, 40] })
    (B : Nat) (v : Value) (L : List Tx) (hs : a.eval s = v) (hown : w.ownsRow B 9 1 v L.length (txc L)) (ad : Addr) (m c : Nat) (ts : List Tx) (hx : a.eval x = .slice (some ad) m c) (hm : m = ts.length) (h0 : 0 < ts.length)
    (hc : ∀ j u, (txc ts)[j]? = some u → w.cell? (ad.add j) = some u) (hbd : L.length + ts.length ≤ 1000000) (hB : B ≤ w.heap.size)
    (h : ∀ v' w', w'.ownsRow B 9 1 v' (L ++ ts).length (txc (L ++ ts)) → w.grownBy w' v.ownBlock → (v'.ownBlock = v.ownBlock ∨ v'.ownBlock = some w.heap.size) → K (a.put o.dst v') w') : o.wp Tryd.prog a w K Q := by
  obtain ⟨i, q1, q2, q3, q4⟩ := infoS
  refine wp_append_lies w s x 40 ho B 9 i _ 1 16 Tryd.underlying40 q1 q2 q3 q4 rfl (by omega) v L.length (txc L) hs hown ad m c (txc ts) hx (by rw [hm]; simp [txc]) hc (fun u hu => by obtain ⟨t, -, rfl⟩ := List.mem_map.1 hu; rfl) (by omega) (by unfold maxLen; omega) (by omega) hB w.heap.size rfl fun g cap w' hown' hg hat _ => ?_
  refine h _ w' (by rw [show txc (L ++ ts) = txc L ++ txc ts by simp [txc], List.length_append, ← hm]; exact hown') hg ?_
  rcases hat with e | e
  · exact Or.inl (by rw [e]; rfl)
  · exact Or.inr (by rw [e]; rfl)
theorem tx_own {w : World} {B : Nat} {v : Value} {L : List Tx} (h : w.ownsRow B 9 1 v L.length (txc L)) : TxAt All w v L :=
  row_of_own h (fun _ _ => trivial) (fun j u y hu hy => by
    unfold txc at hu
    rw [List.getElem?_map, hy] at hu
    exact (Option.some.inj hu).symm)
theorem answer_word (y : Bool) (w : World) : Calls Tryd.prog 32 #[.bool y] w fun e w' => e = .returned (.string (mk (if y = true then Pl.tYes else Pl.tNo))) ∧ w' = w := by
  cases y with
  | true =>
    show Calls _ _ _ _ fun e w' => e = .returned (.string (mk Pl.tYes)) ∧ w' = w
    go_enter Tryd.func32, Tryd.ntmps32
    go_wp2
    go_ret
    exact ⟨rfl, rfl⟩
  | false =>
    show Calls _ _ _ _ fun e w' => e = .returned (.string (mk Pl.tNo)) ∧ w' = w
    go_enter Tryd.func32, Tryd.ntmps32
    go_wp2
    go_ret
    exact ⟨rfl, rfl⟩
/-- The words of a row, in a new block. -/
def WrV (w w' : World) (ts : List Tx) (e : Ending) : Prop := ∃ g : Nat, e = .returned (.slice (some ⟨g, 0, none⟩) ts.length ts.length) ∧ w'.heap[g]? = some (.cells (txc ts).toArray 9 (0, 0))
theorem tab_grw2 {w w' : World} (h : Nu.Tab w) (hb : Below w.heap.size w w') : Nu.Tab w' := Nu.tab_grw h hb
set_option maxHeartbeats 8000000 in
theorem printRow_any (x : Ed) (h : oneE x = 0) (w : World) (hN : Nu.Tab w) : Calls Tryd.prog 21 #[edv x] w fun e w' => WrV w w' (edW x) e ∧ Below w.heap.size w w' := by
  obtain ⟨k, a, b, y, n⟩ := x
  obtain ⟨h1, h2⟩ := one_facts h
  have HNt := Lib.hid hN
  clear h h1 hN
  rcases h2 with ⟨rfl, rfl, rfl, n1, n2⟩ | ⟨rfl, -, -, rfl⟩ | ⟨rfl, -, -, rfl, rfl⟩
  · simp only at n1 n2
    have HIn : Hid (∀ W, Below w.heap.size w W → Calls Tryd.prog 33 #[.int .i64 n] W fun e w' => e = .returned (.string (mk (Lib.itoa n))) ∧ Below W.heap.size W w') := fun W hW => Nu.int_any n (by omega) (by omega) W (tab_grw2 HNt.out hW)
    show Calls _ _ #[.agg #[.int .i64 3, .string (mk a), .string (mk []), .bool false, .int .i64 n]] _ fun e w' => WrV w w' [tUni, a, Lib.itoa n] e ∧ Below w.heap.size w w'
    generalize Lib.itoa n = T at *
    have HB0 := Lib.hid (below_alloc w (.cells #[.int .i64 3, .string (mk a), .string (mk []), .bool false, .int .i64 n] 49))
    have HZ0 := Lib.hid (heap_alloc_new w (.cells #[.int .i64 3, .string (mk a), .string (mk []), .bool false, .int .i64 n] 49))
    go_enter Tryd.func21, Tryd.ntmps21
    go_upto_region 1 with fail
    generalize w.alloc (.cells #[.int .i64 3, .string (mk a), .string (mk []), .bool false, .int .i64 n] 49) = W at *
    generalize hp : w.heap.size = p at *
    obtain ⟨c0, c1, c2, c3, c4⟩ := cells5 HZ0.out
    have HXK := Lib.hid fun W' (hW : Below W.heap.size W W') => cells5 (keepB HZ0.out hW)
    have HD := Lib.hid (Below.drew (Below.refl W.heap.size W))
    go_upto_region 6 with fail
    refine Ri.wp_region_lasting (by kernel_rfl) (by kernel_rfl) (by kernel_rfl) (fun Wx => Below W.heap.size W Wx) (fun kz vs wz => (fun kx vx wx => match kx with | 0 => vx = .pointer (some ⟨p, 1, none⟩) | 1 => vx = .string (mk a) | 2 => vx = .pointer (some ⟨p, 4, none⟩) | 3 => vx = .int .i64 n | 4 => vx = .string (mk T) | 5 => (∃ g, vx = .slice (some ⟨g, 0, none⟩) 3 3 ∧ wx.heap[g]? = some (.cells #[.string ⟨#[117, 110, 105, 116, 115]⟩, .string (mk a), .string (mk T)] 9 (0, 0))) | 6 => (∃ g, vx = .slice (some ⟨g, 0, none⟩) 3 3 ∧ wx.heap[g]? = some (.cells #[.string ⟨#[117, 110, 105, 116, 115]⟩, .string (mk a), .string (mk T)] 9 (0, 0))) | _ => True : Nat → Value → World → Prop) kz (vs kz) wz) (fun kz => [kz]) (by kernel_rfl) (fun jz vs iz vz wz hiz hz => Ri.loc_own (F := (fun kx vx wx => match kx with | 0 => vx = .pointer (some ⟨p, 1, none⟩) | 1 => vx = .string (mk a) | 2 => vx = .pointer (some ⟨p, 4, none⟩) | 3 => vx = .int .i64 n | 4 => vx = .string (mk T) | 5 => (∃ g, vx = .slice (some ⟨g, 0, none⟩) 3 3 ∧ wx.heap[g]? = some (.cells #[.string ⟨#[117, 110, 105, 116, 115]⟩, .string (mk a), .string (mk T)] 9 (0, 0))) | 6 => (∃ g, vx = .slice (some ⟨g, 0, none⟩) 3 3 ∧ wx.heap[g]? = some (.cells #[.string ⟨#[117, 110, 105, 116, 115]⟩, .string (mk a), .string (mk T)] 9 (0, 0))) | _ => True : Nat → Value → World → Prop)) jz vs iz vz wz hiz hz) HD.out ⟨⟨rfl, ?_⟩, ⟨rfl, ?_⟩, ⟨rfl, ?_⟩, ⟨rfl, ?_⟩, ⟨rfl, ?_⟩, ⟨rfl, ?_⟩, ⟨rfl, ?_⟩, trivial⟩ ?_
    · intro vs Wx A hA hB hpre K hK
      have e1 := (hA 1).trans (show _ = Value.pointer (some ⟨p, 0, none⟩) by kernel_rfl)
      clear hA hpre
      go_simp
      first | exact hK _ _ hB rfl (fun _ _ h => h) | exact hK _ _ hB trivial (fun _ _ h => h) | (rw [if_neg (by omega)]; go_simp; exact hK _ _ hB rfl (fun _ _ h => h))
    · intro vs Wx A hA hB hpre K hK
      have e22 := ((hA 22).trans (show _ = vs 0 by kernel_rfl)).trans (by first | exact hpre.1 rfl | exact hpre.2.1 rfl | exact hpre.2.2.1 rfl | exact hpre.2.2.2.1 rfl | exact hpre.2.2.2.2.1 rfl | exact hpre.2.2.2.2.2.1 rfl | exact hpre.2.2.2.2.2.2.1 rfl | exact hpre.2.2.2.2.2.2.2.1 rfl | exact hpre.2.2.2.2.2.2.2.2.1 rfl | exact hpre.2.2.2.2.2.2.2.2.2.1 rfl)
      obtain ⟨x0, x1, x2, x3, x4⟩ := HXK.out Wx hB
      clear hA hpre
      go_simp
      first | exact hK _ _ hB rfl (fun _ _ h => h) | exact hK _ _ hB trivial (fun _ _ h => h) | (rw [if_neg (by omega)]; go_simp; exact hK _ _ hB rfl (fun _ _ h => h))
    · intro vs Wx A hA hB hpre K hK
      have e1 := (hA 1).trans (show _ = Value.pointer (some ⟨p, 0, none⟩) by kernel_rfl)
      clear hA hpre
      go_simp
      first | exact hK _ _ hB rfl (fun _ _ h => h) | exact hK _ _ hB trivial (fun _ _ h => h) | (rw [if_neg (by omega)]; go_simp; exact hK _ _ hB rfl (fun _ _ h => h))
    · intro vs Wx A hA hB hpre K hK
      have e24 := ((hA 24).trans (show _ = vs 2 by kernel_rfl)).trans (by first | exact hpre.1 rfl | exact hpre.2.1 rfl | exact hpre.2.2.1 rfl | exact hpre.2.2.2.1 rfl | exact hpre.2.2.2.2.1 rfl | exact hpre.2.2.2.2.2.1 rfl | exact hpre.2.2.2.2.2.2.1 rfl | exact hpre.2.2.2.2.2.2.2.1 rfl | exact hpre.2.2.2.2.2.2.2.2.1 rfl | exact hpre.2.2.2.2.2.2.2.2.2.1 rfl)
      obtain ⟨x0, x1, x2, x3, x4⟩ := HXK.out Wx hB
      clear hA hpre
      go_simp
      first | exact hK _ _ hB rfl (fun _ _ h => h) | exact hK _ _ hB trivial (fun _ _ h => h) | (rw [if_neg (by omega)]; go_simp; exact hK _ _ hB rfl (fun _ _ h => h))
    · intro vs Wx A hA hB hpre K hK
      have e25 := ((hA 25).trans (show _ = vs 3 by kernel_rfl)).trans (by first | exact hpre.1 rfl | exact hpre.2.1 rfl | exact hpre.2.2.1 rfl | exact hpre.2.2.2.1 rfl | exact hpre.2.2.2.2.1 rfl | exact hpre.2.2.2.2.2.1 rfl | exact hpre.2.2.2.2.2.2.1 rfl | exact hpre.2.2.2.2.2.2.2.1 rfl | exact hpre.2.2.2.2.2.2.2.2.1 rfl | exact hpre.2.2.2.2.2.2.2.2.2.1 rfl)
      clear hA hpre
      go_simp
      go_at_call 33
      refine (HIn.out _ (by subst hp; exact below_trans HB0.out hB)).mono ?_
      rintro e w3 ⟨rfl, hg⟩
      refine hK _ _ (below_trans hB hg) rfl (fun jz hj hz => ?_)
      match jz, hj, hz with
      | 0, _, hz => exact hz
      | 1, _, hz => exact hz
      | 2, _, hz => exact hz
      | 3, _, hz => exact hz
      | 4, _, hz => exact hz
      | 5, _, hz => exact (hz.elim fun g h => ⟨g, h.1, keepB h.2 hg⟩)
      | 6, _, hz => exact (hz.elim fun g h => ⟨g, h.1, keepB h.2 hg⟩)
      | n + 7, _, hz => exact hz
    · intro vs Wx A hA hB hpre K hK
      have e23 := ((hA 23).trans (show _ = vs 1 by kernel_rfl)).trans (by first | exact hpre.1 rfl | exact hpre.2.1 rfl | exact hpre.2.2.1 rfl | exact hpre.2.2.2.1 rfl | exact hpre.2.2.2.2.1 rfl | exact hpre.2.2.2.2.2.1 rfl | exact hpre.2.2.2.2.2.2.1 rfl | exact hpre.2.2.2.2.2.2.2.1 rfl | exact hpre.2.2.2.2.2.2.2.2.1 rfl | exact hpre.2.2.2.2.2.2.2.2.2.1 rfl)
      have e26 := ((hA 26).trans (show _ = vs 4 by kernel_rfl)).trans (by first | exact hpre.1 rfl | exact hpre.2.1 rfl | exact hpre.2.2.1 rfl | exact hpre.2.2.2.1 rfl | exact hpre.2.2.2.2.1 rfl | exact hpre.2.2.2.2.2.1 rfl | exact hpre.2.2.2.2.2.2.1 rfl | exact hpre.2.2.2.2.2.2.2.1 rfl | exact hpre.2.2.2.2.2.2.2.2.1 rfl | exact hpre.2.2.2.2.2.2.2.2.2.1 rfl)
      clear hA hpre
      go_simp
      refine hK _ _ (below_trans hB (below_alloc Wx _)) ⟨_, rfl, heap_alloc_new Wx _⟩ (fun jz hj hz => ?_)
      match jz, hj, hz with
      | 0, _, hz => exact hz
      | 1, _, hz => exact hz
      | 2, _, hz => exact hz
      | 3, _, hz => exact hz
      | 4, _, hz => exact hz
      | 5, hj, _ => exact absurd rfl hj
      | 6, _, hz => exact (hz.elim fun g h => ⟨g, h.1, keepB h.2 (below_alloc Wx _)⟩)
      | n + 7, _, hz => exact hz
    · intro vs Wx A hA hB hpre K hK
      have hx5 : (∃ g, vs 5 = .slice (some ⟨g, 0, none⟩) 3 3 ∧ Wx.heap[g]? = some (.cells #[.string ⟨#[117, 110, 105, 116, 115]⟩, .string (mk a), .string (mk T)] 9 (0, 0))) := by first | exact hpre.1 rfl | exact hpre.2.1 rfl | exact hpre.2.2.1 rfl | exact hpre.2.2.2.1 rfl | exact hpre.2.2.2.2.1 rfl | exact hpre.2.2.2.2.2.1 rfl | exact hpre.2.2.2.2.2.2.1 rfl | exact hpre.2.2.2.2.2.2.2.1 rfl | exact hpre.2.2.2.2.2.2.2.2.1 rfl | exact hpre.2.2.2.2.2.2.2.2.2.1 rfl
      obtain ⟨gx5, hv5, hh5⟩ := hx5
      have e27 := ((hA 27).trans (show _ = vs 5 by kernel_rfl)).trans hv5
      clear hA hpre
      go_simp
      exact hK _ _ hB ⟨gx5, rfl, hh5⟩ (fun _ _ h => h)
    · intro vs Wx hB hF
      obtain ⟨g, hL, hH⟩ := hF 6 (by decide)
      have HB3 := Lib.hid (show Below p w Wx by subst hp; exact below_trans HB0.out hB)
      have HH := Lib.hid hH
      clear hF hB HXK HD hH
      simp only [Ri.puts]
      rw [hL]
      clear hL
      go_simp
      go_wp2_with fail
      go_ret
      exact ⟨⟨g, rfl, HH.out⟩, by first | exact HB3.out | (rw [hp]; exact HB3.out)⟩
  · have HAn := Lib.hid fun W => answer_word y W
    show Calls _ _ #[.agg #[.int .i64 1, .string (mk a), .string (mk b), .bool y, .int .i64 0]] _ fun e w' => WrV w w' [tBun, a, b, if y = true then Pl.tYes else Pl.tNo] e ∧ Below w.heap.size w w'
    generalize (if y = true then Pl.tYes else Pl.tNo) = T at *
    have HB0 := Lib.hid (below_alloc w (.cells #[.int .i64 1, .string (mk a), .string (mk b), .bool y, .int .i64 0] 49))
    have HZ0 := Lib.hid (heap_alloc_new w (.cells #[.int .i64 1, .string (mk a), .string (mk b), .bool y, .int .i64 0] 49))
    go_enter Tryd.func21, Tryd.ntmps21
    go_upto_region 1 with fail
    generalize w.alloc (.cells #[.int .i64 1, .string (mk a), .string (mk b), .bool y, .int .i64 0] 49) = W at *
    generalize hp : w.heap.size = p at *
    obtain ⟨c0, c1, c2, c3, c4⟩ := cells5 HZ0.out
    have HXK := Lib.hid fun W' (hW : Below W.heap.size W W') => cells5 (keepB HZ0.out hW)
    have HD := Lib.hid (Below.drew (Below.refl W.heap.size W))
    go_upto_region 3 with fail
    refine Ri.wp_region_lasting (by kernel_rfl) (by kernel_rfl) (by kernel_rfl) (fun Wx => Below W.heap.size W Wx) (fun kz vs wz => (fun kx vx wx => match kx with | 0 => vx = .pointer (some ⟨p, 1, none⟩) | 1 => vx = .string (mk a) | 2 => vx = .pointer (some ⟨p, 2, none⟩) | 3 => vx = .string (mk b) | 4 => vx = .pointer (some ⟨p, 3, none⟩) | 5 => vx = .bool y | 6 => vx = .string (mk T) | 7 => (∃ g, vx = .slice (some ⟨g, 0, none⟩) 4 4 ∧ wx.heap[g]? = some (.cells #[.string ⟨#[98, 117, 110, 100, 108, 101]⟩, .string (mk a), .string (mk b), .string (mk T)] 9 (0, 0))) | 8 => (∃ g, vx = .slice (some ⟨g, 0, none⟩) 4 4 ∧ wx.heap[g]? = some (.cells #[.string ⟨#[98, 117, 110, 100, 108, 101]⟩, .string (mk a), .string (mk b), .string (mk T)] 9 (0, 0))) | _ => True : Nat → Value → World → Prop) kz (vs kz) wz) (fun kz => [kz]) (by kernel_rfl) (fun jz vs iz vz wz hiz hz => Ri.loc_own (F := (fun kx vx wx => match kx with | 0 => vx = .pointer (some ⟨p, 1, none⟩) | 1 => vx = .string (mk a) | 2 => vx = .pointer (some ⟨p, 2, none⟩) | 3 => vx = .string (mk b) | 4 => vx = .pointer (some ⟨p, 3, none⟩) | 5 => vx = .bool y | 6 => vx = .string (mk T) | 7 => (∃ g, vx = .slice (some ⟨g, 0, none⟩) 4 4 ∧ wx.heap[g]? = some (.cells #[.string ⟨#[98, 117, 110, 100, 108, 101]⟩, .string (mk a), .string (mk b), .string (mk T)] 9 (0, 0))) | 8 => (∃ g, vx = .slice (some ⟨g, 0, none⟩) 4 4 ∧ wx.heap[g]? = some (.cells #[.string ⟨#[98, 117, 110, 100, 108, 101]⟩, .string (mk a), .string (mk b), .string (mk T)] 9 (0, 0))) | _ => True : Nat → Value → World → Prop)) jz vs iz vz wz hiz hz) HD.out ⟨⟨rfl, ?_⟩, ⟨rfl, ?_⟩, ⟨rfl, ?_⟩, ⟨rfl, ?_⟩, ⟨rfl, ?_⟩, ⟨rfl, ?_⟩, ⟨rfl, ?_⟩, ⟨rfl, ?_⟩, ⟨rfl, ?_⟩, trivial⟩ ?_
    · intro vs Wx A hA hB hpre K hK
      have e1 := (hA 1).trans (show _ = Value.pointer (some ⟨p, 0, none⟩) by kernel_rfl)
      clear hA hpre
      go_simp
      first | exact hK _ _ hB rfl (fun _ _ h => h) | exact hK _ _ hB trivial (fun _ _ h => h) | (rw [if_neg (by omega)]; go_simp; exact hK _ _ hB rfl (fun _ _ h => h))
    · intro vs Wx A hA hB hpre K hK
      have e7 := ((hA 7).trans (show _ = vs 0 by kernel_rfl)).trans (by first | exact hpre.1 rfl | exact hpre.2.1 rfl | exact hpre.2.2.1 rfl | exact hpre.2.2.2.1 rfl | exact hpre.2.2.2.2.1 rfl | exact hpre.2.2.2.2.2.1 rfl | exact hpre.2.2.2.2.2.2.1 rfl | exact hpre.2.2.2.2.2.2.2.1 rfl | exact hpre.2.2.2.2.2.2.2.2.1 rfl | exact hpre.2.2.2.2.2.2.2.2.2.1 rfl)
      obtain ⟨x0, x1, x2, x3, x4⟩ := HXK.out Wx hB
      clear hA hpre
      go_simp
      first | exact hK _ _ hB rfl (fun _ _ h => h) | exact hK _ _ hB trivial (fun _ _ h => h) | (rw [if_neg (by omega)]; go_simp; exact hK _ _ hB rfl (fun _ _ h => h))
    · intro vs Wx A hA hB hpre K hK
      have e1 := (hA 1).trans (show _ = Value.pointer (some ⟨p, 0, none⟩) by kernel_rfl)
      clear hA hpre
      go_simp
      first | exact hK _ _ hB rfl (fun _ _ h => h) | exact hK _ _ hB trivial (fun _ _ h => h) | (rw [if_neg (by omega)]; go_simp; exact hK _ _ hB rfl (fun _ _ h => h))
    · intro vs Wx A hA hB hpre K hK
      have e9 := ((hA 9).trans (show _ = vs 2 by kernel_rfl)).trans (by first | exact hpre.1 rfl | exact hpre.2.1 rfl | exact hpre.2.2.1 rfl | exact hpre.2.2.2.1 rfl | exact hpre.2.2.2.2.1 rfl | exact hpre.2.2.2.2.2.1 rfl | exact hpre.2.2.2.2.2.2.1 rfl | exact hpre.2.2.2.2.2.2.2.1 rfl | exact hpre.2.2.2.2.2.2.2.2.1 rfl | exact hpre.2.2.2.2.2.2.2.2.2.1 rfl)
      obtain ⟨x0, x1, x2, x3, x4⟩ := HXK.out Wx hB
      clear hA hpre
      go_simp
      first | exact hK _ _ hB rfl (fun _ _ h => h) | exact hK _ _ hB trivial (fun _ _ h => h) | (rw [if_neg (by omega)]; go_simp; exact hK _ _ hB rfl (fun _ _ h => h))
    · intro vs Wx A hA hB hpre K hK
      have e1 := (hA 1).trans (show _ = Value.pointer (some ⟨p, 0, none⟩) by kernel_rfl)
      clear hA hpre
      go_simp
      first | exact hK _ _ hB rfl (fun _ _ h => h) | exact hK _ _ hB trivial (fun _ _ h => h) | (rw [if_neg (by omega)]; go_simp; exact hK _ _ hB rfl (fun _ _ h => h))
    · intro vs Wx A hA hB hpre K hK
      have e11 := ((hA 11).trans (show _ = vs 4 by kernel_rfl)).trans (by first | exact hpre.1 rfl | exact hpre.2.1 rfl | exact hpre.2.2.1 rfl | exact hpre.2.2.2.1 rfl | exact hpre.2.2.2.2.1 rfl | exact hpre.2.2.2.2.2.1 rfl | exact hpre.2.2.2.2.2.2.1 rfl | exact hpre.2.2.2.2.2.2.2.1 rfl | exact hpre.2.2.2.2.2.2.2.2.1 rfl | exact hpre.2.2.2.2.2.2.2.2.2.1 rfl)
      obtain ⟨x0, x1, x2, x3, x4⟩ := HXK.out Wx hB
      clear hA hpre
      go_simp
      first | exact hK _ _ hB rfl (fun _ _ h => h) | exact hK _ _ hB trivial (fun _ _ h => h) | (rw [if_neg (by omega)]; go_simp; exact hK _ _ hB rfl (fun _ _ h => h))
    · intro vs Wx A hA hB hpre K hK
      have e12 := ((hA 12).trans (show _ = vs 5 by kernel_rfl)).trans (by first | exact hpre.1 rfl | exact hpre.2.1 rfl | exact hpre.2.2.1 rfl | exact hpre.2.2.2.1 rfl | exact hpre.2.2.2.2.1 rfl | exact hpre.2.2.2.2.2.1 rfl | exact hpre.2.2.2.2.2.2.1 rfl | exact hpre.2.2.2.2.2.2.2.1 rfl | exact hpre.2.2.2.2.2.2.2.2.1 rfl | exact hpre.2.2.2.2.2.2.2.2.2.1 rfl)
      clear hA hpre
      go_simp
      go_at_call 32
      refine (HAn.out _).mono ?_
      rintro e w3 ⟨rfl, hw3⟩
      rw [hw3]
      exact hK _ _ hB rfl (fun _ _ h => h)
    · intro vs Wx A hA hB hpre K hK
      have e8 := ((hA 8).trans (show _ = vs 1 by kernel_rfl)).trans (by first | exact hpre.1 rfl | exact hpre.2.1 rfl | exact hpre.2.2.1 rfl | exact hpre.2.2.2.1 rfl | exact hpre.2.2.2.2.1 rfl | exact hpre.2.2.2.2.2.1 rfl | exact hpre.2.2.2.2.2.2.1 rfl | exact hpre.2.2.2.2.2.2.2.1 rfl | exact hpre.2.2.2.2.2.2.2.2.1 rfl | exact hpre.2.2.2.2.2.2.2.2.2.1 rfl)
      have e10 := ((hA 10).trans (show _ = vs 3 by kernel_rfl)).trans (by first | exact hpre.1 rfl | exact hpre.2.1 rfl | exact hpre.2.2.1 rfl | exact hpre.2.2.2.1 rfl | exact hpre.2.2.2.2.1 rfl | exact hpre.2.2.2.2.2.1 rfl | exact hpre.2.2.2.2.2.2.1 rfl | exact hpre.2.2.2.2.2.2.2.1 rfl | exact hpre.2.2.2.2.2.2.2.2.1 rfl | exact hpre.2.2.2.2.2.2.2.2.2.1 rfl)
      have e13 := ((hA 13).trans (show _ = vs 6 by kernel_rfl)).trans (by first | exact hpre.1 rfl | exact hpre.2.1 rfl | exact hpre.2.2.1 rfl | exact hpre.2.2.2.1 rfl | exact hpre.2.2.2.2.1 rfl | exact hpre.2.2.2.2.2.1 rfl | exact hpre.2.2.2.2.2.2.1 rfl | exact hpre.2.2.2.2.2.2.2.1 rfl | exact hpre.2.2.2.2.2.2.2.2.1 rfl | exact hpre.2.2.2.2.2.2.2.2.2.1 rfl)
      clear hA hpre
      go_simp
      refine hK _ _ (below_trans hB (below_alloc Wx _)) ⟨_, rfl, heap_alloc_new Wx _⟩ (fun jz hj hz => ?_)
      match jz, hj, hz with
      | 0, _, hz => exact hz
      | 1, _, hz => exact hz
      | 2, _, hz => exact hz
      | 3, _, hz => exact hz
      | 4, _, hz => exact hz
      | 5, _, hz => exact hz
      | 6, _, hz => exact hz
      | 7, hj, _ => exact absurd rfl hj
      | 8, _, hz => exact (hz.elim fun g h => ⟨g, h.1, keepB h.2 (below_alloc Wx _)⟩)
      | n + 9, _, hz => exact hz
    · intro vs Wx A hA hB hpre K hK
      have hx7 : (∃ g, vs 7 = .slice (some ⟨g, 0, none⟩) 4 4 ∧ Wx.heap[g]? = some (.cells #[.string ⟨#[98, 117, 110, 100, 108, 101]⟩, .string (mk a), .string (mk b), .string (mk T)] 9 (0, 0))) := by first | exact hpre.1 rfl | exact hpre.2.1 rfl | exact hpre.2.2.1 rfl | exact hpre.2.2.2.1 rfl | exact hpre.2.2.2.2.1 rfl | exact hpre.2.2.2.2.2.1 rfl | exact hpre.2.2.2.2.2.2.1 rfl | exact hpre.2.2.2.2.2.2.2.1 rfl | exact hpre.2.2.2.2.2.2.2.2.1 rfl | exact hpre.2.2.2.2.2.2.2.2.2.1 rfl
      obtain ⟨gx7, hv7, hh7⟩ := hx7
      have e14 := ((hA 14).trans (show _ = vs 7 by kernel_rfl)).trans hv7
      clear hA hpre
      go_simp
      exact hK _ _ hB ⟨gx7, rfl, hh7⟩ (fun _ _ h => h)
    · intro vs Wx hB hF
      obtain ⟨g, hL, hH⟩ := hF 8 (by decide)
      have HB3 := Lib.hid (show Below p w Wx by subst hp; exact below_trans HB0.out hB)
      have HH := Lib.hid hH
      clear hF hB HXK HD hH
      simp only [Ri.puts]
      rw [hL]
      clear hL
      go_simp
      go_wp2_with fail
      go_ret
      exact ⟨⟨g, rfl, HH.out⟩, by first | exact HB3.out | (rw [hp]; exact HB3.out)⟩
  · show Calls _ _ #[.agg #[.int .i64 2, .string (mk a), .string (mk b), .bool false, .int .i64 0]] _ fun e w' => WrV w w' [tEit, a, b] e ∧ Below w.heap.size w w'
    have HB0 := Lib.hid (below_alloc w (.cells #[.int .i64 2, .string (mk a), .string (mk b), .bool false, .int .i64 0] 49))
    have HZ0 := Lib.hid (heap_alloc_new w (.cells #[.int .i64 2, .string (mk a), .string (mk b), .bool false, .int .i64 0] 49))
    go_enter Tryd.func21, Tryd.ntmps21
    go_upto_region 1 with fail
    generalize w.alloc (.cells #[.int .i64 2, .string (mk a), .string (mk b), .bool false, .int .i64 0] 49) = W at *
    generalize hp : w.heap.size = p at *
    obtain ⟨c0, c1, c2, c3, c4⟩ := cells5 HZ0.out
    have hb2 := below_alloc W (.cells #[.string ⟨#[101, 105, 116, 104, 101, 114]⟩, .string (mk a), .string (mk b)] 9)
    have HB3 := Lib.hid (show Below p w (W.alloc (.cells #[.string ⟨#[101, 105, 116, 104, 101, 114]⟩, .string (mk a), .string (mk b)] 9)) by subst hp; exact below_trans HB0.out hb2)
    have HH := Lib.hid (heap_alloc_new W (.cells #[.string ⟨#[101, 105, 116, 104, 101, 114]⟩, .string (mk a), .string (mk b)] 9))
    clear hb2
    go_wp2
    go_ret
    exact ⟨⟨W.heap.size, rfl, HH.out⟩, by first | exact HB3.out | (rw [hp]; exact HB3.out)⟩
theorem tab_take (l : List Ed) (n : Nat) (h : n < l.length) : tabW (l.take (n + 1)) = tabW (l.take n) ++ edW l[n] := by
  have e : l.take (n + 1) = l.take n ++ [l[n]] := by rw [List.take_add_one, List.getElem?_eq_getElem h]; rfl
  unfold tabW
  rw [e, List.flatMap_append]
  simp
theorem edW_len (x : Ed) : (edW x).length ≤ 4 ∧ 0 < (edW x).length := by unfold edW; split; simp; split <;> simp
theorem tabW_len : ∀ (l : List Ed), (tabW l).length ≤ l.length * 4
  | [] => by simp [tabW]
  | f :: r => by
    have e : tabW (f :: r) = edW f ++ tabW r := by simp [tabW]
    have := (edW_len f).1
    have := tabW_len r
    rw [e, List.length_append, List.length_cons]; omega
set_option maxHeartbeats 16000000 in
theorem print_any (l : List Ed) (v : Value) (w : World) (h : EdsAt All w v l) (hok : ∀ f ∈ l, EdOk f) (hl : l.length ≤ 281474976710656) (hN : Nu.Tab w) :
    Calls Tryd.prog 11 #[v] w fun e w' => e = .returned (.tuple #[.string (mk (prV l)), .int .i64 (checkE l)]) ∧ Below w.heap.size w w' := by
  have HCk := Lib.hid (check_any l v w h hok hl)
  have HF := Lib.hid h
  have HNt := Lib.hid hN
  obtain ⟨fa, fk, rfl, hm1, hm2⟩ := h.form
  clear h hok hN
  by_cases hce : checkE l = 0
  rotate_left
  · have HV : Hid (prV l = []) := by show _ = _; unfold prV; rw [if_neg hce]
    rw [HV.out]
    obtain ⟨ce, HCE⟩ : ∃ z, Hid (checkE l = z) := ⟨_, rfl⟩
    rw [HCE.out] at HCk hce ⊢
    have q1 : (ce != 0) = true := by simpa using hce
    clear hce
    go_enter Tryd.func11, Tryd.ntmps11
    go_wp2_with fail
    go_at_call 13
    refine HCk.out.mono ?_
    rintro e w1 ⟨rfl, hb1⟩
    have HB1 := Lib.hid hb1
    clear hb1
    go_wp2
    go_ret2
    exact ⟨rfl, HB1.out⟩
  obtain ⟨hc1, hc2⟩ := check_facts hce
  have HV : Hid (prV l = joinC 32 (tabW l)) := by show _ = _; unfold prV; rw [if_pos hce]; rfl
  have HO1 := Lib.hid hc2
  have HJL : Hid ((joinC 32 (tabW l)).length ≤ 1000000) := by
    show _ ≤ _
    have h1 := tab_size l hc2
    have h2 := Pl.join_size (tabW l)
    omega
  rw [hce] at HCk ⊢
  rw [HV.out]
  clear hce hc2
  go_enter Tryd.func11, Tryd.ntmps11
  go_wp2_with fail
  go_at_call 13
  refine HCk.out.mono ?_
  rintro e w1 ⟨rfl, hb1⟩
  have HB1 := Lib.hid hb1
  clear hb1 HCk
  generalize hp : w.heap.size = p at *
  go_wp2
  go_loopg [5, 15] (l.length) (fun g s5 i wr => ∃ (n : Nat) (fv : Value), s5 = fv ∧ n ≤ l.length ∧ g = l.length - n ∧ i = .int .i64 (n : Nat) ∧ Hid (Below p w wr) ∧ Hid (wr.ownsRow p 9 1 fv (tabW (l.take n)).length (txc (tabW (l.take n)))))
  case atStart => exact ⟨0, _, rfl, Nat.zero_le _, rfl, rfl, HB1.out, World.ownsRow_nil _ _ _ _⟩
  case round =>
    obtain ⟨n, fv, rfl, hn, hgk, rfl, HBn, HOn⟩ := hrel
    obtain ⟨la, lc, rfl⟩ := own_form HOn.out
    by_cases hlt : n < l.length
    · have hB' : Below w.heap.size w wr := by subst hp; exact HBn.out
      obtain ⟨b, oo, rfl, hbs, -, hcc⟩ := EdsAt.get (HF.out.grw hB') n hlt
      have HTk := Lib.hid (tab_take l n hlt)
      have h1x := HO1.out l[n] (List.getElem_mem hlt)
      have hLn : (tabW (l.take n)).length ≤ 1024 := by have := tabW_len (l.take n); rw [List.length_take] at this; omega
      generalize l[n] = x at *
      obtain ⟨c0, c1, c2, c3, c4⟩ := hcc
      have hb2 := below_alloc wr (.cells #[.int .i64 x.kind, .string (mk x.a), .string (mk x.b), .bool x.bypass, .int .i64 x.n] 49)
      have HZ := Lib.hid (heap_alloc_new wr (.cells #[.int .i64 x.kind, .string (mk x.a), .string (mk x.b), .bool x.bypass, .int .i64 x.n] 49))
      have HB2 := Lib.hid (HBn.out.trans (hb2.mono (by have := HBn.out.size; omega)))
      have HO2 := Lib.hid (own_far HOn.out hb2)
      have HPr := Lib.hid (printRow_any x h1x (wr.alloc (.cells #[.int .i64 x.kind, .string (mk x.a), .string (mk x.b), .bool x.bypass, .int .i64 x.n] 49)) (tab_grw2 HNt.out (below_trans hB' hb2)))
      have HPW : Hid (p ≤ (wr.alloc (.cells #[.int .i64 x.kind, .string (mk x.a), .string (mk x.b), .bool x.bypass, .int .i64 x.n] 49)).heap.size) := by have h1 := HB2.out.size; show _ ≤ _; omega
      obtain ⟨hx4, hx0⟩ := edW_len x
      clear hB' hb2 h1x
      go_upto_region 8 with fail
      generalize wr.alloc (.cells #[.int .i64 x.kind, .string (mk x.a), .string (mk x.b), .bool x.bypass, .int .i64 x.n] 49) = W at *
      generalize wr.heap.size = q at *
      clear c0 c1 c2 c3 c4
      obtain ⟨d0, d1, d2, d3, d4⟩ := cells5 HZ.out
      generalize edW x = ts at *
      go_wp2_with fail
      go_at_call 21
      refine HPr.out.mono ?_
      rintro e w3 ⟨⟨g0, rfl, hg0⟩, hb3⟩
      have HO3 := Lib.hid (own_far HO2.out hb3)
      have HB3 := Lib.hid (HB2.out.trans (hb3.mono HPW.out))
      have HG0 := Lib.hid hg0
      have HS3 : Hid (p ≤ w3.heap.size) := Nat.le_trans HPW.out hb3.size
      clear hb3 hg0 d0 d1 d2 d3 d4 HZ HO2 HB2 HPr HPW
      have HCl : Hid (∀ (j : Nat) u, (txc ts)[j]? = some u → w3.cell? ((⟨g0, 0, none⟩ : Addr).add j) = some u) := fun j u hj => by
        rw [show (⟨g0, 0, none⟩ : Addr).add j = ⟨g0, j, none⟩ by unfold Addr.add; split <;> simp_all, cell_of_row _ _ j _ _ (0, 0) HG0.out]
        simpa using hj
      have hbd : (tabW (l.take n)).length + ts.length ≤ 1000000 := by omega
      go_wp2_with (at_builtin; refine wpList_plain (by rfl) (fun K hK => ?_); refine wp_appT _ _ (by rfl) p (.slice la (tabW (l.take n)).length lc) (tabW (l.take n)) (by rfl) HO3.out ⟨g0, 0, none⟩ ts.length ts.length ts (by rfl) rfl hx0 HCl.out hbd HS3.out ?_)
      intro vn w6 hown hgr hat
      have HOW : Hid (w6.ownsRow p 9 1 vn (tabW (l.take (n + 1))).length (txc (tabW (l.take (n + 1))))) := by
        show World.ownsRow _ _ _ _ _ _ _
        rw [HTk.out, List.length_append]
        exact hown
      have HB6 := Lib.hid (HB3.out.trans (grow_low HO3.out hgr HS3.out))
      refine hK _ _ ?_
      clear hK hown hgr hat HO3 HB3 HG0 HS3 HCl hbd hx0 hx4 hLn
      go_wp2
      go_roundg (l.length - (n + 1))
      case measure => omega
      case rel => exact ⟨n + 1, _, rfl, by omega, rfl, by first | rfl | go_num | (congr 1; omega), HB6.out, HOW.out⟩
    · have hltz : ¬ (n : Int) < (l.length : Int) := by omega
      have HE : Hid (wr.ownsRow p 9 1 (.slice la (tabW (l.take n)).length lc) (tabW l).length (txc (tabW l))) := by
        have := HOn.out
        rw [List.take_of_length_le (by omega)] at this ⊢
        exact this
      have HJ := Lib.hid (Wo.join_any _ (tabW l) wr (tx_own HE.out) HJL.out)
      clear HOn HE
      go_wp2_with fail
      go_at_call 22
      refine HJ.out.mono ?_
      rintro e w3 ⟨rfl, hb3⟩
      have HB3 := Lib.hid (HBn.out.trans (hb3.mono (by have := HBn.out.size; omega)))
      clear hb3
      go_wp2
      go_ret2
      exact ⟨rfl, by first | exact HB3.out | (rw [hp]; exact HB3.out)⟩
end Go.Proofs.YtgloihilnbjmeaaDoor.Ex
end
