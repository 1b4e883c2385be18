/-
  Texts put together (merge.py): XSame.
-/
import Derived.Laws.AppendOwnNone
import Derived.Test.YtgloihilnbjmeaaDoorMp22
import Derived.Test.YtgloihilnbjmeaaDoorMp32
/-
  What the reference's Same answers of two tables of equal rows, as a contract; append(v, x...) over edits, whatever x holds.
-/
section
set_option linter.unusedSimpArgs false
set_option linter.unusedVariables false
set_option maxRecDepth 100000
namespace Go.Proofs.YtgloihilnbjmeaaDoor.Ex
open Go.RowKit
open Wo (keepB box_cell box_two heap_far below_alloc below_trans)

theorem cell_keep {l : List Ed} {w : World} {b oo n c : Nat} (h : EdsAt All w (.slice (some ⟨b, oo, none⟩) n c) l) (t : Nat) (ht : t < l.length) : EdCells w b (oo + t * 5) l[t] := by
  obtain ⟨b1, o1, e1, -, -, c1⟩ := EdsAt.get h t ht
  simp only [Option.some.injEq, Addr.mk.injEq, and_true] at e1
  obtain ⟨rfl, rfl⟩ := e1
  exact c1
set_option maxHeartbeats 8000000 in
theorem same_eq (l : List Ed) (u v : Value) (w : World) (hu : EdsAt All w u l) (hv : EdsAt All w v l) (hl : l.length ≤ 281474976710656) : Calls Tryd.prog 17 #[u, v] w fun e w' => e = .returned (.bool true) ∧ Below w.heap.size w w' := by
  have HU := Lib.hid hu
  have HV := Lib.hid hv
  obtain ⟨ua, uk, rfl, -, -⟩ := hu.form
  obtain ⟨va, vk, rfl, -, -⟩ := hv.form
  clear hu hv
  go_enter Tryd.func17, Tryd.ntmps17
  go_wp2
  go_loopg [5] (l.length) (fun g i wr => ∃ n : Nat, n ≤ l.length ∧ g = l.length - n ∧ i = .int .i64 (n : Nat) ∧ Hid (Below w.heap.size w wr))
  case atStart => exact ⟨0, Nat.zero_le _, rfl, rfl, Below.refl _ _⟩
  case round =>
    obtain ⟨n, hn, hgk, rfl, HBn⟩ := hrel
    by_cases hlt : n < l.length
    · have hltz : (n : Int) < (l.length : Int) := by omega
      obtain ⟨b, oo, rfl, -, -, -⟩ := EdsAt.get HU.out n hlt
      obtain ⟨b2, o2, rfl, -, -, -⟩ := EdsAt.get HV.out n hlt
      have HXK := Lib.hid fun W' (hW : Below wr.heap.size wr W') => And.intro (cell_keep (HU.out.grw (below_trans HBn.out hW)) n hlt) (cell_keep (HV.out.grw (below_trans HBn.out hW)) n hlt)
      generalize l[n] = x at *
      have HD := Lib.hid (Below.drew (Below.refl wr.heap.size wr))
      obtain ⟨wo, hwo⟩ : ∃ z, z = wr := ⟨_, rfl⟩
      subst hwo
      go_upto_region 6 with fail
      refine Ri.wp_region_lasting (by kernel_rfl) (by kernel_rfl) (by kernel_rfl) (fun Wx => Below wo.heap.size wo Wx) (fun kz vs wz => (fun kx vx wx => match kx with | 0 => vx = .slice (some ⟨b, oo, none⟩) l.length uk | 1 => vx = .int .i64 (n : Nat) | 2 => vx = .pointer (some ⟨b, oo + n * 5, none⟩) | 3 => vx = edv x | 4 => vx = .slice (some ⟨b2, o2, none⟩) l.length vk | 5 => vx = .int .i64 (n : Nat) | 6 => vx = .pointer (some ⟨b2, o2 + n * 5, none⟩) | 7 => vx = edv x | 8 => vx = .bool false | _ => True : Nat → Value → World → Prop) kz (vs kz) wz) (fun kz => [kz]) (by kernel_rfl) (fun jz vs iz vz wz hiz hz => Ri.loc_own (F := (fun kx vx wx => match kx with | 0 => vx = .slice (some ⟨b, oo, none⟩) l.length uk | 1 => vx = .int .i64 (n : Nat) | 2 => vx = .pointer (some ⟨b, oo + n * 5, none⟩) | 3 => vx = edv x | 4 => vx = .slice (some ⟨b2, o2, none⟩) l.length vk | 5 => vx = .int .i64 (n : Nat) | 6 => vx = .pointer (some ⟨b2, o2 + n * 5, none⟩) | 7 => vx = edv x | 8 => vx = .bool false | _ => True : Nat → Value → World → Prop)) jz vs iz vz wz hiz hz) HD.out ⟨⟨rfl, ?_⟩, ⟨rfl, ?_⟩, ⟨rfl, ?_⟩, ⟨rfl, ?_⟩, ⟨rfl, ?_⟩, ⟨rfl, ?_⟩, ⟨rfl, ?_⟩, ⟨rfl, ?_⟩, ⟨rfl, ?_⟩, trivial⟩ ?_
      · intro vs Wx A hA hB hpre K hK
        have e0 := (hA 0).trans (show _ = Value.slice (some ⟨b, oo, none⟩) l.length uk by kernel_rfl)
        clear hA hpre
        go_simp
        first | exact hK _ _ hB rfl (fun _ _ h => h) | exact hK _ _ hB trivial (fun _ _ h => h) | (rw [if_neg (by omega)]; go_simp; exact hK _ _ hB rfl (fun _ _ h => h))
      · intro vs Wx A hA hB hpre K hK
        have e5 := (hA 5).trans (show _ = Value.int .i64 (n : Nat) by kernel_rfl)
        clear hA hpre
        go_simp
        first | exact hK _ _ hB rfl (fun _ _ h => h) | exact hK _ _ hB trivial (fun _ _ h => h) | (rw [if_neg (by omega)]; go_simp; exact hK _ _ hB rfl (fun _ _ h => h))
      · intro vs Wx A hA hB hpre K hK
        have e17 := ((hA 17).trans (show _ = vs 0 by kernel_rfl)).trans (by first | exact hpre.1 rfl | exact hpre.2.1 rfl | exact hpre.2.2.1 rfl | exact hpre.2.2.2.1 rfl | exact hpre.2.2.2.2.1 rfl | exact hpre.2.2.2.2.2.1 rfl | exact hpre.2.2.2.2.2.2.1 rfl | exact hpre.2.2.2.2.2.2.2.1 rfl | exact hpre.2.2.2.2.2.2.2.2.1 rfl | exact hpre.2.2.2.2.2.2.2.2.2.1 rfl)
        have e18 := ((hA 18).trans (show _ = vs 1 by kernel_rfl)).trans (by first | exact hpre.1 rfl | exact hpre.2.1 rfl | exact hpre.2.2.1 rfl | exact hpre.2.2.2.1 rfl | exact hpre.2.2.2.2.1 rfl | exact hpre.2.2.2.2.2.1 rfl | exact hpre.2.2.2.2.2.2.1 rfl | exact hpre.2.2.2.2.2.2.2.1 rfl | exact hpre.2.2.2.2.2.2.2.2.1 rfl | exact hpre.2.2.2.2.2.2.2.2.2.1 rfl)
        clear hA hpre
        go_simp
        first | exact hK _ _ hB rfl (fun _ _ h => h) | exact hK _ _ hB trivial (fun _ _ h => h) | (rw [if_neg (by omega)]; go_simp; exact hK _ _ hB rfl (fun _ _ h => h))
      · intro vs Wx A hA hB hpre K hK
        have e19 := ((hA 19).trans (show _ = vs 2 by kernel_rfl)).trans (by first | exact hpre.1 rfl | exact hpre.2.1 rfl | exact hpre.2.2.1 rfl | exact hpre.2.2.2.1 rfl | exact hpre.2.2.2.2.1 rfl | exact hpre.2.2.2.2.2.1 rfl | exact hpre.2.2.2.2.2.2.1 rfl | exact hpre.2.2.2.2.2.2.2.1 rfl | exact hpre.2.2.2.2.2.2.2.2.1 rfl | exact hpre.2.2.2.2.2.2.2.2.2.1 rfl)
        obtain ⟨⟨x0, x1, x2, x3, x4⟩, ⟨y0, y1, y2, y3, y4⟩⟩ := HXK.out Wx hB
        clear hA hpre
        go_simp
        first | exact hK _ _ hB rfl (fun _ _ h => h) | exact hK _ _ hB trivial (fun _ _ h => h) | (rw [if_neg (by omega)]; go_simp; exact hK _ _ hB rfl (fun _ _ h => h))
      · intro vs Wx A hA hB hpre K hK
        have e1 := (hA 1).trans (show _ = Value.slice (some ⟨b2, o2, none⟩) l.length vk by kernel_rfl)
        clear hA hpre
        go_simp
        first | exact hK _ _ hB rfl (fun _ _ h => h) | exact hK _ _ hB trivial (fun _ _ h => h) | (rw [if_neg (by omega)]; go_simp; exact hK _ _ hB rfl (fun _ _ h => h))
      · intro vs Wx A hA hB hpre K hK
        have e5 := (hA 5).trans (show _ = Value.int .i64 (n : Nat) by kernel_rfl)
        clear hA hpre
        go_simp
        first | exact hK _ _ hB rfl (fun _ _ h => h) | exact hK _ _ hB trivial (fun _ _ h => h) | (rw [if_neg (by omega)]; go_simp; exact hK _ _ hB rfl (fun _ _ h => h))
      · intro vs Wx A hA hB hpre K hK
        have e21 := ((hA 21).trans (show _ = vs 4 by kernel_rfl)).trans (by first | exact hpre.1 rfl | exact hpre.2.1 rfl | exact hpre.2.2.1 rfl | exact hpre.2.2.2.1 rfl | exact hpre.2.2.2.2.1 rfl | exact hpre.2.2.2.2.2.1 rfl | exact hpre.2.2.2.2.2.2.1 rfl | exact hpre.2.2.2.2.2.2.2.1 rfl | exact hpre.2.2.2.2.2.2.2.2.1 rfl | exact hpre.2.2.2.2.2.2.2.2.2.1 rfl)
        have e22 := ((hA 22).trans (show _ = vs 5 by kernel_rfl)).trans (by first | exact hpre.1 rfl | exact hpre.2.1 rfl | exact hpre.2.2.1 rfl | exact hpre.2.2.2.1 rfl | exact hpre.2.2.2.2.1 rfl | exact hpre.2.2.2.2.2.1 rfl | exact hpre.2.2.2.2.2.2.1 rfl | exact hpre.2.2.2.2.2.2.2.1 rfl | exact hpre.2.2.2.2.2.2.2.2.1 rfl | exact hpre.2.2.2.2.2.2.2.2.2.1 rfl)
        clear hA hpre
        go_simp
        first | exact hK _ _ hB rfl (fun _ _ h => h) | exact hK _ _ hB trivial (fun _ _ h => h) | (rw [if_neg (by omega)]; go_simp; exact hK _ _ hB rfl (fun _ _ h => h))
      · intro vs Wx A hA hB hpre K hK
        have e23 := ((hA 23).trans (show _ = vs 6 by kernel_rfl)).trans (by first | exact hpre.1 rfl | exact hpre.2.1 rfl | exact hpre.2.2.1 rfl | exact hpre.2.2.2.1 rfl | exact hpre.2.2.2.2.1 rfl | exact hpre.2.2.2.2.2.1 rfl | exact hpre.2.2.2.2.2.2.1 rfl | exact hpre.2.2.2.2.2.2.2.1 rfl | exact hpre.2.2.2.2.2.2.2.2.1 rfl | exact hpre.2.2.2.2.2.2.2.2.2.1 rfl)
        obtain ⟨⟨x0, x1, x2, x3, x4⟩, ⟨y0, y1, y2, y3, y4⟩⟩ := HXK.out Wx hB
        clear hA hpre
        go_simp
        first | exact hK _ _ hB rfl (fun _ _ h => h) | exact hK _ _ hB trivial (fun _ _ h => h) | (rw [if_neg (by omega)]; go_simp; exact hK _ _ hB rfl (fun _ _ h => h))
      · intro vs Wx A hA hB hpre K hK
        have e20 := ((hA 20).trans (show _ = vs 3 by kernel_rfl)).trans (by first | exact hpre.1 rfl | exact hpre.2.1 rfl | exact hpre.2.2.1 rfl | exact hpre.2.2.2.1 rfl | exact hpre.2.2.2.2.1 rfl | exact hpre.2.2.2.2.2.1 rfl | exact hpre.2.2.2.2.2.2.1 rfl | exact hpre.2.2.2.2.2.2.2.1 rfl | exact hpre.2.2.2.2.2.2.2.2.1 rfl | exact hpre.2.2.2.2.2.2.2.2.2.1 rfl)
        have e24 := ((hA 24).trans (show _ = vs 7 by kernel_rfl)).trans (by first | exact hpre.1 rfl | exact hpre.2.1 rfl | exact hpre.2.2.1 rfl | exact hpre.2.2.2.1 rfl | exact hpre.2.2.2.2.1 rfl | exact hpre.2.2.2.2.2.1 rfl | exact hpre.2.2.2.2.2.2.1 rfl | exact hpre.2.2.2.2.2.2.2.1 rfl | exact hpre.2.2.2.2.2.2.2.2.1 rfl | exact hpre.2.2.2.2.2.2.2.2.2.1 rfl)
        clear hA hpre
        go_simp
        first | exact hK _ _ hB rfl (fun _ _ h => h) | exact hK _ _ hB trivial (fun _ _ h => h) | (rw [if_neg (by omega)]; go_simp; exact hK _ _ hB rfl (fun _ _ h => h))
      · intro vs Wx hB hF
        have hL : vs 8 = .bool false := hF 8 (by decide)
        have HB3 := Lib.hid (below_trans HBn.out hB)
        clear hF hB HXK HD
        simp only [Ri.puts]
        rw [hL]
        clear hL
        go_simp
        go_wp2
        go_roundg (l.length - (n + 1))
        case measure => omega
        case rel => exact ⟨n + 1, by omega, rfl, by first | rfl | go_num | (congr 1; omega), HB3.out⟩
    · have hltz : ¬ (n : Int) < (l.length : Int) := by omega
      go_wp2
      go_ret
      exact ⟨rfl, HBn.out⟩
theorem app0 {w : World} {B : Nat} (ty : Nat) (ad : Option Addr) (c : Nat) (v : Value) (n : Nat) (xs : List Value) (hown : w.ownsRow B 49 5 v n xs) : (Builtin.append_ #[22, 22] ty #[v, .slice ad 0 c]).run Tryd.prog w = .ok v w := by
  obtain ⟨i, q1, _, q2, _⟩ := infoE
  rcases hown.2 with ⟨rfl, rfl⟩ | ⟨g, cap, cur, rfl, _, _, hnc, _⟩
  · cases ad <;> simp [Builtin.append_, run_underlying Tryd.underlying22, sizeOf, typeInfo, q1, Builtin.lenOf, Builtin.firstCells, loadCells, loadCellsFrom]
  · cases ad <;> simp [Builtin.append_, run_underlying Tryd.underlying22, sizeOf, typeInfo, q1, Builtin.lenOf, Builtin.firstCells, hnc, storeCells, loadCells, loadCellsFrom]
/-- append(v, x...) over edits, whatever x holds. -/
theorem wp_appM {o : Oper} {a : Act} {w : World} {K : Act → World → Prop} {Q : Exit → Act → World → Prop} (s x : Operand) (ho : o.op = .call { callee := .builtin .append, args := #[s, x], argTypes := #[22, 22] })
    (B : Nat) (v : Value) (L : List Ed) (hs : a.eval s = v) (hown : w.ownsRow B 49 5 v L.length (ecs L)) (ad : Option Addr) (m c : Nat) (L2 : List Ed) (hx : a.eval x = .slice ad m c) (hm : m = L2.length)
    (hc : m = 0 ∨ ∃ b o', ad = some ⟨b, o', none⟩ ∧ ∀ j u, (ecs L2)[j]? = some u → w.cell? ⟨b, o' + j, none⟩ = some u) (h1 : ∀ u ∈ ecs L2, u.oneCell' = true) (hbd : L.length + L2.length ≤ 1000) (hB : B ≤ w.heap.size)
    (h : ∀ v' w', w'.ownsRow B 49 5 v' (L ++ L2).length (ecs (L ++ L2)) → w.grownBy w' v.ownBlock → (v'.ownBlock = v.ownBlock ∨ v'.ownBlock = some w.heap.size) → K (a.put o.dst v') w') : o.wp Tryd.prog a w K Q := by
  by_cases hm0 : m = 0
  · subst hm0
    have e2 : L2 = [] := List.length_eq_zero_iff.1 hm.symm
    subst e2
    have hrun := app0 (w := w) o.type ad c v L.length (ecs L) hown
    have hh := h v w (by rw [List.append_nil]; exact hown) ⟨rfl, rfl, rfl, Nat.le_refl _, fun _ _ _ => rfl⟩ (Or.inl rfl)
    unfold Oper.wp
    simp [execOp, ho, resolve, invoke, builtin, hs, hx, hrun, Result.andThen]
    exact hh
  · obtain ⟨b, o', rfl, hc2⟩ := hc.resolve_left hm0
    obtain ⟨i, q1, q2, q3, q4⟩ := infoE
    refine wp_append_lies w s x 22 ho B 49 i _ 5 56 Tryd.underlying22 q1 q2 q3 q4 rfl (by omega) v L.length (ecs L) hs hown ⟨b, o', none⟩ m c (ecs L2) hx (by rw [ecs_len, hm]) (fun j u hj => ?_) h1 (by omega) (by unfold maxLen; omega) (by omega) hB w.heap.size rfl fun g cap w' hown' hg hat _ => ?_
    · have := hc2 j u hj
      rw [show (⟨b, o', none⟩ : Addr).add j = ⟨b, o' + j, none⟩ by unfold Addr.add; split <;> simp_all]
      exact this
    · refine h _ w' (by rw [ecs_app, List.length_append, ← hm]; exact hown') hg ?_
      rcases hat with e | e
      · exact Or.inl (by rw [e]; rfl)
      · exact Or.inr (by rw [e]; rfl)
theorem eds_cells {w : World} {a : Option Addr} {n c : Nat} {l : List Ed} (h : EdsAt All w (.slice a n c) l) : n = 0 ∨ ∃ b o', a = some ⟨b, o', none⟩ ∧ ∀ j u, (ecs l)[j]? = some u → w.cell? ⟨b, o' + j, none⟩ = some u := by
  obtain ⟨a', c', he, h1, h2, h3⟩ := h
  obtain ⟨rfl, rfl, rfl⟩ : a = a' ∧ n = l.length ∧ c = c' := by injection he with e1 e2 e3; exact ⟨e1, e2, e3⟩
  rcases h3 with h | ⟨b, o, ha, hk, hb, hc⟩
  · subst h; exact Or.inl rfl
  · refine Or.inr ⟨b, o, ha, fun j u hj => ?_⟩
    have hjl : j < l.length * 5 := by have := (List.getElem?_eq_some_iff.1 hj).1; rw [ecs_len] at this; exact this
    have hq : j / 5 < l.length := by omega
    have hx := List.getElem?_eq_getElem hq
    obtain ⟨k0, k1, k2, k3, k4⟩ := hc (j / 5) _ hx
    have ej : j = j / 5 * 5 + j % 5 := by omega
    have e := ecs_at l (j / 5) _ hx (j % 5) (by omega)
    rw [← ej, hj] at e
    have hr : j % 5 < 5 := by omega
    rw [ej, ← Nat.add_assoc]
    generalize j % 5 = r at *
    match r, hr, e with
    | 0, _, e => rw [Nat.add_zero, k0]; exact e.symm
    | 1, _, e => rw [k1]; exact e.symm
    | 2, _, e => rw [k2]; exact e.symm
    | 3, _, e => rw [k3]; exact e.symm
    | 4, _, e => rw [k4]; exact e.symm
end Go.Proofs.YtgloihilnbjmeaaDoor.Ex
end
