/-
  Texts put together (merge.py): PRPc.
-/
import Derived.Test.YtoibhgoaibjopaaGreatDoorMp14
import Derived.Test.YtoibhgoaibjopaaGreatDoorMp8
import Derived.Test.YtoibhgoaibjopaaGreatDoorMp29
import Derived.Test.YtoibhgoaibjopaaGreatDoorMp23
import Derived.Test.YtoibhgoaibjopaaGreatDoorMp30
/-
  A condition's words, with blanks between: the reference's money, num, yes and cond, as contracts. (Written by gen_rpr.py.)
-/
section
set_option linter.unusedSimpArgs false
set_option linter.unusedVariables false
set_option maxRecDepth 100000
namespace Go.Proofs.YtoibhgoaibjopaaGreatDoor.Pl
open Go.RowKit
open Wo (Wd WdsAt box_cell box_two keepB heap_far mk_cat)

theorem rmon_any (n : Int) (h : Cm.I64 n) (w : World) :
    Calls Tryz.prog 18 #[.int .i64 n] w fun e w' => e = .returned (.string (mk (Nu.moneyL n))) ∧ Below w.heap.size w w' := by
  have HM := Lib.hid fun W => Nu.rmoney_any n h.1 h.2 W
  go_enter Tryz.func18, Tryz.ntmps18
  go_wp2_with (go_at_call 35; refine (HM.out _).mono ?_; rintro e w1 ⟨rfl, hb⟩; have HB := Lib.hid hb; clear hb)
  go_ret
  exact ⟨rfl, HB.out⟩
theorem rnm_any (n : Int) (h : Cm.I64 n) (w : World) :
    Calls Tryz.prog 36 #[.int .i64 n] w fun e w' => e = .returned (.string (mk (Lib.itoa n))) ∧ Below w.heap.size w w' := by
  have HM := Lib.hid fun W => Nu.rint_any n h.1 h.2 W
  go_enter Tryz.func36, Tryz.ntmps36
  go_wp2_with (go_at_call 60; refine (HM.out _).mono ?_; rintro e w1 ⟨rfl, hb⟩; have HB := Lib.hid hb; clear hb)
  go_ret
  exact ⟨rfl, HB.out⟩
theorem ryes_any (n : Int) (w : World) :
    Calls Tryz.prog 38 #[.int .i64 n] w fun e w' => e = .returned (.string (mk (yesW n))) ∧ w' = w := by
  by_cases h : n = 0
  · subst h
    go_enter Tryz.func38, Tryz.ntmps38
    go_wp2
    go_ret
    exact ⟨rfl, rfl⟩
  · have HY : Hid (yesW n = tYes) := by show _ = _; unfold yesW; rw [if_neg h]
    have b : (n == 0) = false := by simpa using h
    clear h
    go_enter Tryz.func38, Tryz.ntmps38
    go_wp2
    go_ret
    exact ⟨by rw [HY.out]; rfl, rfl⟩
theorem cat3 (a b c : Tx) : mk a ++ mk b ++ mk c = mk (a ++ (b ++ c)) := by rw [mk_cat, mk_cat, List.append_assoc]
theorem cat4 (a b c d : Tx) : mk a ++ mk b ++ mk c ++ mk d = mk (a ++ (b ++ (c ++ d))) := by rw [mk_cat, mk_cat, mk_cat]; simp
theorem cat5 (a b c d e : Tx) : mk a ++ mk b ++ mk c ++ mk d ++ mk e = mk (a ++ (b ++ (c ++ (d ++ e)))) := by rw [mk_cat, mk_cat, mk_cat, mk_cat]; simp
theorem join2 (a b : Tx) : joinC 32 [a, b] = a ++ 32 :: b := by rw [joinC_cons, joinC_one]
theorem join3 (a b c : Tx) : joinC 32 [a, b, c] = a ++ 32 :: (b ++ 32 :: c) := by rw [joinC_cons, joinC_cons, joinC_one]
theorem join_hd (a : Tx) (l : List Tx) (h : l ≠ []) : joinC 32 (a :: l) = a ++ 32 :: joinC 32 l := by
  cases l with
  | nil => exact absurd rfl h
  | cons b r => exact joinC_cons 32 a b r
theorem condW_ne (f : Nat) (c : Cd) : condW (f + 1) c ≠ [] := by
  cases c
  unfold condW
  repeat' split
  all_goals simp
theorem join_le (l : List Tx) (n : Nat) (h : szW l ≤ n) : (joinC 32 l).length ≤ n := Nat.le_trans (join_size l) h
theorem mem_sz : ∀ (l : List Tx) (t : Tx), t ∈ l → t.length ≤ szW l
  | x :: r, t, h => by
    rw [sz_cons]
    rcases List.mem_cons.1 h with rfl | h
    · omega
    · have := mem_sz r t h; omega
abbrev RcV (c : Cd) (m : Value) (w : World) (T : Tx) : Prop := Calls Tryz.prog 37 #[cdv c m] w fun e w' => e = .returned (.string (mk T)) ∧ Below w.heap.size w w'
theorem rc_0 (lo hi : Tx) (n : Int) (m : Value) (w : World) : RcV (.mk 0 lo hi n []) m w (joinC 32 [tAll]) := by
  show Calls _ _ #[.agg #[.int .i64 0, .string (mk lo), .string (mk hi), .int .i64 n, m]] _ _
  have HB := Lib.hid (below_alloc w (.cells #[.int .i64 0, .string (mk lo), .string (mk hi), .int .i64 n, m] 32))
  go_enter Tryz.func37, Tryz.ntmps37
  go_wp2
  go_ret
  exact ⟨rfl, HB.out⟩
theorem rc_5 (lo hi : Tx) (n : Int) (m : Value) (w : World) : RcV (.mk 5 lo hi n []) m w (joinC 32 [tOut]) := by
  show Calls _ _ #[.agg #[.int .i64 5, .string (mk lo), .string (mk hi), .int .i64 n, m]] _ _
  have HB := Lib.hid (below_alloc w (.cells #[.int .i64 5, .string (mk lo), .string (mk hi), .int .i64 n, m] 32))
  go_enter Tryz.func37, Tryz.ntmps37
  go_wp2
  go_ret
  exact ⟨rfl, HB.out⟩
set_option maxHeartbeats 4000000 in
theorem rc_1 (lo hi : Tx) (n : Int) (m : Value) (w : World) (h1 : lo.length ≤ 65536) (h2 : hi.length ≤ 65536) : RcV (.mk 1 lo hi n []) m w (joinC 32 [tProc, lo, hi]) := by
  show Calls _ _ #[.agg #[.int .i64 1, .string (mk lo), .string (mk hi), .int .i64 n, m]] _ _
  have HB := Lib.hid (below_alloc w (.cells #[.int .i64 1, .string (mk lo), .string (mk hi), .int .i64 n, m] 32))
  have z1 : (mk lo).size ≤ 65536 := by rw [mk_size]; exact h1
  have z2 : (mk hi).size ≤ 65536 := by rw [mk_size]; exact h2
  have HE : Hid (((⟨#[112, 114, 111, 99, 32]⟩ : ByteArray) ++ mk lo) ++ ⟨#[32]⟩ ++ mk hi = mk (joinC 32 [tProc, lo, hi])) := by
    show _ = _
    rw [join3]
    exact cat4 [112, 114, 111, 99, 32] lo [32] hi
  clear h1 h2
  generalize mk lo = LO at *
  generalize mk hi = HI at *
  generalize mk (joinC 32 [tProc, lo, hi]) = OUT at *
  go_enter Tryz.func37, Tryz.ntmps37
  go_wp2
  go_ret
  exact ⟨by rw [← HE.out]; rfl, HB.out⟩
set_option maxHeartbeats 4000000 in
theorem rc_2 (lo hi : Tx) (n : Int) (m : Value) (w : World) (h1 : lo.length ≤ 65536) : RcV (.mk 2 lo hi n []) m w (joinC 32 [tMod, lo]) := by
  show Calls _ _ #[.agg #[.int .i64 2, .string (mk lo), .string (mk hi), .int .i64 n, m]] _ _
  have HB := Lib.hid (below_alloc w (.cells #[.int .i64 2, .string (mk lo), .string (mk hi), .int .i64 n, m] 32))
  have z1 : (mk lo).size ≤ 65536 := by rw [mk_size]; exact h1
  have HE : Hid ((⟨#[109, 111, 100, 32]⟩ : ByteArray) ++ mk lo = mk (joinC 32 [tMod, lo])) := by
    show _ = _
    rw [join2]
    exact mk_cat [109, 111, 100, 32] lo
  clear h1
  generalize mk lo = LO at *
  generalize mk (joinC 32 [tMod, lo]) = OUT at *
  go_enter Tryz.func37, Tryz.ntmps37
  go_wp2
  go_ret
  exact ⟨by rw [← HE.out]; rfl, HB.out⟩
set_option maxHeartbeats 4000000 in
theorem rc_3 (lo hi : Tx) (n : Int) (m : Value) (w : World) (hn : Cm.I64 n) (h1 : (Lib.itoa n).length ≤ 65536) : RcV (.mk 3 lo hi n []) m w (joinC 32 [tUnits, Lib.itoa n]) := by
  show Calls _ _ #[.agg #[.int .i64 3, .string (mk lo), .string (mk hi), .int .i64 n, m]] _ _
  have HB := Lib.hid (below_alloc w (.cells #[.int .i64 3, .string (mk lo), .string (mk hi), .int .i64 n, m] 32))
  have z1 : (mk (Lib.itoa n)).size ≤ 65536 := by rw [mk_size]; exact h1
  have HN := Lib.hid fun W => rnm_any n hn W
  have HE : Hid ((⟨#[117, 110, 105, 116, 115, 32]⟩ : ByteArray) ++ mk (Lib.itoa n) = mk (joinC 32 [tUnits, Lib.itoa n])) := by
    show _ = _
    rw [join2]
    exact mk_cat [117, 110, 105, 116, 115, 32] _
  clear h1 hn
  generalize mk (joinC 32 [tUnits, Lib.itoa n]) = OUT at *
  generalize mk (Lib.itoa n) = LO at *
  go_enter Tryz.func37, Tryz.ntmps37
  go_wp2_with (go_at_call 36; refine (HN.out _).mono ?_; rintro e w1 ⟨rfl, hb1⟩; have HB1 := Lib.hid (below_trans HB.out hb1); clear hb1)
  go_ret
  exact ⟨by rw [← HE.out]; rfl, HB1.out⟩
set_option maxHeartbeats 4000000 in
theorem rc_4 (lo hi : Tx) (n : Int) (m : Value) (w : World) (hn : Cm.I64 n) (h1 : (Nu.moneyL n).length ≤ 65536) : RcV (.mk 4 lo hi n []) m w (joinC 32 [tBilled, Nu.moneyL n]) := by
  show Calls _ _ #[.agg #[.int .i64 4, .string (mk lo), .string (mk hi), .int .i64 n, m]] _ _
  have HB := Lib.hid (below_alloc w (.cells #[.int .i64 4, .string (mk lo), .string (mk hi), .int .i64 n, m] 32))
  have z1 : (mk (Nu.moneyL n)).size ≤ 65536 := by rw [mk_size]; exact h1
  have HN := Lib.hid fun W => rmon_any n hn W
  have HE : Hid ((⟨#[98, 105, 108, 108, 101, 100, 32]⟩ : ByteArray) ++ mk (Nu.moneyL n) = mk (joinC 32 [tBilled, Nu.moneyL n])) := by
    show _ = _
    rw [join2]
    exact mk_cat [98, 105, 108, 108, 101, 100, 32] _
  clear h1 hn
  generalize mk (joinC 32 [tBilled, Nu.moneyL n]) = OUT at *
  generalize mk (Nu.moneyL n) = LO at *
  go_enter Tryz.func37, Tryz.ntmps37
  go_wp2_with (go_at_call 18; refine (HN.out _).mono ?_; rintro e w1 ⟨rfl, hb1⟩; have HB1 := Lib.hid (below_trans HB.out hb1); clear hb1)
  go_ret
  exact ⟨by rw [← HE.out]; rfl, HB1.out⟩
set_option maxHeartbeats 8000000 in
theorem rc_6 (f : Nat) (IH : ∀ (c : Cd) (m : Value) (w : World), condB (f + 1) c = true → szW (condW (f + 1) c) ≤ 65536 → KsAt All w m c.kids → Ok1 c → RcV c m w (joinC 32 (condW (f + 1) c)))
    (lo hi : Tx) (n : Int) (d : Cd) (m : Value) (w : World) (hd : condB (f + 1) d = true) (hs : szW (condW (f + 1) d) ≤ 65536) (hK : KsAt All w m [d]) : RcV (.mk 6 lo hi n [d]) m w (joinC 32 (tNot :: condW (f + 1) d)) := by
  show Calls _ _ #[.agg #[.int .i64 6, .string (mk lo), .string (mk hi), .int .i64 n, m]] _ _
  have hb := below_alloc w (.cells #[.int .i64 6, .string (mk lo), .string (mk hi), .int .i64 n, m] 32)
  have HB := Lib.hid hb
  have HX := Lib.hid (heap_alloc_new w (.cells #[.int .i64 6, .string (mk lo), .string (mk hi), .int .i64 n, m] 32))
  obtain ⟨a, k, hm0, h1, h2⟩ := hK.form
  obtain rfl : m = .slice a 1 k := hm0

  obtain ⟨b, o, mv, rfl, hbs, hx, hcc, hkk, hok⟩ := KsAt.get (hK.grw hb) 0 (by simp)
  obtain ⟨y0, y1, y2, y3, y4⟩ := hcc
  obtain ⟨ma, mc, rfl, -, -⟩ := hkk.form
  simp only [Nat.zero_mul, Nat.add_zero, List.getElem_cons_zero] at y0 y1 y2 y3 y4 hkk hok
  have HC := Lib.hid (IH d _ _ hd hs hkk hok)
  unfold RcV at HC
  obtain ⟨x0, x1, x2, x3, x4⟩ := bfive HX.out
  have z1 : (mk (joinC 32 (condW (f + 1) d))).size ≤ 65536 := by rw [mk_size]; exact join_le _ _ hs
  have HE : Hid ((⟨#[110, 111, 116, 32]⟩ : ByteArray) ++ mk (joinC 32 (condW (f + 1) d)) = mk (joinC 32 (tNot :: condW (f + 1) d))) := by
    show _ = _
    rw [join_hd _ _ (condW_ne f d)]
    exact mk_cat [110, 111, 116, 32] _
  clear hx hkk hok hb hK IH hs hd
  generalize mk (joinC 32 (tNot :: condW (f + 1) d)) = OUT at *
  generalize mk (joinC 32 (condW (f + 1) d)) = T at *
  go_enter Tryz.func37, Tryz.ntmps37
  go_wp2_with (go_at_call 37; refine HC.out.mono ?_; rintro e w1 ⟨rfl, hb1⟩; have HB1 := Lib.hid (below_trans HB.out hb1); clear hb1)
  go_ret
  exact ⟨by rw [← HE.out]; rfl, HB1.out⟩
set_option maxHeartbeats 16000000 in
theorem rc_7 (f : Nat) (IH : ∀ (c : Cd) (m : Value) (w : World), condB (f + 1) c = true → szW (condW (f + 1) c) ≤ 65536 → KsAt All w m c.kids → Ok1 c → RcV c m w (joinC 32 (condW (f + 1) c)))
    (lo hi : Tx) (n : Int) (d g : Cd) (m : Value) (w : World) (hd : condB (f + 1) d = true) (hg : condB (f + 1) g = true) (hs : szW (condW (f + 1) d) ≤ 65536) (hs' : szW (condW (f + 1) g) ≤ 65536) (hK : KsAt All w m [d, g]) : RcV (.mk 7 lo hi n [d, g]) m w (joinC 32 (tO :: (condW (f + 1) d ++ (tAnd :: (condW (f + 1) g ++ [tC]))))) := by
  show Calls _ _ #[.agg #[.int .i64 7, .string (mk lo), .string (mk hi), .int .i64 n, m]] _ _
  have hb := below_alloc w (.cells #[.int .i64 7, .string (mk lo), .string (mk hi), .int .i64 n, m] 32)
  have HB := Lib.hid hb
  have HX := Lib.hid (heap_alloc_new w (.cells #[.int .i64 7, .string (mk lo), .string (mk hi), .int .i64 n, m] 32))
  obtain ⟨a, k, hm0, h1, h2⟩ := hK.form
  obtain rfl : m = .slice a 2 k := hm0

  obtain ⟨b, o, mv, rfl, hbs, hx, hcc, hkk, hok⟩ := KsAt.get (hK.grw hb) 0 (by simp)
  obtain ⟨b', o', mv', eb, hbs', hx', hcc', hkk', hok'⟩ := KsAt.get (hK.grw hb) 1 (by simp)
  simp only [Option.some.injEq, Addr.mk.injEq, and_true] at eb
  obtain ⟨rfl, rfl⟩ := eb
  obtain ⟨ma, mc, rfl, -, -⟩ := hkk.form
  obtain ⟨na, nc, rfl, -, -⟩ := hkk'.form
  simp only [Nat.zero_mul, Nat.add_zero, Nat.one_mul, List.getElem_cons_zero, List.getElem_cons_succ] at hcc hcc' hkk hok hkk' hok'
  have HC := Lib.hid fun W (hW : Below (w.alloc (.cells #[.int .i64 7, .string (mk lo), .string (mk hi), .int .i64 n, .slice (some ⟨b, o, none⟩) 2 k] 32)).heap.size (w.alloc (.cells #[.int .i64 7, .string (mk lo), .string (mk hi), .int .i64 n, .slice (some ⟨b, o, none⟩) 2 k] 32)) W) => IH d _ W hd hs (hkk.grw hW) hok
  have HC2 := Lib.hid fun W (hW : Below (w.alloc (.cells #[.int .i64 7, .string (mk lo), .string (mk hi), .int .i64 n, .slice (some ⟨b, o, none⟩) 2 k] 32)).heap.size (w.alloc (.cells #[.int .i64 7, .string (mk lo), .string (mk hi), .int .i64 n, .slice (some ⟨b, o, none⟩) 2 k] 32)) W) => IH g _ W hg hs' (hkk'.grw hW) hok'
  unfold RcV at HC HC2
  have HCX : Hid (∀ W, Below (w.alloc (.cells #[.int .i64 7, .string (mk lo), .string (mk hi), .int .i64 n, .slice (some ⟨b, o, none⟩) 2 k] 32)).heap.size (w.alloc (.cells #[.int .i64 7, .string (mk lo), .string (mk hi), .int .i64 n, .slice (some ⟨b, o, none⟩) 2 k] 32)) W → (CdCells W b o d (.slice ma d.kids.length mc) ∧ CdCells W b (o + 5) g (.slice na g.kids.length nc)) ∧ W.cell? ⟨w.heap.size, 4, none⟩ = some (.slice (some ⟨b, o, none⟩) 2 k)) := fun W hW =>
    ⟨⟨hcc.of (hW.block b hbs), hcc'.of (hW.block b hbs)⟩, (bfive (keepB HX.out hW)).2.2.2.2⟩
  obtain ⟨x0, x1, x2, x3, x4⟩ := bfive HX.out
  have z1 : (mk (joinC 32 (condW (f + 1) d))).size ≤ 65536 := by rw [mk_size]; exact join_le _ _ hs
  have z2 : (mk (joinC 32 (condW (f + 1) g))).size ≤ 65536 := by rw [mk_size]; exact join_le _ _ hs'
  have HE : Hid ((((⟨#[40, 32]⟩ : ByteArray) ++ mk (joinC 32 (condW (f + 1) d))) ++ ⟨#[32, 97, 110, 100, 32]⟩ ++ mk (joinC 32 (condW (f + 1) g))) ++ ⟨#[32, 41]⟩ = mk (joinC 32 (tO :: (condW (f + 1) d ++ (tAnd :: (condW (f + 1) g ++ [tC])))))) := by
    show _ = _
    rw [join_hd _ _ (by simp), join_app _ _ (condW_ne f d) (by simp), join_hd _ _ (by simp), join_app _ _ (condW_ne f g) (by simp), joinC_one]
    refine (cat5 [40, 32] _ [32, 97, 110, 100, 32] _ [32, 41]).trans ?_
    simp [tO, tC, tAnd]
  clear hx hx' hkk hok hkk' hok' hb hK IH hs hd hs' hg hcc hcc'
  generalize mk (joinC 32 (tO :: (condW (f + 1) d ++ (tAnd :: (condW (f + 1) g ++ [tC]))))) = OUT at *
  generalize mk (joinC 32 (condW (f + 1) d)) = T at *
  generalize mk (joinC 32 (condW (f + 1) g)) = T2 at *
  go_enter Tryz.func37, Tryz.ntmps37
  go_upto_region 19 with fail
  generalize w.alloc (.cells #[.int .i64 7, .string (mk lo), .string (mk hi), .int .i64 n, .slice (some ⟨b, o, none⟩) 2 k] 32) = W0 at *
  generalize hq : w.heap.size = q at *
  have HD := Lib.hid (Below.drew (Below.refl W0.heap.size W0))
  clear x0 x1 x2 x3 x4
  refine Ri.wp_region_lasting (by kernel_rfl) (by kernel_rfl) (by kernel_rfl) (fun Wx => Below W0.heap.size W0 Wx) (fun kz vs wz => (fun kx vx _ => match kx with | 0 => vx = Value.pointer (some ⟨q, 4, none⟩) | 1 => vx = Value.slice (some ⟨b, o, none⟩) 2 k | 2 => vx = Value.pointer (some ⟨b, o, none⟩) | 3 => vx = Value.agg #[Value.int IntKind.i64 d.kind, Value.string (mk d.lo), Value.string (mk d.hi), Value.int IntKind.i64 d.n, Value.slice ma d.kids.length mc] | 4 => vx = Value.string T | 5 => vx = Value.string (⟨#[40, 32]⟩ ++ T) | 6 => vx = Value.string ⟨#[32, 97, 110, 100, 32]⟩ | 7 => vx = Value.string (⟨#[40, 32]⟩ ++ T ++ ⟨#[32, 97, 110, 100, 32]⟩) | 8 => vx = Value.pointer (some ⟨q, 4, none⟩) | 9 => vx = Value.slice (some ⟨b, o, none⟩) 2 k | 10 => vx = Value.pointer (some ⟨b, o + 5, none⟩) | 11 => vx = Value.agg #[Value.int IntKind.i64 g.kind, Value.string (mk g.lo), Value.string (mk g.hi), Value.int IntKind.i64 g.n, Value.slice na g.kids.length nc] | 12 => vx = Value.string T2 | 13 => vx = Value.string (⟨#[40, 32]⟩ ++ T ++ ⟨#[32, 97, 110, 100, 32]⟩ ++ T2) | 14 => vx = Value.string (⟨#[40, 32]⟩ ++ T ++ ⟨#[32, 97, 110, 100, 32]⟩ ++ T2 ++ ⟨#[32, 41]⟩) | 15 => vx = Value.string (⟨#[40, 32]⟩ ++ T ++ ⟨#[32, 97, 110, 100, 32]⟩ ++ T2 ++ ⟨#[32, 41]⟩) | _ => True : Nat → Value → World → Prop) kz (vs kz) wz) (fun kz => [kz]) (by kernel_rfl) (fun jz vs iz vz wz hiz hz => Ri.loc_own (F := (fun kx vx _ => match kx with | 0 => vx = Value.pointer (some ⟨q, 4, none⟩) | 1 => vx = Value.slice (some ⟨b, o, none⟩) 2 k | 2 => vx = Value.pointer (some ⟨b, o, none⟩) | 3 => vx = Value.agg #[Value.int IntKind.i64 d.kind, Value.string (mk d.lo), Value.string (mk d.hi), Value.int IntKind.i64 d.n, Value.slice ma d.kids.length mc] | 4 => vx = Value.string T | 5 => vx = Value.string (⟨#[40, 32]⟩ ++ T) | 6 => vx = Value.string ⟨#[32, 97, 110, 100, 32]⟩ | 7 => vx = Value.string (⟨#[40, 32]⟩ ++ T ++ ⟨#[32, 97, 110, 100, 32]⟩) | 8 => vx = Value.pointer (some ⟨q, 4, none⟩) | 9 => vx = Value.slice (some ⟨b, o, none⟩) 2 k | 10 => vx = Value.pointer (some ⟨b, o + 5, none⟩) | 11 => vx = Value.agg #[Value.int IntKind.i64 g.kind, Value.string (mk g.lo), Value.string (mk g.hi), Value.int IntKind.i64 g.n, Value.slice na g.kids.length nc] | 12 => vx = Value.string T2 | 13 => vx = Value.string (⟨#[40, 32]⟩ ++ T ++ ⟨#[32, 97, 110, 100, 32]⟩ ++ T2) | 14 => vx = Value.string (⟨#[40, 32]⟩ ++ T ++ ⟨#[32, 97, 110, 100, 32]⟩ ++ T2 ++ ⟨#[32, 41]⟩) | 15 => vx = Value.string (⟨#[40, 32]⟩ ++ T ++ ⟨#[32, 97, 110, 100, 32]⟩ ++ T2 ++ ⟨#[32, 41]⟩) | _ => True : Nat → Value → World → Prop)) jz vs iz vz wz hiz hz) HD.out ⟨⟨rfl, ?_⟩, ⟨rfl, ?_⟩, ⟨rfl, ?_⟩, ⟨rfl, ?_⟩, ⟨rfl, ?_⟩, ⟨rfl, ?_⟩, ⟨rfl, ?_⟩, ⟨rfl, ?_⟩, ⟨rfl, ?_⟩, ⟨rfl, ?_⟩, ⟨rfl, ?_⟩, ⟨rfl, ?_⟩, ⟨rfl, ?_⟩, ⟨rfl, ?_⟩, ⟨rfl, ?_⟩, ⟨rfl, ?_⟩, trivial⟩ ?_
  · intro vs Wx A hA hB hpre K hK
    have e1 := (hA 1).trans (show _ = Value.pointer (some ⟨q, 0, none⟩) by kernel_rfl)
    clear hA
    go_simp
    first | exact hK _ _ hB rfl (fun _ _ h => h) | (rw [if_neg (by omega)]; go_simp; exact hK _ _ hB rfl (fun _ _ h => h))
  · intro vs Wx A hA hB hpre K hK
    have e47 := ((hA 47).trans (show _ = vs 0 by kernel_rfl)).trans (by first | exact hpre.1 rfl | exact hpre.2.1 rfl | exact hpre.2.2.1 rfl | exact hpre.2.2.2.1 rfl | exact hpre.2.2.2.2.1 rfl | exact hpre.2.2.2.2.2.1 rfl | exact hpre.2.2.2.2.2.2.1 rfl | exact hpre.2.2.2.2.2.2.2.1 rfl | exact hpre.2.2.2.2.2.2.2.2.1 rfl | exact hpre.2.2.2.2.2.2.2.2.2.1 rfl)
    obtain ⟨⟨⟨y0, y1, y2, y3, y4⟩, ⟨v0, v1, v2, v3, v4⟩⟩, y5⟩ := HCX.out Wx hB
    clear hA hpre
    go_simp
    first | exact hK _ _ hB rfl (fun _ _ h => h) | (rw [if_neg (by omega)]; go_simp; exact hK _ _ hB rfl (fun _ _ h => h))
  · intro vs Wx A hA hB hpre K hK
    have e48 := ((hA 48).trans (show _ = vs 1 by kernel_rfl)).trans (by first | exact hpre.1 rfl | exact hpre.2.1 rfl | exact hpre.2.2.1 rfl | exact hpre.2.2.2.1 rfl | exact hpre.2.2.2.2.1 rfl | exact hpre.2.2.2.2.2.1 rfl | exact hpre.2.2.2.2.2.2.1 rfl | exact hpre.2.2.2.2.2.2.2.1 rfl | exact hpre.2.2.2.2.2.2.2.2.1 rfl | exact hpre.2.2.2.2.2.2.2.2.2.1 rfl)
    clear hA hpre
    go_simp
    first | exact hK _ _ hB rfl (fun _ _ h => h) | (rw [if_neg (by omega)]; go_simp; exact hK _ _ hB rfl (fun _ _ h => h))
  · intro vs Wx A hA hB hpre K hK
    have e49 := ((hA 49).trans (show _ = vs 2 by kernel_rfl)).trans (by first | exact hpre.1 rfl | exact hpre.2.1 rfl | exact hpre.2.2.1 rfl | exact hpre.2.2.2.1 rfl | exact hpre.2.2.2.2.1 rfl | exact hpre.2.2.2.2.2.1 rfl | exact hpre.2.2.2.2.2.2.1 rfl | exact hpre.2.2.2.2.2.2.2.1 rfl | exact hpre.2.2.2.2.2.2.2.2.1 rfl | exact hpre.2.2.2.2.2.2.2.2.2.1 rfl)
    obtain ⟨⟨⟨y0, y1, y2, y3, y4⟩, ⟨v0, v1, v2, v3, v4⟩⟩, y5⟩ := HCX.out Wx hB
    clear hA hpre
    go_simp
    first | exact hK _ _ hB rfl (fun _ _ h => h) | (rw [if_neg (by omega)]; go_simp; exact hK _ _ hB rfl (fun _ _ h => h))
  · intro vs Wx A hA hB hpre K hK
    have e50 := ((hA 50).trans (show _ = vs 3 by kernel_rfl)).trans (by first | exact hpre.1 rfl | exact hpre.2.1 rfl | exact hpre.2.2.1 rfl | exact hpre.2.2.2.1 rfl | exact hpre.2.2.2.2.1 rfl | exact hpre.2.2.2.2.2.1 rfl | exact hpre.2.2.2.2.2.2.1 rfl | exact hpre.2.2.2.2.2.2.2.1 rfl | exact hpre.2.2.2.2.2.2.2.2.1 rfl | exact hpre.2.2.2.2.2.2.2.2.2.1 rfl)
    clear hA hpre
    go_simp
    refine (HC.out Wx hB).mono ?_
    rintro e w1 ⟨rfl, hb⟩
    exact hK _ _ (below_trans hB hb) rfl (fun _ _ h => h)
  · intro vs Wx A hA hB hpre K hK
    have e51 := ((hA 51).trans (show _ = vs 4 by kernel_rfl)).trans (by first | exact hpre.1 rfl | exact hpre.2.1 rfl | exact hpre.2.2.1 rfl | exact hpre.2.2.2.1 rfl | exact hpre.2.2.2.2.1 rfl | exact hpre.2.2.2.2.2.1 rfl | exact hpre.2.2.2.2.2.2.1 rfl | exact hpre.2.2.2.2.2.2.2.1 rfl | exact hpre.2.2.2.2.2.2.2.2.1 rfl | exact hpre.2.2.2.2.2.2.2.2.2.1 rfl)
    clear hA hpre
    go_simp
    first | exact hK _ _ hB rfl (fun _ _ h => h) | (rw [if_neg (by omega)]; go_simp; exact hK _ _ hB rfl (fun _ _ h => h))
  · intro vs Wx A hA hB hpre K hK
    have e3 := (hA 3).trans (show _ = Value.string ⟨#[32, 97, 110, 100, 32]⟩ by kernel_rfl)
    clear hA
    go_simp
    first | exact hK _ _ hB rfl (fun _ _ h => h) | (rw [if_neg (by omega)]; go_simp; exact hK _ _ hB rfl (fun _ _ h => h))
  · intro vs Wx A hA hB hpre K hK
    have e52 := ((hA 52).trans (show _ = vs 5 by kernel_rfl)).trans (by first | exact hpre.1 rfl | exact hpre.2.1 rfl | exact hpre.2.2.1 rfl | exact hpre.2.2.2.1 rfl | exact hpre.2.2.2.2.1 rfl | exact hpre.2.2.2.2.2.1 rfl | exact hpre.2.2.2.2.2.2.1 rfl | exact hpre.2.2.2.2.2.2.2.1 rfl | exact hpre.2.2.2.2.2.2.2.2.1 rfl | exact hpre.2.2.2.2.2.2.2.2.2.1 rfl)
    have e53 := ((hA 53).trans (show _ = vs 6 by kernel_rfl)).trans (by first | exact hpre.1 rfl | exact hpre.2.1 rfl | exact hpre.2.2.1 rfl | exact hpre.2.2.2.1 rfl | exact hpre.2.2.2.2.1 rfl | exact hpre.2.2.2.2.2.1 rfl | exact hpre.2.2.2.2.2.2.1 rfl | exact hpre.2.2.2.2.2.2.2.1 rfl | exact hpre.2.2.2.2.2.2.2.2.1 rfl | exact hpre.2.2.2.2.2.2.2.2.2.1 rfl)
    clear hA hpre
    go_simp
    first | exact hK _ _ hB rfl (fun _ _ h => h) | (rw [if_neg (by omega)]; go_simp; exact hK _ _ hB rfl (fun _ _ h => h))
  · intro vs Wx A hA hB hpre K hK
    have e1 := (hA 1).trans (show _ = Value.pointer (some ⟨q, 0, none⟩) by kernel_rfl)
    clear hA
    go_simp
    first | exact hK _ _ hB rfl (fun _ _ h => h) | (rw [if_neg (by omega)]; go_simp; exact hK _ _ hB rfl (fun _ _ h => h))
  · intro vs Wx A hA hB hpre K hK
    have e55 := ((hA 55).trans (show _ = vs 8 by kernel_rfl)).trans (by first | exact hpre.1 rfl | exact hpre.2.1 rfl | exact hpre.2.2.1 rfl | exact hpre.2.2.2.1 rfl | exact hpre.2.2.2.2.1 rfl | exact hpre.2.2.2.2.2.1 rfl | exact hpre.2.2.2.2.2.2.1 rfl | exact hpre.2.2.2.2.2.2.2.1 rfl | exact hpre.2.2.2.2.2.2.2.2.1 rfl | exact hpre.2.2.2.2.2.2.2.2.2.1 rfl)
    obtain ⟨⟨⟨y0, y1, y2, y3, y4⟩, ⟨v0, v1, v2, v3, v4⟩⟩, y5⟩ := HCX.out Wx hB
    clear hA hpre
    go_simp
    first | exact hK _ _ hB rfl (fun _ _ h => h) | (rw [if_neg (by omega)]; go_simp; exact hK _ _ hB rfl (fun _ _ h => h))
  · intro vs Wx A hA hB hpre K hK
    have e56 := ((hA 56).trans (show _ = vs 9 by kernel_rfl)).trans (by first | exact hpre.1 rfl | exact hpre.2.1 rfl | exact hpre.2.2.1 rfl | exact hpre.2.2.2.1 rfl | exact hpre.2.2.2.2.1 rfl | exact hpre.2.2.2.2.2.1 rfl | exact hpre.2.2.2.2.2.2.1 rfl | exact hpre.2.2.2.2.2.2.2.1 rfl | exact hpre.2.2.2.2.2.2.2.2.1 rfl | exact hpre.2.2.2.2.2.2.2.2.2.1 rfl)
    clear hA hpre
    go_simp
    first | exact hK _ _ hB rfl (fun _ _ h => h) | (rw [if_neg (by omega)]; go_simp; exact hK _ _ hB rfl (fun _ _ h => h))
  · intro vs Wx A hA hB hpre K hK
    have e57 := ((hA 57).trans (show _ = vs 10 by kernel_rfl)).trans (by first | exact hpre.1 rfl | exact hpre.2.1 rfl | exact hpre.2.2.1 rfl | exact hpre.2.2.2.1 rfl | exact hpre.2.2.2.2.1 rfl | exact hpre.2.2.2.2.2.1 rfl | exact hpre.2.2.2.2.2.2.1 rfl | exact hpre.2.2.2.2.2.2.2.1 rfl | exact hpre.2.2.2.2.2.2.2.2.1 rfl | exact hpre.2.2.2.2.2.2.2.2.2.1 rfl)
    obtain ⟨⟨⟨y0, y1, y2, y3, y4⟩, ⟨v0, v1, v2, v3, v4⟩⟩, y5⟩ := HCX.out Wx hB
    clear hA hpre
    go_simp
    first | exact hK _ _ hB rfl (fun _ _ h => h) | (rw [if_neg (by omega)]; go_simp; exact hK _ _ hB rfl (fun _ _ h => h))
  · intro vs Wx A hA hB hpre K hK
    have e58 := ((hA 58).trans (show _ = vs 11 by kernel_rfl)).trans (by first | exact hpre.1 rfl | exact hpre.2.1 rfl | exact hpre.2.2.1 rfl | exact hpre.2.2.2.1 rfl | exact hpre.2.2.2.2.1 rfl | exact hpre.2.2.2.2.2.1 rfl | exact hpre.2.2.2.2.2.2.1 rfl | exact hpre.2.2.2.2.2.2.2.1 rfl | exact hpre.2.2.2.2.2.2.2.2.1 rfl | exact hpre.2.2.2.2.2.2.2.2.2.1 rfl)
    clear hA hpre
    go_simp
    refine (HC2.out Wx hB).mono ?_
    rintro e w1 ⟨rfl, hb⟩
    exact hK _ _ (below_trans hB hb) rfl (fun _ _ h => h)
  · intro vs Wx A hA hB hpre K hK
    have e54 := ((hA 54).trans (show _ = vs 7 by kernel_rfl)).trans (by first | exact hpre.1 rfl | exact hpre.2.1 rfl | exact hpre.2.2.1 rfl | exact hpre.2.2.2.1 rfl | exact hpre.2.2.2.2.1 rfl | exact hpre.2.2.2.2.2.1 rfl | exact hpre.2.2.2.2.2.2.1 rfl | exact hpre.2.2.2.2.2.2.2.1 rfl | exact hpre.2.2.2.2.2.2.2.2.1 rfl | exact hpre.2.2.2.2.2.2.2.2.2.1 rfl)
    have e59 := ((hA 59).trans (show _ = vs 12 by kernel_rfl)).trans (by first | exact hpre.1 rfl | exact hpre.2.1 rfl | exact hpre.2.2.1 rfl | exact hpre.2.2.2.1 rfl | exact hpre.2.2.2.2.1 rfl | exact hpre.2.2.2.2.2.1 rfl | exact hpre.2.2.2.2.2.2.1 rfl | exact hpre.2.2.2.2.2.2.2.1 rfl | exact hpre.2.2.2.2.2.2.2.2.1 rfl | exact hpre.2.2.2.2.2.2.2.2.2.1 rfl)
    clear hA hpre
    go_simp
    first | exact hK _ _ hB rfl (fun _ _ h => h) | (rw [if_neg (by omega)]; go_simp; exact hK _ _ hB rfl (fun _ _ h => h))
  · intro vs Wx A hA hB hpre K hK
    have e60 := ((hA 60).trans (show _ = vs 13 by kernel_rfl)).trans (by first | exact hpre.1 rfl | exact hpre.2.1 rfl | exact hpre.2.2.1 rfl | exact hpre.2.2.2.1 rfl | exact hpre.2.2.2.2.1 rfl | exact hpre.2.2.2.2.2.1 rfl | exact hpre.2.2.2.2.2.2.1 rfl | exact hpre.2.2.2.2.2.2.2.1 rfl | exact hpre.2.2.2.2.2.2.2.2.1 rfl | exact hpre.2.2.2.2.2.2.2.2.2.1 rfl)
    clear hA hpre
    go_simp
    first | exact hK _ _ hB rfl (fun _ _ h => h) | (rw [if_neg (by omega)]; go_simp; exact hK _ _ hB rfl (fun _ _ h => h))
  · intro vs Wx A hA hB hpre K hK
    have e61 := ((hA 61).trans (show _ = vs 14 by kernel_rfl)).trans (by first | exact hpre.1 rfl | exact hpre.2.1 rfl | exact hpre.2.2.1 rfl | exact hpre.2.2.2.1 rfl | exact hpre.2.2.2.2.1 rfl | exact hpre.2.2.2.2.2.1 rfl | exact hpre.2.2.2.2.2.2.1 rfl | exact hpre.2.2.2.2.2.2.2.1 rfl | exact hpre.2.2.2.2.2.2.2.2.1 rfl | exact hpre.2.2.2.2.2.2.2.2.2.1 rfl)
    clear hA hpre
    go_simp
    first | exact hK _ _ hB rfl (fun _ _ h => h) | (rw [if_neg (by omega)]; go_simp; exact hK _ _ hB rfl (fun _ _ h => h))
  · intro vs Wx hB hF
    have h15 : vs 15 = Value.string (⟨#[40, 32]⟩ ++ T ++ ⟨#[32, 97, 110, 100, 32]⟩ ++ T2 ++ ⟨#[32, 41]⟩) := hF 15 (by decide)
    have HBW := Lib.hid hB
    clear hF hB
    simp only [Ri.puts]
    go_simp
    go_wp2_with fail
    go_ret
    exact ⟨by rw [← HE.out, ← h15]; rfl, by first | exact below_tr hq HB.out HBW.out | (rw [hq]; exact below_tr hq HB.out HBW.out)⟩
set_option maxHeartbeats 16000000 in
theorem rc_8 (f : Nat) (IH : ∀ (c : Cd) (m : Value) (w : World), condB (f + 1) c = true → szW (condW (f + 1) c) ≤ 65536 → KsAt All w m c.kids → Ok1 c → RcV c m w (joinC 32 (condW (f + 1) c)))
    (lo hi : Tx) (n : Int) (d g : Cd) (m : Value) (w : World) (hd : condB (f + 1) d = true) (hg : condB (f + 1) g = true) (hs : szW (condW (f + 1) d) ≤ 65536) (hs' : szW (condW (f + 1) g) ≤ 65536) (hK : KsAt All w m [d, g]) : RcV (.mk 8 lo hi n [d, g]) m w (joinC 32 (tO :: (condW (f + 1) d ++ (tOr :: (condW (f + 1) g ++ [tC]))))) := by
  show Calls _ _ #[.agg #[.int .i64 8, .string (mk lo), .string (mk hi), .int .i64 n, m]] _ _
  have hb := below_alloc w (.cells #[.int .i64 8, .string (mk lo), .string (mk hi), .int .i64 n, m] 32)
  have HB := Lib.hid hb
  have HX := Lib.hid (heap_alloc_new w (.cells #[.int .i64 8, .string (mk lo), .string (mk hi), .int .i64 n, m] 32))
  obtain ⟨a, k, hm0, h1, h2⟩ := hK.form
  obtain rfl : m = .slice a 2 k := hm0

  obtain ⟨b, o, mv, rfl, hbs, hx, hcc, hkk, hok⟩ := KsAt.get (hK.grw hb) 0 (by simp)
  obtain ⟨b', o', mv', eb, hbs', hx', hcc', hkk', hok'⟩ := KsAt.get (hK.grw hb) 1 (by simp)
  simp only [Option.some.injEq, Addr.mk.injEq, and_true] at eb
  obtain ⟨rfl, rfl⟩ := eb
  obtain ⟨ma, mc, rfl, -, -⟩ := hkk.form
  obtain ⟨na, nc, rfl, -, -⟩ := hkk'.form
  simp only [Nat.zero_mul, Nat.add_zero, Nat.one_mul, List.getElem_cons_zero, List.getElem_cons_succ] at hcc hcc' hkk hok hkk' hok'
  have HC := Lib.hid fun W (hW : Below (w.alloc (.cells #[.int .i64 8, .string (mk lo), .string (mk hi), .int .i64 n, .slice (some ⟨b, o, none⟩) 2 k] 32)).heap.size (w.alloc (.cells #[.int .i64 8, .string (mk lo), .string (mk hi), .int .i64 n, .slice (some ⟨b, o, none⟩) 2 k] 32)) W) => IH d _ W hd hs (hkk.grw hW) hok
  have HC2 := Lib.hid fun W (hW : Below (w.alloc (.cells #[.int .i64 8, .string (mk lo), .string (mk hi), .int .i64 n, .slice (some ⟨b, o, none⟩) 2 k] 32)).heap.size (w.alloc (.cells #[.int .i64 8, .string (mk lo), .string (mk hi), .int .i64 n, .slice (some ⟨b, o, none⟩) 2 k] 32)) W) => IH g _ W hg hs' (hkk'.grw hW) hok'
  unfold RcV at HC HC2
  have HCX : Hid (∀ W, Below (w.alloc (.cells #[.int .i64 8, .string (mk lo), .string (mk hi), .int .i64 n, .slice (some ⟨b, o, none⟩) 2 k] 32)).heap.size (w.alloc (.cells #[.int .i64 8, .string (mk lo), .string (mk hi), .int .i64 n, .slice (some ⟨b, o, none⟩) 2 k] 32)) W → (CdCells W b o d (.slice ma d.kids.length mc) ∧ CdCells W b (o + 5) g (.slice na g.kids.length nc)) ∧ W.cell? ⟨w.heap.size, 4, none⟩ = some (.slice (some ⟨b, o, none⟩) 2 k)) := fun W hW =>
    ⟨⟨hcc.of (hW.block b hbs), hcc'.of (hW.block b hbs)⟩, (bfive (keepB HX.out hW)).2.2.2.2⟩
  obtain ⟨x0, x1, x2, x3, x4⟩ := bfive HX.out
  have z1 : (mk (joinC 32 (condW (f + 1) d))).size ≤ 65536 := by rw [mk_size]; exact join_le _ _ hs
  have z2 : (mk (joinC 32 (condW (f + 1) g))).size ≤ 65536 := by rw [mk_size]; exact join_le _ _ hs'
  have HE : Hid ((((⟨#[40, 32]⟩ : ByteArray) ++ mk (joinC 32 (condW (f + 1) d))) ++ ⟨#[32, 111, 114, 32]⟩ ++ mk (joinC 32 (condW (f + 1) g))) ++ ⟨#[32, 41]⟩ = mk (joinC 32 (tO :: (condW (f + 1) d ++ (tOr :: (condW (f + 1) g ++ [tC])))))) := by
    show _ = _
    rw [join_hd _ _ (by simp), join_app _ _ (condW_ne f d) (by simp), join_hd _ _ (by simp), join_app _ _ (condW_ne f g) (by simp), joinC_one]
    refine (cat5 [40, 32] _ [32, 111, 114, 32] _ [32, 41]).trans ?_
    simp [tO, tC, tOr]
  clear hx hx' hkk hok hkk' hok' hb hK IH hs hd hs' hg hcc hcc'
  generalize mk (joinC 32 (tO :: (condW (f + 1) d ++ (tOr :: (condW (f + 1) g ++ [tC]))))) = OUT at *
  generalize mk (joinC 32 (condW (f + 1) d)) = T at *
  generalize mk (joinC 32 (condW (f + 1) g)) = T2 at *
  go_enter Tryz.func37, Tryz.ntmps37
  go_upto_region 19 with fail
  generalize w.alloc (.cells #[.int .i64 8, .string (mk lo), .string (mk hi), .int .i64 n, .slice (some ⟨b, o, none⟩) 2 k] 32) = W0 at *
  generalize hq : w.heap.size = q at *
  have HD := Lib.hid (Below.drew (Below.refl W0.heap.size W0))
  clear x0 x1 x2 x3 x4
  refine Ri.wp_region_lasting (by kernel_rfl) (by kernel_rfl) (by kernel_rfl) (fun Wx => Below W0.heap.size W0 Wx) (fun kz vs wz => (fun kx vx _ => match kx with | 0 => vx = Value.pointer (some ⟨q, 4, none⟩) | 1 => vx = Value.slice (some ⟨b, o, none⟩) 2 k | 2 => vx = Value.pointer (some ⟨b, o, none⟩) | 3 => vx = Value.agg #[Value.int IntKind.i64 d.kind, Value.string (mk d.lo), Value.string (mk d.hi), Value.int IntKind.i64 d.n, Value.slice ma d.kids.length mc] | 4 => vx = Value.string T | 5 => vx = Value.string (⟨#[40, 32]⟩ ++ T) | 6 => vx = Value.string ⟨#[32, 111, 114, 32]⟩ | 7 => vx = Value.string (⟨#[40, 32]⟩ ++ T ++ ⟨#[32, 111, 114, 32]⟩) | 8 => vx = Value.pointer (some ⟨q, 4, none⟩) | 9 => vx = Value.slice (some ⟨b, o, none⟩) 2 k | 10 => vx = Value.pointer (some ⟨b, o + 5, none⟩) | 11 => vx = Value.agg #[Value.int IntKind.i64 g.kind, Value.string (mk g.lo), Value.string (mk g.hi), Value.int IntKind.i64 g.n, Value.slice na g.kids.length nc] | 12 => vx = Value.string T2 | 13 => vx = Value.string (⟨#[40, 32]⟩ ++ T ++ ⟨#[32, 111, 114, 32]⟩ ++ T2) | 14 => vx = Value.string (⟨#[40, 32]⟩ ++ T ++ ⟨#[32, 111, 114, 32]⟩ ++ T2 ++ ⟨#[32, 41]⟩) | 15 => vx = Value.string (⟨#[40, 32]⟩ ++ T ++ ⟨#[32, 111, 114, 32]⟩ ++ T2 ++ ⟨#[32, 41]⟩) | _ => True : Nat → Value → World → Prop) kz (vs kz) wz) (fun kz => [kz]) (by kernel_rfl) (fun jz vs iz vz wz hiz hz => Ri.loc_own (F := (fun kx vx _ => match kx with | 0 => vx = Value.pointer (some ⟨q, 4, none⟩) | 1 => vx = Value.slice (some ⟨b, o, none⟩) 2 k | 2 => vx = Value.pointer (some ⟨b, o, none⟩) | 3 => vx = Value.agg #[Value.int IntKind.i64 d.kind, Value.string (mk d.lo), Value.string (mk d.hi), Value.int IntKind.i64 d.n, Value.slice ma d.kids.length mc] | 4 => vx = Value.string T | 5 => vx = Value.string (⟨#[40, 32]⟩ ++ T) | 6 => vx = Value.string ⟨#[32, 111, 114, 32]⟩ | 7 => vx = Value.string (⟨#[40, 32]⟩ ++ T ++ ⟨#[32, 111, 114, 32]⟩) | 8 => vx = Value.pointer (some ⟨q, 4, none⟩) | 9 => vx = Value.slice (some ⟨b, o, none⟩) 2 k | 10 => vx = Value.pointer (some ⟨b, o + 5, none⟩) | 11 => vx = Value.agg #[Value.int IntKind.i64 g.kind, Value.string (mk g.lo), Value.string (mk g.hi), Value.int IntKind.i64 g.n, Value.slice na g.kids.length nc] | 12 => vx = Value.string T2 | 13 => vx = Value.string (⟨#[40, 32]⟩ ++ T ++ ⟨#[32, 111, 114, 32]⟩ ++ T2) | 14 => vx = Value.string (⟨#[40, 32]⟩ ++ T ++ ⟨#[32, 111, 114, 32]⟩ ++ T2 ++ ⟨#[32, 41]⟩) | 15 => vx = Value.string (⟨#[40, 32]⟩ ++ T ++ ⟨#[32, 111, 114, 32]⟩ ++ T2 ++ ⟨#[32, 41]⟩) | _ => True : Nat → Value → World → Prop)) jz vs iz vz wz hiz hz) HD.out ⟨⟨rfl, ?_⟩, ⟨rfl, ?_⟩, ⟨rfl, ?_⟩, ⟨rfl, ?_⟩, ⟨rfl, ?_⟩, ⟨rfl, ?_⟩, ⟨rfl, ?_⟩, ⟨rfl, ?_⟩, ⟨rfl, ?_⟩, ⟨rfl, ?_⟩, ⟨rfl, ?_⟩, ⟨rfl, ?_⟩, ⟨rfl, ?_⟩, ⟨rfl, ?_⟩, ⟨rfl, ?_⟩, ⟨rfl, ?_⟩, trivial⟩ ?_
  · intro vs Wx A hA hB hpre K hK
    have e1 := (hA 1).trans (show _ = Value.pointer (some ⟨q, 0, none⟩) by kernel_rfl)
    clear hA
    go_simp
    first | exact hK _ _ hB rfl (fun _ _ h => h) | (rw [if_neg (by omega)]; go_simp; exact hK _ _ hB rfl (fun _ _ h => h))
  · intro vs Wx A hA hB hpre K hK
    have e47 := ((hA 47).trans (show _ = vs 0 by kernel_rfl)).trans (by first | exact hpre.1 rfl | exact hpre.2.1 rfl | exact hpre.2.2.1 rfl | exact hpre.2.2.2.1 rfl | exact hpre.2.2.2.2.1 rfl | exact hpre.2.2.2.2.2.1 rfl | exact hpre.2.2.2.2.2.2.1 rfl | exact hpre.2.2.2.2.2.2.2.1 rfl | exact hpre.2.2.2.2.2.2.2.2.1 rfl | exact hpre.2.2.2.2.2.2.2.2.2.1 rfl)
    obtain ⟨⟨⟨y0, y1, y2, y3, y4⟩, ⟨v0, v1, v2, v3, v4⟩⟩, y5⟩ := HCX.out Wx hB
    clear hA hpre
    go_simp
    first | exact hK _ _ hB rfl (fun _ _ h => h) | (rw [if_neg (by omega)]; go_simp; exact hK _ _ hB rfl (fun _ _ h => h))
  · intro vs Wx A hA hB hpre K hK
    have e48 := ((hA 48).trans (show _ = vs 1 by kernel_rfl)).trans (by first | exact hpre.1 rfl | exact hpre.2.1 rfl | exact hpre.2.2.1 rfl | exact hpre.2.2.2.1 rfl | exact hpre.2.2.2.2.1 rfl | exact hpre.2.2.2.2.2.1 rfl | exact hpre.2.2.2.2.2.2.1 rfl | exact hpre.2.2.2.2.2.2.2.1 rfl | exact hpre.2.2.2.2.2.2.2.2.1 rfl | exact hpre.2.2.2.2.2.2.2.2.2.1 rfl)
    clear hA hpre
    go_simp
    first | exact hK _ _ hB rfl (fun _ _ h => h) | (rw [if_neg (by omega)]; go_simp; exact hK _ _ hB rfl (fun _ _ h => h))
  · intro vs Wx A hA hB hpre K hK
    have e49 := ((hA 49).trans (show _ = vs 2 by kernel_rfl)).trans (by first | exact hpre.1 rfl | exact hpre.2.1 rfl | exact hpre.2.2.1 rfl | exact hpre.2.2.2.1 rfl | exact hpre.2.2.2.2.1 rfl | exact hpre.2.2.2.2.2.1 rfl | exact hpre.2.2.2.2.2.2.1 rfl | exact hpre.2.2.2.2.2.2.2.1 rfl | exact hpre.2.2.2.2.2.2.2.2.1 rfl | exact hpre.2.2.2.2.2.2.2.2.2.1 rfl)
    obtain ⟨⟨⟨y0, y1, y2, y3, y4⟩, ⟨v0, v1, v2, v3, v4⟩⟩, y5⟩ := HCX.out Wx hB
    clear hA hpre
    go_simp
    first | exact hK _ _ hB rfl (fun _ _ h => h) | (rw [if_neg (by omega)]; go_simp; exact hK _ _ hB rfl (fun _ _ h => h))
  · intro vs Wx A hA hB hpre K hK
    have e50 := ((hA 50).trans (show _ = vs 3 by kernel_rfl)).trans (by first | exact hpre.1 rfl | exact hpre.2.1 rfl | exact hpre.2.2.1 rfl | exact hpre.2.2.2.1 rfl | exact hpre.2.2.2.2.1 rfl | exact hpre.2.2.2.2.2.1 rfl | exact hpre.2.2.2.2.2.2.1 rfl | exact hpre.2.2.2.2.2.2.2.1 rfl | exact hpre.2.2.2.2.2.2.2.2.1 rfl | exact hpre.2.2.2.2.2.2.2.2.2.1 rfl)
    clear hA hpre
    go_simp
    refine (HC.out Wx hB).mono ?_
    rintro e w1 ⟨rfl, hb⟩
    exact hK _ _ (below_trans hB hb) rfl (fun _ _ h => h)
  · intro vs Wx A hA hB hpre K hK
    have e51 := ((hA 51).trans (show _ = vs 4 by kernel_rfl)).trans (by first | exact hpre.1 rfl | exact hpre.2.1 rfl | exact hpre.2.2.1 rfl | exact hpre.2.2.2.1 rfl | exact hpre.2.2.2.2.1 rfl | exact hpre.2.2.2.2.2.1 rfl | exact hpre.2.2.2.2.2.2.1 rfl | exact hpre.2.2.2.2.2.2.2.1 rfl | exact hpre.2.2.2.2.2.2.2.2.1 rfl | exact hpre.2.2.2.2.2.2.2.2.2.1 rfl)
    clear hA hpre
    go_simp
    first | exact hK _ _ hB rfl (fun _ _ h => h) | (rw [if_neg (by omega)]; go_simp; exact hK _ _ hB rfl (fun _ _ h => h))
  · intro vs Wx A hA hB hpre K hK
    have e3 := (hA 3).trans (show _ = Value.string ⟨#[32, 111, 114, 32]⟩ by kernel_rfl)
    clear hA
    go_simp
    first | exact hK _ _ hB rfl (fun _ _ h => h) | (rw [if_neg (by omega)]; go_simp; exact hK _ _ hB rfl (fun _ _ h => h))
  · intro vs Wx A hA hB hpre K hK
    have e52 := ((hA 52).trans (show _ = vs 5 by kernel_rfl)).trans (by first | exact hpre.1 rfl | exact hpre.2.1 rfl | exact hpre.2.2.1 rfl | exact hpre.2.2.2.1 rfl | exact hpre.2.2.2.2.1 rfl | exact hpre.2.2.2.2.2.1 rfl | exact hpre.2.2.2.2.2.2.1 rfl | exact hpre.2.2.2.2.2.2.2.1 rfl | exact hpre.2.2.2.2.2.2.2.2.1 rfl | exact hpre.2.2.2.2.2.2.2.2.2.1 rfl)
    have e53 := ((hA 53).trans (show _ = vs 6 by kernel_rfl)).trans (by first | exact hpre.1 rfl | exact hpre.2.1 rfl | exact hpre.2.2.1 rfl | exact hpre.2.2.2.1 rfl | exact hpre.2.2.2.2.1 rfl | exact hpre.2.2.2.2.2.1 rfl | exact hpre.2.2.2.2.2.2.1 rfl | exact hpre.2.2.2.2.2.2.2.1 rfl | exact hpre.2.2.2.2.2.2.2.2.1 rfl | exact hpre.2.2.2.2.2.2.2.2.2.1 rfl)
    clear hA hpre
    go_simp
    first | exact hK _ _ hB rfl (fun _ _ h => h) | (rw [if_neg (by omega)]; go_simp; exact hK _ _ hB rfl (fun _ _ h => h))
  · intro vs Wx A hA hB hpre K hK
    have e1 := (hA 1).trans (show _ = Value.pointer (some ⟨q, 0, none⟩) by kernel_rfl)
    clear hA
    go_simp
    first | exact hK _ _ hB rfl (fun _ _ h => h) | (rw [if_neg (by omega)]; go_simp; exact hK _ _ hB rfl (fun _ _ h => h))
  · intro vs Wx A hA hB hpre K hK
    have e55 := ((hA 55).trans (show _ = vs 8 by kernel_rfl)).trans (by first | exact hpre.1 rfl | exact hpre.2.1 rfl | exact hpre.2.2.1 rfl | exact hpre.2.2.2.1 rfl | exact hpre.2.2.2.2.1 rfl | exact hpre.2.2.2.2.2.1 rfl | exact hpre.2.2.2.2.2.2.1 rfl | exact hpre.2.2.2.2.2.2.2.1 rfl | exact hpre.2.2.2.2.2.2.2.2.1 rfl | exact hpre.2.2.2.2.2.2.2.2.2.1 rfl)
    obtain ⟨⟨⟨y0, y1, y2, y3, y4⟩, ⟨v0, v1, v2, v3, v4⟩⟩, y5⟩ := HCX.out Wx hB
    clear hA hpre
    go_simp
    first | exact hK _ _ hB rfl (fun _ _ h => h) | (rw [if_neg (by omega)]; go_simp; exact hK _ _ hB rfl (fun _ _ h => h))
  · intro vs Wx A hA hB hpre K hK
    have e56 := ((hA 56).trans (show _ = vs 9 by kernel_rfl)).trans (by first | exact hpre.1 rfl | exact hpre.2.1 rfl | exact hpre.2.2.1 rfl | exact hpre.2.2.2.1 rfl | exact hpre.2.2.2.2.1 rfl | exact hpre.2.2.2.2.2.1 rfl | exact hpre.2.2.2.2.2.2.1 rfl | exact hpre.2.2.2.2.2.2.2.1 rfl | exact hpre.2.2.2.2.2.2.2.2.1 rfl | exact hpre.2.2.2.2.2.2.2.2.2.1 rfl)
    clear hA hpre
    go_simp
    first | exact hK _ _ hB rfl (fun _ _ h => h) | (rw [if_neg (by omega)]; go_simp; exact hK _ _ hB rfl (fun _ _ h => h))
  · intro vs Wx A hA hB hpre K hK
    have e57 := ((hA 57).trans (show _ = vs 10 by kernel_rfl)).trans (by first | exact hpre.1 rfl | exact hpre.2.1 rfl | exact hpre.2.2.1 rfl | exact hpre.2.2.2.1 rfl | exact hpre.2.2.2.2.1 rfl | exact hpre.2.2.2.2.2.1 rfl | exact hpre.2.2.2.2.2.2.1 rfl | exact hpre.2.2.2.2.2.2.2.1 rfl | exact hpre.2.2.2.2.2.2.2.2.1 rfl | exact hpre.2.2.2.2.2.2.2.2.2.1 rfl)
    obtain ⟨⟨⟨y0, y1, y2, y3, y4⟩, ⟨v0, v1, v2, v3, v4⟩⟩, y5⟩ := HCX.out Wx hB
    clear hA hpre
    go_simp
    first | exact hK _ _ hB rfl (fun _ _ h => h) | (rw [if_neg (by omega)]; go_simp; exact hK _ _ hB rfl (fun _ _ h => h))
  · intro vs Wx A hA hB hpre K hK
    have e58 := ((hA 58).trans (show _ = vs 11 by kernel_rfl)).trans (by first | exact hpre.1 rfl | exact hpre.2.1 rfl | exact hpre.2.2.1 rfl | exact hpre.2.2.2.1 rfl | exact hpre.2.2.2.2.1 rfl | exact hpre.2.2.2.2.2.1 rfl | exact hpre.2.2.2.2.2.2.1 rfl | exact hpre.2.2.2.2.2.2.2.1 rfl | exact hpre.2.2.2.2.2.2.2.2.1 rfl | exact hpre.2.2.2.2.2.2.2.2.2.1 rfl)
    clear hA hpre
    go_simp
    refine (HC2.out Wx hB).mono ?_
    rintro e w1 ⟨rfl, hb⟩
    exact hK _ _ (below_trans hB hb) rfl (fun _ _ h => h)
  · intro vs Wx A hA hB hpre K hK
    have e54 := ((hA 54).trans (show _ = vs 7 by kernel_rfl)).trans (by first | exact hpre.1 rfl | exact hpre.2.1 rfl | exact hpre.2.2.1 rfl | exact hpre.2.2.2.1 rfl | exact hpre.2.2.2.2.1 rfl | exact hpre.2.2.2.2.2.1 rfl | exact hpre.2.2.2.2.2.2.1 rfl | exact hpre.2.2.2.2.2.2.2.1 rfl | exact hpre.2.2.2.2.2.2.2.2.1 rfl | exact hpre.2.2.2.2.2.2.2.2.2.1 rfl)
    have e59 := ((hA 59).trans (show _ = vs 12 by kernel_rfl)).trans (by first | exact hpre.1 rfl | exact hpre.2.1 rfl | exact hpre.2.2.1 rfl | exact hpre.2.2.2.1 rfl | exact hpre.2.2.2.2.1 rfl | exact hpre.2.2.2.2.2.1 rfl | exact hpre.2.2.2.2.2.2.1 rfl | exact hpre.2.2.2.2.2.2.2.1 rfl | exact hpre.2.2.2.2.2.2.2.2.1 rfl | exact hpre.2.2.2.2.2.2.2.2.2.1 rfl)
    clear hA hpre
    go_simp
    first | exact hK _ _ hB rfl (fun _ _ h => h) | (rw [if_neg (by omega)]; go_simp; exact hK _ _ hB rfl (fun _ _ h => h))
  · intro vs Wx A hA hB hpre K hK
    have e60 := ((hA 60).trans (show _ = vs 13 by kernel_rfl)).trans (by first | exact hpre.1 rfl | exact hpre.2.1 rfl | exact hpre.2.2.1 rfl | exact hpre.2.2.2.1 rfl | exact hpre.2.2.2.2.1 rfl | exact hpre.2.2.2.2.2.1 rfl | exact hpre.2.2.2.2.2.2.1 rfl | exact hpre.2.2.2.2.2.2.2.1 rfl | exact hpre.2.2.2.2.2.2.2.2.1 rfl | exact hpre.2.2.2.2.2.2.2.2.2.1 rfl)
    clear hA hpre
    go_simp
    first | exact hK _ _ hB rfl (fun _ _ h => h) | (rw [if_neg (by omega)]; go_simp; exact hK _ _ hB rfl (fun _ _ h => h))
  · intro vs Wx A hA hB hpre K hK
    have e61 := ((hA 61).trans (show _ = vs 14 by kernel_rfl)).trans (by first | exact hpre.1 rfl | exact hpre.2.1 rfl | exact hpre.2.2.1 rfl | exact hpre.2.2.2.1 rfl | exact hpre.2.2.2.2.1 rfl | exact hpre.2.2.2.2.2.1 rfl | exact hpre.2.2.2.2.2.2.1 rfl | exact hpre.2.2.2.2.2.2.2.1 rfl | exact hpre.2.2.2.2.2.2.2.2.1 rfl | exact hpre.2.2.2.2.2.2.2.2.2.1 rfl)
    clear hA hpre
    go_simp
    first | exact hK _ _ hB rfl (fun _ _ h => h) | (rw [if_neg (by omega)]; go_simp; exact hK _ _ hB rfl (fun _ _ h => h))
  · intro vs Wx hB hF
    have h15 : vs 15 = Value.string (⟨#[40, 32]⟩ ++ T ++ ⟨#[32, 111, 114, 32]⟩ ++ T2 ++ ⟨#[32, 41]⟩) := hF 15 (by decide)
    have HBW := Lib.hid hB
    clear hF hB
    simp only [Ri.puts]
    go_simp
    go_wp2_with fail
    go_ret
    exact ⟨by rw [← HE.out, ← h15]; rfl, by first | exact below_tr hq HB.out HBW.out | (rw [hq]; exact below_tr hq HB.out HBW.out)⟩
/-- A condition's words, with blanks between. -/
theorem rc_any : ∀ (f : Nat) (c : Cd) (m : Value) (w : World), condB f c = true → szW (condW f c) ≤ 65536 → KsAt All w m c.kids → Ok1 c → RcV c m w (joinC 32 (condW f c))
  | 0, c, m, w, h, _, _, _ => by cases h
  | f + 1, .mk k lo hi n ks, m, w, h, hsz, hK, hok => by
    have h0 := h
    rw [condB_eq] at h
    simp only [Bool.and_eq_true, List.all_eq_true, decide_eq_true_eq] at h
    obtain ⟨hlen, hall, hleaf⟩ := h
    have hk08 : 0 ≤ k ∧ k ≤ 8 := by
      unfold leafB at hleaf
      simp only [Bool.and_eq_true, decide_eq_true_eq] at hleaf
      exact hleaf.1
    have hn : Cm.I64 n := hok.2.1
    have hlen' : ks.length = kidN k := hlen
    have hK' : KsAt All w m ks := hK
    have hall' : ∀ x ∈ ks, condB f x = true := hall
    have hk : k = 0 ∨ k = 1 ∨ k = 2 ∨ k = 3 ∨ k = 4 ∨ k = 5 ∨ k = 6 ∨ k = 7 ∨ k = 8 := by omega
    rcases hk with rfl | rfl | rfl | rfl | rfl | rfl | rfl | rfl | rfl
    · obtain rfl : ks = [] := List.length_eq_zero_iff.1 hlen'
      exact rc_0 lo hi n m w
    · obtain rfl : ks = [] := List.length_eq_zero_iff.1 hlen'
      exact rc_1 lo hi n m w (Nat.le_trans (mem_sz _ lo (by simp [condW])) hsz) (Nat.le_trans (mem_sz _ hi (by simp [condW])) hsz)
    · obtain rfl : ks = [] := List.length_eq_zero_iff.1 hlen'
      exact rc_2 lo hi n m w (Nat.le_trans (mem_sz _ lo (by simp [condW])) hsz)
    · obtain rfl : ks = [] := List.length_eq_zero_iff.1 hlen'
      exact rc_3 lo hi n m w hn (Nat.le_trans (mem_sz _ (Lib.itoa n) (by simp [condW])) hsz)
    · obtain rfl : ks = [] := List.length_eq_zero_iff.1 hlen'
      exact rc_4 lo hi n m w hn (Nat.le_trans (mem_sz _ (Nu.moneyL n) (by simp [condW])) hsz)
    · obtain rfl : ks = [] := List.length_eq_zero_iff.1 hlen'
      exact rc_5 lo hi n m w
    · match ks, hlen' with
      | [d], _ =>
        have hd := hall' d (by simp)
        cases f with
        | zero => cases hd
        | succ f =>
          have e : condW (f + 1 + 1) (.mk 6 lo hi n [d]) = tNot :: condW (f + 1) d := rfl
          rw [e] at hsz ⊢
          rw [sz_cons] at hsz
          exact rc_6 f (rc_any (f + 1)) lo hi n d m w hd (by omega) hK'
    · match ks, hlen' with
      | [d, g], _ =>
        have hd := hall' d (by simp)
        have hg := hall' g (by simp)
        cases f with
        | zero => cases hd
        | succ f =>
          have e : condW (f + 1 + 1) (.mk 7 lo hi n [d, g]) = tO :: (condW (f + 1) d ++ (tAnd :: (condW (f + 1) g ++ [tC]))) := rfl
          rw [e] at hsz ⊢
          rw [sz_cons, sz_app, sz_cons, sz_app] at hsz
          exact rc_7 f (rc_any (f + 1)) lo hi n d g m w hd hg (by omega) (by omega) hK'
    · match ks, hlen' with
      | [d, g], _ =>
        have hd := hall' d (by simp)
        have hg := hall' g (by simp)
        cases f with
        | zero => cases hd
        | succ f =>
          have e : condW (f + 1 + 1) (.mk 8 lo hi n [d, g]) = tO :: (condW (f + 1) d ++ (tOr :: (condW (f + 1) g ++ [tC]))) := rfl
          rw [e] at hsz ⊢
          rw [sz_cons, sz_app, sz_cons, sz_app] at hsz
          exact rc_8 f (rc_any (f + 1)) lo hi n d g m w hd hg (by omega) (by omega) hK'
end Go.Proofs.YtoibhgoaibjopaaGreatDoor.Pl
end
