/-
  Texts put together (merge.py): PWs, PWu.
-/
import Derived.Test.YtoibhgoaibjopaaGreatDoorMj21
import Derived.Test.YtoibhgoaibjopaaGreatDoorMj13
/-
  What the writer's set and head do, as contracts.
-/
section
set_option linter.unusedSimpArgs false
set_option linter.unusedVariables false
set_option maxRecDepth 100000
namespace Go.Proofs.YtoibhgoaibjopaaGreatDoor.Pl
open Go.RowKit
open Wo (Wd WdsAt box_cell box_two keepB heap_far)

theorem yes_any (n : Int) (h0 : 0 ≤ n) (h1 : n ≤ 1) (w : World) :
    Calls Tryz.prog 56 #[.int .i64 n] w fun e w' => e = .returned (.string (mk (yesW n))) ∧ w' = w := by
  obtain rfl | rfl : n = 0 ∨ n = 1 := by omega
  · go_enter Tryz.func56, Tryz.ntmps56
    go_wp2
    go_ret
    exact ⟨rfl, rfl⟩
  · go_enter Tryz.func56, Tryz.ntmps56
    go_wp2
    go_ret
    exact ⟨rfl, rfl⟩
set_option maxHeartbeats 8000000 in
theorem ws_set1 (q : Nat) (ws : List Tx) (w : World) (h : WrAt q ws w) (hT : TabQ q w) (n : Int) (hn1 : 0 ≤ n) (hn2 : n ≤ 1) (hsz : szW ws + szW [tCover, yesW n] ≤ 65537) :
    Calls Tryz.prog 33 #[.pointer (some ⟨q, 0, none⟩), .agg #[.int .i64 1, .int .i64 n]] w fun e w' => DN q (ws ++ [tCover, yesW n]) w e w' := by
  have hq := h.lt
  have hb0 := below_alloc w (.cells #[.int .i64 1, .int .i64 n] 66)
  have HW0 := Lib.hid (h.grw hb0)
  have HK0 := Lib.hid (KeptW.of hb0 hq)
  have HT0 := Lib.hid (hT.kept (hb0.mono (Nat.le_of_lt hq)))
  have HB0 := Lib.hid (heap_alloc_new w (.cells #[.int .i64 1, .int .i64 n] 66))
  obtain ⟨x0, x1, -, -⟩ := box_two HB0.out
  have HI : Hid (∀ W, Nu.Tab W → Calls Tryz.prog 56 #[.int .i64 n] W fun e w' => e = .returned (.string (mk (yesW n))) ∧ Below W.heap.size W w') := fun W _ => (yes_any n hn1 hn2 W).mono fun _ _ ⟨a, b⟩ => ⟨a, by rw [b]; exact Below.refl _ _⟩
  generalize yesW n = t at *
  clear h hb0 hT
  go_enter Tryz.func33, Tryz.ntmps33
  go_upto_region 1 with fail
  generalize w.alloc (.cells #[.int .i64 1, .int .i64 n] 66) = W0 at *
  generalize w.heap.size = p0 at *
  go_wp2_with fail
  go_at_call 56
  refine (HI.out W0 HT0.out.1).mono ?_
  rintro e w1 ⟨rfl, hb1⟩
  have HW1 := Lib.hid (HW0.out.grw hb1)
  have HK1 := Lib.hid (HK0.out.trans (KeptW.of hb1 HW0.out.lt))
  clear hb1
  go_wp2_with fail
  go_at_call 29
  refine (add2 q ws tCover t w1 HW1.out hsz).mono ?_
  rintro e w2 ⟨rfl, h1, h2⟩
  have H1 := Lib.hid h1
  have H2 := Lib.hid (HK1.out.trans h2)
  clear h1 h2
  go_wp2
  go_end0
  exact ⟨rfl, H1.out, H2.out⟩
set_option maxHeartbeats 8000000 in
theorem ws_set2 (q : Nat) (ws : List Tx) (w : World) (h : WrAt q ws w) (hT : TabQ q w) (n : Int) (hn1 : 0 ≤ n) (hn2 : n ≤ 1) (hsz : szW ws + szW [tDed, yesW n] ≤ 65537) :
    Calls Tryz.prog 33 #[.pointer (some ⟨q, 0, none⟩), .agg #[.int .i64 2, .int .i64 n]] w fun e w' => DN q (ws ++ [tDed, yesW n]) w e w' := by
  have hq := h.lt
  have hb0 := below_alloc w (.cells #[.int .i64 2, .int .i64 n] 66)
  have HW0 := Lib.hid (h.grw hb0)
  have HK0 := Lib.hid (KeptW.of hb0 hq)
  have HT0 := Lib.hid (hT.kept (hb0.mono (Nat.le_of_lt hq)))
  have HB0 := Lib.hid (heap_alloc_new w (.cells #[.int .i64 2, .int .i64 n] 66))
  obtain ⟨x0, x1, -, -⟩ := box_two HB0.out
  have HI : Hid (∀ W, Nu.Tab W → Calls Tryz.prog 56 #[.int .i64 n] W fun e w' => e = .returned (.string (mk (yesW n))) ∧ Below W.heap.size W w') := fun W _ => (yes_any n hn1 hn2 W).mono fun _ _ ⟨a, b⟩ => ⟨a, by rw [b]; exact Below.refl _ _⟩
  generalize yesW n = t at *
  clear h hb0 hT
  go_enter Tryz.func33, Tryz.ntmps33
  go_upto_region 1 with fail
  generalize w.alloc (.cells #[.int .i64 2, .int .i64 n] 66) = W0 at *
  generalize w.heap.size = p0 at *
  go_wp2_with fail
  go_at_call 56
  refine (HI.out W0 HT0.out.1).mono ?_
  rintro e w1 ⟨rfl, hb1⟩
  have HW1 := Lib.hid (HW0.out.grw hb1)
  have HK1 := Lib.hid (HK0.out.trans (KeptW.of hb1 HW0.out.lt))
  clear hb1
  go_wp2_with fail
  go_at_call 29
  refine (add2 q ws tDed t w1 HW1.out hsz).mono ?_
  rintro e w2 ⟨rfl, h1, h2⟩
  have H1 := Lib.hid h1
  have H2 := Lib.hid (HK1.out.trans h2)
  clear h1 h2
  go_wp2
  go_end0
  exact ⟨rfl, H1.out, H2.out⟩
set_option maxHeartbeats 8000000 in
theorem ws_set3 (q : Nat) (ws : List Tx) (w : World) (h : WrAt q ws w) (hT : TabQ q w) (n : Int) (hn1 : -9223372036854775808 ≤ n) (hn2 : n ≤ 9223372036854775807) (hsz : szW ws + szW [tCopay, Nu.moneyL n] ≤ 65537) :
    Calls Tryz.prog 33 #[.pointer (some ⟨q, 0, none⟩), .agg #[.int .i64 3, .int .i64 n]] w fun e w' => DN q (ws ++ [tCopay, Nu.moneyL n]) w e w' := by
  have hq := h.lt
  have hb0 := below_alloc w (.cells #[.int .i64 3, .int .i64 n] 66)
  have HW0 := Lib.hid (h.grw hb0)
  have HK0 := Lib.hid (KeptW.of hb0 hq)
  have HT0 := Lib.hid (hT.kept (hb0.mono (Nat.le_of_lt hq)))
  have HB0 := Lib.hid (heap_alloc_new w (.cells #[.int .i64 3, .int .i64 n] 66))
  obtain ⟨x0, x1, -, -⟩ := box_two HB0.out
  have HI : Hid (∀ W, Nu.Tab W → Calls Tryz.prog 30 #[.int .i64 n] W fun e w' => e = .returned (.string (mk (Nu.moneyL n))) ∧ Below W.heap.size W w') := fun W hW => Nu.money_any n hn1 hn2 W hW
  generalize Nu.moneyL n = t at *
  clear h hb0 hT
  go_enter Tryz.func33, Tryz.ntmps33
  go_upto_region 1 with fail
  generalize w.alloc (.cells #[.int .i64 3, .int .i64 n] 66) = W0 at *
  generalize w.heap.size = p0 at *
  go_wp2_with fail
  go_at_call 30
  refine (HI.out W0 HT0.out.1).mono ?_
  rintro e w1 ⟨rfl, hb1⟩
  have HW1 := Lib.hid (HW0.out.grw hb1)
  have HK1 := Lib.hid (HK0.out.trans (KeptW.of hb1 HW0.out.lt))
  clear hb1
  go_wp2_with fail
  go_at_call 29
  refine (add2 q ws tCopay t w1 HW1.out hsz).mono ?_
  rintro e w2 ⟨rfl, h1, h2⟩
  have H1 := Lib.hid h1
  have H2 := Lib.hid (HK1.out.trans h2)
  clear h1 h2
  go_wp2
  go_end0
  exact ⟨rfl, H1.out, H2.out⟩
set_option maxHeartbeats 8000000 in
theorem ws_set4 (q : Nat) (ws : List Tx) (w : World) (h : WrAt q ws w) (hT : TabQ q w) (n : Int) (hn1 : -9223372036854775808 ≤ n) (hn2 : n ≤ 9223372036854775807) (hsz : szW ws + szW [tCoins, Lib.itoa n] ≤ 65537) :
    Calls Tryz.prog 33 #[.pointer (some ⟨q, 0, none⟩), .agg #[.int .i64 4, .int .i64 n]] w fun e w' => DN q (ws ++ [tCoins, Lib.itoa n]) w e w' := by
  have hq := h.lt
  have hb0 := below_alloc w (.cells #[.int .i64 4, .int .i64 n] 66)
  have HW0 := Lib.hid (h.grw hb0)
  have HK0 := Lib.hid (KeptW.of hb0 hq)
  have HT0 := Lib.hid (hT.kept (hb0.mono (Nat.le_of_lt hq)))
  have HB0 := Lib.hid (heap_alloc_new w (.cells #[.int .i64 4, .int .i64 n] 66))
  obtain ⟨x0, x1, -, -⟩ := box_two HB0.out
  have HI : Hid (∀ W, Nu.Tab W → Calls Tryz.prog 31 #[.int .i64 n] W fun e w' => e = .returned (.string (mk (Lib.itoa n))) ∧ Below W.heap.size W w') := fun W hW => Nu.int_any n hn1 hn2 W hW
  generalize Lib.itoa n = t at *
  clear h hb0 hT
  go_enter Tryz.func33, Tryz.ntmps33
  go_upto_region 1 with fail
  generalize w.alloc (.cells #[.int .i64 4, .int .i64 n] 66) = W0 at *
  generalize w.heap.size = p0 at *
  go_wp2_with fail
  go_at_call 31
  refine (HI.out W0 HT0.out.1).mono ?_
  rintro e w1 ⟨rfl, hb1⟩
  have HW1 := Lib.hid (HW0.out.grw hb1)
  have HK1 := Lib.hid (HK0.out.trans (KeptW.of hb1 HW0.out.lt))
  clear hb1
  go_wp2_with fail
  go_at_call 29
  refine (add2 q ws tCoins t w1 HW1.out hsz).mono ?_
  rintro e w2 ⟨rfl, h1, h2⟩
  have H1 := Lib.hid h1
  have H2 := Lib.hid (HK1.out.trans h2)
  clear h1 h2
  go_wp2
  go_end0
  exact ⟨rfl, H1.out, H2.out⟩
theorem ws_set (q : Nat) (ws : List Tx) (s : St) (w : World) (h : WrAt q ws w) (hT : TabQ q w) (hs : setB s = true) (hsz : szW ws + szW (setW s) ≤ 65537) :
    Calls Tryz.prog 33 #[.pointer (some ⟨q, 0, none⟩), stv s] w fun e w' => DN q (ws ++ setW s) w e w' := by
  obtain ⟨k, n⟩ := s
  simp only [setB, Bool.and_eq_true, decide_eq_true_eq] at hs
  obtain ⟨h0, hs⟩ := hs
  by_cases h1 : k = 1
  · subst h1
    have hn : n ≤ 1 := by simpa using hs
    exact ws_set1 q ws w h hT n h0 hn hsz
  by_cases h2 : k = 2
  · subst h2
    have hn : n ≤ 1 := by simpa using hs
    exact ws_set2 q ws w h hT n h0 hn hsz
  by_cases h3 : k = 3
  · subst h3
    have hn : goodB n = true := by simpa using hs
    simp only [goodB, Bool.and_eq_true, decide_eq_true_eq] at hn
    exact ws_set3 q ws w h hT n (by omega) (by omega) hsz
  by_cases h4 : k = 4
  · subst h4
    have hn : n ≤ 10000 := by simpa using hs
    exact ws_set4 q ws w h hT n (by omega) (by omega) hsz
  · simp [h1, h2, h3, h4] at hs
end Go.Proofs.YtoibhgoaibjopaaGreatDoor.Pl
end

/-
  What the writer's rule does, as a contract.
-/
section
set_option linter.unusedSimpArgs false
set_option linter.unusedVariables false
set_option maxRecDepth 100000
namespace Go.Proofs.YtoibhgoaibjopaaGreatDoor.Pl
open Go.RowKit
open Wo (Wd WdsAt box_cell box_two keepB heap_far)

theorem StsAt.lowq {q : Nat} {w w' : World} {v : Value} {ks : List St} (h : StsAt (fun b => b < q) w v ks) (hb : Below q w w') : StsAt (fun b => b < q) w' v ks := h.move (Below.moves_lo hb)
theorem RusAt.lowq {q : Nat} {w w' : World} {v : Value} {ks : List Ru} (h : RusAt (fun b => b < q) w v ks) (hb : Below q w w') : RusAt (fun b => b < q) w' v ks := h.move (Below.moves_lo hb)
def unlU (l : List Cd) : List Tx := l.flatMap fun c => tUnl :: condW 16 c
theorem unlU_eq (l : List Cd) (h : l.length ≤ 1) : unlU l = unlW l := by
  match l, h with
  | [], _ => rfl
  | [c], _ => simp [unlU, unlW]
theorem unlU_take (l : List Cd) (n : Nat) (c : Cd) (h : l[n]? = some c) : unlU (l.take (n + 1)) = unlU (l.take n) ++ (tUnl :: condW 16 c) := by
  rw [List.take_add_one, h]; simp [unlU]
theorem setsW_take (l : List St) (n : Nat) (c : St) (h : l[n]? = some c) : setsW (l.take (n + 1)) = setsW (l.take n) ++ setW c := by
  rw [List.take_add_one, h]; simp [setsW]
theorem unlU_le (l : List Cd) (n : Nat) : szW (unlU (l.take n)) ≤ szW (unlU l) := by
  conv => rhs; rw [← List.take_append_drop n l]
  simp only [unlU, List.flatMap_append, sz_app]; omega
theorem setsW_le (l : List St) (n : Nat) : szW (setsW (l.take n)) ≤ szW (setsW l) := by
  conv => rhs; rw [← List.take_append_drop n l]
  simp only [setsW, List.flatMap_append, sz_app]; omega
set_option maxHeartbeats 16000000 in
theorem wr_rule (q : Nat) (ws : List Tx) (r : Ru) (k u s : Value) (w : World) (h : WrAt q ws w) (hT : TabQ q w) (hr : ruleB r = true) (hin : RuIn (fun b => b < q) w r k u s) (hsz : szW ws + szW (ruleW r) ≤ 65537) :
    Calls Tryz.prog 16 #[.pointer (some ⟨q, 0, none⟩), ruv r k u s] w fun e w' => DN q (ws ++ ruleW r) w e w' := by
  have hq := h.lt
  simp only [ruleB, Bool.and_eq_true, decide_eq_true_eq, List.all_eq_true] at hr
  obtain ⟨⟨r0, r1⟩, r2, r3, r4, r5, r6⟩ := hr
  have HSA := Lib.hid (sets_all _ _ r6)
  have HR4 := Lib.hid r4
  have hsum : szW (ruleW r) = szW [tRule, Lib.itoa r.rank, tIf] + (szW (condW 16 r.cif) + (szW (unlU r.unl) + (szW [tSet] + (szW (setsW r.sets) + szW [tEnd])))) := by
    rw [unlU_eq _ r3]
    unfold ruleW
    simp only [sz_cons, sz_app, sz_nil]; omega
  have HRW : Hid (ruleW r = [tRule, Lib.itoa r.rank, tIf] ++ (condW 16 r.cif ++ (unlU r.unl ++ ([tSet] ++ (setsW r.sets ++ [tEnd]))))) := by
    show _ = _
    rw [unlU_eq _ r3]; rfl
  rw [hsum] at hsz
  clear hsum
  obtain ⟨h64, hok, hul, hk, hu, hs⟩ := hin
  have hul2 : r.unl.length ≤ 281474976710656 := hul
  have hb0 := below_alloc w (.cells #[.int .i64 r.rank, .int .i64 r.cif.kind, .string (mk r.cif.lo), .string (mk r.cif.hi), .int .i64 r.cif.n, k, u, s] 35)
  have hbq := hb0.mono (Nat.le_of_lt hq)
  have HW0 := Lib.hid (h.grw hb0)
  have HK0 := Lib.hid (KeptW.of hb0 hq)
  have HT0 := Lib.hid (hT.kept hbq)
  have HB0 := Lib.hid (heap_alloc_new w (.cells #[.int .i64 r.rank, .int .i64 r.cif.kind, .string (mk r.cif.lo), .string (mk r.cif.hi), .int .i64 r.cif.n, k, u, s] 35))
  have HKI := Lib.hid (hk.lowq hbq)
  have HKU := Lib.hid (hu.lowq hbq)
  have HKS := Lib.hid (hs.lowq hbq)
  obtain ⟨ka, kc, rfl, -, -⟩ := hk.form
  obtain ⟨ua, uc, rfl, hu1, hu2⟩ := hu.form
  obtain ⟨sa, sc, rfl, hs1, hs2, hs3⟩ := hs.form
  have hs3 : r.sets.length ≤ 281474976710656 := hs3
  obtain ⟨x0, x1, x2, x3, x4, x5, x6, x7⟩ := beight HB0.out
  have HI : Hid (∀ W, Nu.Tab W → Calls Tryz.prog 31 #[.int .i64 r.rank] W fun e w' => e = .returned (.string (mk (Lib.itoa r.rank))) ∧ Below W.heap.size W w') := fun W hW => Nu.int_any r.rank (by omega) (by omega) W hW
  have HC2 := Lib.hid r2
  clear hk hu hs h hT hb0 hbq h64 hok hul r4 r5 r6 r2
  generalize Lib.itoa r.rank = t at *
  go_enter Tryz.func16, Tryz.ntmps16
  go_upto_region 1 with fail
  generalize w.alloc (.cells #[.int .i64 r.rank, .int .i64 r.cif.kind, .string (mk r.cif.lo), .string (mk r.cif.hi), .int .i64 r.cif.n, .slice ka r.cif.kids.length kc, .slice ua r.unl.length uc, .slice sa r.sets.length sc] 35) = W0 at *
  generalize w.heap.size = p0 at *
  go_wp2_with fail
  go_at_call 31
  refine (HI.out W0 HT0.out.1).mono ?_
  rintro e w1 ⟨rfl, hb1⟩
  have hb1q := hb1.mono (Nat.le_of_lt HW0.out.lt)
  have HW1 := Lib.hid (HW0.out.grw hb1)
  have HK1 := Lib.hid (KeptW.of hb1 HW0.out.lt)
  clear hb1 hb1q
  go_wp2_with fail
  go_at_call 29
  refine (add3 q ws tRule t tIf w1 HW1.out (by omega)).mono ?_
  rintro e w2 ⟨rfl, h1, h2⟩
  have hk2 := HK1.out.trans h2
  have HW2 := Lib.hid h1
  have HK2 := Lib.hid (HK0.out.trans hk2)
  have HT2 := Lib.hid (HT0.out.kept hk2.1)
  have HB2 := Lib.hid (box_kept HB0.out hk2 hq (by decide))
  have HKI2 := Lib.hid (HKI.out.lowq hk2.1)
  have HKU2 := Lib.hid (HKU.out.lowq hk2.1)
  have HKS2 := Lib.hid (HKS.out.lowq hk2.1)
  clear h1 h2 hk2 HW1 HK1 HW0 HK0 HT0 HB0 HKI HKU HKS x0 x1 x2 x3 x4 x5 x6 x7 HI
  obtain ⟨x0, x1, x2, x3, x4, x5, x6, x7⟩ := beight HB2.out
  have HC := Lib.hid (wc_any q 16 r.cif _ _ w2 HC2.out HKI2.out HW2.out HT2.out (by rw [sz_app]; omega))
  go_wp2_with fail
  go_at_call 32
  refine HC.out.mono ?_
  rintro e w3 ⟨rfl, h1, h2⟩
  have HW3 := Lib.hid h1
  have HK3 := Lib.hid (HK2.out.trans h2)
  have HT3 := Lib.hid (HT2.out.kept h2.1)
  have HB3 := Lib.hid (box_kept HB2.out h2 hq (by decide))
  have HKU3 := Lib.hid (HKU2.out.lowq h2.1)
  have HKS3 := Lib.hid (HKS2.out.lowq h2.1)
  clear h1 h2 HW2 HK2 HT2 HB2 HKI2 HKU2 HKS2 x0 x1 x2 x3 x4 x5 x6 x7 HC HC2
  obtain ⟨x0, x1, x2, x3, x4, x5, x6, x7⟩ := beight HB3.out
  obtain ⟨A, hA⟩ : ∃ A, A = ws ++ [tRule, t, tIf] ++ condW 16 r.cif := ⟨_, rfl⟩
  rw [← hA] at HW3
  have hAs : szW A = szW ws + (szW [tRule, t, tIf] + szW (condW 16 r.cif)) := by rw [hA, sz_app, sz_app]; omega
  have HA := Lib.hid hA
  have HAS := Lib.hid hAs
  clear hA hAs
  have HKr := Lib.hid (KeptW.refl q w3)
  have HW30 : Hid (WrAt q (A ++ unlU (r.unl.take 0)) w3) := by show WrAt _ _ _; simpa [unlU] using HW3.out
  go_wp2
  go_loopg [21] (r.unl.length) (fun g i wr => ∃ n : Nat, n ≤ r.unl.length ∧ g = r.unl.length - n ∧ i = .int .i64 n ∧ Hid (KeptW q w3 wr) ∧ Hid (WrAt q (A ++ unlU (r.unl.take n)) wr))
  case atStart => exact ⟨0, Nat.zero_le _, rfl, rfl, HKr.out, HW30.out⟩
  case round =>
    clear HKr HW30 x0 x1 x2 x3 x4 x5 x6 x7
    obtain ⟨n, hn, hgk, rfl, HKn, HWn⟩ := hrel
    by_cases hlt : n < r.unl.length
    · obtain ⟨b, o, mv, rfl, hbs, hx, hcc, hkk, hokk⟩ := KsAt.get (HKU3.out.lowq HKn.out.1) n hlt
      obtain ⟨y0, y1, y2, y3, y4⟩ := hcc
      obtain ⟨ma, mc, rfl, -, -⟩ := hkk.form
      have HUT := Lib.hid (unlU_take r.unl n _ hx)
      have hle := unlU_le r.unl (n + 1)
      have hcB : condB 16 r.unl[n] = true := HR4.out _ (List.getElem_mem hlt)
      have hbz := below_alloc wr (.cells #[.int .i64 r.unl[n].kind, .string (mk r.unl[n].lo), .string (mk r.unl[n].hi), .int .i64 r.unl[n].n, .slice ma r.unl[n].kids.length mc] 32)
      have HWz := Lib.hid (HWn.out.grw hbz)
      have hkz := KeptW.of hbz HWn.out.lt
      have HKz := Lib.hid (HKn.out.trans hkz)
      have HBz := Lib.hid (heap_alloc_new wr (.cells #[.int .i64 r.unl[n].kind, .string (mk r.unl[n].lo), .string (mk r.unl[n].hi), .int .i64 r.unl[n].n, .slice ma r.unl[n].kids.length mc] 32))
      have HKK := Lib.hid (hkk.lowq hkz.1)
      have hqz : q < wr.heap.size := HWn.out.lt
      have HTz := Lib.hid (HT3.out.kept (HKn.out.trans hkz).1)
      rw [HUT.out, sz_app, sz_cons] at hle
      have hA2 := HAS.out
      have HCB := Lib.hid hcB
      clear hx hkk hokk hbz hkz HWn hcB
      generalize r.unl[n] = kd at *
      have hsza : szW (A ++ unlU (r.unl.take n)) + (szW [tUnl] + szW (condW 16 kd)) ≤ 65537 := by rw [sz_app, sz_cons, sz_nil]; omega
      go_upto_region 6 with fail
      clear y0 y1 y2 y3 y4
      generalize wr.alloc (.cells #[.int .i64 kd.kind, .string (mk kd.lo), .string (mk kd.hi), .int .i64 kd.n, .slice ma kd.kids.length mc] 32) = W5 at *
      generalize wr.heap.size = p5 at *
      go_wp2_with fail
      go_at_call 29
      refine (add1 q _ tUnl W5 HWz.out (by omega)).mono ?_
      rintro e w6 ⟨rfl, h1, h2⟩
      have HW6 := Lib.hid h1
      have HK6 := Lib.hid (HKz.out.trans h2)
      have HT6 := Lib.hid (HTz.out.kept h2.1)
      have HKK6 := Lib.hid (HKK.out.lowq h2.1)
      obtain ⟨z0, z1, z2, z3, z4⟩ := bfive (box_kept HBz.out h2 hqz (by decide))
      have HC := Lib.hid (wc_any q 16 kd _ _ w6 HCB.out HKK6.out HW6.out HT6.out (by rw [sz_app]; omega))
      clear h1 h2 HWz HKz HTz HKK HBz
      go_wp2_with fail
      go_at_call 32
      refine HC.out.mono ?_
      rintro e w7 ⟨rfl, h1, h2⟩
      have HW7 := Lib.hid h1
      have HK7 := Lib.hid (HK6.out.trans h2)
      clear h1 h2 HC
      go_wp2
      go_roundg (r.unl.length - (n + 1))
      case rel => exact ⟨n + 1, by omega, rfl, by go_num, HK7.out, by rw [HUT.out]; show WrAt _ _ _; simpa [List.append_assoc] using HW7.out⟩
      case measure => omega
    · have hall : r.unl.take n = r.unl := List.take_of_length_le (by omega)
      rw [hall] at HWn
      clear hall
      have HT4 := Lib.hid (HT3.out.kept HKn.out.1)
      have HB4 := Lib.hid (box_kept HB3.out HKn.out hq (by decide))
      have HKS4 := Lib.hid (HKS3.out.lowq HKn.out.1)
      have HK4 := Lib.hid (HK3.out.trans HKn.out)
      have hA2 := HAS.out
      obtain ⟨x0, x1, x2, x3, x4, x5, x6, x7⟩ := beight HB4.out
      clear HK3 HT3 HB3 HKU3 HKS3 HKn HW3
      go_wp2_with fail
      go_at_call 29
      refine (add1 q _ tSet wr HWn.out (by rw [sz_app]; omega)).mono ?_
      rintro e w5 ⟨rfl, h1, h2⟩
      have HW5 := Lib.hid h1
      have HK5 := Lib.hid (HK4.out.trans h2)
      have HT5 := Lib.hid (HT4.out.kept h2.1)
      have HB5 := Lib.hid (box_kept HB4.out h2 hq (by decide))
      have HKS5 := Lib.hid (HKS4.out.lowq h2.1)
      clear h1 h2 HWn HK4 HT4 HB4 HKS4 x0 x1 x2 x3 x4 x5 x6 x7
      obtain ⟨x0, x1, x2, x3, x4, x5, x6, x7⟩ := beight HB5.out
      obtain ⟨D, hD⟩ : ∃ D, D = A ++ unlU r.unl ++ [tSet] := ⟨_, rfl⟩
      rw [← hD] at HW5
      have hDs : szW D = szW A + (szW (unlU r.unl) + szW [tSet]) := by rw [hD, sz_app, sz_app]; omega
      have HD := Lib.hid hD
      have HDS := Lib.hid hDs
      clear hD hDs
      have HKr := Lib.hid (KeptW.refl q w5)
      have HW50 : Hid (WrAt q (D ++ setsW (r.sets.take 0)) w5) := by show WrAt _ _ _; simpa [setsW] using HW5.out
      go_wp2
      go_loopg [38] (r.sets.length) (fun g i wr => ∃ n : Nat, n ≤ r.sets.length ∧ g = r.sets.length - n ∧ i = .int .i64 n ∧ Hid (KeptW q w5 wr) ∧ Hid (WrAt q (D ++ setsW (r.sets.take n)) wr))
      case atStart => exact ⟨0, Nat.zero_le _, rfl, rfl, HKr.out, HW50.out⟩
      case round =>
        clear HKr HW50 x0 x1 x2 x3 x4 x5 x6 x7
        obtain ⟨n2, hn2, hgk2, rfl, HKn, HWn⟩ := hrel
        by_cases hlt2 : n2 < r.sets.length
        · obtain ⟨b2, o2, rfl, hbs, hx, y0, y1, -, -⟩ := StsAt.get (HKS5.out.lowq HKn.out.1) n2 hlt2
          have HUT := Lib.hid (setsW_take r.sets n2 _ hx)
          have hle := setsW_le r.sets (n2 + 1)
          have hcB : setB r.sets[n2] = true := HSA.out _ (List.getElem_mem hlt2)
          have hbz := below_alloc wr (.cells #[.int .i64 r.sets[n2].what, .int .i64 r.sets[n2].n] 66)
          have HWz := Lib.hid (HWn.out.grw hbz)
          have hkz := KeptW.of hbz HWn.out.lt
          have HKz := Lib.hid (HKn.out.trans hkz)
          have HTz := Lib.hid (HT5.out.kept (HKn.out.trans hkz).1)
          rw [HUT.out, sz_app] at hle
          have hD2 := HDS.out
          have HCB := Lib.hid hcB
          clear hx hbz hkz HWn hcB
          generalize r.sets[n2] = sx at *
          have HC := Lib.hid (ws_set q _ sx _ HWz.out HTz.out HCB.out (by rw [sz_app]; omega))
          clear HWz HTz
          go_wp2_with fail
          go_at_call 33
          refine HC.out.mono ?_
          rintro e w7 ⟨rfl, h1, h2⟩
          have HW7 := Lib.hid h1
          have HK7 := Lib.hid (HKz.out.trans h2)
          clear h1 h2 HC
          go_wp2
          go_roundg (r.sets.length - (n2 + 1))
          case rel => exact ⟨n2 + 1, by omega, rfl, by go_num, HK7.out, by rw [HUT.out]; show WrAt _ _ _; simpa [List.append_assoc] using HW7.out⟩
          case measure => omega
        · have hall : r.sets.take n2 = r.sets := List.take_of_length_le (by omega)
          rw [hall] at HWn
          clear hall
          have HK6 := Lib.hid (HK5.out.trans HKn.out)
          have hD2 := HDS.out
          go_wp2_with fail
          go_at_call 29
          refine (add1 q _ tEnd wr HWn.out (by rw [sz_app]; omega)).mono ?_
          rintro e w7 ⟨rfl, h1, h2⟩
          have HW7 := Lib.hid h1
          have HK7 := Lib.hid (HK6.out.trans h2)
          clear h1 h2
          go_wp2
          go_end0
          refine ⟨rfl, ?_, HK7.out⟩
          have := HW7.out
          rw [HD.out, HA.out] at this
          rw [HRW.out]
          simpa [List.append_assoc] using this
end Go.Proofs.YtoibhgoaibjopaaGreatDoor.Pl
end
