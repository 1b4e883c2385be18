/-
  Texts put together (merge.py): PChk, PChc, PIs.
-/
import Derived.Test.YtoibhgoaibjopaaGreatDoorMj11
import Derived.Test.YtoibhgoaibjopaaGreatDoorMj9
/-
  What plan.kids, fields and condition (of Check) answer, as contracts: whether a condition may be.
-/
section
set_option linter.unusedSimpArgs false
set_option linter.unusedVariables false
set_option maxRecDepth 100000
namespace Go.Proofs.YtoibhgoaibjopaaGreatDoor.Pl
open Go.RowKit
open Wo (Wd WdsAt box_cell box_two keepB heap_far)

theorem kids_any (k : Int) (w : World) :
    Calls Tryz.prog 68 #[.int .i64 k] w fun e w' => e = .returned (.int .i64 (kidN k : Nat)) ∧ w' = w := by
  by_cases h6 : k = 6
  · subst h6
    go_enter Tryz.func68, Tryz.ntmps68
    go_wp2
    go_ret
    exact ⟨rfl, rfl⟩
  by_cases h7 : k = 7
  · subst h7
    go_enter Tryz.func68, Tryz.ntmps68
    go_wp2
    go_ret
    exact ⟨rfl, rfl⟩
  by_cases h8 : k = 8
  · subst h8
    go_enter Tryz.func68, Tryz.ntmps68
    go_wp2
    go_ret
    exact ⟨rfl, rfl⟩
  have HK : Hid (kidN k = 0) := by show _ = _; unfold kidN; rw [if_neg h6, if_neg (by omega)]
  have b6 : (k == 6) = false := by simpa using h6
  have b7 : (k == 7) = false := by simpa using h7
  have b8 : (k == 8) = false := by simpa using h8
  clear h6 h7 h8
  go_enter Tryz.func68, Tryz.ntmps68
  go_wp2
  go_ret
  exact ⟨by rw [HK.out]; rfl, rfl⟩
theorem good_eq (n : Int) (w : World) : Calls Tryz.prog 50 #[.int .i64 n] w fun e w' => e = .returned (.bool (goodB n)) ∧ w' = w := Ce.good_any n w
theorem box5c (w : World) (c : Cd) (m : Value) : (w.alloc (.cells #[.int .i64 c.kind, .string (mk c.lo), .string (mk c.hi), .int .i64 c.n, m] 32)).heap[w.heap.size]? = some (.cells #[.int .i64 c.kind, .string (mk c.lo), .string (mk c.hi), .int .i64 c.n, m] 32 (0, 0)) := heap_alloc_new w _
set_option maxHeartbeats 8000000 in
theorem fields1 (lo hi : Tx) (n : Int) (m : Value) (w : World) (hlo : lo.length ≤ Big) (hhi : hi.length ≤ Big) :
    Calls Tryz.prog 69 #[.agg #[.int .i64 1, .string (mk lo), .string (mk hi), .int .i64 n, m]] w fun e w' => e = .returned (.bool (leafB 1 lo hi n)) ∧ Below w.heap.size w w' := by
  have HB := Lib.hid (below_alloc w (.cells #[.int .i64 1, .string (mk lo), .string (mk hi), .int .i64 n, m] 32))
  have HP1 := Lib.hid fun W => proc_any lo W (by show _ ≤ _; have : lo.length ≤ 281474976710656 := hlo; omega)
  have HP2 := Lib.hid fun W => proc_any hi W (by show _ ≤ _; have : hi.length ≤ 281474976710656 := hhi; omega)
  have hl : leafB 1 lo hi n = (Cm.codeB lo 5 5 && (Cm.codeB hi 5 5 && (n == 0))) := by rw [show (n == 0) = decide (n = 0) from rfl]; rfl
  rw [hl]
  clear hl
  generalize Cm.codeB lo 5 5 = A at *
  generalize Cm.codeB hi 5 5 = C at *
  cases A <;> cases C <;> cases hn : (n == 0)
  all_goals
    go_enter Tryz.func69, Tryz.ntmps69
    go_wp2_with (first | (go_at_call 82; first | (refine (HP1.out _).mono ?_; rintro e w1 ⟨rfl, rfl⟩) | (refine (HP2.out _).mono ?_; rintro e w1 ⟨rfl, rfl⟩)))
    go_ret
    exact ⟨rfl, HB.out⟩
set_option maxHeartbeats 8000000 in
theorem fields2 (lo hi : Tx) (n : Int) (m : Value) (w : World) (hlo : lo.length ≤ Big) (hhi : hi.length ≤ Big) :
    Calls Tryz.prog 69 #[.agg #[.int .i64 2, .string (mk lo), .string (mk hi), .int .i64 n, m]] w fun e w' => e = .returned (.bool (leafB 2 lo hi n)) ∧ Below w.heap.size w w' := by
  have HB := Lib.hid (below_alloc w (.cells #[.int .i64 2, .string (mk lo), .string (mk hi), .int .i64 n, m] 32))
  have HM := Lib.hid fun W => mod_any lo W (by show _ ≤ _; have : lo.length ≤ 281474976710656 := hlo; omega)
  have hl : leafB 2 lo hi n = (Cm.codeB lo 2 2 && (((mk hi).toList == []) && (n == 0))) := by rw [eq_lit, show (n == 0) = decide (n = 0) from rfl]; rfl
  rw [hl]
  clear hl
  generalize Cm.codeB lo 2 2 = A at *
  cases A <;> cases hh : ((mk hi).toList == []) <;> cases hn : (n == 0)
  all_goals
    go_enter Tryz.func69, Tryz.ntmps69
    go_wp2_with (first | (go_at_call 83; refine (HM.out _).mono ?_; rintro e w1 ⟨rfl, rfl⟩))
    go_ret
    exact ⟨rfl, HB.out⟩
set_option maxHeartbeats 8000000 in
theorem fields3 (lo hi : Tx) (n : Int) (m : Value) (w : World) (hlo : lo.length ≤ Big) (hhi : hi.length ≤ Big) :
    Calls Tryz.prog 69 #[.agg #[.int .i64 3, .string (mk lo), .string (mk hi), .int .i64 n, m]] w fun e w' => e = .returned (.bool (leafB 3 lo hi n)) ∧ Below w.heap.size w w' := by
  have HB := Lib.hid (below_alloc w (.cells #[.int .i64 3, .string (mk lo), .string (mk hi), .int .i64 n, m] 32))
  have hl : leafB 3 lo hi n = (((mk lo).toList == []) && (((mk hi).toList == []) && (decide (0 ≤ n) && decide (n ≤ 9999)))) := by rw [eq_lit, eq_lit]; rfl
  rw [hl]
  clear hl
  cases h0 : ((mk lo).toList == []) <;> cases hh : ((mk hi).toList == []) <;> cases hn : decide (0 ≤ n) <;> cases hm : decide (n ≤ 9999)
  all_goals
    go_enter Tryz.func69, Tryz.ntmps69
    go_wp2
    go_ret
    exact ⟨rfl, HB.out⟩
set_option maxHeartbeats 8000000 in
theorem fields4 (lo hi : Tx) (n : Int) (m : Value) (w : World) (hlo : lo.length ≤ Big) (hhi : hi.length ≤ Big) :
    Calls Tryz.prog 69 #[.agg #[.int .i64 4, .string (mk lo), .string (mk hi), .int .i64 n, m]] w fun e w' => e = .returned (.bool (leafB 4 lo hi n)) ∧ Below w.heap.size w w' := by
  have HB := Lib.hid (below_alloc w (.cells #[.int .i64 4, .string (mk lo), .string (mk hi), .int .i64 n, m] 32))
  have HG := Lib.hid fun W => good_eq n W
  have hl : leafB 4 lo hi n = (((mk lo).toList == []) && (((mk hi).toList == []) && goodB n)) := by rw [eq_lit, eq_lit]; rfl
  rw [hl]
  clear hl
  generalize goodB n = G at *
  cases h0 : ((mk lo).toList == []) <;> cases hh : ((mk hi).toList == []) <;> cases G
  all_goals
    go_enter Tryz.func69, Tryz.ntmps69
    go_wp2_with (first | (go_at_call 50; refine (HG.out _).mono ?_; rintro e w1 ⟨rfl, rfl⟩))
    go_ret
    exact ⟨rfl, HB.out⟩
theorem leaf_plain (k : Int) (lo hi : Tx) (n : Int) (h : k = 0 ∨ k = 5 ∨ k = 6 ∨ k = 7 ∨ k = 8) : leafB k lo hi n = (((mk lo).toList == []) && (((mk hi).toList == []) && (n == 0))) := by
  rw [eq_lit, eq_lit, show (n == 0) = decide (n = 0) from rfl]
  rcases h with rfl | rfl | rfl | rfl | rfl <;> rfl
theorem leaf_other (k : Int) (lo hi : Tx) (n : Int) (h : ¬ (0 ≤ k ∧ k ≤ 8)) : leafB k lo hi n = false := by
  unfold leafB
  have : (decide (0 ≤ k) && decide (k ≤ 8)) = false := by simp; omega
  rw [this]; rfl
set_option maxHeartbeats 8000000 in
theorem fields0 (lo hi : Tx) (n : Int) (m : Value) (w : World) (hlo : lo.length ≤ Big) (hhi : hi.length ≤ Big) :
    Calls Tryz.prog 69 #[.agg #[.int .i64 0, .string (mk lo), .string (mk hi), .int .i64 n, m]] w fun e w' => e = .returned (.bool (leafB 0 lo hi n)) ∧ Below w.heap.size w w' := by
  have HB := Lib.hid (below_alloc w (.cells #[.int .i64 0, .string (mk lo), .string (mk hi), .int .i64 n, m] 32))
  have hl := leaf_plain 0 lo hi n (by simp)
  rw [hl]
  clear hl
  cases h0 : ((mk lo).toList == []) <;> cases hh : ((mk hi).toList == []) <;> cases hn : (n == 0)
  all_goals
    go_enter Tryz.func69, Tryz.ntmps69
    go_wp2
    go_ret
    exact ⟨rfl, HB.out⟩
set_option maxHeartbeats 8000000 in
theorem fields5 (lo hi : Tx) (n : Int) (m : Value) (w : World) (hlo : lo.length ≤ Big) (hhi : hi.length ≤ Big) :
    Calls Tryz.prog 69 #[.agg #[.int .i64 5, .string (mk lo), .string (mk hi), .int .i64 n, m]] w fun e w' => e = .returned (.bool (leafB 5 lo hi n)) ∧ Below w.heap.size w w' := by
  have HB := Lib.hid (below_alloc w (.cells #[.int .i64 5, .string (mk lo), .string (mk hi), .int .i64 n, m] 32))
  have hl := leaf_plain 5 lo hi n (by simp)
  rw [hl]
  clear hl
  cases h0 : ((mk lo).toList == []) <;> cases hh : ((mk hi).toList == []) <;> cases hn : (n == 0)
  all_goals
    go_enter Tryz.func69, Tryz.ntmps69
    go_wp2
    go_ret
    exact ⟨rfl, HB.out⟩
set_option maxHeartbeats 8000000 in
theorem fields6 (lo hi : Tx) (n : Int) (m : Value) (w : World) (hlo : lo.length ≤ Big) (hhi : hi.length ≤ Big) :
    Calls Tryz.prog 69 #[.agg #[.int .i64 6, .string (mk lo), .string (mk hi), .int .i64 n, m]] w fun e w' => e = .returned (.bool (leafB 6 lo hi n)) ∧ Below w.heap.size w w' := by
  have HB := Lib.hid (below_alloc w (.cells #[.int .i64 6, .string (mk lo), .string (mk hi), .int .i64 n, m] 32))
  have hl := leaf_plain 6 lo hi n (by simp)
  rw [hl]
  clear hl
  cases h0 : ((mk lo).toList == []) <;> cases hh : ((mk hi).toList == []) <;> cases hn : (n == 0)
  all_goals
    go_enter Tryz.func69, Tryz.ntmps69
    go_wp2
    go_ret
    exact ⟨rfl, HB.out⟩
set_option maxHeartbeats 8000000 in
theorem fields7 (lo hi : Tx) (n : Int) (m : Value) (w : World) (hlo : lo.length ≤ Big) (hhi : hi.length ≤ Big) :
    Calls Tryz.prog 69 #[.agg #[.int .i64 7, .string (mk lo), .string (mk hi), .int .i64 n, m]] w fun e w' => e = .returned (.bool (leafB 7 lo hi n)) ∧ Below w.heap.size w w' := by
  have HB := Lib.hid (below_alloc w (.cells #[.int .i64 7, .string (mk lo), .string (mk hi), .int .i64 n, m] 32))
  have hl := leaf_plain 7 lo hi n (by simp)
  rw [hl]
  clear hl
  cases h0 : ((mk lo).toList == []) <;> cases hh : ((mk hi).toList == []) <;> cases hn : (n == 0)
  all_goals
    go_enter Tryz.func69, Tryz.ntmps69
    go_wp2
    go_ret
    exact ⟨rfl, HB.out⟩
set_option maxHeartbeats 8000000 in
theorem fields8 (lo hi : Tx) (n : Int) (m : Value) (w : World) (hlo : lo.length ≤ Big) (hhi : hi.length ≤ Big) :
    Calls Tryz.prog 69 #[.agg #[.int .i64 8, .string (mk lo), .string (mk hi), .int .i64 n, m]] w fun e w' => e = .returned (.bool (leafB 8 lo hi n)) ∧ Below w.heap.size w w' := by
  have HB := Lib.hid (below_alloc w (.cells #[.int .i64 8, .string (mk lo), .string (mk hi), .int .i64 n, m] 32))
  have hl := leaf_plain 8 lo hi n (by simp)
  rw [hl]
  clear hl
  cases h0 : ((mk lo).toList == []) <;> cases hh : ((mk hi).toList == []) <;> cases hn : (n == 0)
  all_goals
    go_enter Tryz.func69, Tryz.ntmps69
    go_wp2
    go_ret
    exact ⟨rfl, HB.out⟩
set_option maxHeartbeats 8000000 in
theorem fieldsX (lo hi : Tx) (n : Int) (m : Value) (w : World) (k : Int) (hk : ¬ (0 ≤ k ∧ k ≤ 8)) (hlo : lo.length ≤ Big) (hhi : hi.length ≤ Big) :
    Calls Tryz.prog 69 #[.agg #[.int .i64 k, .string (mk lo), .string (mk hi), .int .i64 n, m]] w fun e w' => e = .returned (.bool (leafB k lo hi n)) ∧ Below w.heap.size w w' := by
  have HB := Lib.hid (below_alloc w (.cells #[.int .i64 k, .string (mk lo), .string (mk hi), .int .i64 n, m] 32))
  have hl := leaf_other k lo hi n hk
  rw [hl]
  clear hl
  have b0 : (k == 0) = false := by simp; omega
  have b1 : (k == 1) = false := by simp; omega
  have b2 : (k == 2) = false := by simp; omega
  have b3 : (k == 3) = false := by simp; omega
  have b4 : (k == 4) = false := by simp; omega
  have b5 : (k == 5) = false := by simp; omega
  have b6 : (k == 6) = false := by simp; omega
  have b7 : (k == 7) = false := by simp; omega
  have b8 : (k == 8) = false := by simp; omega
  clear hk
  go_enter Tryz.func69, Tryz.ntmps69
  go_wp2
  go_ret
  exact ⟨rfl, HB.out⟩
theorem fields_any (c : Cd) (m : Value) (w : World) (ho : Ok1 c) :
    Calls Tryz.prog 69 #[cdv c m] w fun e w' => e = .returned (.bool (leafB c.kind c.lo c.hi c.n)) ∧ Below w.heap.size w w' := by
  obtain ⟨k, lo, hi, n, ks⟩ := c
  obtain ⟨_, _, hlo, hhi, _⟩ := ho
  by_cases hk : 0 ≤ k ∧ k ≤ 8
  · rcases k_cases hk.1 hk.2 with rfl | rfl | rfl | rfl | rfl | rfl | rfl | rfl | rfl
    · exact fields0 lo hi n m w hlo hhi
    · exact fields1 lo hi n m w hlo hhi
    · exact fields2 lo hi n m w hlo hhi
    · exact fields3 lo hi n m w hlo hhi
    · exact fields4 lo hi n m w hlo hhi
    · exact fields5 lo hi n m w hlo hhi
    · exact fields6 lo hi n m w hlo hhi
    · exact fields7 lo hi n m w hlo hhi
    · exact fields8 lo hi n m w hlo hhi
  · exact fieldsX lo hi n m w k hk hlo hhi
end Go.Proofs.YtoibhgoaibjopaaGreatDoor.Pl
end

/-
  What plan.condition (of Check) answers, as a contract: whether a condition may be, so deep.
-/
section
set_option linter.unusedSimpArgs false
set_option linter.unusedVariables false
set_option maxRecDepth 100000
namespace Go.Proofs.YtoibhgoaibjopaaGreatDoor.Pl
open Go.RowKit
open Wo (Wd WdsAt box_cell box_two keepB heap_far)

theorem condB_eq (f : Nat) (c : Cd) : condB (f + 1) c = (decide (c.kids.length = kidN c.kind) && (c.kids.all (condB f) && leafB c.kind c.lo c.hi c.n)) := by cases c; rfl
theorem bfive {w : World} {q : Nat} {a b c d e : Value} {T : TypeId} (h : w.heap[q]? = some (.cells #[a, b, c, d, e] T (0, 0))) : w.cell? ⟨q, 0, none⟩ = some a ∧ w.cell? ⟨q, 1, none⟩ = some b ∧ w.cell? ⟨q, 2, none⟩ = some c ∧ w.cell? ⟨q, 3, none⟩ = some d ∧ w.cell? ⟨q, 4, none⟩ = some e := by
  refine ⟨?_, ?_, ?_, ?_, ?_⟩ <;> rw [cell_of_row w q _ _ T (0, 0) h] <;> rfl
theorem below_tr {B : Nat} {a b c : World} (hB : a.heap.size = B) (h : Below B a b) (k : Below b.heap.size b c) : Below B a c := h.trans (k.mono (hB ▸ h.size))
theorem below_dn {w W : World} (h : Below w.heap.size w W) (n : Nat) : Below w.heap.size w (W.drewN n) := h.trans ⟨rfl, rfl, rfl, Nat.le_refl _, fun _ _ => rfl⟩
set_option maxHeartbeats 8000000 in
theorem chk_deep (c : Cd) (m : Value) (w : World) :
    Calls Tryz.prog 51 #[cdv c m, .int .i64 17] w fun e w' => e = .returned (.bool false) ∧ Below w.heap.size w w' := by
  have hb := below_alloc w (.cells #[.int .i64 c.kind, .string (mk c.lo), .string (mk c.hi), .int .i64 c.n, m] 32)
  have HB := Lib.hid hb
  clear hb
  go_enter Tryz.func51, Tryz.ntmps51
  go_wp2_with fail
  go_quiet (fail)
  go_wp2
  go_ret
  exact ⟨rfl, below_dn HB.out nq⟩
theorem all_take1 {p : Cd → Bool} (l : List Cd) (k : Nat) (c : Cd) (h : l[k]? = some c) (hk : (l.take k).all p = true) (hc : p c = true) : (l.take (k + 1)).all p = true := by
  rw [List.take_add_one, h]; simp_all
theorem all_not1 {p : Cd → Bool} (l : List Cd) (k : Nat) (c : Cd) (h : l[k]? = some c) (hc : p c = false) : l.all p = false := by
  rw [List.all_eq_false]
  exact ⟨c, List.mem_of_getElem? h, by simp [hc]⟩
set_option maxHeartbeats 16000000 in
theorem chk_step (f : Nat) (d : Int) (hd0 : 1 ≤ d) (hd : d ≤ 16) (IH : ∀ (c : Cd) (m : Value) (w : World), KsAt All w m c.kids → Ok1 c → Calls Tryz.prog 51 #[cdv c m, .int .i64 (d + 1)] w fun e w' => e = .returned (.bool (condB f c)) ∧ Below w.heap.size w w')
    (c : Cd) (m : Value) (w : World) (hK : KsAt All w m c.kids) (ho : Ok1 c) :
    Calls Tryz.prog 51 #[cdv c m, .int .i64 d] w fun e w' => e = .returned (.bool (condB (f + 1) c)) ∧ Below w.heap.size w w' := by
  rw [condB_eq]
  have hb := below_alloc w (.cells #[.int .i64 c.kind, .string (mk c.lo), .string (mk c.hi), .int .i64 c.n, m] 32)
  have HB := Lib.hid hb
  have HX := Lib.hid (heap_alloc_new w (.cells #[.int .i64 c.kind, .string (mk c.lo), .string (mk c.hi), .int .i64 c.n, m] 32))
  have HK := Lib.hid (hK.grw hb)
  obtain ⟨a, k, rfl, h1, h2⟩ := hK.form
  have HKD := Lib.hid fun W => kids_any c.kind W
  have HF := Lib.hid fun W => fields_any c (.slice a c.kids.length k) W ho
  obtain ⟨x0, x1, x2, x3, x4⟩ := bfive HX.out
  have hi : ¬ 16 < d := by omega
  have hbig : c.kids.length ≤ 281474976710656 := ho.2.2.2.2
  have hneq : ((c.kids.length : Int) != ((kidN c.kind : Nat) : Int)) = !decide (c.kids.length = kidN c.kind) := by
    by_cases e : c.kids.length = kidN c.kind <;> simp [e] <;> omega
  clear hK hb
  generalize hgl : decide (c.kids.length = kidN c.kind) = GL at *
  generalize hgf : leafB c.kind c.lo c.hi c.n = GF at *
  clear hgl hgf
  go_enter Tryz.func51, Tryz.ntmps51
  go_upto_region 1 with fail
  generalize w.alloc (.cells #[.int .i64 c.kind, .string (mk c.lo), .string (mk c.hi), .int .i64 c.n, .slice a c.kids.length k] 32) = W at *
  generalize hp : w.heap.size = p at *
  go_cut [22] (fun s22 wx => s22 = .bool (!(GL && GF)) ∧ Hid (Below W.heap.size W wx))
  case first =>
    cases GL
    · simp only [Bool.not_false] at hneq
      go_quiet (first | (go_at_call 68; refine Calls.quiet_of_same (HKD.out _)))
      go_wp2_with fail
      go_meet
      exact ⟨rfl, below_dn (Below.refl _ _) _⟩
    · simp only [Bool.not_true] at hneq
      go_region_with (first | (go_at_call 68; refine (HKD.out _).mono ?_; rintro x w1 ⟨rfl, rfl⟩) | (go_at_call 69; refine (HF.out _).mono ?_; rintro x w1 ⟨rfl, hb1⟩; have HB1 := Lib.hid hb1; clear hb1))
      all_goals
        go_wp2_with fail
        go_meet
        exact ⟨by cases GF <;> rfl, below_trans (Below.drew (Below.refl _ W)) HB1.out⟩
  case rest =>
    obtain ⟨rfl, HBx⟩ := hcut
    have hBB : Below p w wc := below_tr hp HB.out HBx.out
    have HBB := Lib.hid hBB
    have HKx := Lib.hid (HK.out.grw HBx.out)
    obtain ⟨x0, x1, x2, x3, x4⟩ := bfive (keepB HX.out HBx.out)
    clear HB HX HK HKD HF hneq hBB HBx
    cases hg : (GL && GF) with
    | false =>
      have HRES : Hid ((GL && (c.kids.all (condB f) && GF)) = false) := by
        show _ = _
        cases GL <;> cases GF <;> simp_all
      clear hg
      go_wp2
      go_ret
      exact ⟨by rw [HRES.out]; rfl, by first | exact HBB.out | (rw [hp]; exact HBB.out)⟩
    | true =>
      have HRES : Hid ((GL && (c.kids.all (condB f) && GF)) = c.kids.all (condB f)) := by
        show _ = _
        cases GL <;> cases GF <;> simp_all
      clear hg
      have HW0 := Lib.hid (Below.refl wc.heap.size wc)
      go_wp2
      go_loopg [26] (c.kids.length) (fun g i wr => ∃ n : Nat, n ≤ c.kids.length ∧ g = c.kids.length - n ∧ i = .int .i64 n ∧ Hid (Below wc.heap.size wc wr) ∧ Hid ((c.kids.take n).all (condB f) = true))
      case atStart => exact ⟨0, Nat.zero_le _, rfl, rfl, HW0.out, rfl⟩
      case round =>
        clear HW0 x0 x1 x2 x3 x4
        obtain ⟨n, hn, hgk, rfl, HBr, HA⟩ := hrel
        by_cases hlt : n < c.kids.length
        · obtain ⟨b, o, mv, rfl, hbs, hx, hcc, hkk, hok⟩ := KsAt.get (HKx.out.grw HBr.out) n hlt
          obtain ⟨y0, y1, y2, y3, y4⟩ := hcc
          obtain ⟨ma, mc, rfl, -, -⟩ := hkk.form
          have hbz := below_alloc wr (.cells #[.int .i64 c.kids[n].kind, .string (mk c.kids[n].lo), .string (mk c.kids[n].hi), .int .i64 c.kids[n].n, .slice ma c.kids[n].kids.length mc] 32)
          have HC := Lib.hid (IH c.kids[n] _ _ (hkk.grw hbz) hok)
          have HBz := Lib.hid (below_trans HBr.out hbz)
          have HT := Lib.hid fun h => all_take1 (p := condB f) c.kids n _ hx HA.out h
          have HN := Lib.hid fun h => all_not1 (p := condB f) c.kids n _ hx h
          clear hx hkk hok hbz
          generalize c.kids[n] = kd at *
          cases hq : condB f kd
          · rw [hq] at HC
            have HN2 := Lib.hid (HN.out hq)
            clear hq HT HN
            go_wp2_with (go_at_call 51; refine HC.out.mono ?_; rintro e w3 ⟨rfl, hb3⟩; have HB3 := Lib.hid hb3; clear hb3)
            go_ret
            exact ⟨by rw [HRES.out, HN2.out]; rfl, by first | exact below_tr hp HBB.out (below_trans HBz.out HB3.out) | (rw [hp]; exact below_tr hp HBB.out (below_trans HBz.out HB3.out))⟩
          · rw [hq] at HC
            have HT2 := Lib.hid (HT.out hq)
            clear hq HT HN
            go_wp2_with (go_at_call 51; refine HC.out.mono ?_; rintro e w3 ⟨rfl, hb3⟩; have HB3 := Lib.hid hb3; clear hb3)
            go_roundg (c.kids.length - (n + 1))
            case rel => exact ⟨n + 1, by omega, rfl, by go_num, below_trans HBz.out HB3.out, HT2.out⟩
            case measure => omega
        · have hall : c.kids.take n = c.kids := List.take_of_length_le (by omega)
          rw [hall] at HA
          clear hall
          go_wp2
          go_ret
          exact ⟨by rw [HRES.out, HA.out]; rfl, by first | exact below_tr hp HBB.out HBr.out | (rw [hp]; exact below_tr hp HBB.out HBr.out)⟩
/-- Whether a condition may be, so deep. -/
theorem chk_cond : ∀ (f : Nat) (d : Int), d + f = 17 → f ≤ 16 → ∀ (c : Cd) (m : Value) (w : World), KsAt All w m c.kids → Ok1 c →
    Calls Tryz.prog 51 #[cdv c m, .int .i64 d] w fun e w' => e = .returned (.bool (condB f c)) ∧ Below w.heap.size w w' := by
  intro f
  induction f with
  | zero =>
    intro d hd _ c m w _ _
    obtain rfl : d = 17 := by omega
    exact chk_deep c m w
  | succ f ih => intro d hd hf c m w hK ho; exact chk_step f d (by omega) (by omega) (fun c m w hK ho => ih (d + 1) (by omega) (by omega) c m w hK ho) c m w hK ho
end Go.Proofs.YtoibhgoaibjopaaGreatDoor.Pl
end

/-
  What plan.isSet answers, as a contract: whether one of some sets is of a What.
-/
section
set_option linter.unusedSimpArgs false
set_option linter.unusedVariables false
set_option maxRecDepth 100000
namespace Go.Proofs.YtoibhgoaibjopaaGreatDoor.Pl
open Go.RowKit
open Wo (Wd WdsAt box_cell box_two keepB heap_far)

theorem isf_any (s : St) (k : Int) (p : Nat) (w : World) (hp : w.heap[p]? = some (.cells #[.int .i64 k] 3 (0, 0))) :
    Calls Tryz.prog 85 #[stv s, .pointer (some ⟨p, 0, none⟩)] w fun e w' => e = .returned (.bool (s.what == k)) ∧ Below w.heap.size w w' := by
  have hb := below_alloc w (.cells #[.int .i64 s.what, .int .i64 s.n] 66)
  obtain ⟨c0, -⟩ := box_cell (keepB hp hb)
  have HB := Lib.hid hb
  clear hb hp
  go_enter Tryz.func85, Tryz.ntmps85
  go_wp2
  go_ret
  exact ⟨rfl, HB.out⟩
set_option maxHeartbeats 4000000 in
theorem idxf_any (v : Value) (ss : List St) (k : Int) (p : Nat) (w : World) (h : StsAt All w v ss) (hp : w.heap[p]? = some (.cells #[.int .i64 k] 3 (0, 0))) :
    Calls Tryz.prog 100 #[v, .func (.func 85) #[] #[.pointer (some ⟨p, 0, none⟩)]] w fun e w' => (∃ n : Int, e = .returned (.int .i64 n) ∧ (decide (0 ≤ n) = decide (k ∈ ss.map (·.what)))) ∧ Below w.heap.size w w' := by
  have HS := Lib.hid h
  have HP := Lib.hid hp
  obtain ⟨a, c, rfl, h1, h2, h4⟩ := h.form
  have HB0 := Lib.hid (Below.refl w.heap.size w)
  clear h hp
  go_enter Tryz.func100, Tryz.ntmps100
  go_wp2
  go_loopg [8] (ss.length) (fun g i wr => ∃ (n : Nat), n ≤ ss.length ∧ g = ss.length - n ∧ i = .int .i64 n ∧ Hid (Below w.heap.size w wr) ∧ Hid (k ∉ (ss.take n).map (·.what)))
  case atStart => exact ⟨0, Nat.zero_le _, rfl, rfl, HB0.out, by show _ ∉ _; simp⟩
  case round =>
    clear HB0
    obtain ⟨n, hk, hg, rfl, HB, HA⟩ := hrel
    by_cases hlt : n < ss.length
    · obtain ⟨b, o, rfl, hbs, hx, hu0, hu1, -, -⟩ := StsAt.get (HS.out.grw HB.out) n hlt
      have HC := Lib.hid fun W (hW : W.heap[p]? = some (.cells #[.int .i64 k] 3 (0, 0))) => isf_any ss[n] k p W hW
      have HP1 := Lib.hid (keepB HP.out HB.out)
      have HH : Hid (ss[n].what = k → k ∈ ss.map (·.what)) := fun e => by rw [← e]; exact List.mem_map_of_mem (List.getElem_mem hlt)
      have HN : Hid (¬ ss[n].what = k → k ∉ (ss.take (n + 1)).map (·.what)) := fun he => by
        show k ∉ (ss.take (n + 1)).map (·.what)
        rw [List.take_add_one, hx]
        simp only [Option.toList_some, List.map_append, List.map_cons, List.map_nil, List.mem_append, List.mem_singleton, not_or]
        exact ⟨HA.out, fun e => he e.symm⟩
      clear hx
      generalize ss[n] = x at *
      by_cases he : x.what = k
      · have hq : (x.what == k) = true := by simpa using he
        have HH2 := Lib.hid (HH.out he)
        rw [hq] at HC
        clear he hq
        go_wp2_with (go_at_call 85; refine (HC.out _ HP1.out).mono ?_; rintro e w1 ⟨rfl, hb1⟩; have HB1 := Lib.hid hb1; clear hb1)
        go_ret
        refine ⟨⟨(n : Nat), rfl, ?_⟩, below_trans HB.out HB1.out⟩
        rw [decide_eq_true HH2.out, decide_eq_true (by omega)]
      · have hq : (x.what == k) = false := by simpa using he
        have HN2 := Lib.hid (HN.out he)
        rw [hq] at HC
        clear he hq
        go_wp2_with (go_at_call 85; refine (HC.out _ HP1.out).mono ?_; rintro e w1 ⟨rfl, hb1⟩; have HB1 := Lib.hid hb1; clear hb1)
        go_roundg (ss.length - (n + 1))
        case rel => exact ⟨n + 1, by omega, rfl, by go_num, below_trans HB.out HB1.out, HN2.out⟩
        case measure => omega
    · have hall : ss.take n = ss := List.take_of_length_le (by omega)
      have HM : Hid (k ∉ ss.map (·.what)) := by show _ ∉ _; rw [← hall]; exact HA.out
      clear hall
      go_wp2
      go_ret
      refine ⟨⟨-1, rfl, ?_⟩, HB.out⟩
      rw [decide_eq_false HM.out, decide_eq_false (by omega)]
set_option maxHeartbeats 4000000 in
theorem contf_any (v : Value) (ss : List St) (k : Int) (p : Nat) (w : World) (h : StsAt All w v ss) (hp : w.heap[p]? = some (.cells #[.int .i64 k] 3 (0, 0))) :
    Calls Tryz.prog 84 #[v, .func (.func 85) #[] #[.pointer (some ⟨p, 0, none⟩)]] w fun e w' => e = .returned (.bool (decide (k ∈ ss.map (·.what)))) ∧ Below w.heap.size w w' := by
  have HC := Lib.hid (idxf_any v ss k p w h hp)
  clear h hp
  go_enter Tryz.func84, Tryz.ntmps84
  go_wp2_with (go_at_call 100; refine HC.out.mono ?_; rintro e w1 ⟨⟨n, rfl, hn⟩, hb1⟩; have HB1 := Lib.hid hb1; have HN := Lib.hid hn; clear hb1 hn)
  go_ret
  exact ⟨by rw [← HN.out]; rfl, HB1.out⟩
set_option maxHeartbeats 4000000 in
theorem isSet_any (v : Value) (ss : List St) (k : Int) (w : World) (h : StsAt All w v ss) :
    Calls Tryz.prog 71 #[v, .int .i64 k] w fun e w' => e = .returned (.bool (decide (k ∈ ss.map (·.what)))) ∧ Below w.heap.size w w' := by
  have hb := below_alloc w (.cells #[.int .i64 k] 3)
  have HC := Lib.hid (contf_any v ss k w.heap.size _ (h.grw hb) (heap_alloc_new w (.cells #[.int .i64 k] 3)))
  have HB := Lib.hid hb
  obtain ⟨a, c, rfl, h1, h2, h4⟩ := h.form
  have hmf : ∀ (fn : Fn) (first cap : Array Value) (w : World), (Instr.makeFunc fn first cap).run Tryz.prog w = .ok (.func fn first cap) w := fun _ _ _ _ => rfl
  clear h hb
  generalize decide (k ∈ ss.map (·.what)) = R at *
  go_enter Tryz.func71, Tryz.ntmps71
  go_wp2_with (go_at_call 84; refine HC.out.mono ?_; rintro e w1 ⟨rfl, hb1⟩; have HB1 := Lib.hid hb1; clear hb1)
  go_ret
  exact ⟨rfl, below_trans HB.out HB1.out⟩
end Go.Proofs.YtoibhgoaibjopaaGreatDoor.Pl
end
