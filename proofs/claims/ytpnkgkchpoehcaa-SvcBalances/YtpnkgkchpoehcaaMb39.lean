/-
  Texts put together (merge.py): LRCk.
-/
import Derived.Test.YtpnkgkchpoehcaaMb38
/-
  What the reference's Check answers, as a contract (by gen_rcheck.py: one walk a way).
-/
section
set_option linter.unusedSimpArgs false
namespace Go.Proofs.Ytpnkgkchpoehcaa.Cm
open Go.RowKit

theorem raw_empty (s : Tx) : ((mk s).toList == (ByteArray.toList { data := #[] })) = decide (s = []) := by
  rw [Lib.toList_data, Lib.toList_data, mk_list]
  rw [Bool.eq_iff_iff]
  simp
theorem ck_head {c : Cl} (h : headE c ≠ 0) : checkE c = headE c := by unfold checkE; rw [if_neg h]
theorem ck_rest {c : Cl} (h : headE c = 0) : checkE c = restE c := by unfold checkE; rw [if_pos h]
theorem ck9 {c : Cl} (h : namesB c = false) : checkE c = 9 := by rw [ck_head (by rw [head9 h]; omega), head9 h]
theorem ck3 {c : Cl} (h : namesB c = true) (h1 : netB c.net = false) : checkE c = 3 := by rw [ck_head (by rw [head3 h h1]; omega), head3 h h1]
theorem ck9' {c : Cl} (h : namesB c = true) (h1 : netB c.net = true) (h2 : refB c = false) : checkE c = 9 := by rw [ck_head (by rw [head9' h h1 h2]; omega), head9' h h1 h2]
theorem ck3' {c : Cl} (h : namesB c = true) (h1 : netB c.net = true) (h2 : refB c = true) (h3 : doesB c.does = false) : checkE c = 3 := by rw [ck_head (by rw [head3' h h1 h2 h3]; omega), head3' h h1 h2 h3]
theorem ckR {c : Cl} (h : namesB c = true) (h1 : netB c.net = true) (h2 : refB c = true) (h3 : doesB c.does = true) : checkE c = restE c := ck_rest (head0 h h1 h2 h3)
theorem restTail {c : Cl} (h : c.lines.length ≤ 999) (h1 : voidB c = true) : restE c = tailE c.lines := by unfold restE tailE; rw [if_pos h, if_pos h1]

set_option maxHeartbeats 8000000 in
theorem rcheck_any (c : Cl) (m : Value) (w : World) (hm : LnsAt All w m c.lines) (hz : ClOk c) (hl : c.lines.length ≤ 1000000) :
    Calls Try.prog 17 #[clv c m] w fun e w' => e = .returned (.int .i64 (checkE c)) ∧ Below w.heap.size w w' := by
  obtain ⟨z1, z2, z3, z4⟩ := hz.short
  have HN := Lib.hid fun (s : Tx) (hs : s.length ≤ 281474976710656) w => rcode_any s 1 12 w (by omega)
  have HB := Lib.hid fun o => below_alloc w o
  have HL := Lib.hid (rlines_any c m (w.alloc (boxc c m)) (LnsAt.move hm (Below.moves (below_alloc w _))) hz.2.2.2.2.2.2.2 hl)
  obtain ⟨a, k, rfl, f1, f2⟩ := LnsAt.form hm
  have HBO := Lib.hid hl
  clear hm hz hl
  have H9 := Lib.hid (@ck9 c)
  have H3 := Lib.hid (@ck3 c)
  have H9' := Lib.hid (@ck9' c)
  have H3' := Lib.hid (@ck3' c)
  have HR := Lib.hid (@ckR c)
  have H10 := Lib.hid (@rest10 c)
  have H6 := Lib.hid (@rest6 c)
  have HT := Lib.hid (@restTail c)
  generalize checkE c = R at *
  generalize restE c = RR at *
  generalize tailE c.lines = TE at *
  cases h0 : codeB c.id 1 12
  · rw [H9.out (by unfold namesB; rw [h0]; rfl)]
    clear H9 H3 H9' H3' HR H10 H6 HT
    go_enter Try.func17, Try.ntmps17
    go_wp2_with (first | (go_at_call 28; refine (HN.out _ (by assumption) _).mono ?_; rintro e w' ⟨rfl, rfl⟩))
    go_ret
    exact ⟨rfl, HB.out _⟩
  cases h1 : codeB c.mem 1 12
  · rw [H9.out (by unfold namesB; rw [h0, h1]; rfl)]
    clear H9 H3 H9' H3' HR H10 H6 HT
    go_enter Try.func17, Try.ntmps17
    go_wp2_with (first | (go_at_call 28; refine (HN.out _ (by assumption) _).mono ?_; rintro e w' ⟨rfl, rfl⟩))
    go_ret
    exact ⟨rfl, HB.out _⟩
  cases h2 : codeB c.fam 1 12
  · rw [H9.out (by unfold namesB; rw [h0, h1, h2]; rfl)]
    clear H9 H3 H9' H3' HR H10 H6 HT
    go_enter Try.func17, Try.ntmps17
    go_wp2_with (first | (go_at_call 28; refine (HN.out _ (by assumption) _).mono ?_; rintro e w' ⟨rfl, rfl⟩))
    go_ret
    exact ⟨rfl, HB.out _⟩
  have hn : namesB c = true := by unfold namesB; rw [h0, h1, h2]; rfl
  clear H9
  by_cases g1 : c.net < 0
  · have d1 : decide (c.net < 0) = true := decide_eq_true g1
    rw [H3.out hn (by unfold netB; rw [decide_eq_false (by omega), decide_eq_false (by omega)]; rfl)]
    clear H3 H9' H3' HR H10 H6 HT
    go_enter Try.func17, Try.ntmps17
    go_wp2_with (first | (go_at_call 28; refine (HN.out _ (by assumption) _).mono ?_; rintro e w' ⟨rfl, rfl⟩))
    go_ret
    exact ⟨rfl, HB.out _⟩
  have d1 : decide (c.net < 0) = false := decide_eq_false g1
  by_cases g2 : 1 < c.net
  · have d2 : decide (1 < c.net) = true := decide_eq_true g2
    rw [H3.out hn (by unfold netB; rw [decide_eq_false (by omega), decide_eq_false (by omega)]; rfl)]
    clear H3 H9' H3' HR H10 H6 HT
    go_enter Try.func17, Try.ntmps17
    go_wp2_with (first | (go_at_call 28; refine (HN.out _ (by assumption) _).mono ?_; rintro e w' ⟨rfl, rfl⟩))
    go_ret
    exact ⟨rfl, HB.out _⟩
  have d2 : decide (1 < c.net) = false := decide_eq_false g2
  have hnet : netB c.net = true := by
    unfold netB
    rw [Bool.or_eq_true, decide_eq_true_eq, decide_eq_true_eq]
    omega
  clear H3
  have r0 := mk_empty c.ref
  have r1 := raw_empty c.ref
  have e1 : (c.does == 1) = decide (c.does = 1) := by rw [Bool.eq_iff_iff]; simp
  have e7 : (c.does == 7) = decide (c.does = 7) := by rw [Bool.eq_iff_iff]; simp
  have e8 : (c.does == 8) = decide (c.does = 8) := by rw [Bool.eq_iff_iff]; simp
  have n1 : (c.does != 1) = !decide (c.does = 1) := by rw [Bool.eq_iff_iff]; simp
  have n7 : (c.does != 7) = !decide (c.does = 7) := by rw [Bool.eq_iff_iff]; simp
  have n8 : (c.does != 8) = !decide (c.does = 8) := by rw [Bool.eq_iff_iff]; simp
  obtain ⟨V1, hV1⟩ : ∃ V, V = decide (c.does = 1) := ⟨_, rfl⟩
  obtain ⟨V7, hV7⟩ : ∃ V, V = decide (c.does = 7) := ⟨_, rfl⟩
  obtain ⟨V8, hV8⟩ : ∃ V, V = decide (c.does = 8) := ⟨_, rfl⟩
  rw [← hV1] at e1 n1
  rw [← hV7] at e7 n7
  rw [← hV8] at e8 n8
  by_cases q1 : c.does = 1
  · have hrb : refB c = decide (c.ref = []) := by unfold refB; rw [if_pos q1]
    rw [decide_eq_true q1] at hV1
    rw [decide_eq_false (by omega)] at hV7 hV8
    have hdb : doesB c.does = true := by unfold doesB; rw [decide_eq_true q1]; rfl
    have hvb : voidB c = (false == decide (c.lines.length = 0)) := by unfold voidB; rw [decide_eq_false (p := c.does = 8) (by omega)]
    clear q1
    cases h3 : decide (c.ref = [])
    · rw [h3] at r0 r1 hrb
      rw [H9'.out hn hnet hrb]
      clear H9' H3' HR H10 H6 HT hvb hdb hrb h3
      go_enter Try.func17, Try.ntmps17
      go_wp2_with (first | (go_at_call 28; refine (HN.out _ (by assumption) _).mono ?_; rintro e w' ⟨rfl, rfl⟩))
      go_ret
      exact ⟨rfl, HB.out _⟩
    rw [h3] at r0 r1 hrb
    rw [HR.out hn hnet hrb hdb]
    clear H9' H3' HR hrb hdb h3 hn hnet
    by_cases l9 : c.lines.length ≤ 999
    case neg =>
      rw [H10.out l9]
      have l9' : (999 : Int) < (c.lines.length : Int) := by omega
      clear H10 H6 HT hvb l9
      go_enter Try.func17, Try.ntmps17
      go_wp2_with (first | (go_at_call 28; refine (HN.out _ (by assumption) _).mono ?_; rintro e w' ⟨rfl, rfl⟩))
      go_ret
      exact ⟨rfl, HB.out _⟩
    have l9' : ¬ (999 : Int) < (c.lines.length : Int) := by omega
    by_cases lz : c.lines.length = 0
    · rw [decide_eq_true lz] at hvb
      rw [H6.out l9 hvb]
      clear H10 H6 HT hvb l9
      generalize c.lines.length = N at *
      subst lz
      go_enter Try.func17, Try.ntmps17
      go_wp2_with (first | (go_at_call 28; refine (HN.out _ (by assumption) _).mono ?_; rintro e w' ⟨rfl, rfl⟩))
      go_ret
      exact ⟨rfl, HB.out _⟩
    · rw [decide_eq_false lz] at hvb
      rw [HT.out l9 hvb]
      have hpos : 0 < c.lines.length := by omega
      have ez : ((c.lines.length : Int) == 0) = false := by rw [beq_eq_false_iff_ne]; omega
      clear H10 H6 HT hvb l9 lz
      go_enter Try.func17, Try.ntmps17
      go_wp2_with (first | (go_at_call 28; refine (HN.out _ (by assumption) _).mono ?_; rintro e w' ⟨rfl, rfl⟩) | (go_at_call 32; refine (HL.out).mono ?_; rintro e w1 ⟨rfl, hb⟩; have HB1 := Lib.hid (below_trans (HB.out _) hb); clear hb))
      go_ret
      exact ⟨rfl, HB1.out⟩
  rw [decide_eq_false q1] at hV1
  have hrb : refB c = codeB c.ref 1 12 := by unfold refB; rw [if_neg q1]
  clear r0 r1
  cases h3 : codeB c.ref 1 12
  · rw [h3] at hrb
    rw [H9'.out hn hnet hrb]
    clear H9' H3' HR H10 H6 HT hrb e7 n7 e8 n8 hV7 hV8
    go_enter Try.func17, Try.ntmps17
    go_wp2_with (first | (go_at_call 28; refine (HN.out _ (by assumption) _).mono ?_; rintro e w' ⟨rfl, rfl⟩))
    go_ret
    exact ⟨rfl, HB.out _⟩
  rw [h3] at hrb
  by_cases q7 : c.does = 7
  · rw [decide_eq_true q7] at hV7
    rw [decide_eq_false (by omega)] at hV8
    have hdb : doesB c.does = true := by unfold doesB; rw [decide_eq_true q7]; simp
    have hvb : voidB c = (false == decide (c.lines.length = 0)) := by unfold voidB; rw [decide_eq_false (p := c.does = 8) (by omega)]
    clear q1 q7
    rw [HR.out hn hnet hrb hdb]
    clear H9' H3' HR hrb hdb hn hnet
    by_cases l9 : c.lines.length ≤ 999
    case neg =>
      rw [H10.out l9]
      have l9' : (999 : Int) < (c.lines.length : Int) := by omega
      clear H10 H6 HT hvb l9
      go_enter Try.func17, Try.ntmps17
      go_wp2_with (first | (go_at_call 28; refine (HN.out _ (by assumption) _).mono ?_; rintro e w' ⟨rfl, rfl⟩))
      go_ret
      exact ⟨rfl, HB.out _⟩
    have l9' : ¬ (999 : Int) < (c.lines.length : Int) := by omega
    by_cases lz : c.lines.length = 0
    · rw [decide_eq_true lz] at hvb
      rw [H6.out l9 hvb]
      clear H10 H6 HT hvb l9
      generalize c.lines.length = N at *
      subst lz
      go_enter Try.func17, Try.ntmps17
      go_wp2_with (first | (go_at_call 28; refine (HN.out _ (by assumption) _).mono ?_; rintro e w' ⟨rfl, rfl⟩))
      go_ret
      exact ⟨rfl, HB.out _⟩
    · rw [decide_eq_false lz] at hvb
      rw [HT.out l9 hvb]
      have hpos : 0 < c.lines.length := by omega
      have ez : ((c.lines.length : Int) == 0) = false := by rw [beq_eq_false_iff_ne]; omega
      clear H10 H6 HT hvb l9 lz
      go_enter Try.func17, Try.ntmps17
      go_wp2_with (first | (go_at_call 28; refine (HN.out _ (by assumption) _).mono ?_; rintro e w' ⟨rfl, rfl⟩) | (go_at_call 32; refine (HL.out).mono ?_; rintro e w1 ⟨rfl, hb⟩; have HB1 := Lib.hid (below_trans (HB.out _) hb); clear hb))
      go_ret
      exact ⟨rfl, HB1.out⟩
  rw [decide_eq_false q7] at hV7
  by_cases q8 : c.does = 8
  · rw [decide_eq_true q8] at hV8
    have hdb : doesB c.does = true := by unfold doesB; rw [decide_eq_true q8]; simp
    have hvb : voidB c = (true == decide (c.lines.length = 0)) := by unfold voidB; rw [decide_eq_true q8]
    clear q1 q7 q8
    rw [HR.out hn hnet hrb hdb]
    clear H9' H3' HR hrb hdb hn hnet
    by_cases l9 : c.lines.length ≤ 999
    case neg =>
      rw [H10.out l9]
      have l9' : (999 : Int) < (c.lines.length : Int) := by omega
      clear H10 H6 HT hvb l9
      go_enter Try.func17, Try.ntmps17
      go_wp2_with (first | (go_at_call 28; refine (HN.out _ (by assumption) _).mono ?_; rintro e w' ⟨rfl, rfl⟩))
      go_ret
      exact ⟨rfl, HB.out _⟩
    have l9' : ¬ (999 : Int) < (c.lines.length : Int) := by omega
    by_cases lz : c.lines.length = 0
    · rw [decide_eq_true lz] at hvb
      rw [HT.out l9 hvb]
      clear H10 H6 HT hvb l9
      generalize c.lines.length = N at *
      subst lz
      go_enter Try.func17, Try.ntmps17
      go_wp2_with (first | (go_at_call 28; refine (HN.out _ (by assumption) _).mono ?_; rintro e w' ⟨rfl, rfl⟩) | (go_at_call 32; refine (HL.out).mono ?_; rintro e w1 ⟨rfl, hb⟩; have HB1 := Lib.hid (below_trans (HB.out _) hb); clear hb))
      go_ret
      exact ⟨rfl, HB1.out⟩
    · rw [decide_eq_false lz] at hvb
      rw [H6.out l9 hvb]
      have hpos : 0 < c.lines.length := by omega
      have ez : ((c.lines.length : Int) == 0) = false := by rw [beq_eq_false_iff_ne]; omega
      clear H10 H6 HT hvb l9 lz
      go_enter Try.func17, Try.ntmps17
      go_wp2_with (first | (go_at_call 28; refine (HN.out _ (by assumption) _).mono ?_; rintro e w' ⟨rfl, rfl⟩))
      go_ret
      exact ⟨rfl, HB.out _⟩
  rw [decide_eq_false q8] at hV8
  rw [H3'.out hn hnet hrb (by unfold doesB; rw [decide_eq_false q1, decide_eq_false q7, decide_eq_false q8]; rfl)]
  clear H9' H3' HR H10 H6 HT hrb q1 q7 q8 hn hnet
  go_enter Try.func17, Try.ntmps17
  go_wp2_with (first | (go_at_call 28; refine (HN.out _ (by assumption) _).mono ?_; rintro e w' ⟨rfl, rfl⟩))
  go_ret
  exact ⟨rfl, HB.out _⟩
end Go.Proofs.Ytpnkgkchpoehcaa.Cm
end
