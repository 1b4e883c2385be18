/-
  Texts put together (merge.py): BRAdm.
-/
import Derived.Test.YtjgceppbhmmbjaaDoorMb10
/-
  What the reference's Admit answers, as a contract: for all books and claims.
-/
section
set_option linter.unusedSimpArgs false
set_option linter.unusedVariables false
set_option maxRecDepth 100000
namespace Go.Proofs.YtjgceppbhmmbjaaDoor.Bk
open Go.RowKit
open Cm (Ln Cl cl0 LnsAt ClCells lnv clv LnOk ClOk boxc)
open Sh (Ot)


set_option maxHeartbeats 8000000 in
theorem radmit_any (l : List En) (c : Cl) (most : Int) (v m : Value) (w : World) (h : EnsAt All w v l) (hm : LnsAt All w m c.lines) (hz : ClOk c) (hl : c.lines.length ≤ 1000000) :
    Calls Tryd.prog 15 #[v, clv c m, .int .i64 most] w fun e w' => e = .returned (.int .i64 (admE l c most)) ∧ Below w.heap.size w w' := by
  have HB0 := Lib.hid (below_alloc w (boxc c m))
  have HC := Lib.hid (Cm.rcheck_any c m (w.alloc (boxc c m)) (LnsAt.move hm (Below.moves HB0.out)) hz hl)
  have HE : Hid (∀ w', Below (w.alloc (boxc c m)).heap.size (w.alloc (boxc c m)) w' → EnsAt All w' v l) := fun w' hb => h.grw (below_trans HB0.out hb)
  have HBX : Hid (∀ w', Below (w.alloc (boxc c m)).heap.size (w.alloc (boxc c m)) w' → Cm.ClBox w' w.heap.size c m) := fun w' hb => cl_box w c m hb
  have HBZ : Hid (∀ w' q, Below (w.alloc (boxc c m)).heap.size (w.alloc (boxc c m)) w' → Below w.heap.size w (w'.drewN q)) := fun w' q hb => (below_trans HB0.out hb).trans ⟨rfl, rfl, rfl, Nat.le_refl _, fun _ _ => rfl⟩
  obtain ⟨fa, fk, rfl, hm1, hm2⟩ := h.form
  obtain ⟨ma, mk', rfl, -, -⟩ := Cm.LnsAt.form hm
  clear h hm
  by_cases h0 : Cm.checkE c = 0
  case neg =>
    rw [adm_chk h0]
    have h0b : (Cm.checkE c != 0) = true := by simp [h0]
    clear hz
    go_enter Tryd.func15, Tryd.ntmps15
    go_wp2_with (first | (go_at_call 32; refine (HC.out).mono ?_; rintro e w1 ⟨rfl, hb1⟩; obtain ⟨n0, n1, n2, n3, n4, n5, n6⟩ := HBX.out _ hb1; have HB1 := Lib.hid hb1; have HF1 := Lib.hid (HE.out _ hb1); clear hb1))
    go_ret
    exact ⟨rfl, below_trans HB0.out HB1.out⟩
  rw [h0] at HC
  cases hf : find l c.id with
  | some i =>
    have hfv := find_id hf
    rw [adm12 h0 (by rw [hf]; simp)]
    have hi0 : (0 : Int) ≤ (i : Int) := by omega
    clear hf h0 hz
    go_enter Tryd.func15, Tryd.ntmps15
    go_wp2_with (first | (go_at_call 32; refine (HC.out).mono ?_; rintro e w1 ⟨rfl, hb1⟩; obtain ⟨n0, n1, n2, n3, n4, n5, n6⟩ := HBX.out _ hb1; have HB1 := Lib.hid hb1; have HF1 := Lib.hid (HE.out _ hb1); clear hb1) | (go_at_call 17; refine (rfind_any l c.id _ _ HF1.out).mono ?_; rintro e w2 ⟨rfl, rfl⟩; rw [hfv]))
    go_ret
    exact ⟨rfl, below_trans HB0.out HB1.out⟩
  | none =>
    have hfv := find_no hf
    by_cases h1 : c.does = 1
    · have r := ref1 (l := l) h1
      have d1 : (c.does != 1) = false := by rw [h1]; rfl
      by_cases h3 : (l.length : Int) < most
      · rw [adm0 h0 hf r h3]
        have h3b : ¬ (most ≤ (l.length : Int)) := by omega
        clear h0 hf r h1 hz h3
        go_enter Tryd.func15, Tryd.ntmps15
        go_wp2_with (first | (go_at_call 32; refine (HC.out).mono ?_; rintro e w1 ⟨rfl, hb1⟩; obtain ⟨n0, n1, n2, n3, n4, n5, n6⟩ := HBX.out _ hb1; have HB1 := Lib.hid hb1; have HF1 := Lib.hid (HE.out _ hb1); clear hb1) | (go_at_call 17; refine (rfind_any l c.id _ _ HF1.out).mono ?_; rintro e w2 ⟨rfl, rfl⟩; rw [hfv]))
        go_ret
        exact ⟨rfl, below_trans HB0.out HB1.out⟩
      · rw [adm16 h0 hf r h3]
        have h3b : (most ≤ (l.length : Int)) := by omega
        clear h0 hf r h1 hz h3
        go_enter Tryd.func15, Tryd.ntmps15
        go_wp2_with (first | (go_at_call 32; refine (HC.out).mono ?_; rintro e w1 ⟨rfl, hb1⟩; obtain ⟨n0, n1, n2, n3, n4, n5, n6⟩ := HBX.out _ hb1; have HB1 := Lib.hid hb1; have HF1 := Lib.hid (HE.out _ hb1); clear hb1) | (go_at_call 17; refine (rfind_any l c.id _ _ HF1.out).mono ?_; rintro e w2 ⟨rfl, rfl⟩; rw [hfv]))
        go_ret
        exact ⟨rfl, below_trans HB0.out HB1.out⟩
    · have r := refL (l := l) h1
      have d1 : (c.does != 1) = true := by simp [h1]
      cases hf2 : find l c.ref with
      | none =>
        obtain ⟨e1, hfr⟩ := link13 hf2
        rw [adm_ref h0 hf (by rw [r, e1]; simp), r, e1]
        clear h0 hf r h1 hz e1 hf2
        go_enter Tryd.func15, Tryd.ntmps15
        go_wp2_with (first | (go_at_call 32; refine (HC.out).mono ?_; rintro e w1 ⟨rfl, hb1⟩; obtain ⟨n0, n1, n2, n3, n4, n5, n6⟩ := HBX.out _ hb1; have HB1 := Lib.hid hb1; have HF1 := Lib.hid (HE.out _ hb1); clear hb1) | (go_at_call 17; refine (rfind_any l _ _ _ HF1.out).mono ?_; rintro e w2 ⟨rfl, rfl⟩; first | rw [hfv] | rw [hfr]))
        go_ret
        exact ⟨rfl, below_trans HB0.out HB1.out⟩
      | some i =>
        obtain ⟨x, hx, hi, hfr, e1⟩ := link_at hf2
        have HX := Lib.hid hx
        have hi0 : ¬ (i : Int) < 0 := by omega
        by_cases hsx : x.st = 0
        case neg =>
          rw [if_neg hsx] at e1
          have hs2 : (x.st != 0) = true := by simp [hsx]
          rw [adm_ref h0 hf (by rw [r, e1]; simp), r, e1]
          clear h0 hf r h1 hz e1 hf2 hx hsx
          go_enter Tryd.func15, Tryd.ntmps15
          go_wp2_with (first | (go_at_call 32; refine (HC.out).mono ?_; rintro e w1 ⟨rfl, hb1⟩; obtain ⟨n0, n1, n2, n3, n4, n5, n6⟩ := HBX.out _ hb1; have HB1 := Lib.hid hb1; have HF1 := Lib.hid (HE.out _ hb1); obtain ⟨b, o, m2, mo, hfa, c0, c1, c2, c3, c4, c5, c6, c7, c8, c9⟩ := en_get (v := .slice fa l.length fk) HF1.out HX.out; subst hfa; clear hb1) | (go_at_call 17; refine (rfind_any l _ _ _ HF1.out).mono ?_; rintro e w2 ⟨rfl, rfl⟩; first | rw [hfv] | rw [hfr]))
          go_ret
          exact ⟨rfl, below_trans HB0.out HB1.out⟩
        rw [if_pos hsx] at e1
        have q1 := Cm.mk_ne x.cl.mem c.mem
        have q2 := Cm.mk_ne x.cl.fam c.fam
        by_cases hmm : x.cl.mem = c.mem
        case neg =>
          rw [decide_eq_false hmm] at q1
          rw [if_neg (fun q => hmm q.1)] at e1
          rw [adm_ref h0 hf (by rw [r, e1]; simp), r, e1]
          clear h0 hf r h1 hz e1 hf2 hx hmm q2
          go_enter Tryd.func15, Tryd.ntmps15
          go_wp2_with (first | (go_at_call 32; refine (HC.out).mono ?_; rintro e w1 ⟨rfl, hb1⟩; obtain ⟨n0, n1, n2, n3, n4, n5, n6⟩ := HBX.out _ hb1; have HB1 := Lib.hid hb1; have HF1 := Lib.hid (HE.out _ hb1); obtain ⟨b, o, m2, mo, hfa, c0, c1, c2, c3, c4, c5, c6, c7, c8, c9⟩ := en_get (v := .slice fa l.length fk) HF1.out HX.out; subst hfa; rw [hsx] at c8; clear hb1) | (go_at_call 17; refine (rfind_any l _ _ _ HF1.out).mono ?_; rintro e w2 ⟨rfl, rfl⟩; first | rw [hfv] | rw [hfr]))
          go_quiet (fail)
          go_wp2
          go_ret
          exact ⟨rfl, HBZ.out _ _ HB1.out⟩
        rw [decide_eq_true hmm] at q1
        by_cases hff : x.cl.fam = c.fam
        case neg =>
          rw [decide_eq_false hff] at q2
          rw [if_neg (fun q => hff q.2)] at e1
          rw [adm_ref h0 hf (by rw [r, e1]; simp), r, e1]
          clear h0 hf r h1 hz e1 hf2 hx hmm hff
          go_enter Tryd.func15, Tryd.ntmps15
          go_wp2_with (first | (go_at_call 32; refine (HC.out).mono ?_; rintro e w1 ⟨rfl, hb1⟩; obtain ⟨n0, n1, n2, n3, n4, n5, n6⟩ := HBX.out _ hb1; have HB1 := Lib.hid hb1; have HF1 := Lib.hid (HE.out _ hb1); obtain ⟨b, o, m2, mo, hfa, c0, c1, c2, c3, c4, c5, c6, c7, c8, c9⟩ := en_get (v := .slice fa l.length fk) HF1.out HX.out; subst hfa; rw [hsx] at c8; clear hb1) | (go_at_call 17; refine (rfind_any l _ _ _ HF1.out).mono ?_; rintro e w2 ⟨rfl, rfl⟩; first | rw [hfv] | rw [hfr]))
          go_quiet (fail)
          go_wp2
          go_ret
          exact ⟨rfl, HBZ.out _ _ HB1.out⟩
        rw [decide_eq_true hff] at q2
        rw [if_pos ⟨hmm, hff⟩] at e1
        by_cases h3 : (l.length : Int) < most
        · rw [adm0 h0 hf (by rw [r, e1]) h3]
          have h3b : ¬ (most ≤ (l.length : Int)) := by omega
          clear h0 hf r h1 hz e1 hf2 hx hmm hff h3
          go_enter Tryd.func15, Tryd.ntmps15
          go_wp2_with (first | (go_at_call 32; refine (HC.out).mono ?_; rintro e w1 ⟨rfl, hb1⟩; obtain ⟨n0, n1, n2, n3, n4, n5, n6⟩ := HBX.out _ hb1; have HB1 := Lib.hid hb1; have HF1 := Lib.hid (HE.out _ hb1); obtain ⟨b, o, m2, mo, hfa, c0, c1, c2, c3, c4, c5, c6, c7, c8, c9⟩ := en_get (v := .slice fa l.length fk) HF1.out HX.out; subst hfa; rw [hsx] at c8; clear hb1) | (go_at_call 17; refine (rfind_any l _ _ _ HF1.out).mono ?_; rintro e w2 ⟨rfl, rfl⟩; first | rw [hfv] | rw [hfr]))
          go_quiet (fail)
          go_wp2
          go_ret
          exact ⟨rfl, HBZ.out _ _ HB1.out⟩
        · rw [adm16 h0 hf (by rw [r, e1]) h3]
          have h3b : (most ≤ (l.length : Int)) := by omega
          clear h0 hf r h1 hz e1 hf2 hx hmm hff h3
          go_enter Tryd.func15, Tryd.ntmps15
          go_wp2_with (first | (go_at_call 32; refine (HC.out).mono ?_; rintro e w1 ⟨rfl, hb1⟩; obtain ⟨n0, n1, n2, n3, n4, n5, n6⟩ := HBX.out _ hb1; have HB1 := Lib.hid hb1; have HF1 := Lib.hid (HE.out _ hb1); obtain ⟨b, o, m2, mo, hfa, c0, c1, c2, c3, c4, c5, c6, c7, c8, c9⟩ := en_get (v := .slice fa l.length fk) HF1.out HX.out; subst hfa; rw [hsx] at c8; clear hb1) | (go_at_call 17; refine (rfind_any l _ _ _ HF1.out).mono ?_; rintro e w2 ⟨rfl, rfl⟩; first | rw [hfv] | rw [hfr]))
          go_quiet (fail)
          go_wp2
          go_ret
          exact ⟨rfl, HBZ.out _ _ HB1.out⟩
end Go.Proofs.YtjgceppbhmmbjaaDoor.Bk
end
