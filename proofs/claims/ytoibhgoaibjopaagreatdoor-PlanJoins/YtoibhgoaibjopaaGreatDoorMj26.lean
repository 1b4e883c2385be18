/-
  Texts put together (merge.py): PRules.
-/
import Derived.Test.YtoibhgoaibjopaaGreatDoorMj25
/-
  What the reader's rules does, as a contract.
-/
section
set_option linter.unusedSimpArgs false
set_option linter.unusedVariables false
set_option maxRecDepth 100000
namespace Go.Proofs.YtoibhgoaibjopaaGreatDoor.Pl
open Go.RowKit
open Wo (Wd WdsAt box_cell box_two keepB heap_far)

abbrev Rw := Ru × Value × Value × Value
def rcs : List Rw → List Value
  | [] => []
  | (r, k, u, s) :: t => .int .i64 r.rank :: .int .i64 r.cif.kind :: .string (mk r.cif.lo) :: .string (mk r.cif.hi) :: .int .i64 r.cif.n :: k :: u :: s :: rcs t
theorem rcs_app (a b : List Rw) : rcs (a ++ b) = rcs a ++ rcs b := by induction a <;> simp_all [rcs]
abbrev r8 (t : Rw) : List Value := [.int .i64 t.1.rank, .int .i64 t.1.cif.kind, .string (mk t.1.cif.lo), .string (mk t.1.cif.hi), .int .i64 t.1.cif.n, t.2.1, t.2.2.1, t.2.2.2]
theorem rcs_at : ∀ (a : List Rw) (j : Nat) (t : Rw), a[j]? = some t → ∀ i, i < 8 → (rcs a)[j * 8 + i]? = (r8 t)[i]?
  | [], j, t, h, _, _ => by simp at h
  | (r, k, u, s) :: b, 0, t, h, i, hi => by
    simp at h; subst h
    match i, hi with
    | 0, _ => rfl
    | 1, _ => rfl
    | 2, _ => rfl
    | 3, _ => rfl
    | 4, _ => rfl
    | 5, _ => rfl
    | 6, _ => rfl
    | 7, _ => rfl
  | (r, k, u, s) :: b, j + 1, t, h, i, hi => by
    have := rcs_at b j t (by simpa using h) i hi
    rw [show (j + 1) * 8 + i = (j * 8 + i) + 8 by omega]
    simpa [rcs] using this
/-- A row of rules of the call's own. -/
def RvAt (B : Nat) (w : World) (v : Value) (rs : List Ru) : Prop :=
  ∃ L : List Rw, L.map (·.1) = rs ∧ w.ownsRow B 35 8 v L.length (rcs L) ∧ ∀ t ∈ L, RuIn (fun b => B ≤ b ∧ v.ownBlock ≠ some b) w t.1 t.2.1 t.2.2.1 t.2.2.2
theorem RvAt.nil (B : Nat) (w : World) : RvAt B w (.slice none 0 0) [] := ⟨[], rfl, World.ownsRow_nil _ _ _ _, by simp⟩
theorem RvAt.rus {B : Nat} {w : World} {v : Value} {rs : List Ru} (h : RvAt B w v rs) (hl : rs.length ≤ Big) : RusAt (fun b => B ≤ b) w v rs := by
  obtain ⟨L, rfl, h, hin⟩ := h
  have hlen : (L.map (·.1)).length = L.length := by simp
  have hmv : Moves (fun b => B ≤ b ∧ v.ownBlock ≠ some b) (fun b => B ≤ b) w w := moves_weak w fun b _ hk => hk.1
  obtain ⟨hln, h⟩ := h
  rcases h with ⟨rfl, h0⟩ | ⟨g, cap, cur, rfl, hB, hg, h1, h2, hs, ht⟩
  · obtain rfl := List.length_eq_zero_iff.1 h0
    exact RusAt.nil _ _
  · refine ⟨_, cap, by rw [hlen], by rw [hlen]; exact h1, h2, hl, Or.inr ⟨g, 0, rfl, hB, (Array.getElem?_eq_some_iff.1 hg).1, fun j x hj => ?_⟩⟩
    rw [List.getElem?_map] at hj
    cases hL : L[j]? with
    | none => rw [hL] at hj; cases hj
    | some t =>
      rw [hL] at hj
      obtain rfl := Option.some.inj hj
      have hjl : j < L.length := (List.getElem?_eq_some_iff.1 hL).1
      have e : ∀ i, i < 8 → w.cell? ⟨g, 0 + j * 8 + i, none⟩ = (r8 t)[i]? := fun i hi => by
        have q := rcs_at L j t hL i hi
        rw [← ht, List.getElem?_take, if_pos (by omega)] at q
        rw [cell_of_row w g _ cur _ (0, 0) hg, Nat.zero_add]
        simpa using q
      exact ⟨t.2.1, t.2.2.1, t.2.2.2, ⟨e 0 (by omega), e 1 (by omega), e 2 (by omega), e 3 (by omega), e 4 (by omega), e 5 (by omega), e 6 (by omega), e 7 (by omega)⟩, (hin t (List.mem_of_getElem? hL)).move hmv⟩
theorem RvAt.rd {B q : Nat} {w w' : World} {v : Value} {rs : List Ru} (h : RvAt B w v rs) (hg : w.grownBy w' (some q)) (hq : q < B) : RvAt B w' v rs := by
  obtain ⟨L, h1, h2, h3⟩ := h
  exact ⟨L, h1, own_rd h2 hg hq, fun t ht => (h3 t ht).move (moves_grown hg fun b _ hk => ⟨hk, fun e => by have : b = q := Option.some.inj e; have := hk.1; omega⟩)⟩
theorem RvAt.grw {B : Nat} {w w' : World} {v : Value} {rs : List Ru} (h : RvAt B w v rs) (hb : Below w.heap.size w w') : RvAt B w' v rs := by
  obtain ⟨L, h1, h2, h3⟩ := h
  exact ⟨L, h1, h2.kept (grown_of (p := none) hb) (by cases v.ownBlock <;> simp), fun t ht => (h3 t ht).move (moves_new hb)⟩
theorem RvAt.app {B : Nat} {w w' : World} {v v' : Value} {L : List Rw} {t : Rw} (h2 : w.ownsRow B 35 8 v L.length (rcs L))
    (h3 : ∀ t ∈ L, RuIn (fun b => B ≤ b ∧ v.ownBlock ≠ some b) w t.1 t.2.1 t.2.2.1 t.2.2.2) (ht : RuIn (fun b => B ≤ b ∧ v.ownBlock ≠ some b) w t.1 t.2.1 t.2.2.1 t.2.2.2)
    (hown : w'.ownsRow B 35 8 v' (L.length + 1) (rcs L ++ r8 t)) (hg : w.grownBy w' v.ownBlock) (hat : v'.ownBlock = v.ownBlock ∨ v'.ownBlock = some w.heap.size) : RvAt B w' v' (L.map (·.1) ++ [t.1]) := by
  have hmv : Moves (fun b => B ≤ b ∧ v.ownBlock ≠ some b) (fun b => B ≤ b ∧ v'.ownBlock ≠ some b) w w' := moves_grown hg fun b hb hk => ⟨⟨hk.1, by
    rcases hat with e | e
    · rw [e]; exact hk.2
    · rw [e]; intro he; have := Option.some.inj he; omega⟩, fun he => hk.2 he.symm⟩
  refine ⟨L ++ [t], by simp, by rw [rcs_app, List.length_append]; exact hown, fun y hy => ?_⟩
  rcases List.mem_append.1 hy with hy | hy
  · exact (h3 y hy).move hmv
  · simp at hy; subst hy; exact ht.move hmv
theorem infoR : ∃ i, Tryz.prog.info? 35 = some i ∧ i.zero = some (.agg #[.int .i64 0, .int .i64 0, .string ByteArray.empty, .string ByteArray.empty, .int .i64 0, .slice none 0 0, .slice none 0 0, .slice none 0 0]) ∧ i.size = 8 ∧ i.bytes = 128 := by
  have hi : (Tryz.prog.info? 35).map (fun i => (i.zero, i.size, i.bytes)) = some (some (.agg #[.int .i64 0, .int .i64 0, .string ByteArray.empty, .string ByteArray.empty, .int .i64 0, .slice none 0 0, .slice none 0 0, .slice none 0 0]), 8, 128) := by kernel_rfl
  cases hq : Tryz.prog.info? 35 with
  | none => rw [hq] at hi; cases hi
  | some i =>
    rw [hq] at hi
    simp only [Option.map_some, Option.some.injEq, Prod.mk.injEq] at hi
    exact ⟨i, rfl, hi⟩
def rsR (x : Except (Int × Nat) (List Ru)) : R (List Ru) := match x with | .error e => .error e | .ok rs => .ok (rs, [])
theorem pRule_eq (E : Nat) (l : List Wd) : pRule E l = match pTake E tRule l with | .error e => .error e | .ok l => pRuleB E l := rfl
theorem rules_nil (E f : Nat) (acc : List Ru) : pRules E f acc [] = .ok acc := by cases f <;> simp [pRules]
theorem rules_step (E f : Nat) (acc : List Ru) (x : Wd) (r : List Wd) : pRules E (f + 1) acc (x :: r) = match pRule E (x :: r) with | .error e => .error e | .ok (r, l) => pRules E f (acc ++ [r]) l := by
  conv => lhs; unfold pRules
  simp only [List.isEmpty_cons, Bool.false_eq_true, if_false]
  cases pRule E (x :: r) <;> rfl
theorem rules_bad1 {E g : Nat} {acc : List Ru} {x : Wd} {r : List Wd} {e : Int × Nat} (h : pTake E tRule (x :: r) = .error e) : pRules E g acc (x :: r) = .error e := by
  cases g with
  | zero =>
    obtain ⟨t, a⟩ := x
    simp only [pTake] at h
    show (.error (if t = tRule then 10 else 4, a) : Except (Int × Nat) (List Ru)) = .error e
    split at h
    · cases h
    · next hn => rw [if_neg hn]; simp only [Except.error.injEq] at h; rw [h]
  | succ g => rw [rules_step, pRule_eq, h]
theorem rules_full {E : Nat} {acc : List Ru} {x : Wd} {r l : List Wd} (h : pTake E tRule (x :: r) = .ok l) : pRules E 0 acc (x :: r) = .error (10, x.2) := by
  obtain ⟨p, e⟩ := take_inv h
  simp only [List.cons.injEq] at e
  obtain ⟨rfl, rfl⟩ := e
  show (.error (if tRule = tRule then 10 else 4, p) : Except (Int × Nat) (List Ru)) = .error (10, p)
  rw [if_pos rfl]
theorem rules_one {E f : Nat} {acc : List Ru} {x : Wd} {r l : List Wd} (h : pTake E tRule (x :: r) = .ok l) : pRules E (f + 1) acc (x :: r) = match pRuleB E l with | .error e => .error e | .ok (r, l) => pRules E f (acc ++ [r]) l := by
  rw [rules_step, pRule_eq, h]
def Rusv (B : Nat) (rs : List Ru) (v : Value) (w : World) : Prop := RusAt (fun b => B ≤ b) w v rs ∧ ∃ a c, v = .slice a rs.length c
theorem RvAt.form {B : Nat} {w : World} {v : Value} {rs : List Ru} (h : RvAt B w v rs) : ∃ a c, v = .slice a rs.length c ∧ rs.length ≤ c ∧ c ≤ 9223372036854775807 := by
  obtain ⟨L, rfl, h, -⟩ := h
  obtain ⟨a, c, e, h1, h2⟩ := own_form h
  exact ⟨a, c, by rw [e]; simp, by simpa using h1, h2⟩
set_option maxHeartbeats 16000000 in
theorem rules_any (q E : Nat) (l : List Wd) (w : World) (h : RdAt q E l w) :
    Calls Tryz.prog 48 #[.pointer (some ⟨q, 0, none⟩)] w fun e w' => Ans q E w (Rusv w.heap.size) (rsR (pRules E 64 [] l)) e w' := by
  have hq := h.lt
  have HR0 := Lib.hid h
  obtain ⟨iR, s1, s2, s3, s4⟩ := infoR
  clear h
  obtain ⟨RR, hgen⟩ : ∃ RR, RR = pRules E 64 [] l := ⟨_, rfl⟩
  have HRR := Lib.hid hgen
  rw [← hgen]
  clear hgen
  go_enter Tryz.func48, Tryz.ntmps48
  go_wp2
  go_loopg [3] 64 (fun g v wr => ∃ (acc : List Ru) (l' : List Wd), acc.length + g = 64 ∧ Hid (RvAt w.heap.size wr v acc) ∧ Hid (RdAt q E l' wr) ∧ Hid (w.grownBy wr (some q)) ∧ Hid (RR = pRules E g acc l'))
  case atStart => exact ⟨[], l, by simp, RvAt.nil _ _, HR0.out, grown_of (Below.refl _ w), HRR.out⟩
  case round =>
    clear HRR HR0
    obtain ⟨acc, l', hgk, HV, HR, HG, HRR⟩ := hrel
    obtain ⟨va, vc, rfl, hv1, hv2⟩ := HV.out.form
    have hsz := HG.out.size
    obtain ⟨vl, hbq, hW, hX⟩ := HR.out
    obtain ⟨c0, c1, -, -⟩ := box_two hbq
    obtain ⟨la, lc, rfl, hl1, hl2⟩ := hW.form
    cases l' with
    | nil =>
      simp only [List.length_nil] at c0 hl1
      have HRES := Lib.hid (HRR.out.trans (rules_nil E gk acc))
      clear hbq hW hX HRR
      go_wp2
      go_ret
      refine ⟨HG.out, ?_⟩
      rw [HRES.out]
      exact ⟨⟨_, rfl, HV.out.rus (by show _ ≤ 281474976710656; omega), _, _, rfl⟩, HR.out⟩
    | cons x r =>
      obtain ⟨b, o, rfl, hb, -, x0, x1⟩ := WdsAt.get hW 0 (by simp)
      simp only [List.length_cons, List.getElem_cons_zero, Nat.zero_mul, Nat.add_zero] at c0 hl1 x0 x1
      have hbw := below_alloc wr (.cells #[.string (mk x.1), .int .i64 (x.2 : Nat)] 73)
      have HR1 := Lib.hid (HR.out.grw hbw)
      have HG1 := Lib.hid (grown_alloc HG.out (.cells #[.string (mk x.1), .int .i64 (x.2 : Nat)] 73))
      have HV1 := Lib.hid (HV.out.grw hbw)
      have HX := Lib.hid (heap_alloc_new wr (.cells #[.string (mk x.1), .int .i64 (x.2 : Nat)] 73))
      have hp4 : wr.heap.size ≠ q := by omega
      have hz1 : w.heap.size + 1 ≤ (wr.alloc (.cells #[.string (mk x.1), .int .i64 (x.2 : Nat)] 73)).heap.size := by simp; omega
      clear hbq hW hX HR HG HV hbw
      go_upto_region 4 with fail
      clear c0 c1 x0 x1 hb hl1 hl2
      generalize wr.alloc (.cells #[.string (mk x.1), .int .i64 (x.2 : Nat)] 73) = W1 at *
      generalize wr.heap.size = p4 at *
      go_wp2_with fail
      go_at_call 46
      refine (must_any q E (x :: r) tRule W1 HR1.out (by decide)).mono ?_
      rintro e w2 ⟨hg2, ha2⟩
      have hs2 := hg2.size
      have HG2 := Lib.hid (grown_tr HG1.out hg2)
      have HV2 := Lib.hid (HV1.out.rd hg2 (by omega))
      have HX2 := Lib.hid (grown_heap HX.out hg2 hp4)
      clear hg2 HG1 HV1 HX HR1
      cases hc2 : pTake E tRule (x :: r) with
      | error fl =>
        rw [hc2] at ha2
        obtain rfl := ha2
        refine thrown rfl ⟨HG2.out, ?_⟩
        rw [HRR.out, rules_bad1 hc2]
        rfl
      | ok r1 =>
        rw [hc2] at ha2
        obtain ⟨rfl, hr2⟩ := ha2
        have HR2 := Lib.hid hr2
        have HC2 := Lib.hid hc2
        clear hr2 hc2
        cases gk with
        | zero =>
          have HRES := Lib.hid (HRR.out.trans (rules_full HC2.out))
          have hfull : ((acc.length : Int) == 64) = true := by simp; omega
          have HF := Lib.hid fun W => fault_any 10 x W
          obtain ⟨d0, d1, -, -⟩ := box_two HX2.out
          clear HRR
          go_wp2_with (first | (go_at_call 65; refine (HF.out _).mono ?_; rintro e w3 ⟨rfl, hb3⟩; have HB3 := Lib.hid hb3; clear hb3))
          refine ⟨rfl, grown_tr HG2.out (grown_of HB3.out), ?_⟩
          rw [HRES.out]
          rfl
        | succ f =>
          have HRES := Lib.hid (HRR.out.trans (rules_one HC2.out))
          have hfull : ((acc.length : Int) == 64) = false := by simp; omega
          clear HRR
          go_wp2_with fail
          go_at_call 67
          refine (rule_any q E r1 w2 HR2.out).mono ?_
          rintro e w3 ⟨hg3, ha3⟩
          have hs3 := hg3.size
          have HG3 := Lib.hid (grown_tr HG2.out hg3)
          have HV3 := Lib.hid (HV2.out.rd hg3 (by omega))
          have hlow : ∀ k, (Value.slice va acc.length vc).ownBlock = some k → k < w2.heap.size := fun k hk => by obtain ⟨L, _, hO, _⟩ := HV2.out; exact (hO.lt k hk).2
          clear hg3 HG2 HV2 HX2
          cases hc3 : pRuleB E r1 with
          | error fl =>
            rw [hc3] at ha3
            obtain rfl := ha3
            refine thrown rfl ⟨HG3.out, ?_⟩
            rw [HRES.out, hc3]
            rfl
          | ok z =>
            obtain ⟨ru, r2⟩ := z
            rw [hc3] at ha3
            obtain ⟨⟨v, rfl, ka, kn, kc, ua, un, uc, sa, sn, sc, rfl, hin⟩, hr3⟩ := ha3
            have hres := HRES.out
            rw [hc3] at hres
            have HRES3 : Hid (RR = pRules E f (acc ++ [ru]) r2) := hres
            have hb4 := below_alloc w3 (.cells #[.int .i64 ru.rank, .int .i64 ru.cif.kind, .string (mk ru.cif.lo), .string (mk ru.cif.hi), .int .i64 ru.cif.n, .slice ka kn kc, .slice ua un uc, .slice sa sn sc] 35)
            have HR4 := Lib.hid (hr3.grw hb4)
            have HG4 := Lib.hid (grown_alloc HG3.out (.cells #[.int .i64 ru.rank, .int .i64 ru.cif.kind, .string (mk ru.cif.lo), .string (mk ru.cif.hi), .int .i64 ru.cif.n, .slice ka kn kc, .slice ua un uc, .slice sa sn sc] 35))
            obtain ⟨L, hL, hO, hIn⟩ := HV3.out.grw hb4
            have hLl : L.length = acc.length := by rw [← hL]; simp
            rw [hLl] at hO
            have HO := Lib.hid hO
            have HIn := Lib.hid hIn
            have HL := Lib.hid hL
            have HLl := Lib.hid hLl
            have HT : Hid (RuIn (fun b => w.heap.size ≤ b ∧ (Value.slice va acc.length vc).ownBlock ≠ some b) (w3.alloc (.cells #[.int .i64 ru.rank, .int .i64 ru.cif.kind, .string (mk ru.cif.lo), .string (mk ru.cif.hi), .int .i64 ru.cif.n, .slice ka kn kc, .slice ua un uc, .slice sa sn sc] 35)) ru (.slice ka kn kc) (.slice ua un uc) (.slice sa sn sc)) := (hin.move (moves_new hb4)).move (moves_weak _ fun b _ hk => ⟨by have : w2.heap.size ≤ b := hk; omega, fun e => by have := hlow b e; have : w2.heap.size ≤ b := hk; omega⟩)
            have HNw := Lib.hid (World.news_of_block (heap_alloc_new w3 (.cells #[.int .i64 ru.rank, .int .i64 ru.cif.kind, .string (mk ru.cif.lo), .string (mk ru.cif.hi), .int .i64 ru.cif.n, .slice ka kn kc, .slice ua un uc, .slice sa sn sc] 35)))
            have HON : Hid (∀ z ∈ [Value.int .i64 ru.rank, .int .i64 ru.cif.kind, .string (mk ru.cif.lo), .string (mk ru.cif.hi), .int .i64 ru.cif.n, .slice ka kn kc, .slice ua un uc, .slice sa sn sc], z.oneCell' = true) := fun z hz => by simp at hz; rcases hz with rfl | rfl | rfl | rfl | rfl | rfl | rfl | rfl <;> rfl
            have HLN : Hid (acc.length + 1 ≤ maxLen) := by show _ ≤ _; simp only [maxLen]; omega
            have HLB : Hid ((acc.length + 1) * 128 ≤ 140737488355328) := by show _ ≤ _; omega
            clear hb4 hres hc3 hr3 hin HG3 HV3 hL hO hIn hlow HRES hLl
            go_wp2_with (at_builtin; refine wpList_append_own_at _ (by rfl) _ _ 22 (by rfl) w.heap.size 35 iR (.agg #[.int .i64 0, .int .i64 0, .string ByteArray.empty, .string ByteArray.empty, .int .i64 0, .slice none 0 0, .slice none 0 0, .slice none 0 0]) 8 128 Tryz.underlying22 s1 s2 s3 s4 (by rfl) (by omega) (.slice va acc.length vc) acc.length (rcs L) (by rfl) HO.out ⟨w3.heap.size, 0, none⟩ 1 1 [.int .i64 ru.rank, .int .i64 ru.cif.kind, .string (mk ru.cif.lo), .string (mk ru.cif.hi), .int .i64 ru.cif.n, .slice ka kn kc, .slice ua un uc, .slice sa sn sc] (by rfl) (by rfl) HNw.out HON.out HLN.out HLB.out HG4.out.size ?_)
            intro v6 w6 hown hgrow hnil hat
            have HV6 : Hid (RvAt w.heap.size w6 v6 (acc ++ [ru])) := by
              have hll := HLl.out
              have := RvAt.app (t := (ru, .slice ka kn kc, .slice ua un uc, .slice sa sn sc)) (L := L) (by rw [hll]; exact HO.out) HIn.out HT.out (by rw [hll]; exact hown) hgrow (by simpa using hat)
              rw [HL.out] at this
              exact this
            have HR6 := Lib.hid (rd_row HR4.out hgrow fun k hk => by have := (HO.out.lt k hk).1; omega)
            have HG6 := Lib.hid (grown_row HG4.out hgrow fun k hk => (HO.out.lt k hk).1)
            clear hown hgrow hnil hat HNw HON HLN HLB HO HR4 HG4 HIn HT
            go_wp2
            go_roundg f
            case rel => exact ⟨acc ++ [ru], r2, by simp; omega, HV6.out, HR6.out, HG6.out, HRES3.out⟩
            case measure => omega
end Go.Proofs.YtoibhgoaibjopaaGreatDoor.Pl
end
