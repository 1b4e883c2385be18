/-
  Texts put together (merge.py): ETx, EBack.
-/
import Derived.Test.YtpmnepihaljamaaGreatDoorM16
import Derived.Test.YtpmnepihaljamaaGreatDoorM15
/-
  What eight.texts and placed answer, as contracts.
-/
section
set_option linter.unusedSimpArgs false
set_option maxRecDepth 100000
namespace Go.Proofs.YtpmnepihaljamaaGreatDoor
open Go.RowKit
open Et

theorem tx_no {l : List Sg} {t : Tx} {n : Nat} (h : txB l t n = false) : txV l t n = [] := by unfold txV; rw [h]; rfl
theorem tx_yes {l : List Sg} {t : Tx} {n : Nat} (h : txB l t n = true) : txV l t n = (l.headD []).tail.map (fun ps => ps.headD []) := by unfold txV; rw [h]; rfl
theorem beh_len {l : List Sg} {t : Tx} {n : Nat} (h : behB l t n = true) : (l.headD []).tail.length = n := by
  unfold behB at h
  simp only [Bool.and_eq_true, decide_eq_true_eq] at h
  have := h.2.2
  rw [List.length_tail]; omega
theorem tx_K {K : Nat → Prop} {w : World} {b o n c : Nat} {xs : List Tx} (h : TxAt All w (.slice (some ⟨b, o, none⟩) n c) xs) (hK : K b) : TxAt K w (.slice (some ⟨b, o, none⟩) n c) xs := by
  obtain ⟨a, c', e, h1, h2, h3⟩ := h
  simp only [Value.slice.injEq] at e
  obtain ⟨rfl, rfl, rfl⟩ := e
  refine ⟨_, _, rfl, h1, h2, h3.imp id ?_⟩
  rintro ⟨b', o', e, _, hb, hc⟩
  simp only [Option.some.injEq, Addr.mk.injEq] at e
  obtain ⟨rfl, rfl, -⟩ := e
  exact ⟨b, o, rfl, hK, hb, hc⟩
theorem len_one {α : Type} {l : List α} (h : l.length = 1) : ∃ a, l = [a] := by
  cases l with
  | nil => simp at h
  | cons a r => cases r with
    | nil => exact ⟨a, rfl⟩
    | cons b r => simp at h
theorem one_not {E : Sg} {j : Nat} {ps : List Tx} (hx : E[j]? = some ps) (h : ps.length ≠ 1) : oneB E = false := by
  unfold oneB
  rw [List.all_eq_false]
  exact ⟨ps, List.mem_of_getElem? hx, by simpa using h⟩
theorem one_take {E : Sg} {j : Nat} {ps : List Tx} (hx : E[j]? = some ps) (h : ps.length = 1) (ho : oneB (E.take j) = true) : oneB (E.take (j + 1)) = true := by
  unfold oneB at *
  rw [List.take_add_one, hx, List.all_append, ho]
  simpa using h

set_option maxHeartbeats 4000000 in
theorem etexts_new (v : Value) (l : List Sg) (t : Tx) (n : Nat) (w : World) (h : SgAt All w v l) (hn : Nm l) (h1 : 1 ≤ n) (h10 : n ≤ 10) :
    Calls Tryz.prog 63 #[v, .string (mk t), .int .i64 (n : Int)] w fun e w' => (∃ u, e = .returned (.tuple #[u, .bool (txB l t n)]) ∧ TxAt (fun b => w.heap.size ≤ b) w' u (txV l t n)) ∧ Below w.heap.size w w' := by
  have HC := Lib.hid (ebehind_any v l t n w h hn h1 h10)
  have HNil := Lib.hid fun W => TxAt.nil (fun b => w.heap.size ≤ b) W
  obtain ⟨a, c, rfl, -, -, -⟩ := h
  clear hn
  cases hb : behB l t n with
  | false =>
    have HX : Hid (txB l t n = false) := by show _ = _; unfold txB; rw [hb]; rfl
    have HV := Lib.hid (tx_no HX.out)
    rw [hb] at HC
    clear hb
    go_enter Tryz.func63, Tryz.ntmps63
    go_wp2_with (first | (go_at_call 98; refine HC.out.mono ?_; rintro x w1 ⟨⟨u, rfl, he⟩, hb1⟩; have HB1 := Lib.hid hb1; clear hb1 he))
    go_ret2
    exact ⟨⟨_, by rw [HX.out]; rfl, by rw [HV.out]; exact HNil.out _⟩, HB1.out⟩
  | true =>
    have hE : behV l t n = (l.headD []).tail := beh_yes hb
    have hl := beh_len hb
    have HX : Hid (txB l t n = oneB (l.headD []).tail) := by show _ = _; unfold txB; rw [hb]; rfl
    have HY : Hid (txB l t n = true → txV l t n = (l.headD []).tail.map (fun ps => ps.headD [])) := tx_yes
    have HNo : Hid (txB l t n = false → txV l t n = []) := tx_no
    rw [hb, hE] at HC
    clear hb hE
    generalize (l.headD []).tail = E at *
    have HL := Lib.hid hl
    clear hl
    have hmk := run_make_row' (P := Tryz.prog) 45 9 (.string ByteArray.empty) 16 Tryz.underlying45 hi9 rfl .i64 .i64 n (by omega) (by omega)
    go_enter Tryz.func63, Tryz.ntmps63
    go_wp2_with (first | (go_at_call 98; refine HC.out.mono ?_; rintro x w1 ⟨⟨u, rfl, he⟩, hb1⟩; have HB1 := Lib.hid hb1; have HEl := Lib.hid he; obtain ⟨au, cu, rfl, g1, g2, -⟩ := he; rw [HL.out] at HEl g1 ⊢; clear hb1))
    clear hmk
    go_loopg [26] (n) (fun gg i wq => ∃ j : Nat, j ≤ n ∧ gg = n - j ∧ i = .int .i64 j ∧ Hid (wq.heap[w1.heap.size]? = some (.cells (Lib.cellsOf ((E.take j).map fun ps => mk (ps.headD [])) n) 9 (0, 0))) ∧ Hid (oneB (E.take j) = true) ∧ Hid (Below w1.heap.size w1 wq))
    case atStart => exact ⟨0, Nat.zero_le _, rfl, rfl, by show _ = _; rw [List.take_zero, List.map_nil, Lib.cellsOf_nil]; exact heap_alloc_new w1 _, by show _ = _; rw [List.take_zero]; rfl, below_alloc w1 _⟩
    case round =>
      obtain ⟨j, hj, hgj, rfl, HCe, HOn, HBq⟩ := hrel
      have hszq : w1.heap.size < wr.heap.size := (Array.getElem?_eq_some_iff.1 HCe.out).1
      have HEq : Hid (ElAt All wr (.slice au n cu) E) := ElAt.move HEl.out (Below.moves HBq.out)
      by_cases hltj : j < n
      · obtain ⟨bu, ou, ux, rfl, hxj, huj, hrj⟩ := RowAt.get HEq.out j (by rw [HL.out]; exact hltj)
        have hrj' := hrj
        obtain ⟨aj, cj, rfl, hj1, hj2, -⟩ := hrj
        unfold maxLen at hj2
        by_cases hone : (E[j]'(by rw [HL.out]; exact hltj)).length = 1
        · have HO2 := Lib.hid (one_take hxj hone HOn.out)
          have hdl : ((E.take j).map fun ps => mk (ps.headD [])).length = j := by rw [List.length_map, List.length_take, HL.out]; omega
          obtain ⟨tj, htj⟩ := len_one hone
          have HTJ : Hid (((E.take (j + 1)).map fun ps => mk (ps.headD [])) = ((E.take j).map fun ps => mk (ps.headD [])) ++ [mk tj]) := by
            show _ = _
            rw [List.take_add_one, hxj, List.map_append, htj]; rfl
          have HSET := Lib.hid (Lib.cellsOf_set (done := ((E.take j).map fun ps => mk (ps.headD []))) (N := n) (by rw [hdl]; exact hltj) (mk tj))
          have HNX := Lib.hid (Lib.cellsOf_next (done := ((E.take j).map fun ps => mk (ps.headD []))) (N := n) (by rw [hdl]; exact hltj))
          rw [hdl] at HSET HNX
          rw [htj] at hrj' huj hj1
          obtain ⟨b3, o3, u3, rfl, -, hu3, h3⟩ := RowAt.get (xs := [tj]) hrj' 0 (by simp)
          have h3' : u3 = .string (mk tj) := h3
          subst h3'
          rw [Nat.add_zero] at hu3
          have hc4 := (cell_of_row wr w1.heap.size j _ 9 (0, 0) HCe.out).trans HNX.out
          have hf4 := Lib.frozen_of_heap HCe.out j
          clear hrj' hdl hxj htj hone h3
          go_wp2
          go_roundg (n - (j + 1))
          case rel => exact ⟨j + 1, by omega, rfl, by go_num, by show _ = _; rw [HTJ.out, ← HSET.out]; exact heap_set HCe.out j _, HO2.out, HBq.out.setCell (p := ⟨w1.heap.size, j, none⟩) (Nat.le_refl _) _⟩
          case measure => omega
        · have HF : Hid (txB l t n = false) := by show _ = _; rw [HX.out]; exact one_not hxj hone
          have hln : (((E[j]'(by rw [HL.out]; exact hltj)).length : Int) != 1) = true := by simp; omega
          clear hrj' hxj hone
          go_wp2
          go_ret2
          exact ⟨⟨_, by rw [HF.out]; rfl, by rw [HNo.out HF.out]; exact HNil.out _⟩, below_trans HB1.out HBq.out⟩
      · have hall : E.take j = E := List.take_of_length_le (by rw [HL.out]; omega)
        rw [hall] at HCe HOn
        have HT : Hid (txB l t n = true) := by show _ = _; rw [HX.out]; exact HOn.out
        have htx : TxAt All wr (.slice (some ⟨w1.heap.size, 0, none⟩) n n) (E.map fun ps => ps.headD []) := by
          have := tx_full (w := wr) (b := w1.heap.size) (E.map fun ps => ps.headD []) (by rw [List.length_map, HL.out, List.map_map]; exact HCe.out) (by rw [List.length_map, HL.out]; simp only [maxLen]; omega)
          rwa [List.length_map, HL.out] at this
        have HTX := Lib.hid (tx_K htx (K := fun b => w.heap.size ≤ b) HB1.out.size)
        clear htx hall
        go_wp2
        go_ret2
        exact ⟨⟨_, by rw [HT.out]; rfl, by rw [HY.out HT.out]; exact HTX.out⟩, below_trans HB1.out HBq.out⟩
theorem etexts_any (v : Value) (l : List Sg) (t : Tx) (n : Nat) (w : World) (h : SgAt All w v l) (hn : Nm l) (h1 : 1 ≤ n) (h10 : n ≤ 10) :
    Calls Tryz.prog 63 #[v, .string (mk t), .int .i64 (n : Int)] w fun e w' => (∃ u, e = .returned (.tuple #[u, .bool (txB l t n)]) ∧ TxAt All w' u (txV l t n)) ∧ Below w.heap.size w w' :=
  (etexts_new v l t n w h hn h1 h10).mono fun _ _ ⟨⟨u, e, ht⟩, hb⟩ => ⟨⟨u, e, TxAt.move ht (moves_weak _ fun _ _ _ => trivial)⟩, hb⟩
end Go.Proofs.YtpmnepihaljamaaGreatDoor
end

/-
  What is written is read as what it was: over plain lists.
-/
section
namespace Go.Proofs.YtpmnepihaljamaaGreatDoor.Et
open Cm

theorem lx_ne : tLX ≠ tAMT := by decide
theorem am_cons (g : Sg) (r : List Sg) (h : tx (g :: r) 0 ≠ tAMT) : amB (g :: r) = false := by
  unfold amB txB behB
  rw [decide_eq_false h]
  simp
theorem am_nil : amB [] = false := rfl
theorem lx_nil : isLX [] = false := rfl
theorem sv_back (x : Ln) (rest : List Sg) (h : lineE x = 0) (hr : amB rest = false) :
    svE ((lnS 0 x).tail ++ rest) = 0 ∧ svX ((lnS 0 x).tail ++ rest) = x ∧ svN ((lnS 0 x).tail ++ rest) = rest := by
  obtain ⟨f1, f2, f3, f4, f5, f6, f7, f8, f9, f10, f11⟩ := line_facts h
  obtain ⟨m1, m2, -⟩ := mn_moneyL x.billed f8 f9
  obtain ⟨p1, p2, -⟩ := mn_moneyL x.prior f10 f11
  obtain ⟨u1, u2, -, -⟩ := ri_itoa x.units 4 (by omega) (by omega) (by omega) (by omega)
  obtain ⟨d1, d2, -, -⟩ := ri_itoa x.date 8 (by omega) (by omega) (by omega) (by omega)
  generalize hq : (if 0 < x.prior then [[[tAMT], [tD], [Nu.moneyL x.prior]]] else ([] : List Sg)) ++ rest = q
  have hl : (lnS 0 x).tail ++ rest = [[tSV], tHC :: x.proc :: x.mods, [Nu.moneyL x.billed], [Lib.itoa x.units]] :: [[tDTP], [t472], [Lib.itoa x.date]] :: q := by rw [← hq]; rfl
  rw [hl]
  have e1 : dnE ([[tSV], tHC :: x.proc :: x.mods, [Nu.moneyL x.billed], [Lib.itoa x.units]] :: [[tDTP], [t472], [Lib.itoa x.date]] :: q) = 0 := by
    unfold dnE
    rw [if_pos (by simp [dnOk, behB, tx, el])]
    show (if Nu.mnE (Nu.moneyL x.billed) = 0 then Nu.riE (Lib.itoa x.units) 4 else _) = 0
    rw [if_pos m1]; exact u1
  have e2 : dyE ([[tDTP], [t472], [Lib.itoa x.date]] :: q) = 0 := by
    unfold dyE
    rw [if_pos (by simp [dyOk, txB, behB, tx, el, oneB])]
    show (if Nu.riE (Lib.itoa x.date) 8 = 0 then _ else _) = (0 : Int)
    exact if_pos d1
  have e3 : dyV ([[tDTP], [t472], [Lib.itoa x.date]] :: q) = x.date := by
    unfold dyV
    rw [if_pos e2]
    exact d2
  by_cases hp : 0 < x.prior
  · rw [if_pos hp] at hq
    have a1 : amB q = true := by rw [← hq]; simp [amB, txB, behB, tx, el, oneB]
    have a2 : amOk q = true := by
      rw [← hq]
      simp only [amOk, Bool.and_eq_true, decide_eq_true_eq]
      refine ⟨rfl, p1, ?_⟩
      show Nu.mnV (Nu.moneyL x.prior) ≠ 0
      rw [p2]; omega
    refine ⟨?_, ?_, ?_⟩
    · unfold svE
      rw [if_pos e1]
      show (if dyE ([[tDTP], [t472], [Lib.itoa x.date]] :: q) = 0 then (if amB q = true then (if amOk q = true then 0 else 8) else 0) else _) = (0 : Int)
      rw [if_pos e2, if_pos a1, if_pos a2]
    · unfold svX
      show (⟨x.proc, x.mods, dyV ([[tDTP], [t472], [Lib.itoa x.date]] :: q), Nu.riV (Lib.itoa x.units) 4, Nu.mnV (Nu.moneyL x.billed), if amB q = true then Nu.mnV (tx q 2) else 0⟩ : Ln) = x
      rw [if_pos a1, e3, m2]
      have : Nu.riV (Lib.itoa x.units) 4 = x.units := u2
      rw [this, ← hq]
      show (⟨x.proc, x.mods, x.date, x.units, x.billed, Nu.mnV (Nu.moneyL x.prior)⟩ : Ln) = x
      rw [p2]
    · unfold svN
      show (if amB q = true then q.tail else q) = rest
      rw [if_pos a1, ← hq]; rfl
  · rw [if_neg hp, List.nil_append] at hq
    subst hq
    refine ⟨?_, ?_, ?_⟩
    · unfold svE
      rw [if_pos e1]
      show (if dyE ([[tDTP], [t472], [Lib.itoa x.date]] :: rest) = 0 then (if amB rest = true then (if amOk rest = true then 0 else 8) else 0) else _) = (0 : Int)
      rw [if_pos e2, hr]; rfl
    · unfold svX
      show (⟨x.proc, x.mods, dyV ([[tDTP], [t472], [Lib.itoa x.date]] :: rest), Nu.riV (Lib.itoa x.units) 4, Nu.mnV (Nu.moneyL x.billed), if amB rest = true then Nu.mnV (tx rest 2) else 0⟩ : Ln) = x
      rw [hr, e3, m2]
      have : Nu.riV (Lib.itoa x.units) 4 = x.units := u2
      rw [this]
      show (⟨x.proc, x.mods, x.date, x.units, x.billed, 0⟩ : Ln) = x
      have : x.prior = 0 := by omega
      rw [← this]
    · unfold svN
      show (if amB rest = true then rest.tail else rest) = rest
      rw [hr]; rfl
theorem lns_am (k : Nat) (ls : List Ln) (rest : List Sg) (hr : amB rest = false) : amB (lnsS k ls ++ rest) = false := by
  cases ls with
  | nil => exact hr
  | cons x r => exact am_cons _ _ lx_ne
theorem svs_back : ∀ (ls acc : List Ln) (rest : List Sg) (f : Nat), (∀ x ∈ ls, lineE x = 0) → isLX rest = false → amB rest = false → ls.length ≤ f → svsA f acc (lnsS acc.length ls ++ rest) = (0, acc ++ ls, rest)
  | [], acc, rest, f, _, hl, _, _ => by
    cases f with
    | zero => simp [svsA, lnsS]
    | succ f => simp [svsA, lnsS, hl]
  | x :: r, acc, rest, f, h, hl, ha, hf => by
    obtain ⟨f, rfl⟩ : ∃ g, f = g + 1 := ⟨f - 1, by simp at hf; omega⟩
    have hx := h x List.mem_cons_self
    have e0 : lnsS acc.length (x :: r) ++ rest = [[tLX], [Lib.itoa ((acc.length + 1 : Nat) : Int)]] :: ((lnS 0 x).tail ++ (lnsS (acc.length + 1) r ++ rest)) := by
      show (lnS (acc.length + 1) x ++ lnsS (acc.length + 1) r) ++ rest = _
      rw [List.append_assoc]; rfl
    obtain ⟨s1, s2, s3⟩ := sv_back x (lnsS (acc.length + 1) r ++ rest) hx (lns_am _ _ _ ha)
    have ih := svs_back r (acc ++ [x]) rest f (fun y hy => h y (List.mem_cons_of_mem _ hy)) hl ha (by simp at hf; omega)
    rw [List.length_append, List.length_singleton] at ih
    rw [e0]
    unfold svsA
    rw [if_pos (by simp [isLX, tx, el]), if_pos (by simp [plB, txB, behB, oneB, tx, el])]
    show (if svE ((lnS 0 x).tail ++ (lnsS (acc.length + 1) r ++ rest)) = 0 then svsA f (acc ++ [svX ((lnS 0 x).tail ++ (lnsS (acc.length + 1) r ++ rest))]) (svN ((lnS 0 x).tail ++ (lnsS (acc.length + 1) r ++ rest))) else _) = _
    rw [if_pos s1, s2, s3, ih]
    simp
theorem lnsS_len_ge : ∀ (k : Nat) (ls : List Ln), ls.length ≤ (lnsS k ls).length
  | _, [] => by simp
  | k, x :: r => by
    have := lnsS_len_ge (k + 1) r
    unfold lnsS lnS
    simp
    omega
theorem cl_back (k : Nat) (c : Cl) (rest : List Sg) (h : checkE c = 0) (hl : isLX rest = false) (ha : amB rest = false) :
    clE k (clS k c ++ rest) = 0 ∧ clC (clS k c ++ rest) = c ∧ (clP (clS k c ++ rest)).2.2 = rest := by
  obtain ⟨f1, f2, f3, f4, f5, f6, f7, f8, f9, f10, f11⟩ := check_facts h
  obtain ⟨m1, m2, -⟩ := mn_moneyL (totV c.lines) f10 f11
  have hn : Nu.riE (Lib.itoa c.net) 1 = 0 ∧ Nu.riV (Lib.itoa c.net) 1 = c.net := by
    obtain ⟨u1, u2, -, -⟩ := ri_itoa c.net 1 (by omega) (by omega) (by omega) (by omega)
    exact ⟨u1, u2⟩
  have hd : Nu.riE (Lib.itoa c.does) 1 = 0 ∧ Nu.riV (Lib.itoa c.does) 1 = c.does := by
    obtain ⟨u1, u2, -, -⟩ := ri_itoa c.does 1 (by omega) (by omega) (by omega) (by omega)
    exact ⟨u1, u2⟩
  have e0 : clS k c ++ rest = [[tHL], [Lib.itoa (k : Int)]] :: [[tNM], [c.mem], [c.fam]] :: [[tCLM], [c.id], [Nu.moneyL (totV c.lines)], [Lib.itoa c.net], [Lib.itoa c.does], [c.ref]] :: (lnsS 0 c.lines ++ rest) := by
    unfold clS hdS; simp
  have hP : clP (clS k c ++ rest) = (0, c.lines, rest) := by
    unfold clP
    have hle : c.lines.length ≤ (clS k c ++ rest).length := by
      rw [e0]
      have := lnsS_len_ge 0 c.lines
      simp
      omega
    have := svs_back c.lines [] rest (clS k c ++ rest).length f8 hl ha hle
    have e1 : (clS k c ++ rest).tail.tail.tail = lnsS ([] : List Ln).length c.lines ++ rest := by rw [e0]; rfl
    rw [e1, this]
    rfl
  have hH : hdE (clS k c ++ rest).tail = 0 := by
    rw [e0]
    unfold hdE
    rw [if_pos (by simp [hdOk, txB, behB, tx, el, oneB])]
    show (if Nu.mnE (Nu.moneyL (totV c.lines)) = 0 then (if Nu.riE (Lib.itoa c.net) 1 = 0 then (if Nu.riE (Lib.itoa c.does) 1 = 0 then 0 else 4) else 4) else _) = (0 : Int)
    rw [if_pos m1, if_pos hn.1, if_pos hd.1]
  have hC : clC (clS k c ++ rest) = c := by
    unfold clC
    rw [hP, e0]
    show (⟨c.id, c.mem, c.fam, Nu.riV (Lib.itoa c.net) 1, Nu.riV (Lib.itoa c.does) 1, c.ref, c.lines⟩ : Cl) = c
    rw [hn.2, hd.2]
  refine ⟨?_, hC, by rw [hP]⟩
  unfold clE
  rw [if_pos (by rw [e0]; simp [plB, txB, behB, oneB, tx, el]), if_pos hH, hP, hC]
  rw [if_pos rfl, if_pos h, if_pos]
  rw [e0]
  show totV c.lines = Nu.mnV (Nu.moneyL (totV c.lines))
  rw [m2]
theorem cls_am (k : Nat) (l : List Cl) : amB (clsS k l) = false ∧ isLX (clsS k l) = false := by
  cases l with
  | nil => exact ⟨rfl, rfl⟩
  | cons c r => exact ⟨am_cons _ _ (show tHL ≠ tAMT by decide), by simp [isLX, clsS, clS, hdS, tx, el]; decide⟩
theorem cls_back : ∀ (l acc : List Cl) (f : Nat), (∀ c ∈ l, checkE c = 0) → acc.length + l.length ≤ 256 → l.length ≤ f → clsA f acc (clsS acc.length l) = (0, acc ++ l)
  | [], acc, f, _, _, _ => by
    cases f with
    | zero => simp [clsA]
    | succ f => simp [clsA, clsS]
  | c :: r, acc, f, h, h2, hf => by
    obtain ⟨f, rfl⟩ : ∃ g, f = g + 1 := ⟨f - 1, by simp at hf; omega⟩
    have ham := cls_am (acc.length + 1) r
    obtain ⟨c1, c2, c3⟩ := cl_back (acc.length + 1) c (clsS (acc.length + 1) r) (h c List.mem_cons_self) ham.2 ham.1
    have ih := cls_back r (acc ++ [c]) f (fun y hy => h y (List.mem_cons_of_mem _ hy)) (by simp at h2 ⊢; omega) (by simp at hf; omega)
    rw [List.length_append, List.length_singleton] at ih
    unfold clsA
    have e0 : clsS acc.length (c :: r) = clS (acc.length + 1) c ++ clsS (acc.length + 1) r := rfl
    rw [e0, if_neg (by simp [clS, hdS]), if_neg (by simp at h2; omega), if_pos c1, c2, c3, ih]
    simp
theorem clsS_len_ge : ∀ (k : Nat) (ls : List Cl), ls.length ≤ (clsS k ls).length
  | _, [] => by simp
  | k, x :: r => by
    have := clsS_len_ge (k + 1) r
    unfold clsS clS hdS
    simp
    omega
/-- A batch that may be: its segments are read as it. -/
theorem rs_back (n : Int) (l : List Cl) (h : batchE n l = 0) : rsE (segs l) = 0 ∧ rsV (segs l) = l := by
  obtain ⟨-, -, h2, h3⟩ := batch_facts h
  obtain ⟨u1, u2, -, -⟩ := ri_itoa (l.length : Int) 3 (by omega) (by omega) (by omega) (by omega)
  have hP : rsP (segs l) = (0, l) := by
    unfold rsP
    have := cls_back l [] (segs l).length h3 (by simpa using h2) (by have := clsS_len_ge 0 l; unfold segs; simp; omega)
    exact this
  have hE : rsE (segs l) = 0 := by
    unfold rsE
    rw [if_pos (by simp [segs, txB, behB, tx, el, oneB]), hP]
    show (if Nu.riE (Lib.itoa (l.length : Int)) 3 = 0 then (if (0 : Int) = 0 then (if ((l.length : Nat) : Int) = Nu.riV (Lib.itoa (l.length : Int)) 3 then 0 else 6) else 0) else _) = (0 : Int)
    rw [if_pos (show Nu.riE (Lib.itoa (l.length : Int)) 3 = 0 from u1), if_pos rfl, if_pos (show ((l.length : Nat) : Int) = Nu.riV (Lib.itoa (l.length : Int)) 3 from u2.symm)]
  exact ⟨hE, by unfold rsV; rw [if_pos hE, hP]⟩
/-- EVERY BATCH COMES BACK. -/
theorem eight_back {e p s : UInt8} {n : Int} {l : List Cl} (h : wtE e p s n l = 0) : rE (wtV e p s n l) = 0 ∧ rD (wtV e p s n l) = (e, p, s) ∧ rN (wtV e p s n l) = n ∧ rV (wtV e p s n l) = l := by
  have hb : batchE n l = 0 := by
    unfold wtE at h
    split at h
    · assumption
    · exact h
  have hw : wpE e p s t837 n (segs l) = 0 := by unfold wtE at h; rwa [if_pos hb] at h
  have hv : wtV e p s n l = wpV e p s t837 n (segs l) := by unfold wtV; rw [if_pos hb]
  obtain ⟨o1, o2, o3, o4⟩ := cover_back hw
  obtain ⟨r1, r2⟩ := rs_back n l hb
  rw [hv]
  have hE : rE (wpV e p s t837 n (segs l)) = 0 := by unfold rE; rw [if_pos o1, o4, r1]
  refine ⟨hE, ?_, ?_, ?_⟩
  · unfold rD; rw [if_pos hE, o2]
  · unfold rN; rw [if_pos hE, o3]
  · unfold rV; rw [if_pos hE, o4, r2]
end Go.Proofs.YtpmnepihaljamaaGreatDoor.Et
end
