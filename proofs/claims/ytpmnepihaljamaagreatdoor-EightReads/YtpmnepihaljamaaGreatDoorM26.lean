/-
  Texts put together (merge.py): ECls, KNum.
-/
import Derived.Test.YtpmnepihaljamaaGreatDoorM25
import Derived.Test.YtpmnepihaljamaaGreatDoorM9
import Derived.Test.YtpmnepihaljamaaGreatDoorM7
/-
  What eight.readClaims answers, as a contract; claims as they are read: a row that grows, in new memory. (Written by gen_cls.py.)
-/
section
set_option linter.unusedSimpArgs false
set_option linter.unusedVariables false
set_option maxRecDepth 100000
namespace Go.Proofs.YtpmnepihaljamaaGreatDoor
open Go.RowKit
open Et
open Cm (Ln lnv ln0 Cl clv cl0 checkE totV totE)

def ccs : List Cl → List Value → List Value
  | x :: r, m :: ms => .string (mk x.id) :: .string (mk x.mem) :: .string (mk x.fam) :: .int .i64 x.net :: .int .i64 x.does :: .string (mk x.ref) :: m :: ccs r ms
  | _, _ => []
theorem ccs_app : ∀ (xs : List Cl) (ms : List Value) (x : Cl) (m : Value), ms.length = xs.length → ccs (xs ++ [x]) (ms ++ [m]) = ccs xs ms ++ [.string (mk x.id), .string (mk x.mem), .string (mk x.fam), .int .i64 x.net, .int .i64 x.does, .string (mk x.ref), m]
  | [], [], _, _, _ => rfl
  | [], _ :: _, _, _, h => by simp at h
  | _ :: _, [], _, _, h => by simp at h
  | y :: r, n :: ms, x, m, h => by have := ccs_app r ms x m (by simpa using h); simp [ccs, this]
theorem ccs_at : ∀ (xs : List Cl) (ms : List Value) (j : Nat) (x : Cl) (m : Value), xs[j]? = some x → ms[j]? = some m → (ccs xs ms)[j * 7]? = some (.string (mk x.id)) ∧ (ccs xs ms)[j * 7 + 1]? = some (.string (mk x.mem)) ∧ (ccs xs ms)[j * 7 + 2]? = some (.string (mk x.fam)) ∧ (ccs xs ms)[j * 7 + 3]? = some (.int .i64 x.net) ∧ (ccs xs ms)[j * 7 + 4]? = some (.int .i64 x.does) ∧ (ccs xs ms)[j * 7 + 5]? = some (.string (mk x.ref)) ∧ (ccs xs ms)[j * 7 + 6]? = some m
  | [], _, j, x, m, h, _ => by simp at h
  | _ :: _, [], j, x, m, _, h => by simp at h
  | y :: r, n :: ms, 0, x, m, h, h' => by simp at h h'; subst h h'; simp [ccs]
  | y :: r, n :: ms, j + 1, x, m, h, h' => by
    have := ccs_at r ms j x m (by simpa using h) (by simpa using h')
    rw [show (j + 1) * 7 = j * 7 + 7 by omega, show j * 7 + 7 + 1 = j * 7 + 1 + 7 by omega, show j * 7 + 7 + 2 = j * 7 + 2 + 7 by omega, show j * 7 + 7 + 3 = j * 7 + 3 + 7 by omega, show j * 7 + 7 + 4 = j * 7 + 4 + 7 by omega, show j * 7 + 7 + 5 = j * 7 + 5 + 7 by omega, show j * 7 + 7 + 6 = j * 7 + 6 + 7 by omega]
    simpa [ccs] using this
def ClvAt (B : Nat) (w : World) (v : Value) (xs : List Cl) : Prop :=
  ∃ ms : List Value, ms.length = xs.length ∧ w.ownsRow B 43 7 v xs.length (ccs xs ms) ∧ ∀ (j : Nat) (x : Cl) (m : Value), xs[j]? = some x → ms[j]? = some m → Cm.LnsAt (fun b => B ≤ b ∧ v.ownBlock ≠ some b) w m x.lines
theorem ClvAt.nil (B : Nat) (w : World) : ClvAt B w (.slice none 0 0) [] := ⟨[], rfl, World.ownsRow_nil _ _ _ _, fun j x m h _ => by simp at h⟩
theorem ClvAt.form {B : Nat} {w : World} {v : Value} {xs : List Cl} (h : ClvAt B w v xs) : ∃ a c, v = .slice a xs.length c := by
  obtain ⟨ms, -, h2, -⟩ := h
  rcases h2.2 with ⟨rfl, e⟩ | ⟨g, c, cur, rfl, _⟩
  · exact ⟨none, 0, by rw [e]⟩
  · exact ⟨_, _, rfl⟩
theorem ClvAt.cls {B : Nat} {w : World} {v : Value} {xs : List Cl} (h : ClvAt B w v xs) : Cm.ClsAt (fun b => B ≤ b) w v xs := by
  obtain ⟨ms, h1, ⟨hl, h⟩, h3⟩ := h
  rcases h with ⟨rfl, h0⟩ | ⟨g, cap, cur, rfl, hB, hg, h4, h2, hs, ht⟩
  · obtain rfl := List.length_eq_zero_iff.1 h0
    exact ⟨none, 0, rfl, by simp, by simp [maxLen], Or.inl rfl⟩
  · refine ⟨_, cap, rfl, h4, h2, Or.inr ⟨g, 0, rfl, hB, (Array.getElem?_eq_some_iff.1 hg).1, fun j x hj => ?_⟩⟩
    have hjl : j < xs.length := (List.getElem?_eq_some_iff.1 hj).1
    have hm : ms[j]? = some ms[j] := List.getElem?_eq_getElem (by omega)
    obtain ⟨e0, e1, e2, e3, e4, e5, e6⟩ := ccs_at xs ms j x _ hj hm
    rw [← ht, List.getElem?_take, if_pos (by omega)] at e0 e1 e2 e3 e4 e5 e6
    refine ⟨ms[j], ⟨?_, ?_, ?_, ?_, ?_, ?_, ?_⟩, Cm.LnsAt.move (h3 j x _ hj hm) (moves_weak _ fun b _ hk => hk.1)⟩
    all_goals rw [Nat.zero_add, cell_of_row w g _ cur _ (0, 0) hg]
    · simpa using e0
    · simpa using e1
    · simpa using e2
    · simpa using e3
    · simpa using e4
    · simpa using e5
    · simpa using e6
theorem ClvAt.app {B : Nat} {w w' : World} {v v' : Value} {xs : List Cl} {x : Cl} {ms : List Value} {m : Value} (h1 : ms.length = xs.length) (h2 : w.ownsRow B 43 7 v xs.length (ccs xs ms))
    (h3 : ∀ (j : Nat) (x : Cl) (m : Value), xs[j]? = some x → ms[j]? = some m → Cm.LnsAt (fun b => B ≤ b ∧ v.ownBlock ≠ some b) w m x.lines) (hm : Cm.LnsAt (fun b => B ≤ b ∧ v.ownBlock ≠ some b) w m x.lines)
    (hown : w'.ownsRow B 43 7 v' (xs.length + 1) (ccs xs ms ++ [.string (mk x.id), .string (mk x.mem), .string (mk x.fam), .int .i64 x.net, .int .i64 x.does, .string (mk x.ref), m])) (hg : w.grownBy w' v.ownBlock) (hat : v'.ownBlock = v.ownBlock ∨ v'.ownBlock = some w.heap.size) : ClvAt B w' v' (xs ++ [x]) := by
  have hmv : Moves (fun b => B ≤ b ∧ v.ownBlock ≠ some b) (fun b => B ≤ b ∧ v'.ownBlock ≠ some b) w w' := moves_grown hg fun b hb hk => ⟨⟨hk.1, by
    rcases hat with e | e
    · rw [e]; exact hk.2
    · rw [e]; intro he; have := Option.some.inj he; omega⟩, fun he => hk.2 he.symm⟩
  refine ⟨ms ++ [m], by simp [h1], by rw [ccs_app xs ms x m h1, List.length_append]; exact hown, fun j y n hy hn => ?_⟩
  rcases Nat.lt_or_ge j xs.length with hj | hj
  · rw [List.getElem?_append_left hj] at hy
    rw [List.getElem?_append_left (by omega)] at hn
    exact Cm.LnsAt.move (h3 j y n hy hn) hmv
  · rw [List.getElem?_append_right hj] at hy
    rw [List.getElem?_append_right (by omega)] at hn
    have hj0 : j - xs.length = 0 := by
      have := (List.getElem?_eq_some_iff.1 hy).1
      simp at this; omega
    rw [hj0] at hy
    rw [show j - ms.length = 0 by omega] at hn
    simp at hy hn
    subst hy hn
    exact Cm.LnsAt.move hm hmv
theorem infoC : ∃ i, Tryz.prog.info? 43 = some i ∧ i.zero = some (.agg #[.string ByteArray.empty, .string ByteArray.empty, .string ByteArray.empty, .int .i64 0, .int .i64 0, .string ByteArray.empty, .slice none 0 0]) ∧ i.size = 7 ∧ i.bytes = 104 := by
  have hi : (Tryz.prog.info? 43).map (fun i => (i.zero, i.size, i.bytes)) = some (some (.agg #[.string ByteArray.empty, .string ByteArray.empty, .string ByteArray.empty, .int .i64 0, .int .i64 0, .string ByteArray.empty, .slice none 0 0]), 7, 104) := by kernel_rfl
  cases hq : Tryz.prog.info? 43 with
  | none => rw [hq] at hi; cases hi
  | some i =>
    rw [hq] at hi
    simp only [Option.map_some, Option.some.injEq, Prod.mk.injEq] at hi
    exact ⟨i, rfl, hi⟩
theorem svs_left (P : List Sg → Prop) (hP : ∀ l, P l → P l.tail) (h0 : P []) : ∀ (f : Nat) (acc : List Ln) (l : List Sg), P l → P (svsA f acc l).2.2
  | 0, acc, l, h => h
  | f + 1, acc, l, h => by
    rw [svsA]
    split
    · split
      · split
        · refine svs_left P hP h0 f _ _ ?_
          unfold svN
          split
          · exact hP _ (hP _ (hP _ (hP _ h)))
          · exact hP _ (hP _ (hP _ h))
        · exact h0
      · exact h0
    · exact h
theorem cl_left (l : List Sg) : (clP l).2.2.length ≤ l.tail.length ∧ (Nm l → Nm (clP l).2.2) ∧ (Sh l → Sh (clP l).2.2) ∧ (Qs l → Qs (clP l).2.2) := by
  refine ⟨svs_left (fun x => x.length ≤ l.tail.length) (fun x h => by simp only [List.length_tail] at h ⊢; omega) (by simp) _ _ _ (by simp only [List.length_tail]; omega), fun h => ?_, fun h => ?_, fun h => ?_⟩
  · exact svs_left Nm (fun x h => h.tail) (fun g hg => by simp at hg) _ _ _ h.tail.tail.tail
  · exact svs_left Sh (fun x h => h.tail) (fun g hg => by simp at hg) _ _ _ h.tail.tail.tail
  · exact svs_left Qs (fun x h => h.tail) (fun g hg => by simp at hg) _ _ _ h.tail.tail.tail
theorem cls_stop {f : Nat} {acc : List Cl} : clsA f acc [] = (0, acc) := by cases f <;> rfl
theorem cls_limit {f : Nat} {acc : List Cl} {g : Sg} {r : List Sg} (hf : (g :: r).length ≤ f) (h : acc.length = 256) : clsA f acc (g :: r) = (10, []) := by
  cases f with
  | zero => simp at hf
  | succ f => rw [clsA, if_neg (by simp), if_pos h]
theorem cls_fault {f : Nat} {acc : List Cl} {g : Sg} {r : List Sg} (hf : (g :: r).length ≤ f) (h : ¬ acc.length = 256) (he : clE (acc.length + 1) (g :: r) ≠ 0) : clsA f acc (g :: r) = (clE (acc.length + 1) (g :: r), []) := by
  cases f with
  | zero => simp at hf
  | succ f => rw [clsA, if_neg (by simp), if_neg h, if_neg he]
theorem cls_more {f : Nat} {acc : List Cl} {g : Sg} {r : List Sg} (hf : (g :: r).length ≤ f) (h : ¬ acc.length = 256) (he : clE (acc.length + 1) (g :: r) = 0) : ∃ f', (clP (g :: r)).2.2.length ≤ f' ∧ clsA f acc (g :: r) = clsA f' (acc ++ [clC (g :: r)]) (clP (g :: r)).2.2 := by
  cases f with
  | zero => simp at hf
  | succ f =>
    refine ⟨f, ?_, by rw [clsA, if_neg (by simp), if_neg h, if_pos he]⟩
    have := (cl_left (g :: r)).1
    simp at hf this
    omega
theorem rs_bad {l : List Sg} {e : Int} (h : rsE l = e) (h0 : e ≠ 0) : rsE l = e ∧ rsV l = [] := ⟨h, by unfold rsV; rw [if_neg (by rw [h]; exact h0)]⟩
theorem tx1_form {l : List Sg} {t : Tx} (h : txB l t 1 = true) : ∃ p a r, l = [p, [a]] :: r ∧ p.headD [] = t := by
  obtain ⟨p, ts, r, rfl, h2, h3⟩ := tx_form h
  match ts, h2 with
  | [a], _ => exact ⟨p, a, r, rfl, h3⟩

set_option maxHeartbeats 8000000 in
theorem ecls_any (v : Value) (l : List Sg) (w : World) (h : SgAt All w v l) (hn : Nm l) (hs : Sh l) (hq : Qs l) (hT : Tab w) (hD : Da.Tab w) (hl : l.length ≤ 100000) :
    Calls Tryz.prog 30 #[v] w fun e w' => (∃ u, e = .returned (.tuple #[u, .int .i64 (rsE l)]) ∧ Cm.ClsAt (fun b => w.heap.size ≤ b) w' u (rsV l)) ∧ Below w.heap.size w w' := by
  have HT1 := Lib.hid (etexts_any v l tBHT 1 w h hn (by omega) (by omega))
  have HTb := Lib.hid (And.intro hT hD)
  clear hT hD
  cases hA : txB l tBHT 1
  · have HX := Lib.hid (rs_bad (show rsE l = 4 by unfold rsE; rw [hA]; rfl) (by decide))
    rw [hA] at HT1
    obtain ⟨va, vc, rfl, -, -, -⟩ := h
    have HT : Hid (Calls Tryz.prog 63 #[.slice va l.length vc, .string ⟨#[66, 72, 84]⟩, .int .i64 1] w fun e w' => (∃ u, e = .returned (.tuple #[u, .bool false]) ∧ TxAt All w' u (txV l tBHT 1)) ∧ Below w.heap.size w w') := HT1.out
    clear HT1 hA hn hs hq
    go_enter Tryz.func30, Tryz.ntmps30
    go_wp2_with (go_at_call 63; refine HT.out.mono ?_; rintro x w1 ⟨⟨u1, rfl, ht1⟩, hb1⟩; have HB1 := Lib.hid hb1; obtain ⟨a1, c1, rfl, -, -⟩ := Cm.TxAt.form ht1; clear hb1 ht1)
    go_ret2
    exact ⟨⟨_, by rw [HX.out.1]; rfl, by rw [HX.out.2]; exact ⟨none, 0, rfl, by simp, by simp [maxLen], Or.inl rfl⟩⟩, HB1.out⟩
  obtain ⟨pp, na, r, rfl, -⟩ := tx1_form hA
  rw [hA, txv1 hA] at HT1
  obtain ⟨b, o, c, u0, rfl, p1, p2, -, -⟩ := sg_open h
  have HT : Hid (Calls Tryz.prog 63 #[.slice (some ⟨b, o, none⟩) (r.length + 1) c, .string ⟨#[66, 72, 84]⟩, .int .i64 1] w fun e w' => (∃ u, e = .returned (.tuple #[u, .bool true]) ∧ TxAt All w' u [na]) ∧ Below w.heap.size w w') := HT1.out
  clear HT1
  have HI : Hid (∀ W, Calls Tryz.prog 64 #[.string (mk na), .int .i64 3] W fun e w' => e = .returned (.tuple #[.int .i64 (Nu.riV na 3), .int .i64 (Nu.riE na 3)]) ∧ w' = W) := fun W => Nu.readInt_list na 3 W (by have := hs.tx 1; unfold maxLen; exact Nat.le_trans this (by omega))
  have hrs : rsE ([pp, [na]] :: r) = (if Nu.riE na 3 = 0 then (if (rsP ([pp, [na]] :: r)).1 = 0 then (if ((rsP ([pp, [na]] :: r)).2.length : Int) = Nu.riV na 3 then 0 else 6) else (rsP ([pp, [na]] :: r)).1) else Nu.riE na 3) := by unfold rsE; rw [hA]; rfl
  rcases ri_e na 3 with e0 | e4
  case inr =>
    rw [e4] at hrs HI
    have HX := Lib.hid (rs_bad (hrs.trans (if_neg (by decide))) (by decide))
    generalize Nu.riV na 3 = N at *
    clear hA hn hs hq h hrs e4
    go_enter Tryz.func30, Tryz.ntmps30
    go_wp2_with (first | (go_at_call 63; refine HT.out.mono ?_; rintro x w1 ⟨⟨u1, rfl, ht1⟩, hb1⟩; have HB1 := Lib.hid hb1; obtain ⟨bt, ot, ct, rfl, gt1, gt3, hct⟩ := tx_opn ht1 (by simp); have t0 := hct 0 na rfl; rw [Nat.add_zero] at t0; clear hb1 ht1 hct) | (go_at_call 64; refine (HI.out _).mono ?_; rintro x w2 ⟨rfl, hw2⟩; subst hw2))
    go_ret2
    exact ⟨⟨_, by rw [HX.out.1]; rfl, by rw [HX.out.2]; exact ⟨none, 0, rfl, by simp, by simp [maxLen], Or.inl rfl⟩⟩, HB1.out⟩
  rw [e0] at HI
  rw [if_pos e0] at hrs
  have HRS := Lib.hid hrs
  have HSK := Lib.hid (fun W (hW : Below w.heap.size w W) => SgAt.move (K' := fun b => b < w.heap.size) h (Moves.trans (K' := fun b => b < w.heap.size) ⟨Nat.le_refl _, fun b hb _ => ⟨hb, rfl⟩⟩ (Below.movesK _ hW)))
  have HQ0 : Hid (Nm r ∧ Sh r ∧ Qs r) := ⟨hn.tail, hs.tail, hq.tail⟩
  have hb := (Nu.ri_bd na 3)
  generalize Nu.riV na 3 = N at *
  clear hA hn hs hq h hrs e0
  simp only [List.length_cons] at hl
  obtain ⟨ic, j1, j2, j3, j4⟩ := infoC
  by_cases hc : c = 1
  · have hr0 : r.length = 0 := by omega
    have hP : rsP ([pp, [na]] :: r) = (0, []) := by rw [List.length_eq_zero_iff.1 hr0]; rfl
    have hrs : rsE ([pp, [na]] :: r) = (if (0 : Int) = N then 0 else 6) := by rw [HRS.out, hP]; rfl
    by_cases hN : (0 : Int) = N
    · have HX : Hid (rsE ([pp, [na]] :: r) = 0 ∧ rsV ([pp, [na]] :: r) = []) := by
        have e : rsE ([pp, [na]] :: r) = 0 := hrs.trans (if_pos hN)
        exact ⟨e, by unfold rsV; rw [if_pos e, hP]⟩
      have hN' : N = 0 := hN.symm
      clear hN hrs hP HRS HSK HQ0
      subst hc hN'
      rw [hr0] at *
      go_enter Tryz.func30, Tryz.ntmps30
      go_wp2_with (first | (go_at_call 63; refine HT.out.mono ?_; rintro x w1 ⟨⟨u1, rfl, ht1⟩, hb1⟩; have HB1 := Lib.hid hb1; obtain ⟨bt, ot, ct, rfl, gt1, gt3, hct⟩ := tx_opn ht1 (by simp); have t0 := hct 0 na rfl; rw [Nat.add_zero] at t0; clear hb1 ht1 hct) | (go_at_call 64; refine (HI.out _).mono ?_; rintro x w2 ⟨rfl, hw2⟩; subst hw2))
      go_loopg [0, 8] 0 (fun g lv cv wr => lv = .slice (some ⟨b, o, none⟩) 0 0 ∧ cv = .slice none 0 0 ∧ Hid (Below w.heap.size w wr))
      case atStart => exact ⟨rfl, rfl, HB1.out⟩
      case round =>
        obtain ⟨rfl, rfl, HB⟩ := hrel
        go_wp2
        go_ret2
        exact ⟨⟨_, by rw [HX.out.1]; rfl, by rw [HX.out.2]; exact ⟨none, 0, rfl, by simp, by simp [maxLen], Or.inl rfl⟩⟩, HB.out⟩
    · have HX := Lib.hid (rs_bad (hrs.trans (if_neg hN)) (by decide))
      have hN' : ((0 : Int) != N) = true := by simpa using hN
      clear hN hrs hP HRS HSK HQ0
      subst hc
      rw [hr0] at *
      go_enter Tryz.func30, Tryz.ntmps30
      go_wp2_with (first | (go_at_call 63; refine HT.out.mono ?_; rintro x w1 ⟨⟨u1, rfl, ht1⟩, hb1⟩; have HB1 := Lib.hid hb1; obtain ⟨bt, ot, ct, rfl, gt1, gt3, hct⟩ := tx_opn ht1 (by simp); have t0 := hct 0 na rfl; rw [Nat.add_zero] at t0; clear hb1 ht1 hct) | (go_at_call 64; refine (HI.out _).mono ?_; rintro x w2 ⟨rfl, hw2⟩; subst hw2))
      go_loopg [0, 8] 0 (fun g lv cv wr => lv = .slice (some ⟨b, o, none⟩) 0 0 ∧ cv = .slice none 0 0 ∧ Hid (Below w.heap.size w wr))
      case atStart => exact ⟨rfl, rfl, HB1.out⟩
      case round =>
        obtain ⟨rfl, rfl, HB⟩ := hrel
        go_wp2
        go_ret2
        exact ⟨⟨_, by rw [HX.out.1]; rfl, by rw [HX.out.2]; exact ⟨none, 0, rfl, by simp, by simp [maxLen], Or.inl rfl⟩⟩, HB.out⟩
  have HSR := Lib.hid (fun W (hW : Below w.heap.size w W) => RowAt.tail (HSK.out W hW))
  obtain ⟨QE, QV, hP⟩ : ∃ QE QV, rsP ([pp, [na]] :: r) = (QE, QV) := ⟨_, _, rfl⟩
  have HP : Hid (clsA (r.length + 1) [] r = (QE, QV)) := hP
  have HRE : Hid (rsE ([pp, [na]] :: r) = (if QE = 0 then (if (QV.length : Int) = N then 0 else 6) else QE)) := by show _ = _; rw [HRS.out, hP]
  have HRV : Hid (rsE ([pp, [na]] :: r) = 0 → rsV ([pp, [na]] :: r) = QV) := fun e => by unfold rsV; rw [if_pos e, hP]
  clear HRS HSK hP
  go_enter Tryz.func30, Tryz.ntmps30
  go_wp2_with (first | (go_at_call 63; refine HT.out.mono ?_; rintro x w1 ⟨⟨u1, rfl, ht1⟩, hb1⟩; have HB1 := Lib.hid hb1; obtain ⟨bt, ot, ct, rfl, gt1, gt3, hct⟩ := tx_opn ht1 (by simp); have t0 := hct 0 na rfl; rw [Nat.add_zero] at t0; clear hb1 ht1 hct) | (go_at_call 64; refine (HI.out _).mono ?_; rintro x w2 ⟨rfl, hw2⟩; subst hw2))
  go_loopg [0, 8] (r.length) (fun gg lv cv wr => ∃ (acc : List Cl) (l' : List Sg) (la sa : Option Addr) (n lc k sc f : Nat), gg = n ∧ lv = .slice la n lc ∧ cv = .slice sa k sc ∧ k ≤ 256 ∧ n ≤ 100000 ∧ Hid (k = acc.length ∧ n = l'.length) ∧ Hid (SgAt (fun b => b < w.heap.size) wr (.slice la n lc) l') ∧ Hid (Nm l' ∧ Sh l' ∧ Qs l') ∧ Hid (ClvAt w.heap.size wr (.slice sa k sc) acc) ∧ Hid (Below w.heap.size w wr) ∧ Hid (l'.length ≤ f ∧ clsA f acc l' = (QE, QV)))
  case atStart => exact ⟨[], r, some ⟨b, o + 1, none⟩, none, r.length, c - 1, 0, 0, r.length + 1, rfl, rfl, rfl, by omega, by omega, ⟨rfl, rfl⟩, HSR.out _ HB1.out, HQ0.out, ClvAt.nil _ _, HB1.out, by omega, HP.out⟩
  case round =>
    obtain ⟨acc, l', la, sa, n, lc, k, sc, f, hgn, rfl, rfl, hk, hn5, HN, HSg, HQ, HCv, HB, HF⟩ := hrel
    clear HSR HQ0 HP HT HI HB1
    cases l' with
    | nil =>
      have hn0 : n = 0 := HN.out.2
      have hpv : ((0 : Int), acc) = (QE, QV) := by rw [← HF.out.2]; exact cls_stop.symm
      simp only [Prod.mk.injEq] at hpv
      obtain ⟨rfl, rfl⟩ := hpv
      have hka := HN.out.1
      have hre := HRE.out
      rw [if_pos rfl, ← hka] at hre
      by_cases hN : (k : Int) = N
      · have HX := Lib.hid (hre.trans (if_pos hN))
        have hN' : ((k : Int) != N) = false := by simpa using hN
        subst hn0
        clear hN hre hka HN
        go_wp2
        go_ret2
        exact ⟨⟨_, by rw [HX.out]; rfl, by rw [HRV.out HX.out]; exact HCv.out.cls⟩, HB.out⟩
      · have HX := Lib.hid (rs_bad (hre.trans (if_neg hN)) (by decide))
        have hN' : ((k : Int) != N) = true := by simpa using hN
        subst hn0
        clear hN hre hka HN
        go_wp2
        go_ret2
        exact ⟨⟨_, by rw [HX.out.1]; rfl, by rw [HX.out.2]; exact ⟨none, 0, rfl, by simp, by simp [maxLen], Or.inl rfl⟩⟩, HB.out⟩
    | cons g r' =>
    have hnl : n = r'.length + 1 := HN.out.2
    have hn0 : (0 : Int) < (n : Int) := by omega
    have hka := HN.out.1
    by_cases h256 : k = 256
    · have hpv : ((10 : Int), ([] : List Cl)) = (QE, QV) := by rw [← HF.out.2]; exact (cls_limit HF.out.1 (by omega)).symm
      simp only [Prod.mk.injEq] at hpv
      obtain ⟨rfl, rfl⟩ := hpv
      have HX := Lib.hid (rs_bad (HRE.out.trans (if_neg (by decide))) (by decide))
      subst h256
      clear hka hnl HN
      go_wp2
      go_ret2
      exact ⟨⟨_, by rw [HX.out.1]; rfl, by rw [HX.out.2]; exact ⟨none, 0, rfl, by simp, by simp [maxLen], Or.inl rfl⟩⟩, HB.out⟩
    have h256' : ((k : Int) == 256) = false := by rw [beq_eq_false_iff_ne]; omega
    have HV : Hid (Calls Tryz.prog 65 #[.slice la n lc, .int .i64 ((k : Int) + 1)] wr fun e w' => (∃ m u, e = .returned (.tuple #[clv (clV (acc.length + 1) (g :: r')) m, u, .int .i64 (clE (acc.length + 1) (g :: r'))]) ∧ Cm.LnsAt (fun b => wr.heap.size < b) w' m (clV (acc.length + 1) (g :: r')).lines ∧ SgAt (fun b => b < w.heap.size) w' u (clR (acc.length + 1) (g :: r'))) ∧ Below wr.heap.size wr w') := by
      have := eclaim_any (fun b => b < w.heap.size) (.slice la n lc) (g :: r') (acc.length + 1) wr HSg.out HQ.out.1 HQ.out.2.1 HQ.out.2.2 (tab_grw HTb.out.1 HB.out) (Cm.tab_below HTb.out.2 HB.out) (by simp; omega) (by omega)
      rw [show ((acc.length + 1 : Nat) : Int) = (k : Int) + 1 by omega] at this
      exact this
    by_cases he : clE (acc.length + 1) (g :: r') = 0
    case neg =>
      have hpv : (clE (acc.length + 1) (g :: r'), ([] : List Cl)) = (QE, QV) := by rw [← HF.out.2]; exact (cls_fault HF.out.1 (by omega) he).symm
      simp only [Prod.mk.injEq] at hpv
      obtain ⟨hQE, rfl⟩ := hpv
      rw [hQE] at HV he
      have HX := Lib.hid (rs_bad (HRE.out.trans (if_neg he)) he)
      have hne : (QE != 0) = true := by simpa using he
      generalize clV (acc.length + 1) (g :: r') = X at *
      generalize clR (acc.length + 1) (g :: r') = R at *
      clear hka hnl HN he hQE h256
      go_wp2_with (go_at_call 65; refine HV.out.mono ?_; rintro e w3 ⟨⟨m, u3, rfl, hm, hu⟩, hb⟩; have HB3 := Lib.hid (below_trans HB.out hb); obtain ⟨ma, mc, rfl, -, -⟩ := Cm.LnsAt.form hm; obtain ⟨ra, rc, rfl, -, -, -⟩ := hu; clear hb hm)
      go_ret2
      exact ⟨⟨_, by rw [HX.out.1]; rfl, by rw [HX.out.2]; exact ⟨none, 0, rfl, by simp, by simp [maxLen], Or.inl rfl⟩⟩, below_trans HB3.out (below_alloc _ _)⟩
    obtain ⟨f', ff1, ff2⟩ := cls_more HF.out.1 (by omega) he
    have HF2 := Lib.hid (And.intro ff1 (ff2.symm.trans HF.out.2))
    obtain ⟨-, v1, v2⟩ := cl_good he
    obtain ⟨q1, q2, q3, q4⟩ := cl_left (g :: r')
    rw [he, v1, v2] at HV
    have HQ2 : Hid (Nm (clP (g :: r')).2.2 ∧ Sh (clP (g :: r')).2.2 ∧ Qs (clP (g :: r')).2.2) := ⟨q2 HQ.out.1, q3 HQ.out.2.1, q4 HQ.out.2.2⟩
    have HRL : Hid ((clP (g :: r')).2.2.length < n) := by show _ < _; rw [hnl]; simp at q1; omega
    generalize clC (g :: r') = X at *
    generalize (clP (g :: r')).2.2 = R at *
    obtain ⟨ms, y1, y2, y3⟩ := HCv.out
    have HY := Lib.hid (And.intro y1 (And.intro y2 y3))
    have HK := Lib.hid hka
    clear HN hka hnl he ff1 ff2 v1 v2 q1 q2 q3 q4 y1 y2 y3 HSg HQ HCv HF
    go_upto_region 15 with (go_at_call 65; refine HV.out.mono ?_; rintro e w3 ⟨⟨m, u3, rfl, hm, hu⟩, hb⟩; have HW3 := Lib.hid hb; have HM3 := Lib.hid hm; have HU3 := Lib.hid hu; obtain ⟨ma, mc, rfl, -, -⟩ := Cm.LnsAt.form hm; obtain ⟨ra, rc, rfl, -, -, -⟩ := hu; clear hb hm)
    have hb4 := below_alloc w3 (.cells #[.string (mk X.id), .string (mk X.mem), .string (mk X.fam), .int .i64 X.net, .int .i64 X.does, .string (mk X.ref), .slice ma X.lines.length mc] 43)
    have HB4 := Lib.hid (below_trans HW3.out hb4)
    obtain ⟨d0, d1, d2, d3, d4, d5, d6⟩ := claim_cells (heap_alloc_new w3 (.cells #[.string (mk X.id), .string (mk X.mem), .string (mk X.fam), .int .i64 X.net, .int .i64 X.does, .string (mk X.ref), .slice ma X.lines.length mc] 43))
    have HM4 := Lib.hid (Cm.LnsAt.move HM3.out (Below.movesK _ hb4))
    have HU4 := Lib.hid (SgAt.move HU3.out (Below.movesK _ hb4))
    clear HM3 HU3 hb4 HV HW3
    generalize w3.alloc (.cells #[.string (mk X.id), .string (mk X.mem), .string (mk X.fam), .int .i64 X.net, .int .i64 X.does, .string (mk X.ref), .slice ma X.lines.length mc] 43) = w4 at *
    have hb5 := below_alloc w4 (.cells #[.string (mk X.id), .string (mk X.mem), .string (mk X.fam), .int .i64 X.net, .int .i64 X.does, .string (mk X.ref), .slice ma X.lines.length mc] 43)
    have HB5 := Lib.hid (below_trans HB4.out hb5)
    have HBB := Lib.hid (below_trans HB.out HB5.out)
    have HO5 := Lib.hid (own_grw HY.out.2.1 HB5.out)
    have HM5 := Lib.hid (Cm.LnsAt.move HM4.out (Below.movesK _ hb5))
    have HU5 := Lib.hid (SgAt.move HU4.out (Below.movesK _ hb5))
    have HNw := Lib.hid (World.news_of_block (heap_alloc_new w4 (.cells #[.string (mk X.id), .string (mk X.mem), .string (mk X.fam), .int .i64 X.net, .int .i64 X.does, .string (mk X.ref), .slice ma X.lines.length mc] 43)))
    have HON : Hid (∀ z ∈ [Value.string (mk X.id), .string (mk X.mem), .string (mk X.fam), .int .i64 X.net, .int .i64 X.does, .string (mk X.ref), .slice ma X.lines.length mc], z.oneCell' = true) := fun z hz => by simp at hz; rcases hz with rfl | rfl | rfl | rfl | rfl | rfl | rfl <;> rfl
    have HLN : Hid (k + 1 ≤ maxLen) := by show _ ≤ _; simp only [maxLen]; omega
    have HLB : Hid ((k + 1) * 104 ≤ 140737488355328) := by show _ ≤ _; omega
    have hka := HK.out
    rw [← hka] at HO5
    clear hb5 HM4 HU4 hka
    go_wp2_with (at_builtin; refine wpList_append_own_at _ (by rfl) _ _ 24 (by rfl) w.heap.size 43 ic (.agg #[.string ByteArray.empty, .string ByteArray.empty, .string ByteArray.empty, .int .i64 0, .int .i64 0, .string ByteArray.empty, .slice none 0 0]) 7 104 Tryz.underlying24 j1 j2 j3 j4 (by rfl) (by omega) (.slice sa k sc) k (ccs acc ms) (by rfl) HO5.out ⟨w4.heap.size, 0, none⟩ 1 1 [.string (mk X.id), .string (mk X.mem), .string (mk X.fam), .int .i64 X.net, .int .i64 X.does, .string (mk X.ref), .slice ma X.lines.length mc] (by rfl) (by rfl) HNw.out HON.out HLN.out HLB.out HBB.out.size ?_)
    intro v6 w6 hown hgrow hnil hat
    have HB6 := Lib.hid (HBB.out.grown hgrow HBB.out.size fun q hq => (HO5.out.lt q hq).1)
    have HS6 : Hid (ClvAt w.heap.size w6 v6 (acc ++ [X])) := by
      have hka := HK.out
      subst hka
      have hlow : ∀ q, (Value.slice sa acc.length sc).ownBlock = some q → q < wr.heap.size := fun q hq => (HY.out.2.1.lt q hq).2
      refine ClvAt.app HY.out.1 HO5.out (fun j x m hx hm => Cm.LnsAt.move (HY.out.2.2 j x m hx hm) (Below.movesK _ HB5.out)) (Cm.LnsAt.move HM5.out (moves_weak _ fun q _ hk => ⟨?_, ?_⟩)) hown hgrow (by simpa using hat)
      · have := HB.out.size; have : wr.heap.size < q := hk; omega
      · intro he; have := hlow q he; have : wr.heap.size < q := hk; omega
    have HU6 : Hid (SgAt (fun b => b < w.heap.size) w6 (.slice ra R.length rc) R) := SgAt.move HU5.out (moves_grown hgrow fun q hq hk => ⟨hk, fun he => by have := (HO5.out.lt q he.symm).1; have : q < w.heap.size := hk; omega⟩)
    obtain ⟨sa2, sc2, rfl⟩ : ∃ sa2 sc2, v6 = .slice sa2 (k + 1) sc2 := by
      obtain ⟨a, c, e⟩ := HS6.out.form
      exact ⟨a, c, by rw [e, List.length_append, ← HK.out]; rfl⟩
    clear hown hgrow hnil hat HNw HON HLN HLB HU5 HM5 HO5 HBB HB5
    go_wp2
    go_roundg (R.length)
    case rel => exact ⟨acc ++ [X], R, ra, sa2, R.length, rc, k + 1, sc2, f', rfl, rfl, rfl, by omega, by have := HRL.out; omega, ⟨by rw [List.length_append, ← HK.out]; rfl, rfl⟩, HU6.out, HQ2.out, HS6.out, HB6.out, HF2.out⟩
    case measure => rw [hgn]; exact HRL.out
end Go.Proofs.YtpmnepihaljamaaGreatDoor
end

/-
  What cover.numberOf answers, as a contract.
-/
section
set_option linter.unusedSimpArgs false
namespace Go.Proofs.YtpmnepihaljamaaGreatDoor
open Go.RowKit

theorem num_three {g : Sg} (h : g.length ≠ 3) : numO g = none := by
  unfold numO
  split
  · simp at h
  · rfl
theorem num_one {a b ps : List Tx} (h : ps.length ≠ 1) : numO [a, b, ps] = none := by
  unfold numO
  split
  · rename_i heq
    simp only [List.cons.injEq, and_true, true_and] at heq
    obtain ⟨_, _, rfl⟩ := heq
    simp at h
  · rfl
theorem num_at (a b : List Tx) (t : Tx) : (numO [a, b, [t]]).getD 0 = Nu.riV t 9 ∧ (numO [a, b, [t]]).isSome = (Nu.riE t 9 == 0) := by
  show (if Nu.riE t 9 = 0 then some (Nu.riV t 9) else none).getD 0 = _ ∧ (if Nu.riE t 9 = 0 then some (Nu.riV t 9) else none).isSome = _
  cases h : Nu.riOk t 9
  · have e := Nu.ri_none t 9 h
    rw [e.1, e.2]
    exact ⟨rfl, rfl⟩
  · have e := Nu.ri_some t 9 h
    rw [e.1, e.2]
    exact ⟨rfl, rfl⟩
def numV (g : Sg) : Int := (numO g).getD 0
def numK (g : Sg) : Bool := (numO g).isSome

set_option maxHeartbeats 1000000 in
theorem numberOf_any (v : Value) (g : Sg) (w : World) (h : ElAt All w v g) (hz : ∀ ps ∈ g, ∀ x ∈ ps, x.length ≤ 65536) :
    Calls Tryz.prog 95 #[.agg #[v]] w fun x w' => x = .returned (.tuple #[.int .i64 (numV g), .bool (numK g)]) ∧ Below w.heap.size w w' := by
  have hB : Hid (∀ o, Below w.heap.size w (w.alloc o)) := fun o => below_alloc w o
  obtain ⟨a, c, rfl, h1, h2, h3⟩ := h
  unfold maxLen at h2
  by_cases hl : g.length = 3
  · obtain ⟨p0, p1, ps, rfl⟩ : ∃ p0 p1 ps, g = [p0, p1, ps] := by
      match g, hl with
      | [p0, p1, ps], _ => exact ⟨p0, p1, ps, rfl⟩
    rcases h3 with h3 | ⟨b, o, rfl, _, hb, hc⟩
    · cases h3
    obtain ⟨u, hu, a', c', rfl, h1', h2', h3'⟩ := hc 2 ps rfl
    have hu2 : ∀ o1, (w.alloc o1).cell? ⟨b, o + 2, none⟩ = some (.slice a' ps.length c') := fun o1 => by rw [(below_alloc w o1).cell (p := ⟨b, o + 2, none⟩) hb]; exact hu
    have HZ := Lib.hid (hz ps (by simp))
    have h13 : 3 ≤ c := h1
    unfold maxLen at h2'
    clear hc hl h1 hz
    by_cases hp : ps.length = 1
    · obtain ⟨t, rfl⟩ : ∃ t, ps = [t] := by
        match ps, hp with
        | [t], _ => exact ⟨t, rfl⟩
      rcases h3' with h3' | ⟨b', o', rfl, _, hb', hc'⟩
      · cases h3'
      obtain ⟨u', hu', rfl⟩ := hc' 0 t rfl
      rw [Nat.add_zero] at hu'
      have hu3 : ∀ o1, (w.alloc o1).cell? ⟨b', o', none⟩ = some (.string (mk t)) := fun o1 => by rw [(below_alloc w o1).cell (p := ⟨b', o', none⟩) hb']; exact hu'
      have hr := fun W => Nu.readInt_any (mk t) 9 W (by rw [mk_size]; have := HZ.out t (by simp); simp only [maxLen]; omega)
      rw [mk_list] at hr
      have HR := Lib.hid hr
      have HV : Hid (numV [p0, p1, [t]] = Nu.riV t 9 ∧ numK [p0, p1, [t]] = (Nu.riE t 9 == 0)) := num_at p0 p1 t
      clear hr hc' hp hu hu'
      generalize mk t = X at *
      generalize Nu.riV t 9 = V at *
      generalize Nu.riE t 9 = E at *
      go_enter Tryz.func95, Tryz.ntmps95
      go_wp2_with (go_at_call 64; refine (HR.out _).mono ?_; rintro x w1 ⟨rfl, rfl⟩)
      go_ret2
      exact ⟨by rw [HV.out.1, HV.out.2]; rfl, hB.out _⟩
    · have HV := Lib.hid (num_one (a := p0) (b := p1) hp)
      have hpb : ((ps.length : Int) != 1) = true := by simp; omega
      clear hp h3'
      go_enter Tryz.func95, Tryz.ntmps95
      go_wp2
      go_ret2
      exact ⟨by unfold numV numK; rw [HV.out]; rfl, hB.out _⟩
  · have HV := Lib.hid (num_three hl)
    have hpb : ((g.length : Int) != 3) = true := by simp; omega
    clear hl h3
    go_enter Tryz.func95, Tryz.ntmps95
    go_wp2
    go_ret2
    exact ⟨by unfold numV numK; rw [HV.out]; rfl, hB.out _⟩
end Go.Proofs.YtpmnepihaljamaaGreatDoor
end
