/-
  Texts put together (merge.py): EDone.
-/
import Derived.Test.YtpmnepihaljamaaGreatDoorM19
import Derived.Test.YtpmnepihaljamaaGreatDoorM3
/-
  What eight.readDone answers, as a contract.
-/
section
set_option linter.unusedSimpArgs false
set_option maxRecDepth 100000
namespace Go.Proofs.YtpmnepihaljamaaGreatDoor
open Go.RowKit
open Et
open Cm (Ln lnv ln0)

theorem dn_no {l : List Sg} (h : dnOk l = false) : dnE l = 4 ∧ dnV l = ln0 := by
  have : dnE l = 4 := by unfold dnE; rw [h]; rfl
  exact ⟨this, by unfold dnV; rw [this]; rfl⟩
theorem dn_bad {l : List Sg} (h : dnE l ≠ 0) : dnV l = ln0 := by unfold dnV; rw [if_neg h]
theorem dn_mn {l : List Sg} (h : dnOk l = true) (h8 : Nu.mnE (tx l 2) = 8) : dnE l = 8 ∧ dnV l = ln0 := by
  have : dnE l = 8 := by unfold dnE; rw [h, h8]; rfl
  exact ⟨this, dn_bad (by rw [this]; decide)⟩
theorem dn_ri {l : List Sg} (h : dnOk l = true) (h8 : Nu.mnE (tx l 2) = 0) (h4 : Nu.riE (tx l 3) 4 = 4) : dnE l = 4 ∧ dnV l = ln0 := by
  have : dnE l = 4 := by unfold dnE; rw [h, h8, h4]; rfl
  exact ⟨this, dn_bad (by rw [this]; decide)⟩
theorem dn_ok {l : List Sg} (h : dnOk l = true) (h8 : Nu.mnE (tx l 2) = 0) (h4 : Nu.riE (tx l 3) 4 = 0) : dnE l = 0 ∧ dnV l = dnX l := by
  have : dnE l = 0 := by unfold dnE; rw [h, h8, h4]; rfl
  exact ⟨this, by unfold dnV; rw [if_pos this]⟩
theorem line_frozen {w : World} {b : Nat} {c0 c1 c2 c3 c4 c5 : Value} {T : TypeId} (h : w.heap[b]? = some (.cells #[c0, c1, c2, c3, c4, c5] T (0, 0))) : w.frozen? ⟨b, 0, none⟩ = false ∧ w.frozen? ⟨b, 1, none⟩ = false ∧ w.frozen? ⟨b, 2, none⟩ = false ∧ w.frozen? ⟨b, 3, none⟩ = false ∧ w.frozen? ⟨b, 4, none⟩ = false ∧ w.frozen? ⟨b, 5, none⟩ = false :=
  ⟨Lib.frozen_of_heap h 0, Lib.frozen_of_heap h 1, Lib.frozen_of_heap h 2, Lib.frozen_of_heap h 3, Lib.frozen_of_heap h 4, Lib.frozen_of_heap h 5⟩
abbrev put6 (W : World) (b : Nat) (a0 a1 a2 a3 a4 a5 : Value) : World := (((((W.setCell ⟨b, 0, none⟩ a0).setCell ⟨b, 1, none⟩ a1).setCell ⟨b, 2, none⟩ a2).setCell ⟨b, 3, none⟩ a3).setCell ⟨b, 4, none⟩ a4).setCell ⟨b, 5, none⟩ a5
theorem put6_below {B : Nat} {w W : World} (h : Below B w W) (b : Nat) (hb : B ≤ b) (a0 a1 a2 a3 a4 a5 : Value) : Below B w (put6 W b a0 a1 a2 a3 a4 a5) :=
  (((((h.setCell (p := ⟨b, 0, none⟩) hb a0).setCell (p := ⟨b, 1, none⟩) hb a1).setCell (p := ⟨b, 2, none⟩) hb a2).setCell (p := ⟨b, 3, none⟩) hb a3).setCell (p := ⟨b, 4, none⟩) hb a4).setCell (p := ⟨b, 5, none⟩) hb a5
theorem keepC {w w' : World} {b o : Nat} {u : Value} (h : w.cell? ⟨b, o, none⟩ = some u) (hb : Below w.heap.size w w') : w'.cell? ⟨b, o, none⟩ = some u := by
  rw [hb.cell (p := ⟨b, o, none⟩) (World.block_lt_of_cell? w _ h)]; exact h
theorem el_three {w : World} {u : Value} {e1 e2 e3 : List Tx} (h : ElAt All w u [e1, e2, e3]) : ∃ b o c s1 s2 s3, u = .slice (some ⟨b, o, none⟩) 3 c ∧ 3 ≤ c ∧ c ≤ 9223372036854775807 ∧ w.cell? ⟨b, o, none⟩ = some s1 ∧ w.cell? ⟨b, o + 1, none⟩ = some s2 ∧ w.cell? ⟨b, o + 2, none⟩ = some s3 ∧ TxAt All w s1 e1 ∧ TxAt All w s2 e2 ∧ TxAt All w s3 e3 := by
  obtain ⟨a, c, rfl, h1, h2, h3⟩ := h
  unfold maxLen at h2
  rcases h3 with h3 | ⟨b, o, rfl, _, _, hc⟩
  · cases h3
  · obtain ⟨s1, r1, t1⟩ := hc 0 e1 rfl
    obtain ⟨s2, r2, t2⟩ := hc 1 e2 rfl
    obtain ⟨s3, r3, t3⟩ := hc 2 e3 rfl
    exact ⟨b, o, c, s1, s2, s3, rfl, h1, h2, r1, r2, r3, t1, t2, t3⟩
theorem tx_first {w : World} {a : Option Addr} {n c : Nat} {x : Tx} {xs : List Tx} (h : TxAt All w (.slice a n c) (x :: xs)) : ∃ b o, a = some ⟨b, o, none⟩ ∧ w.cell? ⟨b, o, none⟩ = some (.string (mk x)) := by
  obtain ⟨b, o, u, rfl, -, hu, rfl⟩ := RowAt.get h 0 (by simp)
  exact ⟨b, o, rfl, hu⟩
theorem readMoney_l (t : Tx) (w : World) (h : t.length ≤ 65536) :
    Calls Tryz.prog 127 #[.string (mk t)] w fun e w' => e = .returned (.tuple #[.int .i64 (Nu.mnV t), .int .i64 (Nu.mnE t)]) ∧ Below w.heap.size w w' := by
  have := Nu.readMoney_any (mk t) w (by rw [mk_size]; unfold maxLen; omega)
  rw [mk_list] at this
  exact this
theorem tx_second {w : World} {b o n c : Nat} {x y : Tx} {xs : List Tx} (h : TxAt All w (.slice (some ⟨b, o, none⟩) n c) (x :: y :: xs)) : w.cell? ⟨b, o + 1, none⟩ = some (.string (mk y)) := by
  obtain ⟨b', o', u, e, -, hu, rfl⟩ := RowAt.get h 1 (by simp)
  simp only [Option.some.injEq, Addr.mk.injEq] at e
  obtain ⟨rfl, rfl, -⟩ := e
  exact hu
theorem tx_drop2 {w : World} {b o n c : Nat} {x y : Tx} {xs : List Tx} (h : TxAt All w (.slice (some ⟨b, o, none⟩) n c) (x :: y :: xs)) : ∀ j u, (xs.map fun t => Value.string (mk t))[j]? = some u → w.cell? ((⟨b, o + 2, none⟩ : Addr).add j) = some u := by
  intro j u hu
  rw [List.getElem?_map] at hu
  cases ht : xs[j]? with
  | none => rw [ht] at hu; cases hu
  | some t =>
    rw [ht] at hu
    simp at hu
    subst hu
    have hl : j + 2 < (x :: y :: xs).length := by have := (List.getElem?_eq_some_iff.1 ht).1; simp; omega
    obtain ⟨b', o', u, e, hx, hu, hr⟩ := RowAt.get h (j + 2) hl
    simp only [Option.some.injEq, Addr.mk.injEq] at e
    obtain ⟨rfl, rfl, -⟩ := e
    have hr' : u = .string (mk (x :: y :: xs)[j + 2]) := hr
    subst hr'
    have hx' : (x :: y :: xs)[j + 2] = t := by
      have h2 : (x :: y :: xs)[j + 2]? = some t := by simpa using ht
      rw [hx] at h2
      exact Option.some.inj h2
    rw [hx'] at hu
    rw [add_off, show o + 2 + j = o + (j + 2) by omega]
    exact hu
theorem ones_cells (z : List Tx) : ∀ u ∈ (z.map fun t => Value.string (mk t)), u.oneCell' = true := fun u hu => by
  obtain ⟨t, -, rfl⟩ := List.mem_map.1 hu
  rfl
theorem put6_moves (W : World) (B : Nat) (a0 a1 a2 a3 a4 a5 : Value) : Moves (fun b => B < b) (fun b => B < b) W (put6 W B a0 a1 a2 a3 a4 a5) := by
  refine ⟨by simp [World.setCell], fun b _ hk => ⟨hk, ?_⟩⟩
  have hne : b ≠ B := by omega
  rw [Below.heap_setCell _ _ _ _ hne, Below.heap_setCell _ _ _ _ hne, Below.heap_setCell _ _ _ _ hne, Below.heap_setCell _ _ _ _ hne, Below.heap_setCell _ _ _ _ hne, Below.heap_setCell _ _ _ _ hne]

set_option maxHeartbeats 4000000 in
theorem edone_any (v : Value) (l : List Sg) (w : World) (h : SgAt All w v l) (hn : Nm l) (hs : Sh l) (hq : ∀ g ∈ l, ∀ ps ∈ g, ps.length ≤ 100000) :
    Calls Tryz.prog 144 #[v] w fun e w' => (∃ m, e = .returned (.tuple #[lnv (dnV l) m, .int .i64 (dnE l)]) ∧ TxAt (fun b => w.heap.size < b) w' m (dnV l).mods) ∧ Below w.heap.size w w' := by
  have HC : Hid (Calls Tryz.prog 98 #[v, .string ⟨#[83, 86]⟩, .int .i64 3] (w.alloc (.cells #[.string ByteArray.empty, .slice none 0 0, .int .i64 0, .int .i64 0, .int .i64 0, .int .i64 0] 47)) _) := ebehind_any v l tSV 3 (w.alloc (.cells #[.string ByteArray.empty, .slice none 0 0, .int .i64 0, .int .i64 0, .int .i64 0, .int .i64 0] 47)) (SgAt.move h (Below.moves (below_alloc w _))) hn (by omega) (by omega)
  have HM := Lib.hid fun W => readMoney_l (tx l 2) W (hs.tx 2)
  have HR := Lib.hid fun W => Nu.readInt_list (tx l 3) 4 W (by have := hs.tx 3; unfold maxLen; omega)
  obtain ⟨va, vc, rfl, -, -, -⟩ := h
  clear hn hs
  have HQ := Lib.hid hq
  clear hq
  have hok : dnOk l = (behB l tSV 3 && (decide (2 ≤ (el l 1).length) && (decide (tx l 1 = tHC) && (decide ((el l 2).length = 1) && decide ((el l 3).length = 1))))) := rfl
  cases hb : behB l tSV 3 with
  | false =>
    have HX := Lib.hid (dn_no (l := l) (by rw [hok, hb]; rfl))
    rw [hb] at HC
    clear hb hok
    go_enter Tryz.func144, Tryz.ntmps144
    go_wp2_with (first | (go_at_call 98; refine HC.out.mono ?_; rintro x w1 ⟨⟨u, rfl, he⟩, hb1⟩; have HB1 := Lib.hid (below_trans (below_alloc w _) hb1); have HZ1 := Lib.hid (keepB (heap_alloc_new w (.cells #[.string ByteArray.empty, .slice none 0 0, .int .i64 0, .int .i64 0, .int .i64 0, .int .i64 0] 47)) hb1); obtain ⟨d0, d1, d2, d3, d4, d5⟩ := line_cells HZ1.out; obtain ⟨f0, f1, f2, f3, f4, f5⟩ := line_frozen HZ1.out; clear hb1; clear he))
    refine bodyPost_ret (v := .tuple #[lnv ln0 (.slice none 0 0), .int .i64 4]) (by simp [results, Tryz.results144, go_sem, d0, d1, d2, d3, d4, d5]; first | done | exact ⟨rfl, rfl, rfl, rfl, rfl⟩) rfl ?_
    exact ⟨⟨.slice none 0 0, by rw [HX.out.1, HX.out.2], by rw [HX.out.2]; exact TxAt.nil _ _⟩, put6_below HB1.out w.heap.size (Nat.le_refl _) _ _ _ _ _ _⟩
  | true =>
    have hBV := beh_yes hb
    rw [hb, hBV] at HC
    obtain ⟨p, g, r, rfl, hg, hp⟩ := beh_form hb
    match g, hg with
    | [e1, e2, e3], _ =>
      rw [show (((p :: [e1, e2, e3] : Sg) :: r).headD []).tail = [e1, e2, e3] from rfl] at HC
      rw [hb, show el ((p :: [e1, e2, e3] : Sg) :: r) 1 = e1 from rfl, show el ((p :: [e1, e2, e3] : Sg) :: r) 2 = e2 from rfl, show el ((p :: [e1, e2, e3] : Sg) :: r) 3 = e3 from rfl, show tx ((p :: [e1, e2, e3] : Sg) :: r) 1 = e1.headD [] from rfl] at hok
      have HX2 : Hid (tx ((p :: [e1, e2, e3] : Sg) :: r) 2 = e2.headD []) := rfl
      have HX3 : Hid (tx ((p :: [e1, e2, e3] : Sg) :: r) 3 = e3.headD []) := rfl
      have HXd : Hid (dnX ((p :: [e1, e2, e3] : Sg) :: r) = ⟨e1.getD 1 [], e1.drop 2, 0, Nu.riV (e3.headD []) 4, Nu.mnV (e2.headD []), 0⟩) := rfl
      have hz5 : e1.length ≤ 100000 := HQ.out _ List.mem_cons_self _ (by simp)
      clear hb hBV hg hp HQ
      generalize (p :: [e1, e2, e3] : Sg) :: r = L at *
      by_cases h2 : 2 ≤ e1.length
      case neg =>
        have HX := Lib.hid (dn_no (l := L) (by rw [hok, decide_eq_false h2]; rfl))
        have h2' : (e1.length : Int) < 2 := by omega
        clear hok
        go_enter Tryz.func144, Tryz.ntmps144
        go_wp2_with (first | (go_at_call 98; refine HC.out.mono ?_; rintro x w1 ⟨⟨u, rfl, he⟩, hb1⟩; have HB1 := Lib.hid (below_trans (below_alloc w _) hb1); have HZ1 := Lib.hid (keepB (heap_alloc_new w (.cells #[.string ByteArray.empty, .slice none 0 0, .int .i64 0, .int .i64 0, .int .i64 0, .int .i64 0] 47)) hb1); obtain ⟨d0, d1, d2, d3, d4, d5⟩ := line_cells HZ1.out; obtain ⟨f0, f1, f2, f3, f4, f5⟩ := line_frozen HZ1.out; clear hb1; obtain ⟨b, o, c, s1, s2, s3, rfl, g1, g2, k1, k2, k3, t1, t2, t3⟩ := el_three he; have HT1 := Lib.hid t1; have HT2 := Lib.hid t2; have HT3 := Lib.hid t3; obtain ⟨a1, c1, rfl, q1, q1', -⟩ := t1; obtain ⟨a2, c2, rfl, q2, q2', -⟩ := t2; obtain ⟨a3, c3, rfl, q3, q3', -⟩ := t3; unfold maxLen at q1' q2' q3'; clear he))
        refine bodyPost_ret (v := .tuple #[lnv ln0 (.slice none 0 0), .int .i64 4]) (by simp [results, Tryz.results144, go_sem, d0, d1, d2, d3, d4, d5]; first | done | exact ⟨rfl, rfl, rfl, rfl, rfl⟩) rfl ?_
        exact ⟨⟨.slice none 0 0, by rw [HX.out.1, HX.out.2], by rw [HX.out.2]; exact TxAt.nil _ _⟩, put6_below HB1.out w.heap.size (Nat.le_refl _) _ _ _ _ _ _⟩
      obtain ⟨hd, y, z, rfl⟩ : ∃ hd y z, e1 = hd :: y :: z := by
        match e1, h2 with
        | a :: b :: c, _ => exact ⟨a, b, c, rfl⟩
      rw [decide_eq_true h2, show (hd :: y :: z).headD [] = hd from rfl] at hok
      have heq : ((mk hd).toList == [72, 67]) = decide (hd = tHC) := mk_lit hd tHC
      have hz6 : z.length ≤ 100000 := by simp at hz5; omega
      have hl2 : ¬ ((hd :: y :: z).length : Int) < 2 := by simp; omega
      by_cases h3 : hd = tHC
      case neg =>
        have HX := Lib.hid (dn_no (l := L) (by rw [hok, decide_eq_false h3]; rfl))
        rw [decide_eq_false h3] at heq
        clear hok h3
        go_enter Tryz.func144, Tryz.ntmps144
        go_wp2_with (first | (go_at_call 98; refine HC.out.mono ?_; rintro x w1 ⟨⟨u, rfl, he⟩, hb1⟩; have HB1 := Lib.hid (below_trans (below_alloc w _) hb1); have HZ1 := Lib.hid (keepB (heap_alloc_new w (.cells #[.string ByteArray.empty, .slice none 0 0, .int .i64 0, .int .i64 0, .int .i64 0, .int .i64 0] 47)) hb1); obtain ⟨d0, d1, d2, d3, d4, d5⟩ := line_cells HZ1.out; obtain ⟨f0, f1, f2, f3, f4, f5⟩ := line_frozen HZ1.out; clear hb1; obtain ⟨b, o, c, s1, s2, s3, rfl, g1, g2, k1, k2, k3, t1, t2, t3⟩ := el_three he; have HT1 := Lib.hid t1; have HT2 := Lib.hid t2; have HT3 := Lib.hid t3; obtain ⟨a1, c1, rfl, q1, q1', -⟩ := t1; obtain ⟨a2, c2, rfl, q2, q2', -⟩ := t2; obtain ⟨a3, c3, rfl, q3, q3', -⟩ := t3; unfold maxLen at q1' q2' q3'; clear he; obtain ⟨bh, oh, eh, hh⟩ := tx_first HT1.out; subst eh))
        refine bodyPost_ret (v := .tuple #[lnv ln0 (.slice none 0 0), .int .i64 4]) (by simp [results, Tryz.results144, go_sem, d0, d1, d2, d3, d4, d5]; first | done | exact ⟨rfl, rfl, rfl, rfl, rfl⟩) rfl ?_
        exact ⟨⟨.slice none 0 0, by rw [HX.out.1, HX.out.2], by rw [HX.out.2]; exact TxAt.nil _ _⟩, put6_below HB1.out w.heap.size (Nat.le_refl _) _ _ _ _ _ _⟩
      rw [decide_eq_true h3] at heq hok
      by_cases h4 : e2.length = 1
      case neg =>
        have HX := Lib.hid (dn_no (l := L) (by rw [hok, decide_eq_false h4]; rfl))
        have h4' : ((e2.length : Int) != 1) = true := by simp; omega
        clear hok h3
        go_enter Tryz.func144, Tryz.ntmps144
        go_wp2_with (first | (go_at_call 98; refine HC.out.mono ?_; rintro x w1 ⟨⟨u, rfl, he⟩, hb1⟩; have HB1 := Lib.hid (below_trans (below_alloc w _) hb1); have HZ1 := Lib.hid (keepB (heap_alloc_new w (.cells #[.string ByteArray.empty, .slice none 0 0, .int .i64 0, .int .i64 0, .int .i64 0, .int .i64 0] 47)) hb1); obtain ⟨d0, d1, d2, d3, d4, d5⟩ := line_cells HZ1.out; obtain ⟨f0, f1, f2, f3, f4, f5⟩ := line_frozen HZ1.out; clear hb1; obtain ⟨b, o, c, s1, s2, s3, rfl, g1, g2, k1, k2, k3, t1, t2, t3⟩ := el_three he; have HT1 := Lib.hid t1; have HT2 := Lib.hid t2; have HT3 := Lib.hid t3; obtain ⟨a1, c1, rfl, q1, q1', -⟩ := t1; obtain ⟨a2, c2, rfl, q2, q2', -⟩ := t2; obtain ⟨a3, c3, rfl, q3, q3', -⟩ := t3; unfold maxLen at q1' q2' q3'; clear he; obtain ⟨bh, oh, eh, hh⟩ := tx_first HT1.out; subst eh))
        refine bodyPost_ret (v := .tuple #[lnv ln0 (.slice none 0 0), .int .i64 4]) (by simp [results, Tryz.results144, go_sem, d0, d1, d2, d3, d4, d5]; first | done | exact ⟨rfl, rfl, rfl, rfl, rfl⟩) rfl ?_
        exact ⟨⟨.slice none 0 0, by rw [HX.out.1, HX.out.2], by rw [HX.out.2]; exact TxAt.nil _ _⟩, put6_below HB1.out w.heap.size (Nat.le_refl _) _ _ _ _ _ _⟩
      obtain ⟨tmm, rfl⟩ := len_one h4
      rw [decide_eq_true h4] at hok
      by_cases h5 : e3.length = 1
      case neg =>
        have HX := Lib.hid (dn_no (l := L) (by rw [hok, decide_eq_false h5]; rfl))
        have h5' : ((e3.length : Int) != 1) = true := by simp; omega
        clear hok h3
        go_enter Tryz.func144, Tryz.ntmps144
        go_wp2_with (first | (go_at_call 98; refine HC.out.mono ?_; rintro x w1 ⟨⟨u, rfl, he⟩, hb1⟩; have HB1 := Lib.hid (below_trans (below_alloc w _) hb1); have HZ1 := Lib.hid (keepB (heap_alloc_new w (.cells #[.string ByteArray.empty, .slice none 0 0, .int .i64 0, .int .i64 0, .int .i64 0, .int .i64 0] 47)) hb1); obtain ⟨d0, d1, d2, d3, d4, d5⟩ := line_cells HZ1.out; obtain ⟨f0, f1, f2, f3, f4, f5⟩ := line_frozen HZ1.out; clear hb1; obtain ⟨b, o, c, s1, s2, s3, rfl, g1, g2, k1, k2, k3, t1, t2, t3⟩ := el_three he; have HT1 := Lib.hid t1; have HT2 := Lib.hid t2; have HT3 := Lib.hid t3; obtain ⟨a1, c1, rfl, q1, q1', -⟩ := t1; obtain ⟨a2, c2, rfl, q2, q2', -⟩ := t2; obtain ⟨a3, c3, rfl, q3, q3', -⟩ := t3; unfold maxLen at q1' q2' q3'; clear he; obtain ⟨bh, oh, eh, hh⟩ := tx_first HT1.out; subst eh))
        refine bodyPost_ret (v := .tuple #[lnv ln0 (.slice none 0 0), .int .i64 4]) (by simp [results, Tryz.results144, go_sem, d0, d1, d2, d3, d4, d5]; first | done | exact ⟨rfl, rfl, rfl, rfl, rfl⟩) rfl ?_
        exact ⟨⟨.slice none 0 0, by rw [HX.out.1, HX.out.2], by rw [HX.out.2]; exact TxAt.nil _ _⟩, put6_below HB1.out w.heap.size (Nat.le_refl _) _ _ _ _ _ _⟩
      obtain ⟨tuu, rfl⟩ := len_one h5
      rw [decide_eq_true h5] at hok
      rw [HX2.out, show ([tmm] : List Tx).headD [] = tmm from rfl] at HM
      rw [HX3.out, show ([tuu] : List Tx).headD [] = tuu from rfl] at HR
      have HOK : Hid (dnOk L = true) := hok
      clear hok h2 h3 h4 h5
      rcases mn_e tmm with m0 | m8
      case inr =>
        have HX := Lib.hid (dn_mn HOK.out (by rw [HX2.out]; exact m8))
        rw [m8] at HM
        clear m8
        generalize Nu.mnV tmm = M at *
        go_enter Tryz.func144, Tryz.ntmps144
        go_wp2_with (first | (go_at_call 98; refine HC.out.mono ?_; rintro x w1 ⟨⟨u, rfl, he⟩, hb1⟩; have HB1 := Lib.hid (below_trans (below_alloc w _) hb1); have HZ1 := Lib.hid (keepB (heap_alloc_new w (.cells #[.string ByteArray.empty, .slice none 0 0, .int .i64 0, .int .i64 0, .int .i64 0, .int .i64 0] 47)) hb1); obtain ⟨d0, d1, d2, d3, d4, d5⟩ := line_cells HZ1.out; obtain ⟨f0, f1, f2, f3, f4, f5⟩ := line_frozen HZ1.out; clear hb1; obtain ⟨b, o, c, s1, s2, s3, rfl, g1, g2, k1, k2, k3, t1, t2, t3⟩ := el_three he; have HT1 := Lib.hid t1; have HT2 := Lib.hid t2; have HT3 := Lib.hid t3; obtain ⟨a1, c1, rfl, q1, q1', -⟩ := t1; obtain ⟨a2, c2, rfl, q2, q2', -⟩ := t2; obtain ⟨a3, c3, rfl, q3, q3', -⟩ := t3; unfold maxLen at q1' q2' q3'; clear he; obtain ⟨bh, oh, eh, hh⟩ := tx_first HT1.out; subst eh; obtain ⟨bm, om, em, hm2⟩ := tx_first HT2.out; subst em) | (go_at_call 127; refine (HM.out _).mono ?_; rintro x w2 ⟨rfl, hb2⟩; have HB2 := Lib.hid (below_trans HB1.out hb2); have HZ2 := Lib.hid (keepB HZ1.out hb2); have HW2 := Lib.hid hb2; clear d0 d1 d2 d3 d4 d5 f0 f1 f2 f3 f4 f5; obtain ⟨d0, d1, d2, d3, d4, d5⟩ := line_cells HZ2.out; obtain ⟨f0, f1, f2, f3, f4, f5⟩ := line_frozen HZ2.out; clear hb2))
        refine bodyPost_ret (v := .tuple #[lnv ln0 (.slice none 0 0), .int .i64 8]) (by simp [results, Tryz.results144, go_sem, d0, d1, d2, d3, d4, d5]; first | done | exact ⟨rfl, rfl, rfl, rfl, rfl⟩) rfl ?_
        exact ⟨⟨.slice none 0 0, by rw [HX.out.1, HX.out.2], by rw [HX.out.2]; exact TxAt.nil _ _⟩, put6_below HB2.out w.heap.size (Nat.le_refl _) _ _ _ _ _ _⟩
      rcases ri_e tuu 4 with u0 | u4
      case inr =>
        have HX := Lib.hid (dn_ri HOK.out (by rw [HX2.out]; exact m0) (by rw [HX3.out]; exact u4))
        rw [m0] at HM
        rw [u4] at HR
        clear m0 u4
        generalize Nu.mnV tmm = M at *
        generalize Nu.riV tuu 4 = R at *
        go_enter Tryz.func144, Tryz.ntmps144
        go_wp2_with (first | (go_at_call 98; refine HC.out.mono ?_; rintro x w1 ⟨⟨u, rfl, he⟩, hb1⟩; have HB1 := Lib.hid (below_trans (below_alloc w _) hb1); have HZ1 := Lib.hid (keepB (heap_alloc_new w (.cells #[.string ByteArray.empty, .slice none 0 0, .int .i64 0, .int .i64 0, .int .i64 0, .int .i64 0] 47)) hb1); obtain ⟨d0, d1, d2, d3, d4, d5⟩ := line_cells HZ1.out; obtain ⟨f0, f1, f2, f3, f4, f5⟩ := line_frozen HZ1.out; clear hb1; obtain ⟨b, o, c, s1, s2, s3, rfl, g1, g2, k1, k2, k3, t1, t2, t3⟩ := el_three he; have HT1 := Lib.hid t1; have HT2 := Lib.hid t2; have HT3 := Lib.hid t3; obtain ⟨a1, c1, rfl, q1, q1', -⟩ := t1; obtain ⟨a2, c2, rfl, q2, q2', -⟩ := t2; obtain ⟨a3, c3, rfl, q3, q3', -⟩ := t3; unfold maxLen at q1' q2' q3'; clear he; obtain ⟨bh, oh, eh, hh⟩ := tx_first HT1.out; subst eh; obtain ⟨bm, om, em, hm2⟩ := tx_first HT2.out; subst em; obtain ⟨bu, ou, eu, hu3⟩ := tx_first HT3.out; subst eu) | (go_at_call 127; refine (HM.out _).mono ?_; rintro x w2 ⟨rfl, hb2⟩; have HB2 := Lib.hid (below_trans HB1.out hb2); have HZ2 := Lib.hid (keepB HZ1.out hb2); have HW2 := Lib.hid hb2; clear d0 d1 d2 d3 d4 d5 f0 f1 f2 f3 f4 f5; obtain ⟨d0, d1, d2, d3, d4, d5⟩ := line_cells HZ2.out; obtain ⟨f0, f1, f2, f3, f4, f5⟩ := line_frozen HZ2.out; clear hb2; have hcu := keepC hu3 HW2.out; have hk3 := keepC k3 HW2.out) | (go_at_call 64; refine (HR.out _).mono ?_; rintro x w3 ⟨rfl, hw3⟩; subst hw3))
        refine bodyPost_ret (v := .tuple #[lnv ln0 (.slice none 0 0), .int .i64 4]) (by simp [results, Tryz.results144, go_sem, d0, d1, d2, d3, d4, d5]; first | done | exact ⟨rfl, rfl, rfl, rfl, rfl⟩) rfl ?_
        exact ⟨⟨.slice none 0 0, by rw [HX.out.1, HX.out.2], by rw [HX.out.2]; exact TxAt.nil _ _⟩, put6_below HB2.out w.heap.size (Nat.le_refl _) _ _ _ _ _ _⟩
      have HX := Lib.hid (dn_ok HOK.out (by rw [HX2.out]; exact m0) (by rw [HX3.out]; exact u0))
      have HXV : Hid (dnX L = ⟨y, z, 0, Nu.riV tuu 4, Nu.mnV tmm, 0⟩) := HXd.out
      rw [m0] at HM
      rw [u0] at HR
      clear m0 u0 HXd
      generalize Nu.mnV tmm = M at *
      generalize Nu.riV tuu 4 = R at *
      by_cases hz : z = []
      case pos =>
        subst hz
        have HAZ := Lib.hid fun (W : World) c a ty => app_zero (w := W) (B := 0) ty c a (.slice none 0 0) 0 [] (World.ownsRow_nil _ _ _ _)
        go_enter Tryz.func144, Tryz.ntmps144
        go_wp2_with (first | (go_at_call 98; refine HC.out.mono ?_; rintro x w1 ⟨⟨u, rfl, he⟩, hb1⟩; have HB1 := Lib.hid (below_trans (below_alloc w _) hb1); have HZ1 := Lib.hid (keepB (heap_alloc_new w (.cells #[.string ByteArray.empty, .slice none 0 0, .int .i64 0, .int .i64 0, .int .i64 0, .int .i64 0] 47)) hb1); obtain ⟨d0, d1, d2, d3, d4, d5⟩ := line_cells HZ1.out; obtain ⟨f0, f1, f2, f3, f4, f5⟩ := line_frozen HZ1.out; clear hb1; obtain ⟨b, o, c, s1, s2, s3, rfl, g1, g2, k1, k2, k3, t1, t2, t3⟩ := el_three he; have HT1 := Lib.hid t1; have HT2 := Lib.hid t2; have HT3 := Lib.hid t3; obtain ⟨a1, c1, rfl, q1, q1', -⟩ := t1; obtain ⟨a2, c2, rfl, q2, q2', -⟩ := t2; obtain ⟨a3, c3, rfl, q3, q3', -⟩ := t3; unfold maxLen at q1' q2' q3'; clear he; obtain ⟨bh, oh, eh, hh⟩ := tx_first HT1.out; subst eh; obtain ⟨bm, om, em, hm2⟩ := tx_first HT2.out; subst em; obtain ⟨bu, ou, eu, hu3⟩ := tx_first HT3.out; subst eu; have hy := tx_second HT1.out) | (go_at_call 127; refine (HM.out _).mono ?_; rintro x w2 ⟨rfl, hb2⟩; have HB2 := Lib.hid (below_trans HB1.out hb2); have HZ2 := Lib.hid (keepB HZ1.out hb2); have HW2 := Lib.hid hb2; clear d0 d1 d2 d3 d4 d5 f0 f1 f2 f3 f4 f5; obtain ⟨d0, d1, d2, d3, d4, d5⟩ := line_cells HZ2.out; obtain ⟨f0, f1, f2, f3, f4, f5⟩ := line_frozen HZ2.out; clear hb2; have hcu := keepC hu3 HW2.out; have hk3 := keepC k3 HW2.out; have hk1 := keepC k1 HW2.out; have hcy := keepC hy HW2.out) | (go_at_call 64; refine (HR.out _).mono ?_; rintro x w3 ⟨rfl, hw3⟩; subst hw3) | (at_builtin; refine Lib.wpList_append_run _ rfl _ _ _ _ rfl _ _ rfl rfl _ _ (HAZ.out _ _ _ _) ?_))
        all_goals
          refine bodyPost_ret (v := .tuple #[lnv ⟨y, [], 0, R, M, 0⟩ (.slice none 0 0), .int .i64 0]) (by simp [results, Tryz.results144, go_sem, d0, d1, d2, d3, d4, d5]) rfl ?_
          exact ⟨⟨.slice none 0 0, by rw [HX.out.1, HX.out.2, HXV.out], by rw [HX.out.2, HXV.out]; exact TxAt.nil _ _⟩, put6_below HB2.out w.heap.size (Nat.le_refl _) _ _ _ _ _ _⟩
      have hz1 : 1 ≤ z.length := by
        cases z with
        | nil => exact absurd rfl hz
        | cons a b => simp
      obtain ⟨i9, j1, j2, j3, j4⟩ := infoT
      clear hz
      go_enter Tryz.func144, Tryz.ntmps144
      go_wp2_with (first | (go_at_call 98; refine HC.out.mono ?_; rintro x w1 ⟨⟨u, rfl, he⟩, hb1⟩; have HB1 := Lib.hid (below_trans (below_alloc w _) hb1); have HZ1 := Lib.hid (keepB (heap_alloc_new w (.cells #[.string ByteArray.empty, .slice none 0 0, .int .i64 0, .int .i64 0, .int .i64 0, .int .i64 0] 47)) hb1); obtain ⟨d0, d1, d2, d3, d4, d5⟩ := line_cells HZ1.out; obtain ⟨f0, f1, f2, f3, f4, f5⟩ := line_frozen HZ1.out; clear hb1; obtain ⟨b, o, c, s1, s2, s3, rfl, g1, g2, k1, k2, k3, t1, t2, t3⟩ := el_three he; have HT1 := Lib.hid t1; have HT2 := Lib.hid t2; have HT3 := Lib.hid t3; obtain ⟨a1, c1, rfl, q1, q1', -⟩ := t1; obtain ⟨a2, c2, rfl, q2, q2', -⟩ := t2; obtain ⟨a3, c3, rfl, q3, q3', -⟩ := t3; have hcl : (hd :: y :: z).length = z.length + 2 := (by simp); rw [hcl] at q1 HT1 k1; clear hcl; have hc3 : ¬ c1 = 2 := (by omega); have hc4 : 2 < c1 := (by omega); unfold maxLen at q1' q2' q3'; clear he; obtain ⟨bh, oh, eh, hh⟩ := tx_first HT1.out; subst eh; obtain ⟨bm, om, em, hm2⟩ := tx_first HT2.out; subst em; obtain ⟨bu, ou, eu, hu3⟩ := tx_first HT3.out; subst eu; have hy := tx_second HT1.out) | (go_at_call 127; refine (HM.out _).mono ?_; rintro x w2 ⟨rfl, hb2⟩; have HB2 := Lib.hid (below_trans HB1.out hb2); have HZ2 := Lib.hid (keepB HZ1.out hb2); have HW2 := Lib.hid hb2; clear d0 d1 d2 d3 d4 d5 f0 f1 f2 f3 f4 f5; obtain ⟨d0, d1, d2, d3, d4, d5⟩ := line_cells HZ2.out; obtain ⟨f0, f1, f2, f3, f4, f5⟩ := line_frozen HZ2.out; clear hb2; have hcu := keepC hu3 HW2.out; have hk3 := keepC k3 HW2.out; have hk1 := keepC k1 HW2.out; have hcy := keepC hy HW2.out; have HNW := Lib.hid (tx_drop2 (TxAt.move HT1.out (Below.moves HW2.out))); have HON := Lib.hid (ones_cells z); have HZL : Hid ((z.map fun t => Value.string (mk t)).length = z.length * 1) := Lib.hid (by simp); have HLN : Hid (0 + z.length ≤ maxLen) := Lib.hid (by simp only [maxLen]; omega); have HLB : Hid ((0 + z.length) * 16 ≤ 140737488355328) := Lib.hid (by omega)))
      go_at_call 64
      refine (HR.out _).mono ?_
      rintro x w3 ⟨rfl, hw3⟩
      subst hw3
      go_wp2_with (at_builtin; refine wpList_append_own_at _ (by rfl) _ _ 45 (by rfl) w3.heap.size 9 i9 (.string ByteArray.empty) 1 16 Tryz.underlying45 j1 j2 j3 j4 (by rfl) (by omega) (.slice none 0 0) 0 [] (by rfl) (World.ownsRow_nil _ _ _ _) ⟨bh, oh + 2, none⟩ z.length (c1 - 2) (z.map fun t => Value.string (mk t)) (by rfl) HZL.out HNW.out HON.out HLN.out HLB.out (Nat.le_refl _) ?_)
      intro mv w4 hown hgrow hnil hat
      obtain ⟨ma, mc, rfl⟩ := own_form hown
      have hb4 : Below w3.heap.size w3 w4 := ⟨hgrow.os, hgrow.tape, hgrow.output, hgrow.size, fun k hk => hgrow.block k hk (by simp [Value.ownBlock])⟩
      have HB4 := Lib.hid (below_trans HB2.out hb4)
      have HZ4 := Lib.hid (keepB HZ2.out hb4)
      have hk1' := keepC hk1 hb4
      have hcy' := keepC hcy hb4
      have htx : TxAt (fun b => w.heap.size < b) w4 (.slice ma z.length mc) z := by
        have := row_of_own (K := fun b => w.heap.size < b) (R := StrAt) (ys := z) (xs := z.map fun t => Value.string (mk t)) hown (fun b hb => by have := (hown.lt b hb).1; have := (Array.getElem?_eq_some_iff.1 HZ2.out).1; omega) (fun j u t hu ht => by
          rw [List.getElem?_map, ht] at hu
          simp at hu
          exact hu.symm)
        exact this
      have HTX := Lib.hid htx
      clear d0 d1 d2 d3 d4 d5 f0 f1 f2 f3 f4 f5 hown hgrow hnil hat htx hb4
      obtain ⟨d0, d1, d2, d3, d4, d5⟩ := line_cells HZ4.out
      obtain ⟨f0, f1, f2, f3, f4, f5⟩ := line_frozen HZ4.out
      go_wp2
      refine bodyPost_ret (v := .tuple #[lnv ⟨y, z, 0, R, M, 0⟩ (.slice ma z.length mc), .int .i64 0]) (by simp [results, Tryz.results144, go_sem, d0, d1, d2, d3, d4, d5]) rfl ?_
      exact ⟨⟨.slice ma z.length mc, by rw [HX.out.1, HX.out.2, HXV.out], by rw [HX.out.2, HXV.out]; exact TxAt.move HTX.out (put6_moves _ _ _ _ _ _ _ _)⟩, put6_below HB4.out w.heap.size (Nat.le_refl _) _ _ _ _ _ _⟩
end Go.Proofs.YtpmnepihaljamaaGreatDoor
end
