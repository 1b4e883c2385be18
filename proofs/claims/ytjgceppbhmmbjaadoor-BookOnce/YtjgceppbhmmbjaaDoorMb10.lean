/-
  Texts put together (merge.py): LTexts, BFind, BAdm, BAdmit.
-/
import Derived.Test.YtjgceppbhmmbjaaDoorMb5
import Derived.Test.YtjgceppbhmmbjaaDoorMb6
import Derived.Test.YtjgceppbhmmbjaaDoorMb8
import Derived.Test.YtjgceppbhmmbjaaDoorMb9
/-
  What slices.Equal (at texts) and the reference's Texts answer, as contracts: whether two rows are the same, part by part.
-/
section
set_option linter.unusedSimpArgs false
namespace Go.Proofs.YtjgceppbhmmbjaaDoor.Cm
open Go.RowKit

theorem takes_eq {α : Type} [DecidableEq α] (xs ys : List α) (k : Nat) (x y : α) (hx : xs[k]? = some x) (hy : ys[k]? = some y) (h : xs.take k = ys.take k) (he : x = y) : xs.take (k + 1) = ys.take (k + 1) := by
  rw [List.take_add_one, List.take_add_one, hx, hy, h, he]
theorem takes_ne {α : Type} [DecidableEq α] (xs ys : List α) (k : Nat) (x y : α) (hx : xs[k]? = some x) (hy : ys[k]? = some y) (he : x ≠ y) : decide (xs = ys) = false := by
  rw [decide_eq_false_iff_not]
  rintro rfl
  rw [hx] at hy
  exact he (Option.some.inj hy)
theorem takes_all {α : Type} [DecidableEq α] (xs ys : List α) (k : Nat) (hx : xs.length ≤ k) (hl : xs.length = ys.length) (h : xs.take k = ys.take k) : decide (xs = ys) = true := by
  rw [decide_eq_true_iff]
  rwa [List.take_of_length_le hx, List.take_of_length_le (by omega)] at h
theorem lens_ne {α : Type} [DecidableEq α] (xs ys : List α) (h : xs.length ≠ ys.length) : decide (xs = ys) = false := by
  rw [decide_eq_false_iff_not]
  rintro rfl
  exact h rfl
theorem mk_ne (x y : Tx) : ((mk x).toList == (mk y).toList) = decide (x = y) := by
  rw [Lib.toList_data, Lib.toList_data, mk_list, mk_list]
  rw [Bool.eq_iff_iff]
  simp
theorem rowAt_at {α : Type} {K : Nat → Prop} {R : World → Value → α → Prop} {w : World} {a : Option Addr} {xs : List α} (h : xs = [] ∨ ∃ b o, a = some ⟨b, o, none⟩ ∧ K b ∧ b < w.heap.size ∧ ∀ (j : Nat) x, xs[j]? = some x → ∃ u, w.cell? ⟨b, o + j, none⟩ = some u ∧ R w u x) (k : Nat) (hk : k < xs.length) :
    ∃ b o u, a = some ⟨b, o, none⟩ ∧ xs[k]? = some xs[k] ∧ w.cell? ⟨b, o + k, none⟩ = some u ∧ R w u xs[k] := by
  rcases h with h | ⟨b, o, ha, _, _, hc⟩
  · subst h; simp at hk
  · have hx := List.getElem?_eq_getElem hk
    obtain ⟨u, h1, h2⟩ := hc k _ hx
    exact ⟨b, o, u, ha, hx, h1, h2⟩

theorem quiet_sum {P : Program} {f : FuncId} {args : Array Value} {w : World} {q n : Nat} {v : Value}
    (h : Calls P f args (w.drewN (q + n)) fun e w' => e = .returned v ∧ ∃ m, w' = (w.drewN (q + n)).drewN m) : Calls P f args (w.drewN (q + n)) fun e w'' => e = .returned v ∧ ∃ n, w'' = w.drewN (q + n) :=
  h.mono fun _ _ ⟨he, m, hm⟩ => ⟨he, n + m, by rw [hm, World.drewN_drewN, Nat.add_assoc]⟩
set_option maxHeartbeats 2000000 in
theorem texts_any (v v' : Value) (xs ys : List Tx) (w : World) (h : TxAt All w v xs) (h' : TxAt All w v' ys) :
    Calls Tryd.prog 44 #[v, v'] w fun e w' => e = .returned (.bool (decide (xs = ys))) ∧ ∃ q, w' = w.drewN q := by
  obtain ⟨a, c, rfl, h1, h2, h3⟩ := h
  obtain ⟨a', c', rfl, h1', h2', h3'⟩ := h'
  have H3 := Lib.hid h3
  have H3' := Lib.hid h3'
  clear h3 h3'
  unfold maxLen at h2 h2'
  by_cases hl : xs.length = ys.length
  · have hlb : ((xs.length : Int) != (ys.length : Int)) = false := by rw [hl]; simp
    have HL := Lib.hid hl
    have hl2 : xs.length ≤ ys.length := by omega
    clear hl
    go_enter Tryd.func44, Tryd.ntmps44
    go_wp2
    go_loopg [5] (xs.length) (fun g i wr => ∃ (k q : Nat), k ≤ xs.length ∧ g = xs.length - k ∧ i = .int .i64 k ∧ wr = w.drewN q ∧ Hid (xs.take k = ys.take k))
    case atStart => exact ⟨0, 0, Nat.zero_le _, rfl, rfl, rfl, rfl⟩
    case round =>
      obtain ⟨k, q, hk, hg, rfl, rfl, HA⟩ := hrel
      by_cases hlt : k < xs.length
      · obtain ⟨b, o, u, rfl, hx, hu, hr⟩ := rowAt_at (K := All) (R := StrAt) H3.out k hlt
        have hlt' : k < ys.length := by omega
        obtain ⟨b', o', u', rfl, hx', hu', hr'⟩ := rowAt_at (K := All) (R := StrAt) H3'.out k hlt'
        obtain rfl : u = .string (mk xs[k]) := hr
        obtain rfl : u' = .string (mk ys[k]) := hr'
        have hn := mk_ne xs[k] ys[k]
        have HX := Lib.hid hx
        have HX' := Lib.hid hx'
        have HE := Lib.hid (takes_eq xs ys k _ _ hx hx' HA.out)
        have HN := Lib.hid (takes_ne xs ys k _ _ hx hx')
        clear hx hx'
        generalize mk xs[k] = X at *
        generalize mk ys[k] = Y at *
        by_cases he : xs[k] = ys[k]
        · rw [decide_eq_true he] at hn
          have HE2 := Lib.hid (HE.out he)
          clear he
          go_wp2_with fail
          go_quiet (fail)
          go_wp2
          go_roundg (xs.length - (k + 1))
          case rel => exact ⟨k + 1, q + nq, by omega, rfl, by go_num, by first | rfl | rw [World.drewN_drewN], HE2.out⟩
          case measure => omega
        · rw [decide_eq_false he] at hn
          have HE2 := Lib.hid (HN.out he)
          clear he
          go_wp2_with fail
          go_quiet (fail)
          go_wp2
          go_ret
          exact ⟨by rw [HE2.out]; rfl, q + nq, by first | rfl | rw [World.drewN_drewN]⟩
      · go_wp2
        go_ret
        exact ⟨by rw [takes_all xs ys k (by omega) HL.out HA.out]; rfl, _, rfl⟩
  · have hlb : ((xs.length : Int) != (ys.length : Int)) = true := by simp; omega
    have HN := Lib.hid (lens_ne xs ys hl)
    clear hl
    go_enter Tryd.func44, Tryd.ntmps44
    go_wp2
    go_ret
    exact ⟨by rw [HN.out]; rfl, 0, rfl⟩

theorem texts_b (v v' : Value) (xs ys : List Tx) (w : World) (h : TxAt All w v xs) (h' : TxAt All w v' ys) :
    Calls Tryd.prog 44 #[v, v'] w fun e w' => e = .returned (.bool (decide (xs = ys))) ∧ Below w.heap.size w w' :=
  (texts_any v v' xs ys w h h').mono fun _ _ ⟨h1, h2⟩ => ⟨h1, below_drewq h2⟩
end Go.Proofs.YtjgceppbhmmbjaaDoor.Cm
end

/-
  What Find, named and Admit answer, and the reference's, as contracts: for all books and claims.
-/
section
set_option linter.unusedSimpArgs false
set_option linter.unusedVariables false
set_option maxRecDepth 100000
namespace Go.Proofs.YtjgceppbhmmbjaaDoor.Bk
open Go.RowKit
open Cm (Ln Cl cl0 LnsAt ClCells lnv clv LnOk ClOk)
open Sh (Ot)

theorem find_hit : ∀ (l : List En) (id : Tx) (k : Nat) (e : En), l[k]? = some e → e.cl.id = id → (∀ j x, j < k → l[j]? = some x → x.cl.id ≠ id) → find l id = some k
  | [], id, k, e, h, _, _ => by simp at h
  | y :: r, id, 0, e, h, he, _ => by
    simp at h; subst h
    unfold find; rw [if_pos he]
  | y :: r, id, k + 1, e, h, he, hn => by
    have h0 := hn 0 y (by omega) rfl
    unfold find
    rw [if_neg h0, find_hit r id k e (by simpa using h) he (fun j x hj hx => hn (j + 1) x (by omega) (by simpa using hx))]
    rfl
theorem find_miss (l : List En) (id : Tx) (h : ∀ j x, j < l.length → l[j]? = some x → x.cl.id ≠ id) : find l id = none := by
  rw [find_none]
  intro e he
  obtain ⟨j, hj⟩ := List.getElem?_of_mem he
  exact h j e (List.getElem?_eq_some_iff.1 hj).1 hj
theorem step_no {l : List En} {id : Tx} {k : Nat} (hk : k < l.length) (h : ∀ j x, j < k → l[j]? = some x → x.cl.id ≠ id) (hn : l[k].cl.id ≠ id) : ∀ j x, j < k + 1 → l[j]? = some x → x.cl.id ≠ id := by
  intro j x hj hx
  rcases Nat.lt_or_ge j k with q | q
  · exact h j x q hx
  · have : j = k := by omega
    subst this
    rw [List.getElem?_eq_getElem hk] at hx
    simp at hx; subst hx; exact hn

set_option maxHeartbeats 2000000 in
theorem find_any (l : List En) (id : Tx) (v : Value) (w : World) (h : EnsAt All w v l) :
    Calls Tryd.prog 16 #[v, .string (mk id)] w fun e w' => e = .returned (.int .i64 (findV l id)) ∧ w' = w := by
  obtain ⟨fa, fk, rfl, hm1, hm2⟩ := h.form
  have HF := Lib.hid h
  clear h
  go_enter Tryd.func16, Tryd.ntmps16
  go_wp2
  go_loopg [8] (l.length) (fun gg s8 wr => ∃ k : Nat, s8 = .int .i64 k ∧ k ≤ l.length ∧ l.length - k ≤ gg ∧ wr = w ∧ Hid (∀ j x, j < k → l[j]? = some x → x.cl.id ≠ id))
  case atStart => exact ⟨0, rfl, Nat.zero_le _, by omega, rfl, fun j x hj => by omega⟩
  case round =>
    obtain ⟨k, rfl, hk, hgk, rfl, HN⟩ := hrel
    by_cases hlt : k < l.length
    · have hltz : (k : Int) < (l.length : Int) := by omega
      obtain ⟨b, oo, m, mo, rfl, -, hx, hc, -⟩ := EnsAt.get HF.out k hlt
      have HX := Lib.hid hx
      have HS := Lib.hid (step_no hlt HN.out)
      generalize l[k] = x at *
      obtain ⟨c0, -⟩ := hc
      have hi1 : k < l.length := hlt
      have e1 := Cm.mk_ne x.cl.id id
      by_cases he : x.cl.id = id
      · rw [decide_eq_true he] at e1
        have HE : Hid (findV l id = (k : Int)) := by unfold findV; rw [find_hit l id k x HX.out he HN.out]; rfl
        go_wp2
        go_ret
        rw [HE.out]
        exact ⟨rfl, rfl⟩
      · rw [decide_eq_false he] at e1
        go_wp2
        go_roundg (l.length - (k + 1))
        case measure => omega
        case rel => exact ⟨k + 1, by first | rfl | go_num | (congr 1; omega), by omega, by omega, rfl, HS.out he⟩
    · have hltz : ¬ (k : Int) < (l.length : Int) := by omega
      have HE : Hid (findV l id = -1) := by unfold findV; rw [find_miss l id fun j x hj hx => HN.out j x (by omega) hx]; rfl
      go_wp2
      go_ret
      rw [HE.out]
      exact ⟨rfl, rfl⟩
set_option maxHeartbeats 2000000 in
theorem rfind_any (l : List En) (id : Tx) (v : Value) (w : World) (h : EnsAt All w v l) :
    Calls Tryd.prog 17 #[v, .string (mk id)] w fun e w' => e = .returned (.int .i64 (findV l id)) ∧ w' = w := by
  obtain ⟨fa, fk, rfl, hm1, hm2⟩ := h.form
  have HF := Lib.hid h
  clear h
  go_enter Tryd.func17, Tryd.ntmps17
  go_wp2
  go_loopg [5] (l.length) (fun gg s8 wr => ∃ k : Nat, s8 = .int .i64 k ∧ k ≤ l.length ∧ l.length - k ≤ gg ∧ wr = w ∧ Hid (∀ j x, j < k → l[j]? = some x → x.cl.id ≠ id))
  case atStart => exact ⟨0, rfl, Nat.zero_le _, by omega, rfl, fun j x hj => by omega⟩
  case round =>
    obtain ⟨k, rfl, hk, hgk, rfl, HN⟩ := hrel
    by_cases hlt : k < l.length
    · have hltz : (k : Int) < (l.length : Int) := by omega
      obtain ⟨b, oo, m, mo, rfl, -, hx, hc, -⟩ := EnsAt.get HF.out k hlt
      have HX := Lib.hid hx
      have HS := Lib.hid (step_no hlt HN.out)
      generalize l[k] = x at *
      obtain ⟨c0, -⟩ := hc
      have hi1 : k < l.length := hlt
      have e1 := Cm.mk_ne x.cl.id id
      by_cases he : x.cl.id = id
      · rw [decide_eq_true he] at e1
        have HE : Hid (findV l id = (k : Int)) := by unfold findV; rw [find_hit l id k x HX.out he HN.out]; rfl
        go_wp2
        go_ret
        rw [HE.out]
        exact ⟨rfl, rfl⟩
      · rw [decide_eq_false he] at e1
        go_wp2
        go_roundg (l.length - (k + 1))
        case measure => omega
        case rel => exact ⟨k + 1, by first | rfl | go_num | (congr 1; omega), by omega, by omega, rfl, HS.out he⟩
    · have hltz : ¬ (k : Int) < (l.length : Int) := by omega
      have HE : Hid (findV l id = -1) := by unfold findV; rw [find_miss l id fun j x hj hx => HN.out j x (by omega) hx]; rfl
      go_wp2
      go_ret
      rw [HE.out]
      exact ⟨rfl, rfl⟩
end Go.Proofs.YtjgceppbhmmbjaaDoor.Bk
end

/-
  What named and Admit answer, and the reference's Admit, as contracts: for all books and claims.
-/
section
set_option linter.unusedSimpArgs false
set_option linter.unusedVariables false
set_option maxRecDepth 100000
namespace Go.Proofs.YtjgceppbhmmbjaaDoor.Bk
open Go.RowKit
open Cm (Ln Cl cl0 LnsAt ClCells lnv clv LnOk ClOk boxc)
open Sh (Ot)

theorem link13 {l : List En} {c : Cl} (h : find l c.ref = none) : linkE l c = 13 ∧ findV l c.ref = -1 := by
  unfold linkE findV; rw [h]; exact ⟨rfl, rfl⟩
theorem link_at {l : List En} {c : Cl} {i : Nat} (h : find l c.ref = some i) : ∃ e, l[i]? = some e ∧ i < l.length ∧ findV l c.ref = (i : Int) ∧ linkE l c = (if e.st = 0 then (if e.cl.mem = c.mem ∧ e.cl.fam = c.fam then 0 else 9) else 14) := by
  obtain ⟨e, h1, -, -⟩ := find_some l c.ref i h
  refine ⟨e, h1, (List.getElem?_eq_some_iff.1 h1).1, by unfold findV; rw [h], ?_⟩
  have e3 : l.getD i en0 = e := by simp [List.getD, h1]
  unfold linkE; rw [h]; simp only [e3]
theorem cl_box (w : World) (c : Cl) (m : Value) {w' : World} (hb : Below (w.alloc (boxc c m)).heap.size (w.alloc (boxc c m)) w') : Cm.ClBox w' w.heap.size c m := (Cm.ClBox.new w c m 25).grw hb
theorem en_get {w : World} {v : Value} {l : List En} {a : Option Addr} {n c : Nat} (h : EnsAt All w (.slice a n c) l) {i : Nat} {e : En} (hx : l[i]? = some e) : ∃ b o m mo, a = some ⟨b, o, none⟩ ∧ EnCells w b (o + i * 10) e m mo := by
  have hi := (List.getElem?_eq_some_iff.1 hx).1
  obtain ⟨b, o, m, mo, ha, -, hy, hc, -⟩ := h.get i hi
  rw [hx] at hy
  obtain rfl := Option.some.inj hy
  exact ⟨b, o, m, mo, ha, hc⟩

set_option maxHeartbeats 4000000 in
theorem named_any (l : List En) (c : Cl) (v m : Value) (w : World) (h : EnsAt All w v l) (hm : LnsAt All w m c.lines) :
    Calls Tryd.prog 31 #[v, clv c m] w fun e w' => e = .returned (.int .i64 (linkE l c)) ∧ Below w.heap.size w w' := by
  have HB0 := Lib.hid (below_alloc w (boxc c m))
  have HC := Lib.hid (find_any l c.ref v (w.alloc (boxc c m)) (h.grw HB0.out))
  have HF := Lib.hid (h.grw HB0.out)
  obtain ⟨n0, n1, n2, n3, n4, n5, n6⟩ := cl_box w c m (Below.refl _ (w.alloc (boxc c m)))
  obtain ⟨fa, fk, rfl, hm1, hm2⟩ := h.form
  obtain ⟨ma, mk', rfl, -, -⟩ := Cm.LnsAt.form hm
  clear h hm
  cases hf : find l c.ref with
  | none =>
    obtain ⟨e1, e2⟩ := link13 hf
    rw [e2] at HC
    rw [e1]
    clear e1 e2 hf
    go_enter Tryd.func31, Tryd.ntmps31
    go_wp2_with (go_at_call 16; refine (HC.out).mono ?_; rintro e w1 ⟨rfl, rfl⟩)
    go_ret
    exact ⟨rfl, HB0.out⟩
  | some i =>
    obtain ⟨x, hx, hi, e2, e1⟩ := link_at hf
    rw [e2] at HC
    obtain ⟨b, o, m2, mo, rfl, c0, c1, c2, c3, c4, c5, c6, c7, c8, c9⟩ := en_get (v := .slice fa l.length fk) HF.out hx
    have hi0 : ¬ (i : Int) < 0 := by omega
    by_cases hs : x.st = 0
    · rw [if_pos hs] at e1
      rw [hs] at c8
      have q1 := Cm.mk_ne x.cl.mem c.mem
      have q2 := Cm.mk_ne x.cl.fam c.fam
      by_cases h1 : x.cl.mem = c.mem
      · rw [decide_eq_true h1] at q1
        by_cases h2 : x.cl.fam = c.fam
        · rw [decide_eq_true h2] at q2
          rw [if_pos ⟨h1, h2⟩] at e1
          rw [e1]
          clear e1 e2 hf hx h1 h2 hs
          go_enter Tryd.func31, Tryd.ntmps31
          go_wp2_with (first | (go_at_call 16; refine (HC.out).mono ?_; rintro e w1 ⟨rfl, rfl⟩) | fail)
          go_quiet (fail)
          go_wp2
          go_ret
          exact ⟨rfl, HB0.out.trans ⟨rfl, rfl, rfl, Nat.le_refl _, fun _ _ => rfl⟩⟩
        · rw [decide_eq_false h2] at q2
          rw [if_neg (fun q => h2 q.2)] at e1
          rw [e1]
          clear e1 e2 hf hx h1 h2 hs
          go_enter Tryd.func31, Tryd.ntmps31
          go_wp2_with (first | (go_at_call 16; refine (HC.out).mono ?_; rintro e w1 ⟨rfl, rfl⟩) | fail)
          go_quiet (fail)
          go_wp2
          go_ret
          exact ⟨rfl, HB0.out.trans ⟨rfl, rfl, rfl, Nat.le_refl _, fun _ _ => rfl⟩⟩
      · rw [decide_eq_false h1] at q1
        rw [if_neg (fun q => h1 q.1)] at e1
        rw [e1]
        clear e1 e2 hf hx h1 hs q2
        go_enter Tryd.func31, Tryd.ntmps31
        go_wp2_with (first | (go_at_call 16; refine (HC.out).mono ?_; rintro e w1 ⟨rfl, rfl⟩) | fail)
        go_quiet (fail)
        go_wp2
        go_ret
        exact ⟨rfl, HB0.out.trans ⟨rfl, rfl, rfl, Nat.le_refl _, fun _ _ => rfl⟩⟩
    · rw [if_neg hs] at e1
      rw [e1]
      have hs2 : (x.st != 0) = true := by simp [hs]
      clear e1 e2 hf hx hs
      go_enter Tryd.func31, Tryd.ntmps31
      go_wp2_with (go_at_call 16; refine (HC.out).mono ?_; rintro e w1 ⟨rfl, rfl⟩)
      go_ret
      exact ⟨rfl, HB0.out⟩
end Go.Proofs.YtjgceppbhmmbjaaDoor.Bk
end

/-
  What Admit answers, and the reference's, as contracts: for all books and claims.
-/
section
set_option linter.unusedSimpArgs false
set_option linter.unusedVariables false
set_option maxRecDepth 100000
namespace Go.Proofs.YtjgceppbhmmbjaaDoor.Bk
open Go.RowKit
open Cm (Ln Cl cl0 LnsAt ClCells lnv clv LnOk ClOk boxc)
open Sh (Ot)

theorem find_id {l : List En} {id : Tx} {i : Nat} (h : find l id = some i) : findV l id = (i : Int) := by unfold findV; rw [h]
theorem find_no {l : List En} {id : Tx} (h : find l id = none) : findV l id = -1 := by unfold findV; rw [h]
theorem adm_chk {l : List En} {c : Cl} {most : Int} (h : Cm.checkE c ≠ 0) : admE l c most = Cm.checkE c := by unfold admE; rw [if_neg h]
theorem adm12 {l : List En} {c : Cl} {most : Int} (h : Cm.checkE c = 0) (h1 : find l c.id ≠ none) : admE l c most = 12 := by unfold admE; rw [if_pos h, if_neg h1]
theorem adm_ref {l : List En} {c : Cl} {most : Int} (h : Cm.checkE c = 0) (h1 : find l c.id = none) (h2 : refE l c ≠ 0) : admE l c most = refE l c := by unfold admE; rw [if_pos h, if_pos h1, if_neg h2]
theorem adm16 {l : List En} {c : Cl} {most : Int} (h : Cm.checkE c = 0) (h1 : find l c.id = none) (h2 : refE l c = 0) (h3 : ¬ (l.length : Int) < most) : admE l c most = 16 := by unfold admE; rw [if_pos h, if_pos h1, if_pos h2, if_neg h3]
theorem adm0 {l : List En} {c : Cl} {most : Int} (h : Cm.checkE c = 0) (h1 : find l c.id = none) (h2 : refE l c = 0) (h3 : (l.length : Int) < most) : admE l c most = 0 := by unfold admE; rw [if_pos h, if_pos h1, if_pos h2, if_pos h3]
theorem ref1 {l : List En} {c : Cl} (h : c.does = 1) : refE l c = 0 := by unfold refE; rw [if_pos h]
theorem refL {l : List En} {c : Cl} (h : c.does ≠ 1) : refE l c = linkE l c := by unfold refE; rw [if_neg h]

set_option maxHeartbeats 4000000 in
theorem admit_any (l : List En) (c : Cl) (most : Int) (v m : Value) (w : World) (h : EnsAt All w v l) (hm : LnsAt All w m c.lines) (hz : ClOk c) (hT : Da.Tab w) :
    Calls Tryd.prog 14 #[v, clv c m, .int .i64 most] w fun e w' => e = .returned (.int .i64 (admE l c most)) ∧ Below w.heap.size w w' := by
  have HB0 := Lib.hid (below_alloc w (boxc c m))
  have HC := Lib.hid (Cm.check_any c m (w.alloc (boxc c m)) (LnsAt.move hm (Below.moves HB0.out)) hz (Cm.tab_below hT HB0.out))
  have HE : Hid (∀ w', Below (w.alloc (boxc c m)).heap.size (w.alloc (boxc c m)) w' → EnsAt All w' v l ∧ LnsAt All w' m c.lines) := fun w' hb => ⟨h.grw (below_trans HB0.out hb), LnsAt.move hm (Below.moves (below_trans HB0.out hb))⟩
  have HBX : Hid (∀ w', Below (w.alloc (boxc c m)).heap.size (w.alloc (boxc c m)) w' → Cm.ClBox w' w.heap.size c m) := fun w' hb => cl_box w c m hb
  obtain ⟨fa, fk, rfl, hm1, hm2⟩ := h.form
  obtain ⟨ma, mk', rfl, -, -⟩ := Cm.LnsAt.form hm
  clear h hm hT
  by_cases h0 : Cm.checkE c = 0
  case neg =>
    rw [adm_chk h0]
    have h0b : (Cm.checkE c != 0) = true := by simp [h0]
    clear hz
    go_enter Tryd.func14, Tryd.ntmps14
    go_wp2_with (first | (go_at_call 30; refine (HC.out).mono ?_; rintro e w1 ⟨rfl, hb1⟩; obtain ⟨n0, n1, n2, n3, n4, n5, n6⟩ := HBX.out _ hb1; have HB1 := Lib.hid hb1; obtain ⟨HF1, HL1⟩ := HE.out _ hb1; have HF1 := Lib.hid HF1; have HL1 := Lib.hid HL1; clear hb1))
    go_ret
    exact ⟨rfl, below_trans HB0.out HB1.out⟩
  rw [h0] at HC
  cases hf : find l c.id with
  | some i =>
    have hfv := find_id hf
    rw [adm12 h0 (by rw [hf]; simp)]
    have hi0 : (0 : Int) ≤ (i : Int) := by omega
    clear hf h0 hz
    go_enter Tryd.func14, Tryd.ntmps14
    go_wp2_with (first | (go_at_call 30; refine (HC.out).mono ?_; rintro e w1 ⟨rfl, hb1⟩; obtain ⟨n0, n1, n2, n3, n4, n5, n6⟩ := HBX.out _ hb1; have HB1 := Lib.hid hb1; obtain ⟨HF1, HL1⟩ := HE.out _ hb1; have HF1 := Lib.hid HF1; have HL1 := Lib.hid HL1; clear hb1) | (go_at_call 16; refine (find_any l c.id _ _ HF1.out).mono ?_; rintro e w2 ⟨rfl, rfl⟩; rw [hfv]))
    go_ret
    exact ⟨rfl, below_trans HB0.out HB1.out⟩
  | none =>
    have hfv := find_no hf
    have hd := does_in h0
    by_cases h1 : c.does = 1
    · have r := ref1 (l := l) h1
      have d7 : (c.does == 7) = false := by rw [h1]; rfl
      have d8 : (c.does == 8) = false := by rw [h1]; rfl
      by_cases h3 : (l.length : Int) < most
      · rw [adm0 h0 hf r h3]
        have h3b : ¬ (most ≤ (l.length : Int)) := by omega
        clear h0 hf r h1 hd hz h3
        go_enter Tryd.func14, Tryd.ntmps14
        go_wp2_with (first | (go_at_call 30; refine (HC.out).mono ?_; rintro e w1 ⟨rfl, hb1⟩; obtain ⟨n0, n1, n2, n3, n4, n5, n6⟩ := HBX.out _ hb1; have HB1 := Lib.hid hb1; obtain ⟨HF1, HL1⟩ := HE.out _ hb1; have HF1 := Lib.hid HF1; have HL1 := Lib.hid HL1; clear hb1) | (go_at_call 16; refine (find_any l c.id _ _ HF1.out).mono ?_; rintro e w2 ⟨rfl, rfl⟩; rw [hfv]))
        go_ret
        exact ⟨rfl, below_trans HB0.out HB1.out⟩
      · rw [adm16 h0 hf r h3]
        have h3b : (most ≤ (l.length : Int)) := by omega
        clear h0 hf r h1 hd hz h3
        go_enter Tryd.func14, Tryd.ntmps14
        go_wp2_with (first | (go_at_call 30; refine (HC.out).mono ?_; rintro e w1 ⟨rfl, hb1⟩; obtain ⟨n0, n1, n2, n3, n4, n5, n6⟩ := HBX.out _ hb1; have HB1 := Lib.hid hb1; obtain ⟨HF1, HL1⟩ := HE.out _ hb1; have HF1 := Lib.hid HF1; have HL1 := Lib.hid HL1; clear hb1) | (go_at_call 16; refine (find_any l c.id _ _ HF1.out).mono ?_; rintro e w2 ⟨rfl, rfl⟩; rw [hfv]))
        go_ret
        exact ⟨rfl, below_trans HB0.out HB1.out⟩
    · have r := refL (l := l) h1
      by_cases h2 : linkE l c = 0
      · have h2b : (linkE l c != 0) = false := by simp [h2]
        by_cases h3 : (l.length : Int) < most
        · rw [adm0 h0 hf (by rw [r]; exact h2) h3]
          have h3b : ¬ (most ≤ (l.length : Int)) := by omega
          rcases hd with hd | hd | hd
          · exact absurd hd h1
          · have d7 : (c.does == 7) = true := by rw [hd]; rfl
            clear h0 hf r h1 hd hz h3
            go_enter Tryd.func14, Tryd.ntmps14
            go_wp2_with (first | (go_at_call 30; refine (HC.out).mono ?_; rintro e w1 ⟨rfl, hb1⟩; obtain ⟨n0, n1, n2, n3, n4, n5, n6⟩ := HBX.out _ hb1; have HB1 := Lib.hid hb1; obtain ⟨HF1, HL1⟩ := HE.out _ hb1; have HF1 := Lib.hid HF1; have HL1 := Lib.hid HL1; clear hb1) | (go_at_call 16; refine (find_any l c.id _ _ HF1.out).mono ?_; rintro e w2 ⟨rfl, rfl⟩; rw [hfv]) | (go_at_call 31; refine (named_any l c _ _ _ HF1.out HL1.out).mono ?_; rintro e w3 ⟨rfl, hb3⟩; have HB3 := Lib.hid (below_trans HB1.out hb3); obtain ⟨p0, p1, p2, p3, p4, p5, p6⟩ := HBX.out _ HB3.out))
            go_ret
            exact ⟨rfl, below_trans HB0.out HB3.out⟩
          · have d7 : (c.does == 7) = false := by rw [hd]; rfl
            have d8 : (c.does == 8) = true := by rw [hd]; rfl
            clear h0 hf r h1 hd hz h3
            go_enter Tryd.func14, Tryd.ntmps14
            go_wp2_with (first | (go_at_call 30; refine (HC.out).mono ?_; rintro e w1 ⟨rfl, hb1⟩; obtain ⟨n0, n1, n2, n3, n4, n5, n6⟩ := HBX.out _ hb1; have HB1 := Lib.hid hb1; obtain ⟨HF1, HL1⟩ := HE.out _ hb1; have HF1 := Lib.hid HF1; have HL1 := Lib.hid HL1; clear hb1) | (go_at_call 16; refine (find_any l c.id _ _ HF1.out).mono ?_; rintro e w2 ⟨rfl, rfl⟩; rw [hfv]) | (go_at_call 31; refine (named_any l c _ _ _ HF1.out HL1.out).mono ?_; rintro e w3 ⟨rfl, hb3⟩; have HB3 := Lib.hid (below_trans HB1.out hb3); obtain ⟨p0, p1, p2, p3, p4, p5, p6⟩ := HBX.out _ HB3.out))
            go_ret
            exact ⟨rfl, below_trans HB0.out HB3.out⟩
        · rw [adm16 h0 hf (by rw [r]; exact h2) h3]
          have h3b : (most ≤ (l.length : Int)) := by omega
          rcases hd with hd | hd | hd
          · exact absurd hd h1
          · have d7 : (c.does == 7) = true := by rw [hd]; rfl
            clear h0 hf r h1 hd hz h3
            go_enter Tryd.func14, Tryd.ntmps14
            go_wp2_with (first | (go_at_call 30; refine (HC.out).mono ?_; rintro e w1 ⟨rfl, hb1⟩; obtain ⟨n0, n1, n2, n3, n4, n5, n6⟩ := HBX.out _ hb1; have HB1 := Lib.hid hb1; obtain ⟨HF1, HL1⟩ := HE.out _ hb1; have HF1 := Lib.hid HF1; have HL1 := Lib.hid HL1; clear hb1) | (go_at_call 16; refine (find_any l c.id _ _ HF1.out).mono ?_; rintro e w2 ⟨rfl, rfl⟩; rw [hfv]) | (go_at_call 31; refine (named_any l c _ _ _ HF1.out HL1.out).mono ?_; rintro e w3 ⟨rfl, hb3⟩; have HB3 := Lib.hid (below_trans HB1.out hb3); obtain ⟨p0, p1, p2, p3, p4, p5, p6⟩ := HBX.out _ HB3.out))
            go_ret
            exact ⟨rfl, below_trans HB0.out HB3.out⟩
          · have d7 : (c.does == 7) = false := by rw [hd]; rfl
            have d8 : (c.does == 8) = true := by rw [hd]; rfl
            clear h0 hf r h1 hd hz h3
            go_enter Tryd.func14, Tryd.ntmps14
            go_wp2_with (first | (go_at_call 30; refine (HC.out).mono ?_; rintro e w1 ⟨rfl, hb1⟩; obtain ⟨n0, n1, n2, n3, n4, n5, n6⟩ := HBX.out _ hb1; have HB1 := Lib.hid hb1; obtain ⟨HF1, HL1⟩ := HE.out _ hb1; have HF1 := Lib.hid HF1; have HL1 := Lib.hid HL1; clear hb1) | (go_at_call 16; refine (find_any l c.id _ _ HF1.out).mono ?_; rintro e w2 ⟨rfl, rfl⟩; rw [hfv]) | (go_at_call 31; refine (named_any l c _ _ _ HF1.out HL1.out).mono ?_; rintro e w3 ⟨rfl, hb3⟩; have HB3 := Lib.hid (below_trans HB1.out hb3); obtain ⟨p0, p1, p2, p3, p4, p5, p6⟩ := HBX.out _ HB3.out))
            go_ret
            exact ⟨rfl, below_trans HB0.out HB3.out⟩
      · rw [adm_ref h0 hf (by rw [r]; exact h2), r]
        have h2b : (linkE l c != 0) = true := by simp [h2]
        rcases hd with hd | hd | hd
        · exact absurd hd h1
        · have d7 : (c.does == 7) = true := by rw [hd]; rfl
          clear h0 hf r h1 hd hz
          go_enter Tryd.func14, Tryd.ntmps14
          go_wp2_with (first | (go_at_call 30; refine (HC.out).mono ?_; rintro e w1 ⟨rfl, hb1⟩; obtain ⟨n0, n1, n2, n3, n4, n5, n6⟩ := HBX.out _ hb1; have HB1 := Lib.hid hb1; obtain ⟨HF1, HL1⟩ := HE.out _ hb1; have HF1 := Lib.hid HF1; have HL1 := Lib.hid HL1; clear hb1) | (go_at_call 16; refine (find_any l c.id _ _ HF1.out).mono ?_; rintro e w2 ⟨rfl, rfl⟩; rw [hfv]) | (go_at_call 31; refine (named_any l c _ _ _ HF1.out HL1.out).mono ?_; rintro e w3 ⟨rfl, hb3⟩; have HB3 := Lib.hid (below_trans HB1.out hb3); obtain ⟨p0, p1, p2, p3, p4, p5, p6⟩ := HBX.out _ HB3.out))
          go_ret
          exact ⟨rfl, below_trans HB0.out HB3.out⟩
        · have d7 : (c.does == 7) = false := by rw [hd]; rfl
          have d8 : (c.does == 8) = true := by rw [hd]; rfl
          clear h0 hf r h1 hd hz
          go_enter Tryd.func14, Tryd.ntmps14
          go_wp2_with (first | (go_at_call 30; refine (HC.out).mono ?_; rintro e w1 ⟨rfl, hb1⟩; obtain ⟨n0, n1, n2, n3, n4, n5, n6⟩ := HBX.out _ hb1; have HB1 := Lib.hid hb1; obtain ⟨HF1, HL1⟩ := HE.out _ hb1; have HF1 := Lib.hid HF1; have HL1 := Lib.hid HL1; clear hb1) | (go_at_call 16; refine (find_any l c.id _ _ HF1.out).mono ?_; rintro e w2 ⟨rfl, rfl⟩; rw [hfv]) | (go_at_call 31; refine (named_any l c _ _ _ HF1.out HL1.out).mono ?_; rintro e w3 ⟨rfl, hb3⟩; have HB3 := Lib.hid (below_trans HB1.out hb3); obtain ⟨p0, p1, p2, p3, p4, p5, p6⟩ := HBX.out _ HB3.out))
          go_ret
          exact ⟨rfl, below_trans HB0.out HB3.out⟩
end Go.Proofs.YtjgceppbhmmbjaaDoor.Bk
end
