/-
  Texts put together (merge.py): XTools, NRefInt.
-/
import Derived.Deep.QuietTactic
import Derived.BigQuiet
import Derived.Deep.LoopGhost
import Derived.Test.YtgloihilnbjmeaaDoorMp43
import Derived.Test.YtgloihilnbjmeaaDoorMp44
import Derived.Test.YtgloihilnbjmeaaDoorMp35
/-
  Small facts that layer 13's laws lean on.
-/
section
set_option linter.unusedSimpArgs false
set_option linter.unusedVariables false
namespace Go.Proofs.YtgloihilnbjmeaaDoor.Ex
open Go.RowKit
open Cm (Ln)

theorem dq_drew {W w' : World} (h : ∃ q, w' = W.drewN q) (n : Nat) : ∃ q, w'.drewN n = W.drewN q := by
  obtain ⟨q, rfl⟩ := h
  exact ⟨q + n, by rw [World.drewN_drewN]⟩
theorem rel_al {x : Ln} {i n : Nat} {l : List Ln} {W w' : World} (h : ∀ (j : Nat) b, l[j]? = some b → j < n + 1 → j ≠ i → b.date ≠ x.date) (hn : n + 1 ≤ l.length) (hd : ∃ q, w' = W.drewN q) : ∃ (m q : Nat), m ≤ l.length ∧ l.length - (n + 1) = l.length - m ∧ Value.int .i64 ((n : Int) + 1) = .int .i64 (m : Nat) ∧ w' = W.drewN q ∧ Hid (∀ (j : Nat) b, l[j]? = some b → j < m → j ≠ i → b.date ≠ x.date) := by
  obtain ⟨q, rfl⟩ := hd
  exact ⟨n + 1, q, hn, rfl, by simp, rfl, h⟩
theorem row_ne {E : Nat} {l : List Wo.Wd} {x : Int × Nat} (h : pRow E l = .error x) : ¬ x.1 = 0 := by
  cases l with
  | nil => simp only [pRow, Except.error.injEq] at h; subst h; exact n4
  | cons y r =>
    obtain ⟨t, p⟩ := y
    by_cases h1 : t = tBun
    · subst h1
      rcases bundle_left E r (0, 0) rfl p with ⟨_, hr⟩ | ⟨hg, hr⟩
      · rw [h] at hr; cases hr
      · rw [h] at hr; simp only [Except.error.injEq] at hr; rw [hr]; exact hg
    by_cases h2 : t = tEit
    · subst h2
      rcases pair_left E r (0, 0) rfl p with ⟨_, hr⟩ | ⟨hg, hr⟩
      · rw [h] at hr; cases hr
      · rw [h] at hr; simp only [Except.error.injEq] at hr; rw [hr]; exact hg
    by_cases h3 : t = tUni
    · subst h3
      rcases units_left E r (0, 0) rfl p with ⟨_, hr⟩ | ⟨hg, hr⟩
      · rw [h] at hr; cases hr
      · rw [h] at hr; simp only [Except.error.injEq] at hr; rw [hr]; exact hg
    rw [row_none E h1 h2 h3] at h
    simp only [Except.error.injEq] at h
    subst h
    exact n4
theorem rows_ne {E : Nat} : ∀ (f : Nat) (acc : List Ed) (l : List Wo.Wd) {x : Int × Nat}, pRows E f acc l = .error x → ¬ x.1 = 0
  | 0, acc, l, x, h => by
    unfold pRows at h
    split at h
    · cases h
    · simp only [Except.error.injEq] at h; subst h; exact n10
  | f + 1, acc, l, x, h => by
    unfold pRows at h
    split at h
    · cases h
    · split at h
      · next e he => simp only [Except.error.injEq] at h; subst h; exact row_ne he
      · exact rows_ne f _ _ h
theorem par_ne {s : Tx} {x : Int × Nat} (h : paR s = .error x) : ¬ x.1 = 0 := by
  unfold paR at h
  split at h
  · exact rows_ne _ _ _ h
  · next hn => simp only [Except.error.injEq] at h; subst h; exact hn
end Go.Proofs.YtgloihilnbjmeaaDoor.Ex
end

/-
  What the reference's Int answers, as a contract: for every int64. It lays a new byte each round: the world grows.
-/
section
namespace Go.Proofs.YtgloihilnbjmeaaDoor.Nu
open Go.RowKit Go.Sort Go.Lib

theorem str_app (a b : List UInt8) : ((⟨a.toArray⟩ : ByteArray) ++ (⟨b.toArray⟩ : ByteArray)) = ⟨(a ++ b).toArray⟩ := by
  apply ByteArray.ext; simp
theorem str_cons (c : UInt8) (t : List UInt8) : ((⟨#[c]⟩ : ByteArray) ++ (⟨t.toArray⟩ : ByteArray)) = ⟨(c :: t).toArray⟩ := str_app [c] t
theorem str_list (t : List UInt8) : (⟨t.toArray⟩ : ByteArray).toList = t := by rw [Lib.toList_data]
theorem conv1 (W : World) (x : Int) (c : UInt8) (h : x = (c.toNat : Int)) : (convert 67 9 (.slice (some ⟨W.heap.size, 0, none⟩) 1 1)).run Tryd.prog (W.alloc (.cells #[.int .u8 x] 5)) = .ok (.string ⟨#[c]⟩) (W.alloc (.cells #[.int .u8 x] 5)) := by
  subst h
  exact run_convert_bytes_back (P := Tryd.prog) (W.alloc (.cells #[.int .u8 (c.toNat : Int)] 5)) 67 9 5 ⟨W.heap.size, 0, none⟩ 1 [c] Tryd.underlying67 Tryd.underlying5 Tryd.underlying9 (fun j hj => by
    have : j = 0 := by simpa using hj
    subst this
    rw [Lib.add_plain, World.cell?_alloc_new]
    rfl)
theorem grw_alloc (w : World) (o : Obj) : Grw w (w.alloc o) := (Below.refl _ _).alloc (Nat.le_refl _) _

def pre (k : Int) (t : List UInt8) : List UInt8 := if k = 0 ∧ t ≠ [] then t else decDigits k.natAbs ++ t
def ms (k : Int) (t : List UInt8) : Nat := k.natAbs + if t = [] then 1 else 0
theorem pre_len (k : Int) (t : List UInt8) (n : Int) (h : pre k t = decDigits n.natAbs) (h0 : -9223372036854775808 ≤ n) (h1 : n ≤ 9223372036854775807) : t.length ≤ 19 := by
  have hl := dec_len n.natAbs 19 (by omega) (by omega)
  rw [← h] at hl
  unfold pre at hl
  split at hl
  · exact hl
  · rw [List.length_append] at hl; omega
theorem pre_step (k k' : Int) (t : List UInt8) (c : UInt8) (hc : c = UInt8.ofNat (48 + k.natAbs % 10)) (hk : k'.natAbs = k.natAbs / 10) (h : k ≠ 0 ∨ t = []) : pre k' (c :: t) = pre k t ∧ ms k' (c :: t) < ms k t := by
  have e : pre k t = decDigits k.natAbs ++ t := by
    unfold pre
    rw [if_neg]
    rintro ⟨a, b⟩
    rcases h with h | h
    · exact h a
    · exact b h
  constructor
  · rw [e]
    by_cases hs : k.natAbs < 10
    · have : k' = 0 := by omega
      unfold pre
      rw [if_pos ⟨this, by simp⟩, dec_small _ hs, hc, Nat.mod_eq_of_lt hs]
      rfl
    · unfold pre
      rw [if_neg (by rintro ⟨a, _⟩; omega), dec_big _ hs, hk, ← hc, List.append_assoc]
      rfl
  · unfold ms
    rw [if_neg (by simp : ¬ (c :: t = []))]
    rcases h with h | h
    · split <;> omega
    · subst h; simp only [if_true]; omega
theorem ofn (u : Nat) : ((UInt8.ofNat (48 + u % 10)).toNat : Int) = 48 + (u : Int) % 10 := by rw [dg_toNat _ (by omega)]; omega

set_option maxHeartbeats 1000000 in
theorem rint_any (n : Int) (h0 : -9223372036854775808 ≤ n) (h1 : n ≤ 9223372036854775807) (w : World) :
    Calls Tryd.prog 23 #[.int .i64 n] w fun e w' => e = .returned (.string ⟨(Lib.itoa n).toArray⟩) ∧ Grw w w' := by
  go_enter Tryd.func23, Tryd.ntmps23
  go_wp2
  go_loopg [3, 4] (ms n []) (fun g s3 s4 wx => ∃ (k : Int) (t : List UInt8), s3 = .string ⟨t.toArray⟩ ∧ s4 = .int .i64 k ∧ -9223372036854775808 ≤ k ∧ k ≤ 9223372036854775807 ∧ g = ms k t ∧ Hid (pre k t = decDigits n.natAbs) ∧ Grw w wx)
  case atStart => exact ⟨n, [], rfl, rfl, h0, h1, rfl, by show pre n [] = _; simp [pre], grw_refl _⟩
  case round =>
    obtain ⟨k, t, rfl, rfl, hk0, hk1, rfl, HP, hw⟩ := hrel
    have ht := pre_len k t n HP.out h0 h1
    have hl := str_list t
    rcases Int.lt_trichotomy k 0 with hk | hk | hk
    · obtain ⟨c, hc⟩ : ∃ c, c = UInt8.ofNat (48 + k.natAbs % 10) := ⟨_, rfl⟩
      have hm := Int.tmod_nonneg (a := -k) 10 (by omega)
      have hm2 := Int.tmod_lt_of_pos (-k) (b := 10) (by omega)
      rw [Int.neg_tmod] at hm hm2
      have hq := Int.tdiv_eq_ediv_of_nonneg (a := -k) (b := 10) (by omega)
      rw [Int.neg_tdiv] at hq
      have hmq := Int.tmod_eq_emod_of_nonneg (a := -k) (b := 10) (by omega)
      rw [Int.neg_tmod] at hmq
      have hcn := ofn k.natAbs
      rw [← hc] at hcn
      obtain ⟨s1, s2⟩ := pre_step k (k.tdiv 10) t c hc (by omega) (Or.inl (by omega))
      have S1 := Lib.hid s1
      have S2 := Lib.hid s2
      have hqb : -9223372036854775808 ≤ k.tdiv 10 ∧ k.tdiv 10 ≤ 9223372036854775807 := by omega
      have hkb : (k != 0) = true := by simp; omega
      by_cases hz : k.tmod 10 < 0
      · have hcv := conv1 wr (48 + -(k.tmod 10)) c (by omega)
        clear hc hcn hq hmq s1 s2
        go_wp2
        go_roundg (ms (k.tdiv 10) (c :: t))
        case rel => exact ⟨k.tdiv 10, c :: t, by rw [← str_cons c t], rfl, hqb.1, hqb.2, rfl, by show pre _ _ = _; rw [S1.out]; exact HP.out, grw_trans hw (grw_alloc _ _)⟩
        all_goals exact S2.out
      · have hcv := conv1 wr (48 + k.tmod 10) c (by omega)
        clear hc hcn hq hmq s1 s2
        go_wp2
        go_roundg (ms (k.tdiv 10) (c :: t))
        case rel => exact ⟨k.tdiv 10, c :: t, by rw [← str_cons c t], rfl, hqb.1, hqb.2, rfl, by show pre _ _ = _; rw [S1.out]; exact HP.out, grw_trans hw (grw_alloc _ _)⟩
        all_goals exact S2.out
    · subst hk
      by_cases hte : t = []
      · subst hte
        have hcv := conv1 wr 48 48 (by rfl)
        obtain ⟨s1, s2⟩ := pre_step 0 0 [] 48 (by rfl) (by rfl) (Or.inr rfl)
        have S1 := Lib.hid s1
        have S2 := Lib.hid s2
        clear s1 s2
        go_wp2
        go_roundg (ms 0 [48])
        case rel => exact ⟨0, [48], by first | rfl | (simp; done) | decide, rfl, by omega, by omega, rfl, by show pre _ _ = _; rw [S1.out]; exact HP.out, grw_trans hw (grw_alloc _ _)⟩
        all_goals exact S2.out
      · have hpt : pre 0 t = t := by unfold pre; rw [if_pos ⟨rfl, hte⟩]
        have HQ := Lib.hid (hpt.symm.trans HP.out)
        clear hpt
        have hie : t.isEmpty = false := by cases t with
          | nil => exact absurd rfl hte
          | cons a t => rfl
        by_cases hn : n < 0
        · have H1 : Hid ((⟨(Lib.itoa n).toArray⟩ : ByteArray) = ⟨#[45]⟩ ++ ⟨t.toArray⟩) := by
            show _ = _
            rw [str_cons, HQ.out]
            unfold Lib.itoa
            rw [if_pos hn]
          go_wp2
          go_ret
          exact ⟨by rw [H1.out]; rfl, hw⟩
        · have H1 : Hid ((⟨(Lib.itoa n).toArray⟩ : ByteArray) = ⟨t.toArray⟩) := by
            show _ = _
            rw [HQ.out]
            unfold Lib.itoa
            rw [if_neg hn, show n.toNat = n.natAbs by omega]
          go_wp2
          go_ret
          exact ⟨by rw [H1.out]; rfl, hw⟩
    · obtain ⟨c, hc⟩ : ∃ c, c = UInt8.ofNat (48 + k.natAbs % 10) := ⟨_, rfl⟩
      have hcn := ofn k.natAbs
      rw [← hc] at hcn
      obtain ⟨s1, s2⟩ := pre_step k (k / 10) t c hc (by omega) (Or.inl (by omega))
      have S1 := Lib.hid s1
      have S2 := Lib.hid s2
      have hkb : (k != 0) = true := by simp; omega
      have hz : ¬ k % 10 < 0 := by omega
      have hcv := conv1 wr (48 + k % 10) c (by omega)
      clear hc hcn s1 s2
      go_wp2
      go_roundg (ms (k / 10) (c :: t))
      case rel => exact ⟨k / 10, c :: t, by rw [← str_cons c t], rfl, by omega, by omega, rfl, by show pre _ _ = _; rw [S1.out]; exact HP.out, grw_trans hw (grw_alloc _ _)⟩
      all_goals exact S2.out
end Go.Proofs.YtgloihilnbjmeaaDoor.Nu
end
