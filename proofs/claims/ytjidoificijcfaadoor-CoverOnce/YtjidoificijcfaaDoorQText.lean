/-
  What seg.printable, seg.Plain and the reference's Plain answer, as contracts: for every text.
-/
import Derived.Test.YtjidoificijcfaaDoorQGood
import Derived.BigQuiet
import Derived.Deep.LoopGhost
set_option linter.unusedSimpArgs false
namespace Go.Proofs.YtjidoificijcfaaDoor
open Go.RowKit

theorem take_snoc (s : ByteArray) (k : Nat) (h : k < s.size) : s.data.toList.take (k + 1) = s.data.toList.take k ++ [s[k]] := by
  have h' : k < s.data.toList.length := by rw [← Lib.size_eq]; exact h
  rw [List.take_succ_eq_append_getElem h']
  rfl
theorem take_all (s : ByteArray) (k : Nat) (h : s.size ≤ k) : s.data.toList.take k = s.data.toList := List.take_of_length_le (by rw [← Lib.size_eq]; exact h)
theorem at_mem (s : ByteArray) (k : Nat) (h : k < s.size) : s[k] ∈ s.data.toList := by
  have : s.data.toList[k]'(by rw [← Lib.size_eq]; exact h) ∈ s.data.toList := List.getElem_mem _
  exact this
theorem prn_iff (c : UInt8) : prn c = true ↔ 32 ≤ c.toNat ∧ c.toNat ≤ 126 := by simp [prn]
theorem all_false {f : UInt8 → Bool} (s : ByteArray) (k : Nat) (h : k < s.size) (hf : f s[k] = false) : s.data.toList.all f = false := by
  cases e : s.data.toList.all f
  · rfl
  · have := List.all_eq_true.1 e _ (at_mem s k h)
    rw [hf] at this
    cases this
theorem all_snoc (f : UInt8 → Bool) (s : ByteArray) (k : Nat) (h : k < s.size) (ha : (s.data.toList.take k).all f = true) (hf : f s[k] = true) : (s.data.toList.take (k + 1)).all f = true := by
  rw [take_snoc s k h, List.all_append, ha]
  simp [hf]

set_option maxHeartbeats 800000 in
theorem print_any (s : ByteArray) (w : World) (hs : s.size ≤ maxLen) :
    Calls Tryd.prog 66 #[.string s] w fun e w' => e = .returned (.bool (printB s.data.toList)) ∧ w' = w := by
  unfold maxLen at hs
  go_enter Tryd.func66, Tryd.ntmps66
  go_wp2
  go_loop [6] (fun i => ∃ k : Nat, k ≤ s.size ∧ i = .int .i64 k ∧ Hid ((s.data.toList.take k).all prn = true)) (fun i => s.size - (intOf i).toNat)
  case atStart => exact ⟨0, Nat.zero_le _, rfl, rfl⟩
  case round =>
    obtain ⟨k, hk, rfl, HA⟩ := hrel
    by_cases hlt : k < s.size
    · have HF := Lib.hid (all_false (f := prn) s k hlt)
      have HT := Lib.hid (all_snoc prn s k hlt HA.out)
      by_cases h1 : (s[k].toNat : Int) < 32
      · have HP : Hid (prn s[k] = false) := by show prn s[k] = false; cases e : prn s[k]; rfl; have := (prn_iff _).1 e; omega
        go_wp2
        go_ret
        exact ⟨by show _ = Ending.returned (Value.bool (s.data.toList.all prn)); rw [HF.out HP.out]; rfl, rfl⟩
      · by_cases h2 : 126 < (s[k].toNat : Int)
        · have HP : Hid (prn s[k] = false) := by show prn s[k] = false; cases e : prn s[k]; rfl; have := (prn_iff _).1 e; omega
          go_wp2
          go_ret
          exact ⟨by show _ = Ending.returned (Value.bool (s.data.toList.all prn)); rw [HF.out HP.out]; rfl, rfl⟩
        · have HP : Hid (prn s[k] = true) := by show prn s[k] = true; rw [prn_iff]; omega
          go_wp2
          go_round
          case rel => exact ⟨k + 1, by omega, by go_num, HT.out HP.out⟩
          case measure => simp [intOf]; omega
    · go_wp2
      go_ret
      exact ⟨by show _ = Ending.returned (Value.bool (s.data.toList.all prn)); rw [← take_all s k (by omega), HA.out]; rfl, rfl⟩

/-- No byte is one of the signs. -/
def free1 (e p s c : UInt8) : Bool := c != e && c != p && c != s
theorem plain_split (e p s : UInt8) (l : Tx) : plainB e p s l = (l.all (free1 e p s) && printB l) := by
  unfold plainB printB
  rw [Bool.eq_iff_iff]
  simp only [Bool.and_eq_true, List.all_eq_true, plain1, free1]
  constructor
  · intro h; exact ⟨fun x hx => ⟨⟨(h x hx).1.1.2, (h x hx).1.2⟩, (h x hx).2⟩, fun x hx => (h x hx).1.1.1⟩
  · intro h x hx; exact ⟨⟨⟨h.2 x hx, (h.1 x hx).1.1⟩, (h.1 x hx).1.2⟩, (h.1 x hx).2⟩
theorem below_drewN {B : Nat} {a w : World} (h : Below B a w) (k : Nat) : Below B a (w.drewN k) := h.trans ⟨rfl, rfl, rfl, Nat.le_refl _, fun _ _ => rfl⟩

set_option maxHeartbeats 2000000 in
theorem plain_any (e p s : UInt8) (t : ByteArray) (w : World) (hs : t.size ≤ maxLen) :
    Calls Tryd.prog 62 #[dv e p s, .string t] w fun x w' => x = .returned (.bool (plainB e p s t.data.toList)) ∧ Below w.heap.size w w' := by
  have hmax := hs
  unfold maxLen at hs
  have HM := Lib.hid hmax
  clear hmax
  go_enter Tryd.func62, Tryd.ntmps62
  go_wp2
  go_loopg [8] (t.size) (fun g i wr => ∃ (k q : Nat), k ≤ t.size ∧ g = t.size - k ∧ i = .int .i64 k ∧ wr = (w.alloc (.cells #[.int .u8 e.toNat, .int .u8 p.toNat, .int .u8 s.toNat] 23)).drewN q ∧ Hid ((t.data.toList.take k).all (free1 e p s) = true))
  case atStart => exact ⟨0, 0, Nat.zero_le _, rfl, rfl, rfl, rfl⟩
  case round =>
    obtain ⟨k, q, hk, hg, rfl, rfl, HA⟩ := hrel
    by_cases hlt : k < t.size
    · have HF := Lib.hid (all_false (f := free1 e p s) t k hlt)
      have HT := Lib.hid (all_snoc (free1 e p s) t k hlt HA.out)
      have HV := Lib.hid (plain_split e p s t.data.toList)
      cases q1 : (t[k] == e)
      case true =>
        have c1 : ((t[k].toNat : Int) == (e.toNat : Int)) = true := by rw [u8_eq]; exact q1
        have HP : Hid (free1 e p s t[k] = false) := by show free1 e p s t[k] = false; simp [free1, bne, q1]
        clear q1
        go_wp2_with fail
        go_quiet (fail)
        go_wp2
        go_ret
        exact ⟨by rw [HV.out, HF.out HP.out]; rfl, below_drewN (below_drewN ((Below.refl _ w).alloc (Nat.le_refl _) _) _) _⟩
      have c1 : ((t[k].toNat : Int) == (e.toNat : Int)) = false := by rw [u8_eq]; exact q1
      cases q2 : (t[k] == p)
      case true =>
        have c2 : ((t[k].toNat : Int) == (p.toNat : Int)) = true := by rw [u8_eq]; exact q2
        have HP : Hid (free1 e p s t[k] = false) := by show free1 e p s t[k] = false; simp [free1, bne, q1, q2]
        clear q1 q2
        go_wp2_with fail
        go_quiet (fail)
        go_wp2
        go_ret
        exact ⟨by rw [HV.out, HF.out HP.out]; rfl, below_drewN (below_drewN ((Below.refl _ w).alloc (Nat.le_refl _) _) _) _⟩
      have c2 : ((t[k].toNat : Int) == (p.toNat : Int)) = false := by rw [u8_eq]; exact q2
      cases q3 : (t[k] == s)
      case true =>
        have c3 : ((t[k].toNat : Int) == (s.toNat : Int)) = true := by rw [u8_eq]; exact q3
        have HP : Hid (free1 e p s t[k] = false) := by show free1 e p s t[k] = false; simp [free1, bne, q1, q2, q3]
        clear q1 q2 q3
        go_wp2_with fail
        go_quiet (fail)
        go_wp2
        go_ret
        exact ⟨by rw [HV.out, HF.out HP.out]; rfl, below_drewN (below_drewN ((Below.refl _ w).alloc (Nat.le_refl _) _) _) _⟩
      have c3 : ((t[k].toNat : Int) == (s.toNat : Int)) = false := by rw [u8_eq]; exact q3
      have HP : Hid (free1 e p s t[k] = true) := by show free1 e p s t[k] = true; simp [free1, bne, q1, q2, q3]
      clear q1 q2 q3
      go_wp2_with fail
      go_quiet (fail)
      go_wp2
      go_roundg (t.size - (k + 1))
      case rel => exact ⟨k + 1, _, by omega, rfl, by go_num, rfl, HT.out HP.out⟩
      case measure => omega
    · have HV := Lib.hid (plain_split e p s t.data.toList)
      go_wp2_with (go_at_call 66; refine (print_any _ _ HM.out).mono ?_; rintro e w' ⟨rfl, rfl⟩)
      go_ret
      exact ⟨by rw [HV.out, ← take_all t k (by omega), HA.out, take_all t k (by omega)]; rfl, below_drewN ((Below.refl _ w).alloc (Nat.le_refl _) _) _⟩

theorem plain1_of (e p s c : UInt8) : plain1 e p s c = (prn c && !(c == e) && !(c == p) && !(c == s)) := rfl
set_option maxHeartbeats 2000000 in
theorem rplain_any (e p s : UInt8) (t : ByteArray) (w : World) (hs : t.size ≤ maxLen) :
    Calls Tryd.prog 64 #[dv e p s, .string t] w fun x w' => x = .returned (.bool (plainB e p s t.data.toList)) ∧ Below w.heap.size w w' := by
  unfold maxLen at hs
  have HB : Hid (∀ o, Below w.heap.size w (w.alloc o)) := fun o => (Below.refl _ w).alloc (Nat.le_refl _) o
  go_enter Tryd.func64, Tryd.ntmps64
  go_wp2
  go_loop [5] (fun i => ∃ k : Nat, k ≤ t.size ∧ i = .int .i64 k ∧ Hid ((t.data.toList.take k).all (plain1 e p s) = true)) (fun i => t.size - (intOf i).toNat)
  case atStart => exact ⟨0, Nat.zero_le _, rfl, rfl⟩
  case round =>
    obtain ⟨k, hk, rfl, HA⟩ := hrel
    by_cases hlt : k < t.size
    · have HF := Lib.hid (all_false (f := plain1 e p s) t k hlt)
      have HT := Lib.hid (all_snoc (plain1 e p s) t k hlt HA.out)
      have HP := Lib.hid (plain1_of e p s t[k])
      have e1 := u8_eq t[k] e
      have e2 := u8_eq t[k] p
      have e3 := u8_eq t[k] s
      have hpn := prn_iff t[k]
      generalize (t[k] == e) = b1 at e1 HP
      generalize (t[k] == p) = b2 at e2 HP
      generalize (t[k] == s) = b3 at e3 HP
      generalize prn t[k] = b0 at hpn HP
      by_cases h1 : (t[k].toNat : Int) < 32
      · have h0 : b0 = false := by cases b0; rfl; have := hpn.1 rfl; omega
        subst h0
        clear hpn e1 e2 e3
        go_wp2
        go_ret
        exact ⟨by show _ = Ending.returned (Value.bool (t.data.toList.all (plain1 e p s))); rw [HF.out (by rw [HP.out]; simp)]; rfl, HB.out _⟩
      by_cases h2 : 126 < (t[k].toNat : Int)
      · have h0 : b0 = false := by cases b0; rfl; have := hpn.1 rfl; omega
        subst h0
        clear hpn e1 e2 e3
        go_wp2
        go_ret
        exact ⟨by show _ = Ending.returned (Value.bool (t.data.toList.all (plain1 e p s))); rw [HF.out (by rw [HP.out]; simp)]; rfl, HB.out _⟩
      have h0 : b0 = true := hpn.2 (by omega)
      subst h0
      clear hpn
      cases b1
      case true =>
        go_wp2
        go_ret
        exact ⟨by show _ = Ending.returned (Value.bool (t.data.toList.all (plain1 e p s))); rw [HF.out (by rw [HP.out]; simp)]; rfl, HB.out _⟩
      cases b2
      case true =>
        go_wp2
        go_ret
        exact ⟨by show _ = Ending.returned (Value.bool (t.data.toList.all (plain1 e p s))); rw [HF.out (by rw [HP.out]; simp)]; rfl, HB.out _⟩
      cases b3
      case true =>
        go_wp2
        go_ret
        exact ⟨by show _ = Ending.returned (Value.bool (t.data.toList.all (plain1 e p s))); rw [HF.out (by rw [HP.out]; simp)]; rfl, HB.out _⟩
      go_wp2
      go_round
      case rel => exact ⟨k + 1, by omega, by go_num, HT.out (by rw [HP.out]; rfl)⟩
      case measure => simp [intOf]; omega
    · go_wp2
      go_ret
      exact ⟨by show _ = Ending.returned (Value.bool (t.data.toList.all (plain1 e p s))); rw [← take_all t k (by omega), HA.out]; rfl, HB.out _⟩
end Go.Proofs.YtjidoificijcfaaDoor
