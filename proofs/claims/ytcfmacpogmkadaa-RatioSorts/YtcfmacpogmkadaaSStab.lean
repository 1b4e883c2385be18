/-
  What slices.stableCmpFunc leaves, as a contract: the row holds a permutation of what it held, sorted.
-/
import Derived.Test.YtcfmacpogmkadaaSSymB
namespace Go.Proofs.Ytcfmacpogmkadaa
open Go.Shelf Go.RowKit Go.Lib Go.Sort
variable {α : Type} [Inhabited α]

theorem sym_all (enc : α → Value) (cf : α → α → Int) (hO : SWO (ltOf cf)) (g : Nat) (cb : Array Value) (blk off cap : Nat) (d0 : Array α) (w0 : World)
    (eg : ∀ args w, (callFunc g args).run Try.prog w = .ok (.enter g args) w) (hcmp : CmpLays1 Try.prog g cb enc cf blk off d0.size w0) (R : Row1 enc w0 blk off d0) (hsz : d0.size < 1152921504606846976) (n : Nat) : SymOK enc cf g cb blk off cap d0.size w0 n := by
  induction n with
  | zero => intro a m b d w h1 h2 h3; omega
  | succ n ih =>
    intro a m b d w h1 h2 h3 hb hd hl hr S
    by_cases c1 : m = a + 1
    · subst c1
      have h := symLeft enc cf hO g cb blk off cap a b d0 d w0 w eg hcmp R hd.symm S h3 hb hr (by omega)
      rw [hd] at h
      exact h
    · by_cases c2 : b = m + 1
      · subst c2
        have h := symRight enc cf hO g cb blk off cap a m d0 d w0 w eg hcmp R hd.symm S (by omega) hb hl (by omega)
        rw [hd] at h
        exact h
      · rw [← hd] at ih
        have h := symBig enc cf hO g cb blk off cap a m b n d0 d w0 w eg hcmp R hd.symm S (by omega) (by omega) hb hl hr h1 ih (by omega)
        rw [hd] at h
        exact h

set_option maxHeartbeats 2000000 in
set_option maxRecDepth 1000000 in
theorem stable_s (enc : α → Value) (cf : α → α → Int) (hO : SWO (ltOf cf)) (g : Nat) (cb : Array Value) (blk off cap n : Nat) (d0 : Array α) (w0 : World)
    (eg : ∀ args w, (callFunc g args).run Try.prog w = .ok (.enter g args) w) (hcmp : CmpLays1 Try.prog g cb enc cf blk off d0.size w0) (R : Row1 enc w0 blk off d0) (hn : d0.size = n) (hsz : n < 1152921504606846976) :
    Calls Try.prog 42 #[.slice (some ⟨blk, off, none⟩) n cap, .int .i64 n, .func (.func g) #[] cb] w0 fun e w' => e = .returned (.tuple #[]) ∧ ∃ d', PermIn 0 n d0 d' ∧ SortedIn (ltOf cf) 0 n d' ∧ SW enc w0 blk off d' w' := by
  have HI : Aside (∀ (a b : Nat) (d : Array α) (w : World), d.size = n → a ≤ b → b ≤ n → SW enc w0 blk off d w → Calls Try.prog 43 #[.slice (some ⟨blk, off, none⟩) n cap, .int .i64 a, .int .i64 b, .func (.func g) #[] cb] w fun e w' => e = .returned (.tuple #[]) ∧ ∃ d', PermIn a b d d' ∧ SortedIn (ltOf cf) a b d' ∧ SW enc w0 blk off d' w') := by
    show ∀ (a b : Nat) (d : Array α) (w : World), _
    intro a b d w hd hab hb S
    have h := Try.insertionSortCmpFunc_s enc cf g cb blk off cap a b d0 d w0 w eg hcmp R (by omega) S hab (by omega) (by omega)
    rw [hd] at h
    have k := insertionSort_holds hO d a b hab (by omega)
    exact h.mono fun e w' ⟨h1, h2⟩ => ⟨h1, _, k.1, k.2, h2⟩
  have HM : Aside (SymOK enc cf g cb blk off cap n w0 n) := by
    have := sym_all enc cf hO g cb blk off cap d0 w0 eg hcmp R (by omega) n
    rw [hn] at this
    exact this
  have S0 : Aside (SW enc w0 blk off d0 w0) := SW.start R.hH
  have HN : Aside (d0.size = n) := hn
  clear hcmp hO eg R hn
  go_enter Try.func42, Try.ntmps42
  go_wp2
  go_loopg [7, 8] (n + 1) (fun k va vb wr => ∃ (A B t : Nat) (d : Array α), va = .int .i64 A ∧ vb = .int .i64 B ∧ B ≤ A + 20 ∧ A + 20 ≤ B ∧ A ≤ n ∧ n + 1 - A ≤ k ∧ Aside (A = t * 20) ∧ Aside (d.size = n) ∧ Aside (PermIn 0 n d0 d) ∧ Aside (BlTo (ltOf cf) 20 t n d) ∧ Aside (SW enc w0 blk off d wr))
  case atStart => exact ⟨0, 20, 0, d0, rfl, rfl, by omega, by omega, Nat.zero_le _, by omega, (show 0 = 0 * 20 by omega), HN.out, permIn_refl _ _ _, fun k hk => by omega, S0⟩
  case round =>
    clear S0
    obtain ⟨A, B, t, d, rfl, rfl, hB1, hB2, hAn, hk, HA, HD, P1, B1, S1⟩ := hrel
    by_cases hle : B ≤ n
    · have hlez : (B : Int) ≤ (n : Int) := by omega
      have hc := HI.out A B d wr HD.out (by omega) hle S1.out
      clear S1
      go_wp2_with fail
      refine hc.mono ?_
      rintro e w' ⟨rfl, d', P2, Q2, S2⟩
      have S3 : Aside _ := S2
      have hd' : Aside (d'.size = n) := P2.1.trans HD.out
      have B2 : Aside (BlTo (ltOf cf) 20 (t + 1) n d') := by
        have eB : B = t * 20 + 20 := by have := HA.out; omega
        have eA : A = t * 20 := HA.out
        rw [eA, eB] at P2 Q2
        exact blTo_step B1.out P2 Q2
      have P3 : Aside (PermIn 0 n d0 d') := permIn_trans _ _ _ _ _ P1.out (permIn_mono _ _ _ _ _ _ (Nat.zero_le _) hle (by rw [HD.out]; exact Nat.le_refl _) P2)
      clear hc S2 P2 Q2
      go_wp2
      go_roundg (gk - 1)
      case measure => omega
      case rel => exact ⟨B, B + 20, t + 1, d', rfl, by first | go_num | (congr 1; omega), by omega, by omega, hle, by omega, (show B = (t + 1) * 20 by have := HA.out; omega), hd', P3, B2, S3⟩
    · have hlez : ¬ (B : Int) ≤ (n : Int) := by omega
      have hc := HI.out A n d wr HD.out hAn (Nat.le_refl _) S1.out
      clear S1
      go_wp2_with fail
      refine hc.mono ?_
      rintro e w' ⟨rfl, d', P2, Q2, S2⟩
      have S3 : Aside _ := S2
      have hd' : Aside (d'.size = n) := P2.1.trans HD.out
      have B2 : Aside (Bl (ltOf cf) 20 n d') := by
        have eA : A = t * 20 := HA.out
        rw [eA] at P2 Q2
        exact blTo_end B1.out (by omega) P2 Q2
      have P3 : Aside (PermIn 0 n d0 d') := permIn_trans _ _ _ _ _ P1.out (permIn_mono _ _ _ _ _ _ (Nat.zero_le _) (Nat.le_refl _) (by rw [HD.out]; exact Nat.le_refl _) P2)
      clear hc S2 P2 Q2 P1 B1 HD HA
      go_wp2
      go_loopg [6] (n + 1) (fun k vs wq => ∃ (bs : Nat) (dd : Array α), vs = .int .i64 bs ∧ 1 ≤ bs ∧ bs ≤ 2 * n + 20 ∧ n + 1 - bs ≤ k ∧ Aside (dd.size = n) ∧ Aside (PermIn 0 n d0 dd) ∧ Aside (Bl (ltOf cf) bs n dd) ∧ Aside (SW enc w0 blk off dd wq))
      case atStart => exact ⟨20, d', rfl, by omega, by omega, by omega, hd', P3, B2, S3⟩
      case round =>
        clear S3 hd' B2 P3
        obtain ⟨bs, dd, rfl, hb1, hb2, hk2, HD, P1, B1, S1⟩ := hrel
        by_cases hlt : bs < n
        · have hltz : (bs : Int) < (n : Int) := by omega
          obtain ⟨ga, hga⟩ : ∃ ga : Nat, ga = gk := ⟨_, rfl⟩
          have HGA : Aside (ga = gk) := hga
          have hk3 : n + 1 - bs ≤ ga := by omega
          clear hga
          go_wp2
          go_loopg [7, 8] (n + 1) (fun k va vb wr2 => ∃ (A B t : Nat) (d : Array α), va = .int .i64 A ∧ vb = .int .i64 B ∧ B ≤ A + 2 * bs ∧ A + 2 * bs ≤ B ∧ A ≤ n ∧ n + 1 - A ≤ k ∧ Aside (A = t * (2 * bs)) ∧ Aside (d.size = n) ∧ Aside (PermIn 0 n d0 d) ∧ Aside (BlMid (ltOf cf) bs t n d) ∧ Aside (SW enc w0 blk off d wr2))
          case atStart => exact ⟨0, 2 * bs, 0, dd, rfl, by first | rfl | go_num | (congr 1; omega), by omega, by omega, Nat.zero_le _, by omega, (show 0 = 0 * (2 * bs) by omega), HD, P1, blMid_start B1.out, S1⟩
          case round =>
            clear S1 HD P1 B1
            obtain ⟨A, B, t, d, rfl, rfl, hB1, hB2, hAn, hk4, HA, HD, P1, B1, S1⟩ := hrel
            obtain ⟨M, hM⟩ : ∃ M : Nat, M = A + bs := ⟨_, rfl⟩
            have HMM : Aside (M = A + bs) := hM
            have zM : (A : Int) + (bs : Int) = (M : Int) := by omega
            have m1 : M ≤ A + bs := by omega
            have m2 : A + bs ≤ M := by omega
            clear hM
            have BP := blMid_parts B1.out
            rw [← HA.out, ← HMM.out] at BP
            by_cases hle : B ≤ n
            · have hlez : (B : Int) ≤ (n : Int) := by omega
              have BP' : SortedIn (ltOf cf) A M d ∧ SortedIn (ltOf cf) M B d := ⟨sorted_sub BP.1 (Nat.le_refl _) (by omega), sorted_sub BP.2 (Nat.le_refl _) (by omega)⟩
              have hc := HM.out A M B d wr (by omega) (by omega) (by omega) (by rw [HD.out]; exact hle) HD.out BP'.1 BP'.2 S1.out
              clear S1 BP BP'
              go_wp2_with fail
              refine hc.mono ?_
              rintro e w' ⟨rfl, d', P2, Q2, S2⟩
              have S3 : Aside _ := S2
              have hd' : Aside (d'.size = n) := P2.1.trans HD.out
              have B2 : Aside (BlMid (ltOf cf) bs (t + 1) n d') := by
                have eB : B = t * (2 * bs) + 2 * bs := by have := HA.out; omega
                have eA : A = t * (2 * bs) := HA.out
                rw [eA, eB] at P2 Q2
                exact blMid_step B1.out P2 Q2
              have P3 : Aside (PermIn 0 n d0 d') := permIn_trans _ _ _ _ _ P1.out (permIn_mono _ _ _ _ _ _ (Nat.zero_le _) hle (by rw [HD.out]; exact Nat.le_refl _) P2)
              clear hc S2 P2 Q2
              go_wp2
              go_roundg (gk - 1)
              case measure => omega
              case rel => exact ⟨B, B + 2 * bs, t + 1, d', rfl, by first | go_num | (congr 1; omega), by omega, by omega, hle, by omega, (show B = (t + 1) * (2 * bs) by have := HA.out; rw [Nat.add_mul, Nat.one_mul]; omega), hd', P3, B2, S3⟩
            · have hlez : ¬ (B : Int) ≤ (n : Int) := by omega
              by_cases hlm : M < n
              · have hlmz : (M : Int) < (n : Int) := by omega
                have BP' : SortedIn (ltOf cf) A M d ∧ SortedIn (ltOf cf) M n d := ⟨sorted_sub BP.1 (Nat.le_refl _) (by omega), sorted_sub BP.2 (Nat.le_refl _) (by omega)⟩
                have hc := HM.out A M n d wr (by omega) (by omega) (by omega) (by rw [HD.out]; exact Nat.le_refl _) HD.out BP'.1 BP'.2 S1.out
                clear S1 BP BP'
                go_wp2_with fail
                refine hc.mono ?_
                rintro e w' ⟨rfl, d', P2, Q2, S2⟩
                have S3 : Aside _ := S2
                have hd' : Aside (d'.size = n) := P2.1.trans HD.out
                have B2 : Aside (Bl (ltOf cf) (bs * 2) n d') := by
                  have eA : A = t * (2 * bs) := HA.out
                  rw [eA] at P2 Q2
                  rw [Nat.mul_comm bs 2]
                  exact blMid_end B1.out (by omega) P2 Q2
                have P3 : Aside (PermIn 0 n d0 d') := permIn_trans _ _ _ _ _ P1.out (permIn_mono _ _ _ _ _ _ (Nat.zero_le _) (Nat.le_refl _) (by rw [HD.out]; exact Nat.le_refl _) P2)
                clear hc S2 P2 Q2
                go_wp2
                go_roundg (ga - 1)
                case measure => have := HGA.out; omega
                case rel => exact ⟨bs * 2, d', by first | go_num | (congr 1; omega), by omega, by omega, by omega, hd', P3, B2, S3⟩
              · have hlmz : ¬ (M : Int) < (n : Int) := by omega
                have B2 : Aside (Bl (ltOf cf) (bs * 2) n d) := by
                  rw [Nat.mul_comm bs 2]
                  exact blMid_last B1.out (by omega) (by have := HA.out; omega)
                go_wp2
                go_roundg (ga - 1)
                case measure => have := HGA.out; omega
                case rel => exact ⟨bs * 2, d, by first | go_num | (congr 1; omega), by omega, by omega, by omega, HD, P1, B2, S1⟩
        · have hltz : ¬ (bs : Int) < (n : Int) := by omega
          go_wp2
          go_end0
          exact ⟨rfl, dd, P1.out, bl_end B1.out (by omega), S1.out⟩
end Go.Proofs.Ytcfmacpogmkadaa
