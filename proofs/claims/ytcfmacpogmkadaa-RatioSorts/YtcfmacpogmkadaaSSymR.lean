/-
  What slices.symMergeCmpFunc leaves where the second part is one element, as a contract.
-/
import Derived.Test.YtcfmacpogmkadaaSRot
namespace Go.Proofs.Ytcfmacpogmkadaa
open Go.Shelf Go.RowKit Go.Lib Go.Sort
variable {α : Type} [Inhabited α]

set_option maxHeartbeats 2000000 in
set_option maxRecDepth 1000000 in
theorem symRight (enc : α → Value) (cf : α → α → Int) (hO : SWO (ltOf cf)) (g : Nat) (cb : Array Value) (blk off cap a m : Nat) (d0 d : Array α) (w0 w : World)
    (eg : ∀ args w, (callFunc g args).run Try.prog w = .ok (.enter g args) w) (hcmp : CmpLays1 Try.prog g cb enc cf blk off d0.size w0) (R : Row1 enc w0 blk off d0) (hs : d0.size = d.size) (S : SW enc w0 blk off d w) (ham : a + 1 < m) (hb : m + 1 ≤ d.size) (hr : SortedIn (ltOf cf) a m d) (hsz : d.size < 1152921504606846976) :
    Calls Try.prog 44 #[.slice (some ⟨blk, off, none⟩) d.size cap, .int .i64 a, .int .i64 m, .int .i64 (m + 1 : Nat), .func (.func g) #[] cb] w fun e w' => e = .returned (.tuple #[]) ∧ ∃ d', PermIn a (m + 1) d d' ∧ SortedIn (ltOf cf) a (m + 1) d' ∧ SW enc w0 blk off d' w' := by
  have mixed : Try.prog.follows .mixedOrders = true := by kernel_rfl
  have hcl0 := R.hO.cells
  simp only [Value.cells] at hcl0
  have hst := R.hO.store Try.prog
  have HC : Aside (CmpLays1 Try.prog g cb enc cf blk off d0.size w0) := hcmp
  have S0 : Aside (SW enc w0 blk off d w) := S
  have HS : Aside (SWO (ltOf cf)) := hO
  clear S hcmp hO
  have HR : Aside (SortedIn (ltOf cf) a m d) := hr
  clear hr
  obtain ⟨b, hm⟩ : ∃ b, b = m + 1 := ⟨_, rfl⟩
  have Hb : Aside (b = m + 1) := hm
  have m1 : m + 1 ≤ b := by omega
  have m2 : b ≤ m + 1 := by omega
  rw [← hm]
  clear hm
  have t1 : ((m : Int) - (a : Int) == 1) = false := by rw [beq_eq_false_iff_ne]; omega
  have t2 : ((b : Int) - (m : Int) == 1) = true := by rw [beq_iff_eq]; omega
  go_enter Try.func44, Try.ntmps44
  go_wp2
  go_loopg [14, 15] (m - a) (fun k vi vj wr => ∃ (i j : Nat), vi = .int .i64 i ∧ vj = .int .i64 j ∧ a ≤ i ∧ i ≤ j ∧ j ≤ m ∧ j - i ≤ k ∧ Aside (∀ x, a ≤ x → x < i → (ltOf cf) d[m]! d[x]! = false) ∧ Aside (∀ x, j ≤ x → x < m → (ltOf cf) d[m]! d[x]! = true) ∧ Aside (SW enc w0 blk off d wr))
  case atStart => exact ⟨a, m, rfl, rfl, Nat.le_refl _, by omega, Nat.le_refl _, by omega, fun x h1 h2 => by omega, fun x h1 h2 => by omega, S0⟩
  case round =>
    clear S0
    obtain ⟨i, j, rfl, rfl, hmi, hij, hjb, hk, F1, F2, S1⟩ := hrel
    by_cases hlt : i < j
    · have hltz : (i : Int) < (j : Int) := by omega
      obtain ⟨h, hh⟩ : ∃ h, h = (i + j) / 2 := ⟨_, rfl⟩
      have zh : ((i : Int) + (j : Int)) / 2 = (h : Int) := by omega
      have h1 : i ≤ h := by omega
      have h2 : h < j := by omega
      clear hh
      cases hlv : (ltOf cf) d[m]! d[h]! with
      | true =>
        obtain ⟨iNA, hiNA⟩ : ∃ q, q = m := ⟨_, rfl⟩
        obtain ⟨jNA, hjNA⟩ : ∃ q, q = h := ⟨_, rfl⟩
        have eaA : ((m : Int)).toNat = iNA := by omega
        have paA : (0 : Int) ≤ (m : Int) := by omega
        have baA : (m : Int) < (d.size : Int) := by omega
        have raA : IntKind.i64.wrap ((m : Int)) = (m : Int) := by rw [IntKind.wrap_i64]; omega
        have ecA : ((h : Int)).toNat = jNA := by omega
        have pcA : (0 : Int) ≤ (h : Int) := by omega
        have bcA : (h : Int) < (d.size : Int) := by omega
        have rcA : IntKind.i64.wrap ((h : Int)) = (h : Int) := by rw [IntKind.wrap_i64]; omega
        obtain ⟨xA, hxA⟩ : ∃ x, x = (d)[m]! := ⟨_, rfl⟩
        obtain ⟨yA, hyA⟩ : ∃ x, x = (d)[h]! := ⟨_, rfl⟩
        have lAa := S1.out.cl R (by omega) (m) (by omega)
        have lAb := S1.out.cl R (by omega) (h) (by omega)
        rw [← hxA, ← hiNA] at lAa
        rw [← hyA, ← hjNA] at lAb
        have hcA := S1.out.cmp HC.out (by omega) xA yA
        have hvA : cf xA yA < 0 := by rw [hxA, hyA]; exact of_decide_eq_true hlv
        have hdA : decide (cf xA yA < 0) = true := decide_eq_true hvA
        clear hxA hyA hiNA hjNA
        go_wp2_with fail
        go_quiet_grown (first | (go_at_fn g; refine Calls.grown_of (hcA _ _)))
        have S2 : Aside (SW enc w0 blk off (d) (grow (wr.drewN nq) osq)) := S1.out.grown nq osq
        clear lAa lAb hcA S1
        generalize grow (wr.drewN nq) osq = w2 at S2 ⊢
        clear nq osq
        clear eaA ecA
        have F3 : Aside (∀ x, h ≤ x → x < m → (ltOf cf) d[m]! d[x]! = true) := fun x x1 x2 => by
          cases hv : (ltOf cf) d[m]! d[x]! with
          | true => rfl
          | false =>
            have e := sorted_le HS.out HR.out (i := h) (j := x) (by omega) x1 x2
            have := HS.out.ntrans _ _ _ hv e
            rw [hlv] at this; cases this
        go_wp2
        go_roundg (h - i)
        case measure => omega
        case rel => exact ⟨i, h, rfl, by first | rfl | go_num | (congr 1; omega), hmi, by omega, by omega, by omega, F1, F3, S2⟩
      | false =>
        obtain ⟨iNB, hiNB⟩ : ∃ q, q = m := ⟨_, rfl⟩
        obtain ⟨jNB, hjNB⟩ : ∃ q, q = h := ⟨_, rfl⟩
        have eaB : ((m : Int)).toNat = iNB := by omega
        have paB : (0 : Int) ≤ (m : Int) := by omega
        have baB : (m : Int) < (d.size : Int) := by omega
        have raB : IntKind.i64.wrap ((m : Int)) = (m : Int) := by rw [IntKind.wrap_i64]; omega
        have ecB : ((h : Int)).toNat = jNB := by omega
        have pcB : (0 : Int) ≤ (h : Int) := by omega
        have bcB : (h : Int) < (d.size : Int) := by omega
        have rcB : IntKind.i64.wrap ((h : Int)) = (h : Int) := by rw [IntKind.wrap_i64]; omega
        obtain ⟨xB, hxB⟩ : ∃ x, x = (d)[m]! := ⟨_, rfl⟩
        obtain ⟨yB, hyB⟩ : ∃ x, x = (d)[h]! := ⟨_, rfl⟩
        have lBa := S1.out.cl R (by omega) (m) (by omega)
        have lBb := S1.out.cl R (by omega) (h) (by omega)
        rw [← hxB, ← hiNB] at lBa
        rw [← hyB, ← hjNB] at lBb
        have hcB := S1.out.cmp HC.out (by omega) xB yB
        have hvB : ¬ cf xB yB < 0 := by rw [hxB, hyB]; exact of_decide_eq_false hlv
        have hdB : decide (cf xB yB < 0) = false := decide_eq_false hvB
        clear hxB hyB hiNB hjNB
        go_wp2_with fail
        go_quiet_grown (first | (go_at_fn g; refine Calls.grown_of (hcB _ _)))
        have S2 : Aside (SW enc w0 blk off (d) (grow (wr.drewN nq) osq)) := S1.out.grown nq osq
        clear lBa lBb hcB S1
        generalize grow (wr.drewN nq) osq = w2 at S2 ⊢
        clear nq osq
        clear eaB ecB
        go_wp2
        go_roundg (j - (h + 1))
        case measure => omega
        case rel => exact ⟨h + 1, j, by first | rfl | go_num | (congr 1; omega), rfl, by omega, by omega, hjb, by omega, fun x x1 x2 => by
          exact HS.out.ntrans _ _ _ hlv (sorted_le HS.out HR.out (i := x) (j := h) x1 (by omega) (by omega)), F2, S2⟩
    · have hltz : ¬ (i : Int) < (j : Int) := by omega
      have F2' : Aside (∀ x, i ≤ x → x < m → (ltOf cf) d[m]! d[x]! = true) := by
        have : j = i := by omega
        rw [this] at F2; exact F2
      clear F2
      go_wp2
      go_loopg [17] (m - i) (fun k vk wr2 => ∃ t : Nat, vk = .int .i64 (m - t : Nat) ∧ t ≤ m - i ∧ m - i - t ≤ k ∧ Aside (SW enc w0 blk off (shr d m t) wr2))
      case atStart => exact ⟨0, rfl, Nat.zero_le _, by omega, S1⟩
      case round =>
        clear S1
        obtain ⟨t, rfl, ht, hk2, S3⟩ := hrel
        have hsk : (shr d m t).size = d.size := size_shr d m t
        by_cases hlt2 : i < m - t
        · obtain ⟨dk, hdk⟩ : ∃ dk, dk = shr d m t := ⟨_, rfl⟩
          have HD : Aside (dk = shr d m t) := hdk
          rw [← hdk] at S3 hsk
          clear hdk
          obtain ⟨kq, hq⟩ : ∃ q, q = m - t - 1 := ⟨_, rfl⟩
          have HQ : Aside (kq = m - t - 1) := hq
          have HQ2 : Aside (m - t = kq + 1) := (show m - t = kq + 1 by omega)
          have hltz2 : (i : Int) < (kq : Int) + 1 := by omega
          have hq1 : i ≤ kq := by omega
          have hq2 : kq + 1 ≤ m := by omega
          rw [show ((m - t : Nat) : Int) = (kq : Int) + 1 by omega]
          clear hq hlt2
          go_wp2_with fail
          obtain ⟨iNC, hiNC⟩ : ∃ q, q = kq + 1 := ⟨_, rfl⟩
          obtain ⟨jNC, hjNC⟩ : ∃ q, q = kq := ⟨_, rfl⟩
          have eaC : ((kq : Int) + 1).toNat = iNC := by omega
          have paC : (0 : Int) ≤ (kq : Int) + 1 := by omega
          have baC : (kq : Int) + 1 < (d.size : Int) := by omega
          have raC : IntKind.i64.wrap ((kq : Int) + 1) = (kq : Int) + 1 := by rw [IntKind.wrap_i64]; omega
          have ecC : ((kq : Int)).toNat = jNC := by omega
          have pcC : (0 : Int) ≤ (kq : Int) := by omega
          have bcC : (kq : Int) < (d.size : Int) := by omega
          have rcC : IntKind.i64.wrap ((kq : Int)) = (kq : Int) := by rw [IntKind.wrap_i64]; omega
          obtain ⟨xC, hxC⟩ : ∃ x, x = (dk)[kq + 1]! := ⟨_, rfl⟩
          obtain ⟨yC, hyC⟩ : ∃ x, x = (dk)[kq]! := ⟨_, rfl⟩
          have S4 : Aside (SW enc w0 blk off (swp (dk) (kq + 1) (kq)) ((wr.setCell ⟨blk, off + iNC, none⟩ (enc yC)).setCell ⟨blk, off + jNC, none⟩ (enc xC)).drew) := by rw [hiNC, hjNC, hxC, hyC]; exact S3.out.swapped R (kq + 1) (kq) (by omega) (by omega)
          have cCa := S3.out.c1 R (by omega) (kq + 1) (by omega)
          have cCb := S3.out.c1 R (by omega) (kq) (by omega)
          have fCa := S3.out.f1 R (by omega) (kq + 1) (by omega)
          have fCb := S3.out.f1 R (by omega) (kq) (by omega)
          obtain ⟨uC, cCc⟩ := S3.out.c2 R (by omega) (kq + 1) (kq) (by omega) (by omega) (enc yC)
          rw [← hiNC, ← hjNC] at cCc
          rw [← hxC, ← hiNC] at cCa
          rw [← hyC, ← hjNC] at cCb
          rw [← hiNC] at fCa
          rw [← hjNC] at fCb
          clear S3 hxC hyC hiNC hjNC
          go_wp2_with fail
          go_big_region_o
          clear cCa cCb cCc fCa fCb
          generalize ((wr.setCell ⟨blk, off + iNC, none⟩ (enc yC)).setCell ⟨blk, off + jNC, none⟩ (enc xC)).drew = w4 at S4 ⊢
          clear eaC ecC
          go_wp2
          go_roundg (m - i - (t + 1))
          case measure => have := HQ2.out; omega
          case rel => exact ⟨t + 1, by have := HQ2.out; first | go_num | (congr 1; omega), by have := HQ2.out; omega, by omega, by
            have e1 : m - t = kq + 1 := HQ2.out
            show Aside (SW enc w0 blk off (swp (shr d m t) (m - t) (m - t - 1)) w4)
            rw [e1, ← HD.out]; exact S4⟩
        · have hltz2 : ¬ (i : Int) < ((m - t : Nat) : Int) := by omega
          go_wp2
          (try simp only [Exit.inBlock, Exit.then])
          refine bodyPost_ret (results_none rfl _ _ _) rfl ?_
          have et : t = m - i := by omega
          rw [Hb.out]
          refine ⟨rfl, shr d m t, shr_perm d m t a (m + 1) (by omega) (by omega) hb, ?_, S3.out⟩
          exact ins_right HS.out d (shr d m t) a m i (by omega) (by omega) HR.out F1.out F2'.out (fun p => by rw [shr_get d m t (by omega) (by omega), et])
end Go.Proofs.Ytcfmacpogmkadaa
