/-
  Texts put together (merge.py): FRot, FSymL, FSymR.
-/
import Derived.Test.YtmoldgmfhcmceaaGreatDoorMp21
/-
  What slices.rotateCmpFunc leaves, as a contract: from a world of the sort's to a world of the sort's.
-/
section
namespace Go.Proofs.YtmoldgmfhcmceaaGreatDoor
open Go.Shelf Go.RowKit Go.Lib Go.Sort
variable {P : Program} {α : Type} [Inhabited α]

set_option maxHeartbeats 1000000 in
set_option maxRecDepth 1000000 in
theorem rotate_s {kc : Nat} (L : KLays P kc) (enc : α → List Value) (g : Nat) (cb : Array Value) (blk off cap a m b : Nat) (d0 d : Array α) (w0 w : World)
    (R : RowK enc kc w0 blk off d0) (hs : d0.size = d.size) (S : SWK enc kc w0 blk off d w) (ham : a < m) (hmb : m < b) (hb : b ≤ d.size) (hsz : d.size < 1152921504606846976) :
    Calls P 101 #[.slice (some ⟨blk, off, none⟩) d.size cap, .int .i64 a, .int .i64 m, .int .i64 b, .func (.func g) #[] cb] w fun e w' => e = .returned (.tuple #[]) ∧ ∃ d', PermIn a b d d' ∧ (∀ p, d'[p]! = d[rotIdx a m b p]!) ∧ SWK enc kc w0 blk off d' w' := by
  have mixed := L.mixed; have aE := L.aE; have zE := L.zE; have qt_0 := L.qt_0; have qa_0 := L.qa_0; have qz_0 := L.qz_0; have qv_0 := L.qv_0; have qt_i := L.qt_i; have qa_i := L.qa_i; have qz_i := L.qz_i; have qv_i := L.qv_i; have qt_b := L.qt_b; have qa_b := L.qa_b; have qz_b := L.qz_b; have qv_b := L.qv_b; have qt_u := L.qt_u; have qa_u := L.qa_u; have qz_u := L.qz_u; have qv_u := L.qv_u; have qt_s := L.qt_s; have qa_s := L.qa_s; have qz_s := L.qz_s; have qv_s := L.qv_s; have qt_f := L.qt_f; have qa_f := L.qa_f; have qz_f := L.qz_f; have qv_f := L.qv_f; have eSw := L.e_swapRange; have eRo := L.e_rotate; have eSy := L.e_symMerge
  have HR : Aside (RowK enc kc w0 blk off d0) := R
  have S0 : Aside (SWK enc kc w0 blk off d w) := S
  clear S R
  go_enter L.f_rotate, Tryz.ntmps101
  go_wp2
  go_loopg [10, 11] (b - a) (fun k vi vj wr => ∃ (i j : Nat) (dk : Array α), vi = .int .i64 i ∧ vj = .int .i64 j ∧ 1 ≤ i ∧ 1 ≤ j ∧ a + i ≤ m ∧ m + j ≤ b ∧ i + j ≤ k ∧ dk.size = d.size ∧ Aside (PermIn a b d dk) ∧ Aside (∀ p, dk[rotIdx (m - i) m (m + j) p]! = d[rotIdx a m b p]!) ∧ Aside (SWK enc kc w0 blk off dk wr))
  case atStart => exact ⟨m - a, b - m, d, by congr 1; omega, by congr 1; omega, by omega, by omega, by omega, by omega, by omega, rfl, permIn_refl _ _ _, fun p => by rw [show m - (m - a) = a by omega, show m + (b - m) = b by omega], S0⟩
  case round =>
    clear S0
    obtain ⟨i, j, dk, rfl, rfl, hi, hj, hai, hjb, hk, hsk, P1, Q1, S1⟩ := hrel
    have zi : (m : Int) - (i : Int) = ((m - i : Nat) : Int) := by omega
    rcases Nat.lt_trichotomy i j with c | c | c
    · have h1 : ((i : Int) != (j : Int)) = true := by rw [bne_iff_ne]; omega
      have h2 : ¬ (j : Int) < (i : Int) := by omega
      have zj : (m : Int) + (j : Int) - (i : Int) = ((m + j - i : Nat) : Int) := by omega
      have hc := swapRange_s L enc g cb blk off cap (m - i) (m + j - i) i d0 dk w0 wr HR.out (by omega) S1.out (by omega) (by omega) (by omega)
      rw [hsk] at hc
      clear S1
      go_wp2_with fail
      refine hc.mono ?_
      rintro e w' ⟨rfl, S2⟩
      have S3 : Aside (SWK enc kc w0 blk off (swr dk (m - i) (m + j - i) i) w') := S2
      clear S2 hc
      go_wp2
      go_roundg (gk - 1)
      case measure => omega
      case rel =>
        refine ⟨i, j - i, swr dk (m - i) (m + j - i) i, rfl, by first | go_num | (congr 1; omega), hi, by omega, hai, by omega, by omega, by rw [size_swr]; exact hsk, ?_, ?_, S3⟩
        · exact permIn_trans _ _ _ _ _ P1.out (swr_perm dk _ _ _ a b (by omega) (by omega) (by omega) (by omega))
        · show ∀ p, _
          intro p
          rw [swr_get dk _ _ _ (by omega) (by omega), rot_step2 m i j p c (by omega)]
          exact Q1.out p
    · obtain rfl := c
      have h1 : ((i : Int) != (i : Int)) = false := by simp
      have hc := swapRange_s L enc g cb blk off cap (m - i) m i d0 dk w0 wr HR.out (by omega) S1.out (by omega) (by omega) (by omega)
      rw [hsk] at hc
      clear S1
      go_wp2_with fail
      refine hc.mono ?_
      rintro e w' ⟨rfl, S2⟩
      have S3 : Aside (SWK enc kc w0 blk off (swr dk (m - i) m i) w') := S2
      clear S2 hc
      go_wp2
      go_end0
      refine ⟨rfl, swr dk (m - i) m i, ?_, ?_, S3.out⟩
      · exact permIn_trans _ _ _ _ _ P1.out (swr_perm dk _ _ _ a b (by omega) (by omega) (by omega) (by omega))
      · intro p
        rw [swr_get dk _ _ _ (by omega) (by omega), rot_end m i p (by omega)]
        exact Q1.out p
    · have h1 : ((i : Int) != (j : Int)) = true := by rw [bne_iff_ne]; omega
      have h2 : (j : Int) < (i : Int) := by omega
      have hc := swapRange_s L enc g cb blk off cap (m - i) m j d0 dk w0 wr HR.out (by omega) S1.out (by omega) (by omega) (by omega)
      rw [hsk] at hc
      clear S1
      go_wp2_with fail
      refine hc.mono ?_
      rintro e w' ⟨rfl, S2⟩
      have S3 : Aside (SWK enc kc w0 blk off (swr dk (m - i) m j) w') := S2
      clear S2 hc
      go_wp2
      go_roundg (gk - 1)
      case measure => omega
      case rel =>
        refine ⟨i - j, j, swr dk (m - i) m j, by first | go_num | (congr 1; omega), rfl, by omega, hj, by omega, hjb, by omega, by rw [size_swr]; exact hsk, ?_, ?_, S3⟩
        · exact permIn_trans _ _ _ _ _ P1.out (swr_perm dk _ _ _ a b (by omega) (by omega) (by omega) (by omega))
        · show ∀ p, _
          intro p
          rw [swr_get dk _ _ _ (by omega) (by omega), rot_step1 m i j p c (by omega)]
          exact Q1.out p
end Go.Proofs.YtmoldgmfhcmceaaGreatDoor
end

/-
  What slices.symMergeCmpFunc leaves where the first part is one element, as a contract.
-/
section
namespace Go.Proofs.YtmoldgmfhcmceaaGreatDoor
open Go.Shelf Go.RowKit Go.Lib Go.Sort
variable {P : Program} {α : Type} [Inhabited α]

set_option maxHeartbeats 2000000 in
set_option maxRecDepth 1000000 in
theorem symLeft {kc : Nat} (L : KLays P kc) (enc : α → List Value) (cf : α → α → Int) (hO : SWO (ltOf cf)) (g : Nat) (cb : Array Value) (blk off cap a b : Nat) (d0 d : Array α) (w0 w : World)
    (eg : ∀ args w, (callFunc g args).run P w = .ok (.enter g args) w) (hcmp : CmpLays P g cb enc kc cf blk off d0.size w0) (R : RowK enc kc w0 blk off d0) (hs : d0.size = d.size) (S : SWK enc kc w0 blk off d w) (hab : a + 1 < b) (hb : b ≤ d.size) (hr : SortedIn (ltOf cf) (a + 1) b d) (hsz : d.size < 1152921504606846976) :
    Calls P 86 #[.slice (some ⟨blk, off, none⟩) d.size cap, .int .i64 a, .int .i64 (a + 1 : Nat), .int .i64 b, .func (.func g) #[] cb] w fun e w' => e = .returned (.tuple #[]) ∧ ∃ d', PermIn a b d d' ∧ SortedIn (ltOf cf) a b d' ∧ SWK enc kc w0 blk off d' w' := by
  have mixed := L.mixed; have aE := L.aE; have zE := L.zE; have qt_0 := L.qt_0; have qa_0 := L.qa_0; have qz_0 := L.qz_0; have qv_0 := L.qv_0; have qt_i := L.qt_i; have qa_i := L.qa_i; have qz_i := L.qz_i; have qv_i := L.qv_i; have qt_b := L.qt_b; have qa_b := L.qa_b; have qz_b := L.qz_b; have qv_b := L.qv_b; have qt_u := L.qt_u; have qa_u := L.qa_u; have qz_u := L.qz_u; have qv_u := L.qv_u; have qt_s := L.qt_s; have qa_s := L.qa_s; have qz_s := L.qz_s; have qv_s := L.qv_s; have qt_f := L.qt_f; have qa_f := L.qa_f; have qz_f := L.qz_f; have qv_f := L.qv_f; have eSw := L.e_swapRange; have eRo := L.e_rotate; have eSy := L.e_symMerge
  have HC : Aside (CmpLays P g cb enc kc cf blk off d0.size w0) := hcmp
  have S0 : Aside (SWK enc kc w0 blk off d w) := S
  have HS : Aside (SWO (ltOf cf)) := hO
  clear S hcmp hO
  have HR : Aside (SortedIn (ltOf cf) (a + 1) b d) := hr
  clear hr
  obtain ⟨m, hm⟩ : ∃ m, m = a + 1 := ⟨_, rfl⟩
  have Hm : Aside (m = a + 1) := hm
  have m1 : a + 1 ≤ m := by omega
  have m2 : m ≤ a + 1 := by omega
  rw [← hm]
  clear hm
  have t1 : ((m : Int) - (a : Int) == 1) = true := by rw [beq_iff_eq]; omega
  go_enter L.f_symMerge, Tryz.ntmps86
  go_wp2
  go_loopg [10, 11] (b - m) (fun k vi vj wr => ∃ (i j : Nat), vi = .int .i64 i ∧ vj = .int .i64 j ∧ m ≤ i ∧ i ≤ j ∧ j ≤ b ∧ j - i ≤ k ∧ Aside (∀ x, a + 1 ≤ x → x < i → (ltOf cf) d[x]! d[a]! = true) ∧ Aside (∀ x, j ≤ x → x < b → (ltOf cf) d[x]! d[a]! = false) ∧ Aside (SWK enc kc w0 blk off d wr))
  case atStart => exact ⟨m, b, rfl, rfl, Nat.le_refl _, by omega, Nat.le_refl _, by omega, fun x h1 h2 => by omega, fun x h1 h2 => by omega, S0⟩
  case round =>
    clear S0
    obtain ⟨i, j, rfl, rfl, hmi, hij, hjb, hk, F1, F2, S1⟩ := hrel
    by_cases hlt : i < j
    · have hltz : (i : Int) < (j : Int) := by omega
      obtain ⟨h, hh⟩ : ∃ h, h = (i + j) / 2 := ⟨_, rfl⟩
      have zh : ((i : Int) + (j : Int)) / 2 = (h : Int) := by omega
      have h1 : i ≤ h := by omega
      have h2 : h < j := by omega
      clear hh
      cases hlv : (ltOf cf) d[h]! d[a]! with
      | true =>
        obtain ⟨iNA, hiNA⟩ : ∃ q, q = h := ⟨_, rfl⟩
        obtain ⟨jNA, hjNA⟩ : ∃ q, q = a := ⟨_, rfl⟩
        have eaA : ((h : Int)).toNat = iNA := by omega
        have paA : (0 : Int) ≤ (h : Int) := by omega
        have baA : (h : Int) < (d.size : Int) := by omega
        have raA : IntKind.i64.wrap ((h : Int)) = (h : Int) := by rw [IntKind.wrap_i64]; omega
        have ecA : ((a : Int)).toNat = jNA := by omega
        have pcA : (0 : Int) ≤ (a : Int) := by omega
        have bcA : (a : Int) < (d.size : Int) := by omega
        have rcA : IntKind.i64.wrap ((a : Int)) = (a : Int) := by rw [IntKind.wrap_i64]; omega
        obtain ⟨xA, hxA⟩ : ∃ x, x = (d)[h]! := ⟨_, rfl⟩
        obtain ⟨yA, hyA⟩ : ∃ x, x = (d)[a]! := ⟨_, rfl⟩
        have lAa : ∀ n os, Sem.run P (loadCellsFrom ⟨blk, off + iNA * kc, none⟩ 0 kc #[]) (grow (wr.drewN n) os) = .ok (enc xA).toArray (grow (wr.drewN n) os) := by rw [hiNA, hxA]; exact S1.out.ld R (by omega) P (h) (by omega)
        have lAb : ∀ n os, Sem.run P (loadCellsFrom ⟨blk, off + jNA * kc, none⟩ 0 kc #[]) (grow (wr.drewN n) os) = .ok (enc yA).toArray (grow (wr.drewN n) os) := by rw [hjNA, hyA]; exact S1.out.ld R (by omega) P (a) (by omega)
        have hcA := S1.out.cmp HC.out (by omega) xA yA
        have hvA : cf xA yA < 0 := by rw [hxA, hyA]; exact of_decide_eq_true hlv
        have hdA : decide (cf xA yA < 0) = true := decide_eq_true hvA
        clear hxA hyA hiNA hjNA
        go_wp2_with fail
        go_quiet_grown (first | (go_at_fn g; refine Calls.grown_of (hcA _ _)))
        have S2 : Aside (SWK enc kc w0 blk off (d) (grow (wr.drewN nq) osq)) := S1.out.grown nq osq
        clear lAa lAb hcA S1
        generalize grow (wr.drewN nq) osq = w2 at S2 ⊢
        clear nq osq
        clear eaA ecA
        go_wp2
        go_roundg (j - (h + 1))
        case measure => omega
        case rel => exact ⟨h + 1, j, by first | rfl | go_num | (congr 1; omega), rfl, by omega, by omega, hjb, by omega, fun x x1 x2 => by
          rcases Nat.lt_or_ge x h with c | c
          · cases hv : (ltOf cf) d[x]! d[a]! with
            | true => rfl
            | false =>
              have e := HR.out x h (by omega) c (by omega)
              have := HS.out.ntrans _ _ _ e hv
              rw [hlv] at this; cases this
          · have : x = h := by omega
            rw [this]; exact hlv, F2, S2⟩
      | false =>
        obtain ⟨iNB, hiNB⟩ : ∃ q, q = h := ⟨_, rfl⟩
        obtain ⟨jNB, hjNB⟩ : ∃ q, q = a := ⟨_, rfl⟩
        have eaB : ((h : Int)).toNat = iNB := by omega
        have paB : (0 : Int) ≤ (h : Int) := by omega
        have baB : (h : Int) < (d.size : Int) := by omega
        have raB : IntKind.i64.wrap ((h : Int)) = (h : Int) := by rw [IntKind.wrap_i64]; omega
        have ecB : ((a : Int)).toNat = jNB := by omega
        have pcB : (0 : Int) ≤ (a : Int) := by omega
        have bcB : (a : Int) < (d.size : Int) := by omega
        have rcB : IntKind.i64.wrap ((a : Int)) = (a : Int) := by rw [IntKind.wrap_i64]; omega
        obtain ⟨xB, hxB⟩ : ∃ x, x = (d)[h]! := ⟨_, rfl⟩
        obtain ⟨yB, hyB⟩ : ∃ x, x = (d)[a]! := ⟨_, rfl⟩
        have lBa : ∀ n os, Sem.run P (loadCellsFrom ⟨blk, off + iNB * kc, none⟩ 0 kc #[]) (grow (wr.drewN n) os) = .ok (enc xB).toArray (grow (wr.drewN n) os) := by rw [hiNB, hxB]; exact S1.out.ld R (by omega) P (h) (by omega)
        have lBb : ∀ n os, Sem.run P (loadCellsFrom ⟨blk, off + jNB * kc, none⟩ 0 kc #[]) (grow (wr.drewN n) os) = .ok (enc yB).toArray (grow (wr.drewN n) os) := by rw [hjNB, hyB]; exact S1.out.ld R (by omega) P (a) (by omega)
        have hcB := S1.out.cmp HC.out (by omega) xB yB
        have hvB : ¬ cf xB yB < 0 := by rw [hxB, hyB]; exact of_decide_eq_false hlv
        have hdB : decide (cf xB yB < 0) = false := decide_eq_false hvB
        clear hxB hyB hiNB hjNB
        go_wp2_with fail
        go_quiet_grown (first | (go_at_fn g; refine Calls.grown_of (hcB _ _)))
        have S2 : Aside (SWK enc kc w0 blk off (d) (grow (wr.drewN nq) osq)) := S1.out.grown nq osq
        clear lBa lBb hcB S1
        generalize grow (wr.drewN nq) osq = w2 at S2 ⊢
        clear nq osq
        clear eaB ecB
        go_wp2
        go_roundg (h - i)
        case measure => omega
        case rel => exact ⟨i, h, rfl, by first | rfl | go_num | (congr 1; omega), hmi, by omega, by omega, by omega, F1, fun x x1 x2 => by
          exact HS.out.ntrans _ _ _ (sorted_le HS.out HR.out (i := h) (j := x) (by omega) x1 x2) hlv, S2⟩
    · have hltz : ¬ (i : Int) < (j : Int) := by omega
      have F2' : Aside (∀ x, i ≤ x → x < b → (ltOf cf) d[x]! d[a]! = false) := by
        have : j = i := by omega
        rw [this] at F2; exact F2
      clear F2
      go_wp2
      go_loopg [13] (i - 1 - a) (fun k vk wr2 => ∃ t : Nat, vk = .int .i64 (a + t : Nat) ∧ t ≤ i - 1 - a ∧ i - 1 - a - t ≤ k ∧ Aside (SWK enc kc w0 blk off (shl d a t) wr2))
      case atStart => exact ⟨0, rfl, Nat.zero_le _, by omega, S1⟩
      case round =>
        clear S1
        obtain ⟨t, rfl, ht, hk2, S3⟩ := hrel
        have hsk : (shl d a t).size = d.size := size_shl d a t
        by_cases hlt2 : a + t < i - 1
        · have hltz2 : ((a + t : Nat) : Int) < (i : Int) - 1 := by omega
          obtain ⟨dk, hdk⟩ : ∃ dk, dk = shl d a t := ⟨_, rfl⟩
          have HD : Aside (dk = shl d a t) := hdk
          rw [← hdk] at S3 hsk
          clear hdk
          obtain ⟨kq, hq⟩ : ∃ q, q = a + t := ⟨_, rfl⟩
          have HQ : Aside (kq = a + t) := hq
          rw [← hq] at hltz2 hlt2 ⊢
          have hq1 : a ≤ kq := by omega
          clear hq
          go_wp2_with fail
          obtain ⟨iNC, hiNC⟩ : ∃ q, q = kq := ⟨_, rfl⟩
          obtain ⟨jNC, hjNC⟩ : ∃ q, q = kq + 1 := ⟨_, rfl⟩
          have eaC : ((kq : Int)).toNat = iNC := by omega
          have paC : (0 : Int) ≤ (kq : Int) := by omega
          have baC : (kq : Int) < (d.size : Int) := by omega
          have raC : IntKind.i64.wrap ((kq : Int)) = (kq : Int) := by rw [IntKind.wrap_i64]; omega
          have ecC : ((kq : Int) + 1).toNat = jNC := by omega
          have pcC : (0 : Int) ≤ (kq : Int) + 1 := by omega
          have bcC : (kq : Int) + 1 < (d.size : Int) := by omega
          have rcC : IntKind.i64.wrap ((kq : Int) + 1) = (kq : Int) + 1 := by rw [IntKind.wrap_i64]; omega
          have S4 : Aside (SWK enc kc w0 blk off (swp (dk) (kq) (kq + 1)) ((wr.drew.setCells blk (off + iNC * kc) (enc (dk)[kq + 1]!)).setCells blk (off + jNC * kc) (enc (dk)[kq]!))) := by rw [hiNC, hjNC]; exact S3.out.swapped R (kq) (kq + 1) (by omega) (by omega)
          have lCa : Sem.run P (loadCellsFrom ⟨blk, off + iNC * kc, none⟩ 0 kc #[]) wr.drew = .ok (enc (dk)[kq]!).toArray wr.drew := by rw [hiNC]; exact S3.out.ld1 R (by omega) P (kq) (by omega)
          have lCb : Sem.run P (loadCellsFrom ⟨blk, off + jNC * kc, none⟩ 0 kc #[]) wr.drew = .ok (enc (dk)[kq + 1]!).toArray wr.drew := by rw [hjNC]; exact S3.out.ld1 R (by omega) P (kq + 1) (by omega)
          have sCa : Sem.run P (storeCells ⟨blk, off + iNC * kc, none⟩ (enc (dk)[kq + 1]!) 0) wr.drew = .ok () (wr.drew.setCells blk (off + iNC * kc) (enc (dk)[kq + 1]!)) := by rw [hiNC]; exact S3.out.st1 R (by omega) P (kq) (by omega) (dk)[kq + 1]!
          have sCb : Sem.run P (storeCells ⟨blk, off + jNC * kc, none⟩ (enc (dk)[kq]!) 0) (wr.drew.setCells blk (off + iNC * kc) (enc (dk)[kq + 1]!)) = .ok () ((wr.drew.setCells blk (off + iNC * kc) (enc (dk)[kq + 1]!)).setCells blk (off + jNC * kc) (enc (dk)[kq]!)) := by rw [hiNC, hjNC]; exact S3.out.st2 R (by omega) P (kq) (kq + 1) (by omega) (by omega) (dk)[kq + 1]! (dk)[kq]!
          have nCa : (enc (dk)[kq]!).length = kc := R.hk _
          have nCb : (enc (dk)[kq + 1]!).length = kc := R.hk _
          generalize enc (dk)[kq]! = cIC at S4 lCa sCb nCa
          generalize enc (dk)[kq + 1]! = cJC at S4 lCb sCa sCb nCb
          clear S3 hiNC hjNC
          go_wp2_with fail
          go_big_region_o
          clear lCa lCb sCa sCb
          generalize (wr.drew.setCells blk (off + iNC * kc) cJC).setCells blk (off + jNC * kc) cIC = w4 at S4 ⊢
          clear eaC ecC nCa nCb
          go_wp2
          go_roundg (i - 1 - a - (t + 1))
          case measure => have := HQ.out; omega
          case rel => exact ⟨t + 1, by have := HQ.out; first | go_num | (congr 1; omega), by have := HQ.out; omega, by omega, by rw [HD.out, HQ.out] at S4; exact S4⟩
        · have hltz2 : ¬ ((a + t : Nat) : Int) < (i : Int) - 1 := by omega
          go_wp2
          (try simp only [Exit.inBlock, Exit.then])
          refine bodyPost_ret (results_none rfl _ _ _) rfl ?_
          refine ⟨rfl, shl d a t, shl_perm d a t a b (Nat.le_refl _) (by omega) hb, ?_, S3.out⟩
          have et : t = i - 1 - a := by omega
          exact ins_left HS.out d (shl d a t) a b i (by omega) (by omega) HR.out F1.out F2'.out (fun p => by rw [shl_get d a t (by omega), et])
end Go.Proofs.YtmoldgmfhcmceaaGreatDoor
end

/-
  What slices.symMergeCmpFunc leaves where the second part is one element, as a contract.
-/
section
namespace Go.Proofs.YtmoldgmfhcmceaaGreatDoor
open Go.Shelf Go.RowKit Go.Lib Go.Sort
variable {P : Program} {α : Type} [Inhabited α]

set_option maxHeartbeats 2000000 in
set_option maxRecDepth 1000000 in
theorem symRight {kc : Nat} (L : KLays P kc) (enc : α → List Value) (cf : α → α → Int) (hO : SWO (ltOf cf)) (g : Nat) (cb : Array Value) (blk off cap a m : Nat) (d0 d : Array α) (w0 w : World)
    (eg : ∀ args w, (callFunc g args).run P w = .ok (.enter g args) w) (hcmp : CmpLays P g cb enc kc cf blk off d0.size w0) (R : RowK enc kc w0 blk off d0) (hs : d0.size = d.size) (S : SWK enc kc w0 blk off d w) (ham : a + 1 < m) (hb : m + 1 ≤ d.size) (hr : SortedIn (ltOf cf) a m d) (hsz : d.size < 1152921504606846976) :
    Calls P 86 #[.slice (some ⟨blk, off, none⟩) d.size cap, .int .i64 a, .int .i64 m, .int .i64 (m + 1 : Nat), .func (.func g) #[] cb] w fun e w' => e = .returned (.tuple #[]) ∧ ∃ d', PermIn a (m + 1) d d' ∧ SortedIn (ltOf cf) a (m + 1) d' ∧ SWK enc kc w0 blk off d' w' := by
  have mixed := L.mixed; have aE := L.aE; have zE := L.zE; have qt_0 := L.qt_0; have qa_0 := L.qa_0; have qz_0 := L.qz_0; have qv_0 := L.qv_0; have qt_i := L.qt_i; have qa_i := L.qa_i; have qz_i := L.qz_i; have qv_i := L.qv_i; have qt_b := L.qt_b; have qa_b := L.qa_b; have qz_b := L.qz_b; have qv_b := L.qv_b; have qt_u := L.qt_u; have qa_u := L.qa_u; have qz_u := L.qz_u; have qv_u := L.qv_u; have qt_s := L.qt_s; have qa_s := L.qa_s; have qz_s := L.qz_s; have qv_s := L.qv_s; have qt_f := L.qt_f; have qa_f := L.qa_f; have qz_f := L.qz_f; have qv_f := L.qv_f; have eSw := L.e_swapRange; have eRo := L.e_rotate; have eSy := L.e_symMerge
  have HC : Aside (CmpLays P g cb enc kc cf blk off d0.size w0) := hcmp
  have S0 : Aside (SWK enc kc w0 blk off d w) := S
  have HS : Aside (SWO (ltOf cf)) := hO
  clear S hcmp hO
  have HR : Aside (SortedIn (ltOf cf) a m d) := hr
  clear hr
  obtain ⟨b, hm⟩ : ∃ b, b = m + 1 := ⟨_, rfl⟩
  have Hb : Aside (b = m + 1) := hm
  have m1 : m + 1 ≤ b := by omega
  have m2 : b ≤ m + 1 := by omega
  rw [← hm]
  clear hm
  have t1 : ((m : Int) - (a : Int) == 1) = false := by rw [beq_eq_false_iff_ne]; omega
  have t2 : ((b : Int) - (m : Int) == 1) = true := by rw [beq_iff_eq]; omega
  go_enter L.f_symMerge, Tryz.ntmps86
  go_wp2
  go_loopg [14, 15] (m - a) (fun k vi vj wr => ∃ (i j : Nat), vi = .int .i64 i ∧ vj = .int .i64 j ∧ a ≤ i ∧ i ≤ j ∧ j ≤ m ∧ j - i ≤ k ∧ Aside (∀ x, a ≤ x → x < i → (ltOf cf) d[m]! d[x]! = false) ∧ Aside (∀ x, j ≤ x → x < m → (ltOf cf) d[m]! d[x]! = true) ∧ Aside (SWK enc kc w0 blk off d wr))
  case atStart => exact ⟨a, m, rfl, rfl, Nat.le_refl _, by omega, Nat.le_refl _, by omega, fun x h1 h2 => by omega, fun x h1 h2 => by omega, S0⟩
  case round =>
    clear S0
    obtain ⟨i, j, rfl, rfl, hmi, hij, hjb, hk, F1, F2, S1⟩ := hrel
    by_cases hlt : i < j
    · have hltz : (i : Int) < (j : Int) := by omega
      obtain ⟨h, hh⟩ : ∃ h, h = (i + j) / 2 := ⟨_, rfl⟩
      have zh : ((i : Int) + (j : Int)) / 2 = (h : Int) := by omega
      have h1 : i ≤ h := by omega
      have h2 : h < j := by omega
      clear hh
      cases hlv : (ltOf cf) d[m]! d[h]! with
      | true =>
        obtain ⟨iNA, hiNA⟩ : ∃ q, q = m := ⟨_, rfl⟩
        obtain ⟨jNA, hjNA⟩ : ∃ q, q = h := ⟨_, rfl⟩
        have eaA : ((m : Int)).toNat = iNA := by omega
        have paA : (0 : Int) ≤ (m : Int) := by omega
        have baA : (m : Int) < (d.size : Int) := by omega
        have raA : IntKind.i64.wrap ((m : Int)) = (m : Int) := by rw [IntKind.wrap_i64]; omega
        have ecA : ((h : Int)).toNat = jNA := by omega
        have pcA : (0 : Int) ≤ (h : Int) := by omega
        have bcA : (h : Int) < (d.size : Int) := by omega
        have rcA : IntKind.i64.wrap ((h : Int)) = (h : Int) := by rw [IntKind.wrap_i64]; omega
        obtain ⟨xA, hxA⟩ : ∃ x, x = (d)[m]! := ⟨_, rfl⟩
        obtain ⟨yA, hyA⟩ : ∃ x, x = (d)[h]! := ⟨_, rfl⟩
        have lAa : ∀ n os, Sem.run P (loadCellsFrom ⟨blk, off + iNA * kc, none⟩ 0 kc #[]) (grow (wr.drewN n) os) = .ok (enc xA).toArray (grow (wr.drewN n) os) := by rw [hiNA, hxA]; exact S1.out.ld R (by omega) P (m) (by omega)
        have lAb : ∀ n os, Sem.run P (loadCellsFrom ⟨blk, off + jNA * kc, none⟩ 0 kc #[]) (grow (wr.drewN n) os) = .ok (enc yA).toArray (grow (wr.drewN n) os) := by rw [hjNA, hyA]; exact S1.out.ld R (by omega) P (h) (by omega)
        have hcA := S1.out.cmp HC.out (by omega) xA yA
        have hvA : cf xA yA < 0 := by rw [hxA, hyA]; exact of_decide_eq_true hlv
        have hdA : decide (cf xA yA < 0) = true := decide_eq_true hvA
        clear hxA hyA hiNA hjNA
        go_wp2_with fail
        go_quiet_grown (first | (go_at_fn g; refine Calls.grown_of (hcA _ _)))
        have S2 : Aside (SWK enc kc w0 blk off (d) (grow (wr.drewN nq) osq)) := S1.out.grown nq osq
        clear lAa lAb hcA S1
        generalize grow (wr.drewN nq) osq = w2 at S2 ⊢
        clear nq osq
        clear eaA ecA
        have F3 : Aside (∀ x, h ≤ x → x < m → (ltOf cf) d[m]! d[x]! = true) := fun x x1 x2 => by
          cases hv : (ltOf cf) d[m]! d[x]! with
          | true => rfl
          | false =>
            have e := sorted_le HS.out HR.out (i := h) (j := x) (by omega) x1 x2
            have := HS.out.ntrans _ _ _ hv e
            rw [hlv] at this; cases this
        go_wp2
        go_roundg (h - i)
        case measure => omega
        case rel => exact ⟨i, h, rfl, by first | rfl | go_num | (congr 1; omega), hmi, by omega, by omega, by omega, F1, F3, S2⟩
      | false =>
        obtain ⟨iNB, hiNB⟩ : ∃ q, q = m := ⟨_, rfl⟩
        obtain ⟨jNB, hjNB⟩ : ∃ q, q = h := ⟨_, rfl⟩
        have eaB : ((m : Int)).toNat = iNB := by omega
        have paB : (0 : Int) ≤ (m : Int) := by omega
        have baB : (m : Int) < (d.size : Int) := by omega
        have raB : IntKind.i64.wrap ((m : Int)) = (m : Int) := by rw [IntKind.wrap_i64]; omega
        have ecB : ((h : Int)).toNat = jNB := by omega
        have pcB : (0 : Int) ≤ (h : Int) := by omega
        have bcB : (h : Int) < (d.size : Int) := by omega
        have rcB : IntKind.i64.wrap ((h : Int)) = (h : Int) := by rw [IntKind.wrap_i64]; omega
        obtain ⟨xB, hxB⟩ : ∃ x, x = (d)[m]! := ⟨_, rfl⟩
        obtain ⟨yB, hyB⟩ : ∃ x, x = (d)[h]! := ⟨_, rfl⟩
        have lBa : ∀ n os, Sem.run P (loadCellsFrom ⟨blk, off + iNB * kc, none⟩ 0 kc #[]) (grow (wr.drewN n) os) = .ok (enc xB).toArray (grow (wr.drewN n) os) := by rw [hiNB, hxB]; exact S1.out.ld R (by omega) P (m) (by omega)
        have lBb : ∀ n os, Sem.run P (loadCellsFrom ⟨blk, off + jNB * kc, none⟩ 0 kc #[]) (grow (wr.drewN n) os) = .ok (enc yB).toArray (grow (wr.drewN n) os) := by rw [hjNB, hyB]; exact S1.out.ld R (by omega) P (h) (by omega)
        have hcB := S1.out.cmp HC.out (by omega) xB yB
        have hvB : ¬ cf xB yB < 0 := by rw [hxB, hyB]; exact of_decide_eq_false hlv
        have hdB : decide (cf xB yB < 0) = false := decide_eq_false hvB
        clear hxB hyB hiNB hjNB
        go_wp2_with fail
        go_quiet_grown (first | (go_at_fn g; refine Calls.grown_of (hcB _ _)))
        have S2 : Aside (SWK enc kc w0 blk off (d) (grow (wr.drewN nq) osq)) := S1.out.grown nq osq
        clear lBa lBb hcB S1
        generalize grow (wr.drewN nq) osq = w2 at S2 ⊢
        clear nq osq
        clear eaB ecB
        go_wp2
        go_roundg (j - (h + 1))
        case measure => omega
        case rel => exact ⟨h + 1, j, by first | rfl | go_num | (congr 1; omega), rfl, by omega, by omega, hjb, by omega, fun x x1 x2 => by
          exact HS.out.ntrans _ _ _ hlv (sorted_le HS.out HR.out (i := x) (j := h) x1 (by omega) (by omega)), F2, S2⟩
    · have hltz : ¬ (i : Int) < (j : Int) := by omega
      have F2' : Aside (∀ x, i ≤ x → x < m → (ltOf cf) d[m]! d[x]! = true) := by
        have : j = i := by omega
        rw [this] at F2; exact F2
      clear F2
      go_wp2
      go_loopg [17] (m - i) (fun k vk wr2 => ∃ t : Nat, vk = .int .i64 (m - t : Nat) ∧ t ≤ m - i ∧ m - i - t ≤ k ∧ Aside (SWK enc kc w0 blk off (shr d m t) wr2))
      case atStart => exact ⟨0, rfl, Nat.zero_le _, by omega, S1⟩
      case round =>
        clear S1
        obtain ⟨t, rfl, ht, hk2, S3⟩ := hrel
        have hsk : (shr d m t).size = d.size := size_shr d m t
        by_cases hlt2 : i < m - t
        · obtain ⟨dk, hdk⟩ : ∃ dk, dk = shr d m t := ⟨_, rfl⟩
          have HD : Aside (dk = shr d m t) := hdk
          rw [← hdk] at S3 hsk
          clear hdk
          obtain ⟨kq, hq⟩ : ∃ q, q = m - t - 1 := ⟨_, rfl⟩
          have HQ : Aside (kq = m - t - 1) := hq
          have HQ2 : Aside (m - t = kq + 1) := (show m - t = kq + 1 by omega)
          have hltz2 : (i : Int) < (kq : Int) + 1 := by omega
          have hq1 : i ≤ kq := by omega
          have hq2 : kq + 1 ≤ m := by omega
          rw [show ((m - t : Nat) : Int) = (kq : Int) + 1 by omega]
          clear hq hlt2
          go_wp2_with fail
          obtain ⟨iNC, hiNC⟩ : ∃ q, q = kq + 1 := ⟨_, rfl⟩
          obtain ⟨jNC, hjNC⟩ : ∃ q, q = kq := ⟨_, rfl⟩
          have eaC : ((kq : Int) + 1).toNat = iNC := by omega
          have paC : (0 : Int) ≤ (kq : Int) + 1 := by omega
          have baC : (kq : Int) + 1 < (d.size : Int) := by omega
          have raC : IntKind.i64.wrap ((kq : Int) + 1) = (kq : Int) + 1 := by rw [IntKind.wrap_i64]; omega
          have ecC : ((kq : Int)).toNat = jNC := by omega
          have pcC : (0 : Int) ≤ (kq : Int) := by omega
          have bcC : (kq : Int) < (d.size : Int) := by omega
          have rcC : IntKind.i64.wrap ((kq : Int)) = (kq : Int) := by rw [IntKind.wrap_i64]; omega
          have S4 : Aside (SWK enc kc w0 blk off (swp (dk) (kq + 1) (kq)) ((wr.drew.setCells blk (off + iNC * kc) (enc (dk)[kq]!)).setCells blk (off + jNC * kc) (enc (dk)[kq + 1]!))) := by rw [hiNC, hjNC]; exact S3.out.swapped R (kq + 1) (kq) (by omega) (by omega)
          have lCa : Sem.run P (loadCellsFrom ⟨blk, off + iNC * kc, none⟩ 0 kc #[]) wr.drew = .ok (enc (dk)[kq + 1]!).toArray wr.drew := by rw [hiNC]; exact S3.out.ld1 R (by omega) P (kq + 1) (by omega)
          have lCb : Sem.run P (loadCellsFrom ⟨blk, off + jNC * kc, none⟩ 0 kc #[]) wr.drew = .ok (enc (dk)[kq]!).toArray wr.drew := by rw [hjNC]; exact S3.out.ld1 R (by omega) P (kq) (by omega)
          have sCa : Sem.run P (storeCells ⟨blk, off + iNC * kc, none⟩ (enc (dk)[kq]!) 0) wr.drew = .ok () (wr.drew.setCells blk (off + iNC * kc) (enc (dk)[kq]!)) := by rw [hiNC]; exact S3.out.st1 R (by omega) P (kq + 1) (by omega) (dk)[kq]!
          have sCb : Sem.run P (storeCells ⟨blk, off + jNC * kc, none⟩ (enc (dk)[kq + 1]!) 0) (wr.drew.setCells blk (off + iNC * kc) (enc (dk)[kq]!)) = .ok () ((wr.drew.setCells blk (off + iNC * kc) (enc (dk)[kq]!)).setCells blk (off + jNC * kc) (enc (dk)[kq + 1]!)) := by rw [hiNC, hjNC]; exact S3.out.st2 R (by omega) P (kq + 1) (kq) (by omega) (by omega) (dk)[kq]! (dk)[kq + 1]!
          have nCa : (enc (dk)[kq + 1]!).length = kc := R.hk _
          have nCb : (enc (dk)[kq]!).length = kc := R.hk _
          generalize enc (dk)[kq + 1]! = cIC at S4 lCa sCb nCa
          generalize enc (dk)[kq]! = cJC at S4 lCb sCa sCb nCb
          clear S3 hiNC hjNC
          go_wp2_with fail
          go_big_region_o
          clear lCa lCb sCa sCb
          generalize (wr.drew.setCells blk (off + iNC * kc) cJC).setCells blk (off + jNC * kc) cIC = w4 at S4 ⊢
          clear eaC ecC nCa nCb
          go_wp2
          go_roundg (m - i - (t + 1))
          case measure => have := HQ2.out; omega
          case rel => exact ⟨t + 1, by have := HQ2.out; first | go_num | (congr 1; omega), by have := HQ2.out; omega, by omega, by
            have e1 : m - t = kq + 1 := HQ2.out
            show Aside (SWK enc kc w0 blk off (swp (shr d m t) (m - t) (m - t - 1)) w4)
            rw [e1, ← HD.out]; exact S4⟩
        · have hltz2 : ¬ (i : Int) < ((m - t : Nat) : Int) := by omega
          go_wp2
          (try simp only [Exit.inBlock, Exit.then])
          refine bodyPost_ret (results_none rfl _ _ _) rfl ?_
          have et : t = m - i := by omega
          rw [Hb.out]
          refine ⟨rfl, shr d m t, shr_perm d m t a (m + 1) (by omega) (by omega) hb, ?_, S3.out⟩
          exact ins_right HS.out d (shr d m t) a m i (by omega) (by omega) HR.out F1.out F2'.out (fun p => by rw [shr_get d m t (by omega) (by omega), et])
end Go.Proofs.YtmoldgmfhcmceaaGreatDoor
end
