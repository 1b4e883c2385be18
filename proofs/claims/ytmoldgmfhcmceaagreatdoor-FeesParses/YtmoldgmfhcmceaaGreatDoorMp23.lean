/-
  Texts put together (merge.py): FSymB0, FSymBA.
-/
import Derived.Test.YtmoldgmfhcmceaaGreatDoorMp22
/-
  What slices.symMergeCmpFunc leaves where both parts are longer than one element, as a contract, given the contract for less: two sorted parts become one.
-/
section
namespace Go.Proofs.YtmoldgmfhcmceaaGreatDoor
open Go.Shelf Go.RowKit Go.Lib Go.Sort
variable {P : Program} {α : Type} [Inhabited α]

/-- The contract, for parts of at most n places together. -/
def SymOK (P : Program) (kc : Nat) (enc : α → List Value) (cf : α → α → Int) (g : Nat) (cb : Array Value) (blk off cap len : Nat) (w0 : World) (n : Nat) : Prop :=
  ∀ (a m b : Nat) (d : Array α) (w : World), b - a ≤ n → a < m → m < b → b ≤ d.size → d.size = len → SortedIn (ltOf cf) a m d → SortedIn (ltOf cf) m b d → SWK enc kc w0 blk off d w →
    Calls P 86 #[.slice (some ⟨blk, off, none⟩) len cap, .int .i64 a, .int .i64 m, .int .i64 b, .func (.func g) #[] cb] w fun e w' => e = .returned (.tuple #[]) ∧ ∃ d', PermIn a b d d' ∧ SortedIn (ltOf cf) a b d' ∧ SWK enc kc w0 blk off d' w'
end Go.Proofs.YtmoldgmfhcmceaaGreatDoor
end

/-
  What slices.symMergeCmpFunc leaves where both parts are longer than one element, as a contract: one of three ways in which the first part's end lies to the middle.
-/
section
namespace Go.Proofs.YtmoldgmfhcmceaaGreatDoor
open Go.Shelf Go.RowKit Go.Lib Go.Sort
variable {P : Program} {α : Type} [Inhabited α]

set_option maxHeartbeats 4000000 in
set_option maxRecDepth 1000000 in
theorem symBigA {kc : Nat} (L : KLays P kc) (enc : α → List Value) (cf : α → α → Int) (hO : SWO (ltOf cf)) (g : Nat) (cb : Array Value) (blk off cap a m b n : Nat) (d0 d : Array α) (w0 w : World)
    (eg : ∀ args w, (callFunc g args).run P w = .ok (.enter g args) w) (hcmp : CmpLays P g cb enc kc cf blk off d0.size w0) (R : RowK enc kc w0 blk off d0) (hs : d0.size = d.size) (S : SWK enc kc w0 blk off d w)
    (ham : a + 1 < m) (hmb : m + 1 < b) (hb : b ≤ d.size) (hl : SortedIn (ltOf cf) a m d) (hr : SortedIn (ltOf cf) m b d) (hn : b - a ≤ n + 1) (ih : SymOK P kc enc cf g cb blk off cap d.size w0 n) (hsz : d.size < 1152921504606846976) (hq : (a + b) / 2 < m) :
    Calls P 86 #[.slice (some ⟨blk, off, none⟩) d.size cap, .int .i64 a, .int .i64 m, .int .i64 b, .func (.func g) #[] cb] w fun e w' => e = .returned (.tuple #[]) ∧ ∃ d', PermIn a b d d' ∧ SortedIn (ltOf cf) a b d' ∧ SWK enc kc w0 blk off d' w' := by
  have mixed := L.mixed; have aE := L.aE; have zE := L.zE; have qt_0 := L.qt_0; have qa_0 := L.qa_0; have qz_0 := L.qz_0; have qv_0 := L.qv_0; have qt_i := L.qt_i; have qa_i := L.qa_i; have qz_i := L.qz_i; have qv_i := L.qv_i; have qt_b := L.qt_b; have qa_b := L.qa_b; have qz_b := L.qz_b; have qv_b := L.qv_b; have qt_u := L.qt_u; have qa_u := L.qa_u; have qz_u := L.qz_u; have qv_u := L.qv_u; have qt_s := L.qt_s; have qa_s := L.qa_s; have qz_s := L.qz_s; have qv_s := L.qv_s; have qt_f := L.qt_f; have qa_f := L.qa_f; have qz_f := L.qz_f; have qv_f := L.qv_f; have eSw := L.e_swapRange; have eRo := L.e_rotate; have eSy := L.e_symMerge
  have HC : Aside (CmpLays P g cb enc kc cf blk off d0.size w0) := hcmp
  have S0 : Aside (SWK enc kc w0 blk off d w) := S
  have HS : Aside (SWO (ltOf cf)) := hO
  have HL : Aside (SortedIn (ltOf cf) a m d) := hl
  have HR : Aside (SortedIn (ltOf cf) m b d) := hr
  have IH : Aside (SymOK P kc enc cf g cb blk off cap d.size w0 n) := ih
  clear S hcmp hO hl hr ih
  obtain ⟨mid, hmid⟩ : ∃ x, x = (a + b) / 2 := ⟨_, rfl⟩
  have HM : Aside (mid = (a + b) / 2) := hmid
  have zmid : ((a : Int) + (b : Int)) / 2 = (mid : Int) := by omega
  have mid1 : 2 * mid ≤ a + b := by omega
  have mid2 : a + b ≤ 2 * mid + 1 := by omega
  rw [← hmid] at hq
  clear hmid
  have t1 : ((m : Int) - (a : Int) == 1) = false := by rw [beq_eq_false_iff_ne]; omega
  have t2 : ((b : Int) - (m : Int) == 1) = false := by rw [beq_eq_false_iff_ne]; omega
  obtain ⟨s0, hs0⟩ : ∃ x, x = mid + m - b := ⟨_, rfl⟩
  obtain ⟨r0, hr0⟩ : ∃ x, x = mid := ⟨_, rfl⟩
  have qz : (mid : Int) < (m : Int) := by omega
  have zs0 : (mid : Int) + (m : Int) - (b : Int) = (s0 : Int) := by omega
  have HR0 : Aside (r0 = mid) := hr0
  have HD : Aside ((m > mid ∧ s0 = mid + m - b ∧ r0 = mid) ∨ (m ≤ mid ∧ s0 = a ∧ r0 = m)) := Or.inl ⟨hq, hs0, hr0⟩
  have e1 : a ≤ s0 ∧ r0 ≤ mid ∧ r0 ≤ m ∧ mid + m ≤ b + s0 ∧ s0 ≤ r0 := by omega
  obtain ⟨e1, e2, e3, e4, e5⟩ := e1
  clear hs0 hr0
  go_enter L.f_symMerge, Tryz.ntmps86
  go_wp2
  go_loopg [20, 21] (r0 - s0) (fun k vi vj wr => ∃ (s r : Nat), vi = .int .i64 s ∧ vj = .int .i64 r ∧ s0 ≤ s ∧ s ≤ r ∧ r ≤ r0 ∧ r - s ≤ k ∧ Aside (∀ c, s0 ≤ c → c < s → (ltOf cf) d[mid + m - 1 - c]! d[c]! = false) ∧ Aside (∀ c, r ≤ c → c < r0 → (ltOf cf) d[mid + m - 1 - c]! d[c]! = true) ∧ Aside (SWK enc kc w0 blk off d wr))
  case atStart => exact ⟨s0, r0, by first | rfl | go_num | (congr 1; omega), by rw [HR0.out], Nat.le_refl _, e5, Nat.le_refl _, by omega, fun x h1 h2 => by omega, fun x h1 h2 => by omega, S0⟩
  case round =>
    clear S0
    obtain ⟨s, r, rfl, rfl, hs0, hsr, hr0, hk, F1, F2, S1⟩ := hrel
    by_cases hlt : s < r
    · have hltz : (s : Int) < (r : Int) := by omega
      obtain ⟨c, hh⟩ : ∃ c, c = (s + r) / 2 := ⟨_, rfl⟩
      have zh : ((s : Int) + (r : Int)) / 2 = (c : Int) := by omega
      have h1 : s ≤ c := by omega
      have h2 : c < r := by omega
      clear hh
      obtain ⟨pc, hpc⟩ : ∃ x, x = mid + m - 1 - c := ⟨_, rfl⟩
      have HP : Aside (mid + m - 1 - c = pc) := hpc.symm
      have zp : (mid : Int) + (m : Int) - 1 - (c : Int) = (pc : Int) := by omega
      have pc1 : pc + 1 ≤ b := by omega
      clear hpc
      cases hlv : (ltOf cf) d[pc]! d[c]! with
      | true =>
        have F3 : Aside (∀ x, c ≤ x → x < r0 → (ltOf cf) d[mid + m - 1 - x]! d[x]! = true) := fun x x1 x2 =>
          cut_up HS.out d a m b (mid + m - 1) c x HL.out HR.out x1 (by omega) (by omega) (by omega) (by omega) (by rw [HP.out]; exact hlv)
        obtain ⟨iNA, hiNA⟩ : ∃ q, q = pc := ⟨_, rfl⟩
        obtain ⟨jNA, hjNA⟩ : ∃ q, q = c := ⟨_, rfl⟩
        have eaA : ((pc : Int)).toNat = iNA := by omega
        have paA : (0 : Int) ≤ (pc : Int) := by omega
        have baA : (pc : Int) < (d.size : Int) := by omega
        have raA : IntKind.i64.wrap ((pc : Int)) = (pc : Int) := by rw [IntKind.wrap_i64]; omega
        have ecA : ((c : Int)).toNat = jNA := by omega
        have pcA : (0 : Int) ≤ (c : Int) := by omega
        have bcA : (c : Int) < (d.size : Int) := by omega
        have rcA : IntKind.i64.wrap ((c : Int)) = (c : Int) := by rw [IntKind.wrap_i64]; omega
        obtain ⟨xA, hxA⟩ : ∃ x, x = (d)[pc]! := ⟨_, rfl⟩
        obtain ⟨yA, hyA⟩ : ∃ x, x = (d)[c]! := ⟨_, rfl⟩
        have lAa : ∀ n os, Sem.run P (loadCellsFrom ⟨blk, off + iNA * kc, none⟩ 0 kc #[]) (grow (wr.drewN n) os) = .ok (enc xA).toArray (grow (wr.drewN n) os) := by rw [hiNA, hxA]; exact S1.out.ld R (by omega) P (pc) (by omega)
        have lAb : ∀ n os, Sem.run P (loadCellsFrom ⟨blk, off + jNA * kc, none⟩ 0 kc #[]) (grow (wr.drewN n) os) = .ok (enc yA).toArray (grow (wr.drewN n) os) := by rw [hjNA, hyA]; exact S1.out.ld R (by omega) P (c) (by omega)
        have hcA := S1.out.cmp HC.out (by omega) xA yA
        have hvA : cf xA yA < 0 := by rw [hxA, hyA]; exact of_decide_eq_true hlv
        have hdA : decide (cf xA yA < 0) = true := decide_eq_true hvA
        clear hxA hyA hiNA hjNA
        go_wp2_with fail
        go_quiet_grown (first | (go_at_fn g; refine Calls.grown_of (hcA _ _)))
        have S2 : Aside (SWK enc kc w0 blk off (d) (grow (wr.drewN nq) osq)) := S1.out.grown nq osq
        clear lAa lAb hcA S1
        generalize grow (wr.drewN nq) osq = w2 at S2 ⊢
        clear nq osq
        clear eaA ecA
        go_wp2
        go_roundg (c - s)
        case measure => omega
        case rel => exact ⟨s, c, rfl, by first | rfl | go_num | (congr 1; omega), hs0, by omega, by omega, by omega, F1, F3, S2⟩
      | false =>
        have F3 : Aside (∀ x, s0 ≤ x → x < c + 1 → (ltOf cf) d[mid + m - 1 - x]! d[x]! = false) := fun x x1 x2 =>
          cut_down HS.out d a m b (mid + m - 1) c x HL.out HR.out (by omega) (by omega) (by omega) (by omega) (by omega) (by rw [HP.out]; exact hlv)
        obtain ⟨iNB, hiNB⟩ : ∃ q, q = pc := ⟨_, rfl⟩
        obtain ⟨jNB, hjNB⟩ : ∃ q, q = c := ⟨_, rfl⟩
        have eaB : ((pc : Int)).toNat = iNB := by omega
        have paB : (0 : Int) ≤ (pc : Int) := by omega
        have baB : (pc : Int) < (d.size : Int) := by omega
        have raB : IntKind.i64.wrap ((pc : Int)) = (pc : Int) := by rw [IntKind.wrap_i64]; omega
        have ecB : ((c : Int)).toNat = jNB := by omega
        have pcB : (0 : Int) ≤ (c : Int) := by omega
        have bcB : (c : Int) < (d.size : Int) := by omega
        have rcB : IntKind.i64.wrap ((c : Int)) = (c : Int) := by rw [IntKind.wrap_i64]; omega
        obtain ⟨xB, hxB⟩ : ∃ x, x = (d)[pc]! := ⟨_, rfl⟩
        obtain ⟨yB, hyB⟩ : ∃ x, x = (d)[c]! := ⟨_, rfl⟩
        have lBa : ∀ n os, Sem.run P (loadCellsFrom ⟨blk, off + iNB * kc, none⟩ 0 kc #[]) (grow (wr.drewN n) os) = .ok (enc xB).toArray (grow (wr.drewN n) os) := by rw [hiNB, hxB]; exact S1.out.ld R (by omega) P (pc) (by omega)
        have lBb : ∀ n os, Sem.run P (loadCellsFrom ⟨blk, off + jNB * kc, none⟩ 0 kc #[]) (grow (wr.drewN n) os) = .ok (enc yB).toArray (grow (wr.drewN n) os) := by rw [hjNB, hyB]; exact S1.out.ld R (by omega) P (c) (by omega)
        have hcB := S1.out.cmp HC.out (by omega) xB yB
        have hvB : ¬ cf xB yB < 0 := by rw [hxB, hyB]; exact of_decide_eq_false hlv
        have hdB : decide (cf xB yB < 0) = false := decide_eq_false hvB
        clear hxB hyB hiNB hjNB
        go_wp2_with fail
        go_quiet_grown (first | (go_at_fn g; refine Calls.grown_of (hcB _ _)))
        have S2 : Aside (SWK enc kc w0 blk off (d) (grow (wr.drewN nq) osq)) := S1.out.grown nq osq
        clear lBa lBb hcB S1
        generalize grow (wr.drewN nq) osq = w2 at S2 ⊢
        clear nq osq
        clear eaB ecB
        go_wp2
        go_roundg (r - (c + 1))
        case measure => omega
        case rel => exact ⟨c + 1, r, by first | rfl | go_num | (congr 1; omega), rfl, by omega, by omega, hr0, by omega, F3, F2, S2⟩
    · have hltz : ¬ (s : Int) < (r : Int) := by omega
      have F2' : Aside (∀ c, s ≤ c → c < r0 → (ltOf cf) d[mid + m - 1 - c]! d[c]! = true) := by
        have : r = s := by omega
        rw [this] at F2; exact F2
      clear F2
      obtain ⟨en, hen⟩ : ∃ en, en = mid + m - s := ⟨_, rfl⟩
      have HE : Aside (en = mid + m - s) := hen
      have zE : (mid : Int) + (m : Int) - (s : Int) = (en : Int) := by omega
      have en1 : en + s ≤ mid + m := by omega
      have en2 : mid + m ≤ en + s := by omega
      have sr0 : s ≤ r0 := by omega
      have enb : en ≤ b := by omega
      clear hen
      have CP := fun (d1 : Array α) (Q : ∀ p, d1[p]! = d[rotIdx s m en p]!) => cut_parts HS.out d d1 a m b mid s s0 r0 (by omega) (by omega) HM.out HL.out HR.out HD.out hs0 sr0 F1.out F2'.out (fun p => by rw [← HE.out]; exact Q p)
      rw [← HE.out] at CP
      have HCP : Aside _ := CP
      clear CP F1 F2' hlt
      by_cases q1 : s < mid
      · have q2 : m < en := by omega
        by_cases x1 : a < s
        · by_cases y1 : en < b
          · have zsm : (s : Int) < (m : Int) := by omega
            have zmen : (m : Int) < (en : Int) := by omega
            have zas : (a : Int) < (s : Int) := by omega
            have zsmid : (s : Int) < (mid : Int) := by omega
            have zmiden : (mid : Int) < (en : Int) := by omega
            have zenb : (en : Int) < (b : Int) := by omega
            have hc := rotate_s L enc g cb blk off cap s m en d0 d w0 wr R hs S1.out (by omega) (by omega) (by omega) hsz
            clear S1
            go_wp2_with fail
            refine hc.mono ?_
            rintro e w1 ⟨rfl, d1, P1, Q1, S2⟩
            have S1 : Aside (SWK enc kc w0 blk off d1 w1) := S2
            have P01 : Aside (PermIn a b d d1) := permIn_mono _ _ _ _ _ _ (by omega) (by omega) hb P1
            have hd1 : d1.size = d.size := P1.1
            have K := HCP.out d1 Q1
            clear hc S2 P1 Q1 HCP
            have K1 : Aside _ := K.1
            have K2 : Aside _ := K.2.1
            have K3 : Aside _ := K.2.2.1
            have K4 : Aside _ := K.2.2.2.1
            have K5 : Aside _ := K.2.2.2.2
            clear K
            have hc := IH.out a s mid d1 w1 (by omega) (by omega) (by omega) (by omega) hd1 K1.out K2.out S1.out
            clear S1
            go_wp2_with fail
            refine hc.mono ?_
            rintro e w2 ⟨rfl, d2, P2, Q2, S2⟩
            have S1 : Aside (SWK enc kc w0 blk off d2 w2) := S2
            have P12 : Aside (PermIn a mid d1 d2) := P2
            have Q12 : Aside (SortedIn (ltOf cf) a mid d2) := Q2
            have hd2 : d2.size = d.size := P2.1.trans hd1
            clear hc S2 P2 Q2
            have K3' : Aside (SortedIn (ltOf cf) mid en d2) := bl_keep P12.out K3.out (Or.inr (Nat.le_refl _))
            have K4' : Aside (SortedIn (ltOf cf) en b d2) := bl_keep P12.out K4.out (Or.inr (by omega))
            clear K1 K2 K3 K4
            have hc := IH.out mid en b d2 w2 (by omega) (by omega) (by omega) (by omega) hd2 K3'.out K4'.out S1.out
            clear S1
            go_wp2_with fail
            refine hc.mono ?_
            rintro e w3 ⟨rfl, d3, P3, Q3, S2⟩
            have S1 : Aside (SWK enc kc w0 blk off d3 w3) := S2
            have G := glue d d1 d2 d3 a mid b (by omega) (by omega) (by omega) K5.out P01.out P12.out Q12.out P3 Q3
            have G1 : Aside _ := G.1
            have G2 : Aside _ := G.2
            clear hc S2 P3 Q3 G
            go_wp2
            go_end0
            exact ⟨rfl, d3, G1.out, G2.out, S1.out⟩
          · have zsm : (s : Int) < (m : Int) := by omega
            have zmen : (m : Int) < (en : Int) := by omega
            have zas : (a : Int) < (s : Int) := by omega
            have zsmid : (s : Int) < (mid : Int) := by omega
            have zmiden : (mid : Int) < (en : Int) := by omega
            have zenb : ¬ (en : Int) < (b : Int) := by omega
            have hc := rotate_s L enc g cb blk off cap s m en d0 d w0 wr R hs S1.out (by omega) (by omega) (by omega) hsz
            clear S1
            go_wp2_with fail
            refine hc.mono ?_
            rintro e w1 ⟨rfl, d1, P1, Q1, S2⟩
            have S1 : Aside (SWK enc kc w0 blk off d1 w1) := S2
            have P01 : Aside (PermIn a b d d1) := permIn_mono _ _ _ _ _ _ (by omega) (by omega) hb P1
            have hd1 : d1.size = d.size := P1.1
            have K := HCP.out d1 Q1
            clear hc S2 P1 Q1 HCP
            have K1 : Aside _ := K.1
            have K2 : Aside _ := K.2.1
            have K3 : Aside _ := K.2.2.1
            have K4 : Aside _ := K.2.2.2.1
            have K5 : Aside _ := K.2.2.2.2
            clear K
            have hc := IH.out a s mid d1 w1 (by omega) (by omega) (by omega) (by omega) hd1 K1.out K2.out S1.out
            clear S1
            go_wp2_with fail
            refine hc.mono ?_
            rintro e w2 ⟨rfl, d2, P2, Q2, S2⟩
            have S1 : Aside (SWK enc kc w0 blk off d2 w2) := S2
            have P12 : Aside (PermIn a mid d1 d2) := P2
            have Q12 : Aside (SortedIn (ltOf cf) a mid d2) := Q2
            have hd2 : d2.size = d.size := P2.1.trans hd1
            clear hc S2 P2 Q2
            have K3' : Aside (SortedIn (ltOf cf) mid en d2) := bl_keep P12.out K3.out (Or.inr (Nat.le_refl _))
            have K4' : Aside (SortedIn (ltOf cf) en b d2) := bl_keep P12.out K4.out (Or.inr (by omega))
            clear K1 K2 K3 K4
            have Q3 : SortedIn (ltOf cf) mid b d2 := by
              have := K3'.out
              rwa [show en = b by omega] at this
            have G := glue d d1 d2 d2 a mid b (by omega) (by omega) (by omega) K5.out P01.out P12.out Q12.out (permIn_refl _ _ _) Q3
            have G1 : Aside _ := G.1
            have G2 : Aside _ := G.2
            clear Q3 G
            go_wp2
            go_end0
            exact ⟨rfl, d2, G1.out, G2.out, S1.out⟩
        · by_cases y1 : en < b
          · have zsm : (s : Int) < (m : Int) := by omega
            have zmen : (m : Int) < (en : Int) := by omega
            have zas : ¬ (a : Int) < (s : Int) := by omega
            have zsmid : (s : Int) < (mid : Int) := by omega
            have zmiden : (mid : Int) < (en : Int) := by omega
            have zenb : (en : Int) < (b : Int) := by omega
            have hc := rotate_s L enc g cb blk off cap s m en d0 d w0 wr R hs S1.out (by omega) (by omega) (by omega) hsz
            clear S1
            go_wp2_with fail
            refine hc.mono ?_
            rintro e w1 ⟨rfl, d1, P1, Q1, S2⟩
            have S1 : Aside (SWK enc kc w0 blk off d1 w1) := S2
            have P01 : Aside (PermIn a b d d1) := permIn_mono _ _ _ _ _ _ (by omega) (by omega) hb P1
            have hd1 : d1.size = d.size := P1.1
            have K := HCP.out d1 Q1
            clear hc S2 P1 Q1 HCP
            have K1 : Aside _ := K.1
            have K2 : Aside _ := K.2.1
            have K3 : Aside _ := K.2.2.1
            have K4 : Aside _ := K.2.2.2.1
            have K5 : Aside _ := K.2.2.2.2
            clear K
            have P12 : Aside (PermIn a mid d1 d1) := permIn_refl _ _ _
            have Q12 : Aside (SortedIn (ltOf cf) a mid d1) := by
              have := K2.out
              rwa [show s = a by omega] at this
            have hd2 : d1.size = d.size := hd1
            have K3' : Aside (SortedIn (ltOf cf) mid en d1) := bl_keep P12.out K3.out (Or.inr (Nat.le_refl _))
            have K4' : Aside (SortedIn (ltOf cf) en b d1) := bl_keep P12.out K4.out (Or.inr (by omega))
            clear K1 K2 K3 K4
            have hc := IH.out mid en b d1 w1 (by omega) (by omega) (by omega) (by omega) hd2 K3'.out K4'.out S1.out
            clear S1
            go_wp2_with fail
            refine hc.mono ?_
            rintro e w3 ⟨rfl, d3, P3, Q3, S2⟩
            have S1 : Aside (SWK enc kc w0 blk off d3 w3) := S2
            have G := glue d d1 d1 d3 a mid b (by omega) (by omega) (by omega) K5.out P01.out P12.out Q12.out P3 Q3
            have G1 : Aside _ := G.1
            have G2 : Aside _ := G.2
            clear hc S2 P3 Q3 G
            go_wp2
            go_end0
            exact ⟨rfl, d3, G1.out, G2.out, S1.out⟩
          · have zsm : (s : Int) < (m : Int) := by omega
            have zmen : (m : Int) < (en : Int) := by omega
            have zas : ¬ (a : Int) < (s : Int) := by omega
            have zsmid : (s : Int) < (mid : Int) := by omega
            have zmiden : (mid : Int) < (en : Int) := by omega
            have zenb : ¬ (en : Int) < (b : Int) := by omega
            have hc := rotate_s L enc g cb blk off cap s m en d0 d w0 wr R hs S1.out (by omega) (by omega) (by omega) hsz
            clear S1
            go_wp2_with fail
            refine hc.mono ?_
            rintro e w1 ⟨rfl, d1, P1, Q1, S2⟩
            have S1 : Aside (SWK enc kc w0 blk off d1 w1) := S2
            have P01 : Aside (PermIn a b d d1) := permIn_mono _ _ _ _ _ _ (by omega) (by omega) hb P1
            have hd1 : d1.size = d.size := P1.1
            have K := HCP.out d1 Q1
            clear hc S2 P1 Q1 HCP
            have K1 : Aside _ := K.1
            have K2 : Aside _ := K.2.1
            have K3 : Aside _ := K.2.2.1
            have K4 : Aside _ := K.2.2.2.1
            have K5 : Aside _ := K.2.2.2.2
            clear K
            have P12 : Aside (PermIn a mid d1 d1) := permIn_refl _ _ _
            have Q12 : Aside (SortedIn (ltOf cf) a mid d1) := by
              have := K2.out
              rwa [show s = a by omega] at this
            have hd2 : d1.size = d.size := hd1
            have K3' : Aside (SortedIn (ltOf cf) mid en d1) := bl_keep P12.out K3.out (Or.inr (Nat.le_refl _))
            have K4' : Aside (SortedIn (ltOf cf) en b d1) := bl_keep P12.out K4.out (Or.inr (by omega))
            clear K1 K2 K3 K4
            have Q3 : SortedIn (ltOf cf) mid b d1 := by
              have := K3'.out
              rwa [show en = b by omega] at this
            have G := glue d d1 d1 d1 a mid b (by omega) (by omega) (by omega) K5.out P01.out P12.out Q12.out (permIn_refl _ _ _) Q3
            have G1 : Aside _ := G.1
            have G2 : Aside _ := G.2
            clear Q3 G
            go_wp2
            go_end0
            exact ⟨rfl, d1, G1.out, G2.out, S1.out⟩
      · have zsm : (s : Int) < (m : Int) := by omega
        have zmen : ¬ (m : Int) < (en : Int) := by omega
        have zas : (a : Int) < (s : Int) := by omega
        have zsmid : ¬ (s : Int) < (mid : Int) := by omega
        have zmiden : (mid : Int) < (en : Int) := by omega
        have zenb : (en : Int) < (b : Int) := by omega
        have K := HCP.out d (fun p => by rw [rot_id s m en p (by omega) (by omega) (by omega)])
        have P01 : Aside (PermIn a b d d) := permIn_refl _ _ _
        clear HCP
        have K1 : Aside _ := K.1
        have K2 : Aside _ := K.2.1
        have K3 : Aside _ := K.2.2.1
        have K4 : Aside _ := K.2.2.2.1
        have K5 : Aside _ := K.2.2.2.2
        clear K
        have P12 : Aside (PermIn a mid d d) := permIn_refl _ _ _
        have Q12 : Aside (SortedIn (ltOf cf) a mid d) := by
          have := K1.out
          rwa [show s = mid by omega] at this
        have K3' : Aside (SortedIn (ltOf cf) mid en d) := bl_keep P12.out K3.out (Or.inr (Nat.le_refl _))
        have K4' : Aside (SortedIn (ltOf cf) en b d) := bl_keep P12.out K4.out (Or.inr (by omega))
        clear K1 K2 K3 K4
        have hc := IH.out mid en b d wr (by omega) (by omega) (by omega) (by omega) rfl K3'.out K4'.out S1.out
        clear S1
        go_wp2_with fail
        refine hc.mono ?_
        rintro e w3 ⟨rfl, d3, P3, Q3, S2⟩
        have S1 : Aside (SWK enc kc w0 blk off d3 w3) := S2
        have G := glue d d d d3 a mid b (by omega) (by omega) (by omega) K5.out P01.out P12.out Q12.out P3 Q3
        have G1 : Aside _ := G.1
        have G2 : Aside _ := G.2
        clear hc S2 P3 Q3 G
        go_wp2
        go_end0
        exact ⟨rfl, d3, G1.out, G2.out, S1.out⟩
end Go.Proofs.YtmoldgmfhcmceaaGreatDoor
end
