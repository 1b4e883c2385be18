/-
  Texts put together (merge.py): FStab, ZSort.
-/
import Derived.Test.YtmoldgmfhcmceaaGreatDoorMp25
import Derived.Test.YtmoldgmfhcmceaaGreatDoorMp13
import Derived.Test.YtmoldgmfhcmceaaGreatDoorMp20
/-
  What slices.stableCmpFunc leaves, as a contract: the row holds a permutation of what it held, sorted.
-/
section
namespace Go.Proofs.YtmoldgmfhcmceaaGreatDoor
open Go.Shelf Go.RowKit Go.Lib Go.Sort
variable {P : Program} {α : Type} [Inhabited α]

theorem sym_all {kc : Nat} (L : KLays P kc) (enc : α → List Value) (cf : α → α → Int) (hO : SWO (ltOf cf)) (g : Nat) (cb : Array Value) (blk off cap : Nat) (d0 : Array α) (w0 : World)
    (eg : ∀ args w, (callFunc g args).run P w = .ok (.enter g args) w) (hcmp : CmpLays P g cb enc kc cf blk off d0.size w0) (R : RowK enc kc w0 blk off d0) (hsz : d0.size < 1152921504606846976) (n : Nat) : SymOK P kc enc cf g cb blk off cap d0.size w0 n := by
  induction n with
  | zero => intro a m b d w h1 h2 h3; omega
  | succ n ih =>
    intro a m b d w h1 h2 h3 hb hd hl hr S
    by_cases c1 : m = a + 1
    · subst c1
      have h := symLeft L enc cf hO g cb blk off cap a b d0 d w0 w eg hcmp R hd.symm S h3 hb hr (by omega)
      rw [hd] at h
      exact h
    · by_cases c2 : b = m + 1
      · subst c2
        have h := symRight L enc cf hO g cb blk off cap a m d0 d w0 w eg hcmp R hd.symm S (by omega) hb hl (by omega)
        rw [hd] at h
        exact h
      · rw [← hd] at ih
        have h := symBig L enc cf hO g cb blk off cap a m b n d0 d w0 w eg hcmp R hd.symm S (by omega) (by omega) hb hl hr h1 ih (by omega)
        rw [hd] at h
        exact h

set_option maxHeartbeats 2000000 in
set_option maxRecDepth 1000000 in
theorem stable_s (enc : α → List Value) (cf : α → α → Int) (hO : SWO (ltOf cf)) (g : Nat) (cb : Array Value) (blk off cap n : Nat) (d0 : Array α) (w0 : World)
    (eg : ∀ args w, (callFunc g args).run Tryz.prog w = .ok (.enter g args) w) (hcmp : CmpLays Tryz.prog g cb enc 5 cf blk off d0.size w0) (R : RowK enc 5 w0 blk off d0) (hn : d0.size = n) (hsz : n < 1152921504606846976) :
    Calls Tryz.prog 62 #[.slice (some ⟨blk, off, none⟩) n cap, .int .i64 n, .func (.func g) #[] cb] w0 fun e w' => e = .returned (.tuple #[]) ∧ ∃ d', PermIn 0 n d0 d' ∧ SortedIn (ltOf cf) 0 n d' ∧ SWK enc 5 w0 blk off d' w' := by
  have HI : Aside (∀ (a b : Nat) (d : Array α) (w : World), d.size = n → a ≤ b → b ≤ n → SWK enc 5 w0 blk off d w → Calls Tryz.prog 85 #[.slice (some ⟨blk, off, none⟩) n cap, .int .i64 a, .int .i64 b, .func (.func g) #[] cb] w fun e w' => e = .returned (.tuple #[]) ∧ ∃ d', PermIn a b d d' ∧ SortedIn (ltOf cf) a b d' ∧ SWK enc 5 w0 blk off d' w') := by
    show ∀ (a b : Nat) (d : Array α) (w : World), _
    intro a b d w hd hab hb S
    have h := ins_s hO enc g cb blk off cap a b d0 d w0 w eg hcmp R (by omega) S hab (by omega) (by omega)
    rw [hd] at h
    have k := insertionSort_holds hO d a b hab (by omega)
    exact h.mono fun e w' ⟨h1, h2⟩ => ⟨h1, _, k.1, k.2, h2⟩
  have HM : Aside (SymOK Tryz.prog 5 enc cf g cb blk off cap n w0 n) := by
    have := sym_all klays enc cf hO g cb blk off cap d0 w0 eg hcmp R (by omega) n
    rw [hn] at this
    exact this
  have S0 : Aside (SWK enc 5 w0 blk off d0 w0) := SWK.start R.hH
  have HN : Aside (d0.size = n) := hn
  clear hcmp hO eg R hn
  go_enter Tryz.func62, Tryz.ntmps62
  go_wp2
  go_loopg [7, 8] (n + 1) (fun k va vb wr => ∃ (A B t : Nat) (d : Array α), va = .int .i64 A ∧ vb = .int .i64 B ∧ B ≤ A + 20 ∧ A + 20 ≤ B ∧ A ≤ n ∧ n + 1 - A ≤ k ∧ Aside (A = t * 20) ∧ Aside (d.size = n) ∧ Aside (PermIn 0 n d0 d) ∧ Aside (BlTo (ltOf cf) 20 t n d) ∧ Aside (SWK enc 5 w0 blk off d wr))
  case atStart => exact ⟨0, 20, 0, d0, rfl, rfl, by omega, by omega, Nat.zero_le _, by omega, (show 0 = 0 * 20 by omega), HN.out, permIn_refl _ _ _, fun k hk => by omega, S0⟩
  case round =>
    clear S0
    obtain ⟨A, B, t, d, rfl, rfl, hB1, hB2, hAn, hk, HA, HD, P1, B1, S1⟩ := hrel
    by_cases hle : B ≤ n
    · have hlez : (B : Int) ≤ (n : Int) := by omega
      have hc := HI.out A B d wr HD.out (by omega) hle S1.out
      clear S1
      go_wp2_with fail
      refine hc.mono ?_
      rintro e w' ⟨rfl, d', P2, Q2, S2⟩
      have S3 : Aside _ := S2
      have hd' : Aside (d'.size = n) := P2.1.trans HD.out
      have B2 : Aside (BlTo (ltOf cf) 20 (t + 1) n d') := by
        have eB : B = t * 20 + 20 := by have := HA.out; omega
        have eA : A = t * 20 := HA.out
        rw [eA, eB] at P2 Q2
        exact blTo_step B1.out P2 Q2
      have P3 : Aside (PermIn 0 n d0 d') := permIn_trans _ _ _ _ _ P1.out (permIn_mono _ _ _ _ _ _ (Nat.zero_le _) hle (by rw [HD.out]; exact Nat.le_refl _) P2)
      clear hc S2 P2 Q2
      go_wp2
      go_roundg (gk - 1)
      case measure => omega
      case rel => exact ⟨B, B + 20, t + 1, d', rfl, by first | go_num | (congr 1; omega), by omega, by omega, hle, by omega, (show B = (t + 1) * 20 by have := HA.out; omega), hd', P3, B2, S3⟩
    · have hlez : ¬ (B : Int) ≤ (n : Int) := by omega
      have hc := HI.out A n d wr HD.out hAn (Nat.le_refl _) S1.out
      clear S1
      go_wp2_with fail
      refine hc.mono ?_
      rintro e w' ⟨rfl, d', P2, Q2, S2⟩
      have S3 : Aside _ := S2
      have hd' : Aside (d'.size = n) := P2.1.trans HD.out
      have B2 : Aside (Bl (ltOf cf) 20 n d') := by
        have eA : A = t * 20 := HA.out
        rw [eA] at P2 Q2
        exact blTo_end B1.out (by omega) P2 Q2
      have P3 : Aside (PermIn 0 n d0 d') := permIn_trans _ _ _ _ _ P1.out (permIn_mono _ _ _ _ _ _ (Nat.zero_le _) (Nat.le_refl _) (by rw [HD.out]; exact Nat.le_refl _) P2)
      clear hc S2 P2 Q2 P1 B1 HD HA
      go_wp2
      go_loopg [6] (n + 1) (fun k vs wq => ∃ (bs : Nat) (dd : Array α), vs = .int .i64 bs ∧ 1 ≤ bs ∧ bs ≤ 2 * n + 20 ∧ n + 1 - bs ≤ k ∧ Aside (dd.size = n) ∧ Aside (PermIn 0 n d0 dd) ∧ Aside (Bl (ltOf cf) bs n dd) ∧ Aside (SWK enc 5 w0 blk off dd wq))
      case atStart => exact ⟨20, d', rfl, by omega, by omega, by omega, hd', P3, B2, S3⟩
      case round =>
        clear S3 hd' B2 P3
        obtain ⟨bs, dd, rfl, hb1, hb2, hk2, HD, P1, B1, S1⟩ := hrel
        by_cases hlt : bs < n
        · have hltz : (bs : Int) < (n : Int) := by omega
          obtain ⟨ga, hga⟩ : ∃ ga : Nat, ga = gk := ⟨_, rfl⟩
          have HGA : Aside (ga = gk) := hga
          have hk3 : n + 1 - bs ≤ ga := by omega
          clear hga
          go_wp2
          go_loopg [7, 8] (n + 1) (fun k va vb wr2 => ∃ (A B t : Nat) (d : Array α), va = .int .i64 A ∧ vb = .int .i64 B ∧ B ≤ A + 2 * bs ∧ A + 2 * bs ≤ B ∧ A ≤ n ∧ n + 1 - A ≤ k ∧ Aside (A = t * (2 * bs)) ∧ Aside (d.size = n) ∧ Aside (PermIn 0 n d0 d) ∧ Aside (BlMid (ltOf cf) bs t n d) ∧ Aside (SWK enc 5 w0 blk off d wr2))
          case atStart => exact ⟨0, 2 * bs, 0, dd, rfl, by first | rfl | go_num | (congr 1; omega), by omega, by omega, Nat.zero_le _, by omega, (show 0 = 0 * (2 * bs) by omega), HD, P1, blMid_start B1.out, S1⟩
          case round =>
            clear S1 HD P1 B1
            obtain ⟨A, B, t, d, rfl, rfl, hB1, hB2, hAn, hk4, HA, HD, P1, B1, S1⟩ := hrel
            obtain ⟨M, hM⟩ : ∃ M : Nat, M = A + bs := ⟨_, rfl⟩
            have HMM : Aside (M = A + bs) := hM
            have zM : (A : Int) + (bs : Int) = (M : Int) := by omega
            have m1 : M ≤ A + bs := by omega
            have m2 : A + bs ≤ M := by omega
            clear hM
            have BP := blMid_parts B1.out
            rw [← HA.out, ← HMM.out] at BP
            by_cases hle : B ≤ n
            · have hlez : (B : Int) ≤ (n : Int) := by omega
              have BP' : SortedIn (ltOf cf) A M d ∧ SortedIn (ltOf cf) M B d := ⟨sorted_sub BP.1 (Nat.le_refl _) (by omega), sorted_sub BP.2 (Nat.le_refl _) (by omega)⟩
              have hc := HM.out A M B d wr (by omega) (by omega) (by omega) (by rw [HD.out]; exact hle) HD.out BP'.1 BP'.2 S1.out
              clear S1 BP BP'
              go_wp2_with fail
              refine hc.mono ?_
              rintro e w' ⟨rfl, d', P2, Q2, S2⟩
              have S3 : Aside _ := S2
              have hd' : Aside (d'.size = n) := P2.1.trans HD.out
              have B2 : Aside (BlMid (ltOf cf) bs (t + 1) n d') := by
                have eB : B = t * (2 * bs) + 2 * bs := by have := HA.out; omega
                have eA : A = t * (2 * bs) := HA.out
                rw [eA, eB] at P2 Q2
                exact blMid_step B1.out P2 Q2
              have P3 : Aside (PermIn 0 n d0 d') := permIn_trans _ _ _ _ _ P1.out (permIn_mono _ _ _ _ _ _ (Nat.zero_le _) hle (by rw [HD.out]; exact Nat.le_refl _) P2)
              clear hc S2 P2 Q2
              go_wp2
              go_roundg (gk - 1)
              case measure => omega
              case rel => exact ⟨B, B + 2 * bs, t + 1, d', rfl, by first | go_num | (congr 1; omega), by omega, by omega, hle, by omega, (show B = (t + 1) * (2 * bs) by have := HA.out; rw [Nat.add_mul, Nat.one_mul]; omega), hd', P3, B2, S3⟩
            · have hlez : ¬ (B : Int) ≤ (n : Int) := by omega
              by_cases hlm : M < n
              · have hlmz : (M : Int) < (n : Int) := by omega
                have BP' : SortedIn (ltOf cf) A M d ∧ SortedIn (ltOf cf) M n d := ⟨sorted_sub BP.1 (Nat.le_refl _) (by omega), sorted_sub BP.2 (Nat.le_refl _) (by omega)⟩
                have hc := HM.out A M n d wr (by omega) (by omega) (by omega) (by rw [HD.out]; exact Nat.le_refl _) HD.out BP'.1 BP'.2 S1.out
                clear S1 BP BP'
                go_wp2_with fail
                refine hc.mono ?_
                rintro e w' ⟨rfl, d', P2, Q2, S2⟩
                have S3 : Aside _ := S2
                have hd' : Aside (d'.size = n) := P2.1.trans HD.out
                have B2 : Aside (Bl (ltOf cf) (bs * 2) n d') := by
                  have eA : A = t * (2 * bs) := HA.out
                  rw [eA] at P2 Q2
                  rw [Nat.mul_comm bs 2]
                  exact blMid_end B1.out (by omega) P2 Q2
                have P3 : Aside (PermIn 0 n d0 d') := permIn_trans _ _ _ _ _ P1.out (permIn_mono _ _ _ _ _ _ (Nat.zero_le _) (Nat.le_refl _) (by rw [HD.out]; exact Nat.le_refl _) P2)
                clear hc S2 P2 Q2
                go_wp2
                go_roundg (ga - 1)
                case measure => have := HGA.out; omega
                case rel => exact ⟨bs * 2, d', by first | go_num | (congr 1; omega), by omega, by omega, by omega, hd', P3, B2, S3⟩
              · have hlmz : ¬ (M : Int) < (n : Int) := by omega
                have B2 : Aside (Bl (ltOf cf) (bs * 2) n d) := by
                  rw [Nat.mul_comm bs 2]
                  exact blMid_last B1.out (by omega) (by have := HA.out; omega)
                go_wp2
                go_roundg (ga - 1)
                case measure => have := HGA.out; omega
                case rel => exact ⟨bs * 2, d, by first | go_num | (congr 1; omega), by omega, by omega, by omega, HD, P1, B2, S1⟩
        · have hltz : ¬ (bs : Int) < (n : Int) := by omega
          go_wp2
          go_end0
          exact ⟨rfl, dd, P1.out, bl_end B1.out (by omega), S1.out⟩
end Go.Proofs.YtmoldgmfhcmceaaGreatDoor
end

/-
  What slices.SortStableFunc leaves of a row of fees, with the order of rows, as a contract: a permutation, in order.
-/
section
set_option linter.unusedSimpArgs false
set_option linter.unusedVariables false
set_option maxRecDepth 100000
namespace Go.Proofs.YtmoldgmfhcmceaaGreatDoor.Fe
open Go.Shelf Go.RowKit Go.Lib Go.Sort
open Wo (keepB box_cell box_two heap_far below_alloc below_trans)

abbrev Q5 := Tx × Tx × Int × Int × Int
def toF (x : Q5) : Fee := ⟨x.1, x.2.1, x.2.2.1, x.2.2.2.1, x.2.2.2.2⟩
def ofF (f : Fee) : Q5 := (f.proc, f.mod, f.net, f.frm, f.cents)
def enc5 (x : Q5) : List Value := fc (toF x)
def cf5 (x y : Q5) : Int := ordV (toF x) (toF y)
theorem lt5 (x y : Q5) : ltOf cf5 x y = aheadB (toF x) (toF y) := by
  unfold ltOf cf5
  rw [Bool.eq_iff_iff, decide_eq_true_eq]
  exact ord_neg _ _
theorem swo5 : SWO (ltOf cf5) := {
  irrefl := fun x => by rw [lt5]; exact ahead_irr ⟨rfl, rfl, rfl, rfl⟩
  trans := fun x y z h1 h2 => by rw [lt5] at *; exact ahead_trans h1 h2
  ntrans := fun x y z h1 h2 => by
    rw [lt5] at *
    cases h : aheadB (toF x) (toF z) with
    | false => rfl
    | true =>
      rcases ahead_tri (toF x) (toF y) with k | k | k
      · rw [h1] at k; cases k
      · rw [← (ahead_same (c := toF z) k).1, h] at h2; cases h2
      · rw [ahead_trans k h] at h2; cases h2 }
theorem eg5 : ∀ args w, (callFunc 35 args).run Tryz.prog w = .ok (.enter 35 args) w := Tryz.call35
theorem cmp5 (blk off size : Nat) (w : World) : CmpLays Tryz.prog 35 #[] enc5 5 cf5 blk off size w := fun m os dk _ x y => by
  have h := pcmp_any (toF x) (toF y) (sortWorldK enc5 5 w blk off m dk os)
  exact h.mono fun e w' ⟨h1, h2⟩ => ⟨h1, grew_grow h2⟩
theorem holds_own {w : World} {g : Nat} {cur : Array Value} {l : List Fee} (hg : w.heap[g]? = some (.cells cur 45 (0, 0))) (ht : cur.toList.take (l.length * 5) = fcs l) : HoldsK enc5 5 w g 0 (l.map ofF).toArray := by
  intro j hj
  rw [size_flatK] at hj
  have hsz : (l.map ofF).toArray.size = l.length := by simp
  rw [hsz] at hj
  refine ⟨?_, Lib.frozen_of_heap hg _⟩
  rw [get_flatK _ _ _ _ (by rw [hsz]; exact hj)]
  have hi : j / 5 < l.length := by omega
  have hm : j % 5 < 5 := by omega
  have e1 : (l.map ofF).toArray[j / 5]! = ofF l[j / 5] := by
    rw [getElem!_pos _ _ (by rw [hsz]; exact hi)]
    simp
  rw [e1]
  have q := fcs_at l (j / 5) l[j / 5] (List.getElem?_eq_getElem hi) (j % 5) hm
  rw [show j / 5 * 5 + j % 5 = j by omega, ← ht, List.getElem?_take, if_pos hj] at q
  rw [Nat.zero_add, cell_of_row w g _ cur _ (0, 0) hg]
  have e2 : (fc l[j / 5]).length = 5 := rfl
  show cur[j]? = some (id ((fc l[j / 5])[j % 5]!))
  rw [getElem!_pos _ _ (by rw [e2]; exact hm)]
  have q2 : (fc l[j / 5])[j % 5]? = some ((fc l[j / 5])[j % 5]'(by rw [e2]; exact hm)) := List.getElem?_eq_getElem _
  rw [q2] at q
  simpa using q
theorem fes_holds {w : World} {g n cap : Nat} {d : Array Q5} (h : HoldsK enc5 5 w g 0 d) (hn : d.size = n) (hg : g < w.heap.size) (h1 : n ≤ cap) (h2 : cap ≤ maxLen) : FesAt All w (.slice (some ⟨g, 0, none⟩) n cap) (d.toList.map toF) := by
  have hl : (d.toList.map toF).length = n := by simp [hn]
  refine ⟨_, cap, by rw [hl], by omega, h2, Or.inr ⟨g, 0, rfl, trivial, hg, fun j x hj => ?_⟩⟩
  have hjl : j < d.size := by have := (List.getElem?_eq_some_iff.1 hj).1; omega
  have hx : toF d[j]! = x := by
    rw [List.getElem?_map] at hj
    rw [getElem!_pos d j hjl]
    simpa [hjl] using hj
  have e : ∀ i, i < 5 → w.cell? ⟨g, 0 + j * 5 + i, none⟩ = (fc x)[i]? := fun i hi => by
    have e2 : (fc x).length = 5 := rfl
    have hv : (enc5 d[j]!)[i]? = some ((fc x)[i]'(by rw [e2]; exact hi)) := by
      show (fc (toF d[j]!))[i]? = _
      rw [hx]
      exact List.getElem?_eq_getElem _
    have := HoldsK.cells h (fun _ => rfl) hjl i _ hv
    rw [show (⟨g, 0 + j * 5, none⟩ : Addr).add i = ⟨g, 0 + j * 5 + i, none⟩ by unfold Addr.add; split <;> simp_all] at this
    rw [this]
    exact (List.getElem?_eq_getElem _).symm
  exact ⟨e 0 (by omega), e 1 (by omega), e 2 (by omega), e 3 (by omega), e 4 (by omega)⟩
theorem below_SWK {B g off : Nat} {d : Array Q5} {w w3 : World} (hg : B ≤ g) (hgs : g < w.heap.size) (S : SWK enc5 5 w g off d w3) : Go.RowKit.Below B w w3 := by
  obtain ⟨m, os, rfl⟩ := S
  refine ⟨rfl, rfl, rfl, ?_, fun k hk => ?_⟩
  · unfold sortWorldK; rw [size_grow, size_putRowK]; exact Nat.le_add_right _ _
  · unfold sortWorldK
    rw [heap_grow_old _ _ (by rw [size_putRowK]; show k < w.heap.size; omega)]
    show (mapBlock (Sort.ahead w m) g _).heap[k]? = _
    unfold mapBlock
    rw [Array.getElem?_modify, if_neg (by omega)]
    rfl
theorem ins0 (f : Value) (w : World) : Calls Tryz.prog 85 #[.slice none 0 0, .int .i64 0, .int .i64 0, f] w fun e w' => e = .returned (.tuple #[]) ∧ w' = w := by
  go_enter Tryz.func85, Tryz.ntmps85
  go_wp2
  refine wp_loop_rounds 1 ?_
  rw [rounds_succ]
  go_wp2
  go_end0
  exact ⟨rfl, rfl⟩
theorem stab0 (f : Value) (w : World) : Calls Tryz.prog 62 #[.slice none 0 0, .int .i64 0, f] w fun e w' => e = .returned (.tuple #[]) ∧ w' = w := by
  go_enter Tryz.func62, Tryz.ntmps62
  go_wp2
  refine wp_loop_rounds 1 ?_
  rw [rounds_succ]
  go_wp2_with (go_at_call 85; refine (ins0 _ _).mono ?_; rintro e w' ⟨rfl, rfl⟩)
  refine wp_loop_rounds 1 ?_
  rw [rounds_succ]
  go_wp2
  go_end0
  exact ⟨rfl, rfl⟩
set_option maxHeartbeats 2000000 in
theorem sort_any (l : List Fee) (hl : l.length ≤ 1000000) (v : Value) (B : Nat) (w : World) (ho : w.ownsRow B 45 5 v l.length (fcs l)) :
    Calls Tryz.prog 34 #[v, .func (.func 35) #[] #[]] w fun e w' => e = .returned (.tuple #[]) ∧ ∃ l', l'.Perm l ∧ Wk l' ∧ FesAt All w' v l' ∧ Go.RowKit.Below B w w' := by
  obtain ⟨hln, ho⟩ := ho
  rcases ho with ⟨rfl, h0⟩ | ⟨g, cap, cur, rfl, hB, hg, h1, h2, hs, ht⟩
  · have e : l = [] := List.length_eq_zero_iff.1 h0
    subst e
    go_enter Tryz.func34, Tryz.ntmps34
    go_wp2_with (go_at_call 62; refine (stab0 _ _).mono ?_; rintro e w' ⟨rfl, rfl⟩)
    go_end0
    exact ⟨rfl, [], List.Perm.refl _, List.Pairwise.nil, FesAt.nil _ _, Go.RowKit.Below.refl _ _⟩
  · have hgs : g < w.heap.size := (Array.getElem?_eq_some_iff.1 hg).1
    have hH := holds_own hg ht
    have hsz : (l.map ofF).toArray.size = l.length := by simp
    have hc := stable_s enc5 cf5 swo5 35 #[] g 0 cap l.length (l.map ofF).toArray w eg5 (cmp5 g 0 _ w) ⟨fun _ => rfl, fun x u hu => fcs_one [toF x] u (by simpa [fcs, enc5, fc] using hu), hH, hgs⟩ hsz (by omega)
    have HH := Lib.hid hH
    have HG := Lib.hid (And.intro hgs (And.intro h1 h2))
    clear hH hg ht hs hln
    go_enter Tryz.func34, Tryz.ntmps34
    go_wp2_with fail
    refine hc.mono ?_
    rintro e w' ⟨rfl, d', HP, HQ, HS⟩
    have HP := Lib.hid HP
    have HQ := Lib.hid HQ
    have HS := Lib.hid HS
    clear hc
    go_wp2
    go_end0
    have hds : d'.size = l.length := by rw [HP.out.1, hsz]
    refine ⟨rfl, d'.toList.map toF, ?_, ?_, fes_holds (HS.out.holds HG.out.1 HH.out (by rw [hds, hsz])) hds (HS.out.lt HG.out.1) HG.out.2.1 HG.out.2.2, below_SWK hB HG.out.1 HS.out⟩
    · have hp := HP.out.2.2
      rw [← hds] at hp
      have e1 : (d'.extract 0 d'.size).toList = d'.toList := by simp
      have e2 : ((l.map ofF).toArray.extract 0 d'.size).toList = l.map ofF := by
        have : (l.map ofF).toArray.extract 0 (l.map ofF).toArray.size = (l.map ofF).toArray := Array.extract_size
        rw [hds, ← hsz, this]
      rw [e1, e2] at hp
      have := hp.map toF
      rw [List.map_map] at this
      have e3 : l.map (toF ∘ ofF) = l := by
        conv => rhs; rw [← List.map_id l]
        rfl
      rwa [e3] at this
    · unfold Wk
      rw [List.pairwise_iff_getElem]
      intro i j hi hj hij
      have hi' : i < d'.size := by simpa using hi
      have hj' : j < d'.size := by simpa using hj
      have := HQ.out i j (Nat.zero_le _) hij (by omega)
      rw [lt5, getElem!_pos d' i hi', getElem!_pos d' j hj'] at this
      simpa using this
end Go.Proofs.YtmoldgmfhcmceaaGreatDoor.Fe
end
