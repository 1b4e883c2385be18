/-
  What the reference's Ahead, Get and left answer, as contracts: for all rows.
-/
import Derived.Test.YtdppelkfcnbgbaaYCmp
import Derived.Test.YtdppelkfcnbgbaaYGet
set_option linter.unusedSimpArgs false
set_option linter.unusedVariables false
set_option maxRecDepth 100000
namespace Go.Proofs.Ytdppelkfcnbgbaa.Ac
open Go.RowKit

theorem two_alloc (w : World) (a b : Obj) : Below w.heap.size w ((w.alloc a).alloc b) := below_trans (below_alloc _ _) (below_alloc _ _)
set_option maxHeartbeats 2000000 in
theorem rahead_any (a b : Row) (w : World) : Calls Try.prog 29 #[rwv a, rwv b] w fun e w' => e = .returned (.bool (aheadB a b)) ∧ Below w.heap.size w w' := by
  by_cases h1 : a.year = b.year
  · have n1 : (a.year != b.year) = false := by simp [h1]
    by_cases h2 : a.fam = b.fam
    · have e : aheadB a b = lessT a.who b.who := by unfold aheadB; rw [if_pos h1, if_pos h2]
      have e2 : lessT a.who b.who = Op.bytesLess (mk a.who).toList (mk b.who).toList := by rw [mk_list', mk_list']; rfl
      rw [e, e2]
      unfold rwv
      rw [h2]
      clear h1 h2 e e2
      generalize b.fam = F
      cases F
      · go_enter Try.func29, Try.ntmps29
        go_wp2
        go_ret
        exact ⟨rfl, two_alloc _ _ _⟩
      · go_enter Try.func29, Try.ntmps29
        go_wp2
        go_ret
        exact ⟨rfl, two_alloc _ _ _⟩
    · have e : aheadB a b = b.fam := by unfold aheadB; rw [if_pos h1, if_neg h2]
      rw [e]
      clear h1 e
      cases hb : b.fam with
      | true =>
        have ha : a.fam = false := by cases q : a.fam; rfl; rw [q, hb] at h2; exact absurd rfl h2
        unfold rwv
        rw [ha, hb]
        clear h2
        go_enter Try.func29, Try.ntmps29
        go_wp2
        go_ret
        exact ⟨rfl, two_alloc _ _ _⟩
      | false =>
        have ha : a.fam = true := by cases q : a.fam; rw [q, hb] at h2; exact absurd rfl h2; rfl
        unfold rwv
        rw [ha, hb]
        clear h2
        go_enter Try.func29, Try.ntmps29
        go_wp2
        go_ret
        exact ⟨rfl, two_alloc _ _ _⟩
  · have n1 : (a.year != b.year) = true := by simp [h1]
    have e : aheadB a b = decide (a.year < b.year) := by unfold aheadB; rw [if_neg h1]
    rw [e]
    clear h1 e
    go_enter Try.func29, Try.ntmps29
    go_wp2
    go_ret
    exact ⟨rfl, two_alloc _ _ _⟩
theorem left_any (m h : Int) (w : World) (h1 : 0 ≤ m) (h2 : m ≤ 10000000000000) (h3 : 0 ≤ h) (h4 : h ≤ 10000000000000) : Calls Try.prog 39 #[.int .i64 m, .int .i64 h] w fun e w' => e = .returned (.int .i64 (left m h)) ∧ w' = w := by
  by_cases hc : m ≤ h
  · have e : left m h = 0 := if_pos hc
    rw [e]
    go_enter Try.func39, Try.ntmps39
    go_wp2
    go_ret
    exact ⟨rfl, rfl⟩
  · have e : left m h = m - h := if_neg hc
    rw [e]
    go_enter Try.func39, Try.ntmps39
    go_wp2
    go_ret
    exact ⟨rfl, rfl⟩
theorem getV_cons (x : Row) (l : List Row) (wh : Tx) (f : Bool) (y : Int) : getV (x :: l) wh f y = if hit wh f y x = true then x else getV l wh f y := rfl

set_option maxHeartbeats 4000000 in
theorem rget_any (l : List Row) (wh : Tx) (f : Bool) (y : Int) (v : Value) (w : World) (h : RwsAt All w v l) (hl : l.length ≤ 100000) :
    Calls Try.prog 18 #[v, .string (mk wh), .bool f, .int .i64 y] w fun e w' => e = .returned (rwv (getV l wh f y)) ∧ Below w.heap.size w w' := by
  have hb1 := below_alloc w (.cells #[.string ⟨#[]⟩, .bool false, .int .i64 0, .int .i64 0, .int .i64 0] TA)
  have HR := Lib.hid (heap_alloc_new w (.cells #[.string ⟨#[]⟩, .bool false, .int .i64 0, .int .i64 0, .int .i64 0] TA))
  have HF := Lib.hid (h.grw hb1)
  have HB := Lib.hid hb1
  obtain ⟨fa, fk, rfl, hm1, hm2⟩ := h.form
  obtain ⟨G, HG⟩ : ∃ G, Hid (getV l wh f y = G) := ⟨_, (rfl : getV l wh f y = _)⟩
  have HG0 : Hid (getV (l.drop 0) wh f y = G) := HG.out
  rw [HG.out]
  clear h hb1 HG
  go_enter Try.func18, Try.ntmps18
  go_upto_region 1 with fail
  generalize w.alloc (.cells #[.string ⟨#[]⟩, .bool false, .int .i64 0, .int .i64 0, .int .i64 0] TA) = W at *
  generalize hp : w.heap.size = p at *
  go_wp2
  go_loopg [9] (l.length) (fun g s9 wr => ∃ k : Nat, s9 = .int .i64 k ∧ k ≤ l.length ∧ l.length - k ≤ g ∧ wr = W ∧ Hid (getV (l.drop k) wh f y = G))
  case atStart => exact ⟨0, rfl, Nat.zero_le _, by omega, rfl, HG0.out⟩
  case round =>
    obtain ⟨k, rfl, hk, hgk, hwr, HI⟩ := hrel
    rw [hwr]
    clear HG0 hwr wr
    by_cases hlt : k < l.length
    · have hltz : (k : Int) < (l.length : Int) := by omega
      obtain ⟨b, oo, rfl, -, -, hc⟩ := RwsAt.get HF.out k hlt
      have HI2 : Hid (G = if hit wh f y l[k] = true then l[k] else getV (l.drop (k + 1)) wh f y) := HI.out.symm.trans (by rw [List.drop_eq_getElem_cons hlt]; rfl)
      obtain ⟨x, HX⟩ : ∃ x, Hid (l[k] = x) := ⟨l[k], (rfl : l[k] = l[k])⟩
      rw [HX.out] at HI2 hc
      obtain ⟨x0, x1, x2, x3, x4⟩ := hc
      clear HI HX
      have HE := mk_eqs' x.who wh
      by_cases c1 : x.who = wh
      · have q1 : ((mk x.who).toList == (mk wh).toList) = true := by rw [HE]; exact decide_eq_true c1
        have HI3 : Hid (G = if x.fam = f ∧ x.year = y then x else getV (l.drop (k + 1)) wh f y) := HI2.out.trans (by
          by_cases c : x.fam = f ∧ x.year = y
          · rw [if_pos c, if_pos ((hit_iff _ _ _ _).2 ⟨c1, c⟩)]
          · rw [if_neg c, if_neg (fun e => c ((hit_iff _ _ _ _).1 e).2)])
        clear HI2 HE c1
        by_cases c2 : x.fam = f
        · have q2 : (x.fam == f) = true := by simp [c2]
          by_cases c3 : x.year = y
          · have q3 : (x.year == y) = true := by simp [c3]
            have hG : G = x := HI3.out.trans (if_pos ⟨c2, c3⟩)
            clear HI3 c2 c3
            subst hG
            obtain ⟨r0, r1, r2, r3, r4⟩ := cells5 HR.out
            obtain ⟨t0, t1, t2, t3, t4⟩ := frz5 HR.out
            have HXF : Hid ((((((W.setCell ⟨p, 0, none⟩ (.string (mk G.who))).setCell ⟨p, 1, none⟩ (.bool G.fam)).setCell ⟨p, 2, none⟩ (.int .i64 G.year)).setCell ⟨p, 3, none⟩ (.int .i64 G.de)).setCell ⟨p, 4, none⟩ (.int .i64 G.oo)).heap[p]? = some (.cells #[.string (mk G.who), .bool G.fam, .int .i64 G.year, .int .i64 G.de, .int .i64 G.oo] TA (0, 0))) := put5_heap HR.out
            have HBF : Hid (Below p w (((((W.setCell ⟨p, 0, none⟩ (.string (mk G.who))).setCell ⟨p, 1, none⟩ (.bool G.fam)).setCell ⟨p, 2, none⟩ (.int .i64 G.year)).setCell ⟨p, 3, none⟩ (.int .i64 G.de)).setCell ⟨p, 4, none⟩ (.int .i64 G.oo))) := put5_below HB.out p (Nat.le_refl _) _ _ _ _ _
            go_wp2
            clear r0 r1 r2 r3 r4 t0 t1 t2 t3 t4 x0 x1 x2 x3 x4
            generalize (((((W.setCell ⟨p, 0, none⟩ (.string (mk G.who))).setCell ⟨p, 1, none⟩ (.bool G.fam)).setCell ⟨p, 2, none⟩ (.int .i64 G.year)).setCell ⟨p, 3, none⟩ (.int .i64 G.de)).setCell ⟨p, 4, none⟩ (.int .i64 G.oo)) = WF at *
            obtain ⟨r0, r1, r2, r3, r4⟩ := cells5 HXF.out
            refine bodyPost_ret (v := rwv G) (by simp [results, Try.results18, go_sem, r0, r1, r2, r3, r4]) rfl ?_
            exact ⟨rfl, by first | exact HBF.out | (rw [hp]; exact HBF.out)⟩
          · have q3 : (x.year == y) = false := by simp [c3]
            have HI4 : Hid (getV (l.drop (k + 1)) wh f y = G) := (HI3.out.trans (if_neg fun c => c3 c.2)).symm
            clear HI3 c2 c3
            go_wp2
            go_roundg (l.length - (k + 1))
            case measure => omega
            case rel => exact ⟨k + 1, by first | rfl | go_num | (congr 1; omega), by omega, by omega, rfl, HI4.out⟩
        · have q2 : (x.fam == f) = false := by simp [c2]
          have HI4 : Hid (getV (l.drop (k + 1)) wh f y = G) := (HI3.out.trans (if_neg fun c => c2 c.1)).symm
          clear HI3 c2
          go_wp2
          go_roundg (l.length - (k + 1))
          case measure => omega
          case rel => exact ⟨k + 1, by first | rfl | go_num | (congr 1; omega), by omega, by omega, rfl, HI4.out⟩
      · have q1 : ((mk x.who).toList == (mk wh).toList) = false := by rw [HE]; exact decide_eq_false c1
        have HI4 : Hid (getV (l.drop (k + 1)) wh f y = G) := (HI2.out.trans (if_neg fun e => c1 ((hit_iff _ _ _ _).1 e).1)).symm
        clear HI2 HE c1
        go_wp2
        go_roundg (l.length - (k + 1))
        case measure => omega
        case rel => exact ⟨k + 1, by first | rfl | go_num | (congr 1; omega), by omega, by omega, rfl, HI4.out⟩
    · have hltz : ¬ (k : Int) < (l.length : Int) := by omega
      have hG : G = ⟨wh, f, y, 0, 0⟩ := HI.out.symm.trans (by rw [List.drop_eq_nil_of_le (by omega)]; rfl)
      clear HI
      subst hG
      obtain ⟨r0, r1, r2, r3, r4⟩ := cells5 HR.out
      obtain ⟨t0, t1, t2, t3, t4⟩ := frz5 HR.out
      have HXF : Hid ((((((W.setCell ⟨p, 0, none⟩ (.string (mk wh))).setCell ⟨p, 1, none⟩ (.bool f)).setCell ⟨p, 2, none⟩ (.int .i64 y)).setCell ⟨p, 3, none⟩ (.int .i64 0)).setCell ⟨p, 4, none⟩ (.int .i64 0)).heap[p]? = some (.cells #[.string (mk wh), .bool f, .int .i64 y, .int .i64 0, .int .i64 0] TA (0, 0))) := put5_heap HR.out
      have HBF : Hid (Below p w (((((W.setCell ⟨p, 0, none⟩ (.string (mk wh))).setCell ⟨p, 1, none⟩ (.bool f)).setCell ⟨p, 2, none⟩ (.int .i64 y)).setCell ⟨p, 3, none⟩ (.int .i64 0)).setCell ⟨p, 4, none⟩ (.int .i64 0))) := put5_below HB.out p (Nat.le_refl _) _ _ _ _ _
      go_wp2
      clear r0 r1 r2 r3 r4 t0 t1 t2 t3 t4
      generalize (((((W.setCell ⟨p, 0, none⟩ (.string (mk wh))).setCell ⟨p, 1, none⟩ (.bool f)).setCell ⟨p, 2, none⟩ (.int .i64 y)).setCell ⟨p, 3, none⟩ (.int .i64 0)).setCell ⟨p, 4, none⟩ (.int .i64 0)) = WF at *
      obtain ⟨r0, r1, r2, r3, r4⟩ := cells5 HXF.out
      refine bodyPost_ret (v := .agg #[.string (mk wh), .bool f, .int .i64 y, .int .i64 0, .int .i64 0]) (by simp [results, Try.results18, go_sem, r0, r1, r2, r3, r4]) rfl ?_
      exact ⟨rfl, by first | exact HBF.out | (rw [hp]; exact HBF.out)⟩
end Go.Proofs.Ytdppelkfcnbgbaa.Ac
