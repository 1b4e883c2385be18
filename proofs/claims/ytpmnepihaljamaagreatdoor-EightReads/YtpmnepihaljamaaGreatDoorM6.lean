/-
  Texts put together (merge.py): LRSame, NMath.
-/
import Derived.Lib.ItoaNum
import Derived.Test.YtpmnepihaljamaaGreatDoorM5
/-
  What the reference's Same answers, as a contract: whether two claims are the same.
-/
section
set_option linter.unusedSimpArgs false
namespace Go.Proofs.YtpmnepihaljamaaGreatDoor.Cm
open Go.RowKit
open Classical

theorem below_drewN (w : World) (q : Nat) : Below w.heap.size w (w.drewN q) := below_drewq ⟨q, rfl⟩

set_option maxHeartbeats 4000000 in
theorem rsame_any (x y : Cl) (m m' : Value) (w : World) (hm : LnsAt All w m x.lines) (hm' : LnsAt All w m' y.lines) :
    Calls Tryz.prog 18 #[clv x m, clv y m'] w fun e w' => e = .returned (.bool (decide (x = y))) ∧ Below w.heap.size w w' := by
  have HG : Hid (∀ o1 o2, Below w.heap.size w ((w.alloc o1).alloc o2)) := fun o1 o2 => below_trans (below_alloc w o1) (below_alloc _ o2)
  have HW := Lib.hid hm
  have HW' := Lib.hid hm'
  have HX : Hid (∀ w1, Below ((w.alloc (boxc x m)).alloc (boxc y m')).heap.size ((w.alloc (boxc x m)).alloc (boxc y m')) w1 → (w1.cell? ⟨w.heap.size, 6, none⟩ = some m ∧ w1.cell? ⟨w.heap.size + 1, 6, none⟩ = some m') ∧ Below w.heap.size w w1) := fun w1 hb => by
    have h1 := (ClBox.new w x m 43).grw (below_trans (below_alloc (w.alloc (boxc x m)) (boxc y m')) hb)
    have h2 := (ClBox.new (w.alloc (boxc x m)) y m' 43).grw hb
    rw [show (w.alloc (boxc x m)).heap.size = w.heap.size + 1 from by simp] at h2
    exact ⟨⟨h1.2.2.2.2.2.2, h2.2.2.2.2.2.2⟩, below_trans (HG.out _ _) hb⟩
  obtain ⟨a, c, rfl, f1, f2⟩ := LnsAt.form hm
  obtain ⟨a', c', rfl, f1', f2'⟩ := LnsAt.form hm'
  clear hm hm'
  have e_id := mk_ne x.id y.id
  have e_mem := mk_ne x.mem y.mem
  have e_fam := mk_ne x.fam y.fam
  have e_net : (x.net == y.net) = decide (x.net = y.net) := by rw [Bool.eq_iff_iff]; simp
  have n_net : (x.net != y.net) = !decide (x.net = y.net) := by rw [Bool.eq_iff_iff]; simp
  have e_does : (x.does == y.does) = decide (x.does = y.does) := by rw [Bool.eq_iff_iff]; simp
  have n_does : (x.does != y.does) = !decide (x.does = y.does) := by rw [Bool.eq_iff_iff]; simp
  have e_ref := mk_ne x.ref y.ref
  cases h_id : decide (x.id = y.id)
  · rw [h_id] at e_id
    have hF : decide (x = y) = false := cl_ne x y (by simp [h_id])
    rw [hF]
    clear hF e_mem e_fam e_net e_does e_ref n_net n_does h_id
    go_enter Tryz.func18, Tryz.ntmps18
    go_wp2
    go_ret
    exact ⟨rfl, HG.out _ _⟩
  rw [h_id] at e_id
  cases h_mem : decide (x.mem = y.mem)
  · rw [h_mem] at e_mem
    have hF : decide (x = y) = false := cl_ne x y (by simp [h_mem])
    rw [hF]
    clear hF e_fam e_net e_does e_ref n_net n_does h_id h_mem
    go_enter Tryz.func18, Tryz.ntmps18
    go_wp2
    go_ret
    exact ⟨rfl, HG.out _ _⟩
  rw [h_mem] at e_mem
  cases h_fam : decide (x.fam = y.fam)
  · rw [h_fam] at e_fam
    have hF : decide (x = y) = false := cl_ne x y (by simp [h_fam])
    rw [hF]
    clear hF e_net e_does e_ref n_net n_does h_id h_mem h_fam
    go_enter Tryz.func18, Tryz.ntmps18
    go_wp2
    go_ret
    exact ⟨rfl, HG.out _ _⟩
  rw [h_fam] at e_fam
  cases h_net : decide (x.net = y.net)
  · rw [h_net] at e_net n_net
    have hF : decide (x = y) = false := cl_ne x y (by simp [h_net])
    rw [hF]
    clear hF e_does e_ref n_does h_id h_mem h_fam h_net
    go_enter Tryz.func18, Tryz.ntmps18
    go_wp2
    go_ret
    exact ⟨rfl, HG.out _ _⟩
  rw [h_net] at e_net n_net
  cases h_does : decide (x.does = y.does)
  · rw [h_does] at e_does n_does
    have hF : decide (x = y) = false := cl_ne x y (by simp [h_does])
    rw [hF]
    clear hF e_ref h_id h_mem h_fam h_net h_does
    go_enter Tryz.func18, Tryz.ntmps18
    go_wp2
    go_ret
    exact ⟨rfl, HG.out _ _⟩
  rw [h_does] at e_does n_does
  cases h_ref : decide (x.ref = y.ref)
  · rw [h_ref] at e_ref
    have hF : decide (x = y) = false := cl_ne x y (by simp [h_ref])
    rw [hF]
    clear hF h_id h_mem h_fam h_net h_does h_ref
    go_enter Tryz.func18, Tryz.ntmps18
    go_wp2
    go_ret
    exact ⟨rfl, HG.out _ _⟩
  rw [h_ref] at e_ref
  have HS : Hid (decide (x.lines = y.lines) = true → decide (x = y) = true) := fun h7 => cl_same x y h_id h_mem h_fam h_net h_does h_ref h7
  have HF : Hid (decide (x.lines = y.lines) = false → decide (x = y) = false) := fun h7 => cl_ne x y (by simp [h7])
  clear h_id h_mem h_fam h_net h_does h_ref
  generalize decide (x = y) = R at *
  by_cases hl : x.lines.length = y.lines.length
  case neg =>
    have hlb : ((x.lines.length : Int) != (y.lines.length : Int)) = true := by simp; omega
    rw [HF.out (lens_ne _ _ hl)]
    clear hl
    go_enter Tryz.func18, Tryz.ntmps18
    go_wp2
    go_ret
    exact ⟨rfl, HG.out _ _⟩
  have hlb : ((x.lines.length : Int) != (y.lines.length : Int)) = false := by rw [hl]; simp
  have HL := Lib.hid hl
  have hl2 : x.lines.length ≤ y.lines.length := by omega
  clear hl
  go_enter Tryz.func18, Tryz.ntmps18
  go_wp2
  go_loopg [5] (x.lines.length) (fun gg i wr => ∃ k : Nat, k ≤ x.lines.length ∧ gg = x.lines.length - k ∧ i = .int .i64 k ∧ Hid (x.lines.take k = y.lines.take k) ∧ Hid (Below ((w.alloc (boxc x (.slice a x.lines.length c))).alloc (boxc y (.slice a' y.lines.length c'))).heap.size ((w.alloc (boxc x (.slice a x.lines.length c))).alloc (boxc y (.slice a' y.lines.length c'))) wr))
  case atStart => exact ⟨0, Nat.zero_le _, rfl, rfl, rfl, Below.refl _ _⟩
  case round =>
    obtain ⟨k, hk, hg, rfl, HA, HB⟩ := hrel
    obtain ⟨⟨x6, y6⟩, hbw⟩ := HX.out _ HB.out
    have HBW := Lib.hid hbw
    by_cases hlt : k < x.lines.length
    · obtain ⟨b, o, m, rfl, hx, hc, hr⟩ := LnsAt.get (LnsAt.move HW.out (Below.moves hbw)) k hlt
      have hlt' : k < y.lines.length := by omega
      obtain ⟨b', o', m', rfl, hx', hc', hr'⟩ := LnsAt.get (LnsAt.move HW'.out (Below.moves hbw)) k hlt'
      have HC := Lib.hid fun w1 (hb : Below wr.heap.size wr w1) => rsameLine_any x.lines[k] y.lines[k] m m' w1 (TxAt.move hr (Below.moves hb)) (TxAt.move hr' (Below.moves hb))
      have HQ := Lib.hid (takes_eq x.lines y.lines k _ _ hx hx' HA.out)
      have HN := Lib.hid (takes_ne x.lines y.lines k _ _ hx hx')
      obtain ⟨au, cu, rfl, -, -⟩ := TxAt.form hr
      obtain ⟨au', cu', rfl, -, -⟩ := TxAt.form hr'
      clear hx hx' hr hr' hbw
      have HSX : Hid (∀ w', Below wr.heap.size wr w' → w'.cell? ⟨w.heap.size, 6, none⟩ = some (.slice (some ⟨b, o, none⟩) x.lines.length c) ∧ w'.cell? ⟨w.heap.size + 1, 6, none⟩ = some (.slice (some ⟨b', o', none⟩) y.lines.length c') ∧ w'.cell? ⟨b, o + k * 6, none⟩ = some (.string (mk x.lines[k].proc)) ∧ w'.cell? ⟨b, o + k * 6 + 1, none⟩ = some (.slice au x.lines[k].mods.length cu) ∧ w'.cell? ⟨b, o + k * 6 + 2, none⟩ = some (.int .i64 x.lines[k].date) ∧ w'.cell? ⟨b, o + k * 6 + 3, none⟩ = some (.int .i64 x.lines[k].units) ∧ w'.cell? ⟨b, o + k * 6 + 4, none⟩ = some (.int .i64 x.lines[k].billed) ∧ w'.cell? ⟨b, o + k * 6 + 5, none⟩ = some (.int .i64 x.lines[k].prior) ∧ w'.cell? ⟨b', o' + k * 6, none⟩ = some (.string (mk y.lines[k].proc)) ∧ w'.cell? ⟨b', o' + k * 6 + 1, none⟩ = some (.slice au' y.lines[k].mods.length cu') ∧ w'.cell? ⟨b', o' + k * 6 + 2, none⟩ = some (.int .i64 y.lines[k].date) ∧ w'.cell? ⟨b', o' + k * 6 + 3, none⟩ = some (.int .i64 y.lines[k].units) ∧ w'.cell? ⟨b', o' + k * 6 + 4, none⟩ = some (.int .i64 y.lines[k].billed) ∧ w'.cell? ⟨b', o' + k * 6 + 5, none⟩ = some (.int .i64 y.lines[k].prior)) := fun w' hb => by
        obtain ⟨⟨g1, g2⟩, -⟩ := HX.out _ (below_trans HB.out hb)
        have q1 := hc.of (hb.block _ (World.block_lt_of_cell? wr _ hc.1))
        have q2 := hc'.of (hb.block _ (World.block_lt_of_cell? wr _ hc'.1))
        exact ⟨g1, g2, q1.1, q1.2.1, q1.2.2.1, q1.2.2.2.1, q1.2.2.2.2.1, q1.2.2.2.2.2, q2.1, q2.2.1, q2.2.2.1, q2.2.2.2.1, q2.2.2.2.2.1, q2.2.2.2.2.2⟩
      have HBd : Hid (Below wr.heap.size wr wr.drew) := Below.drew (Below.refl _ _)
      obtain ⟨c0, c1, c2, c3, c4, c5⟩ := hc
      obtain ⟨d0, d1, d2, d3, d4, d5⟩ := hc'
      by_cases he : x.lines[k] = y.lines[k]
      · rw [decide_eq_true he] at HC
        have HE2 := Lib.hid (HQ.out he)
        clear he HN HQ
        go_wp2_with fail
        go_region_held3 (fun w' => w'.cell? ⟨w.heap.size, 6, none⟩ = some (.slice (some ⟨b, o, none⟩) x.lines.length c) ∧ w'.cell? ⟨w.heap.size + 1, 6, none⟩ = some (.slice (some ⟨b', o', none⟩) y.lines.length c') ∧ w'.cell? ⟨b, o + k * 6, none⟩ = some (.string (mk x.lines[k].proc)) ∧ w'.cell? ⟨b, o + k * 6 + 1, none⟩ = some (.slice au x.lines[k].mods.length cu) ∧ w'.cell? ⟨b, o + k * 6 + 2, none⟩ = some (.int .i64 x.lines[k].date) ∧ w'.cell? ⟨b, o + k * 6 + 3, none⟩ = some (.int .i64 x.lines[k].units) ∧ w'.cell? ⟨b, o + k * 6 + 4, none⟩ = some (.int .i64 x.lines[k].billed) ∧ w'.cell? ⟨b, o + k * 6 + 5, none⟩ = some (.int .i64 x.lines[k].prior) ∧ w'.cell? ⟨b', o' + k * 6, none⟩ = some (.string (mk y.lines[k].proc)) ∧ w'.cell? ⟨b', o' + k * 6 + 1, none⟩ = some (.slice au' y.lines[k].mods.length cu') ∧ w'.cell? ⟨b', o' + k * 6 + 2, none⟩ = some (.int .i64 y.lines[k].date) ∧ w'.cell? ⟨b', o' + k * 6 + 3, none⟩ = some (.int .i64 y.lines[k].units) ∧ w'.cell? ⟨b', o' + k * 6 + 4, none⟩ = some (.int .i64 y.lines[k].billed) ∧ w'.cell? ⟨b', o' + k * 6 + 5, none⟩ = some (.int .i64 y.lines[k].prior)) (go_keep) (first | (go_at_call 39; refine (HC.out _ HBd.out).mono ?_; rintro e w1 ⟨rfl, hb⟩; have HB2 := Lib.hid (below_trans HBd.out hb); obtain ⟨r0, r1, r2, r3, r4, r5, r6, r7, r8, r9, r10, r11, r12, r13⟩ := HSX.out _ HB2.out; clear hb))
        go_wp2
        go_roundg (x.lines.length - (k + 1))
        case rel => exact ⟨k + 1, by omega, rfl, by go_num, HE2.out, below_trans HB.out HB2.out⟩
        case measure => omega
      · rw [decide_eq_false he] at HC
        have HE2 := Lib.hid (HF.out (HN.out he))
        clear he HN HQ
        go_wp2_with fail
        go_region_held3 (fun w' => w'.cell? ⟨w.heap.size, 6, none⟩ = some (.slice (some ⟨b, o, none⟩) x.lines.length c) ∧ w'.cell? ⟨w.heap.size + 1, 6, none⟩ = some (.slice (some ⟨b', o', none⟩) y.lines.length c') ∧ w'.cell? ⟨b, o + k * 6, none⟩ = some (.string (mk x.lines[k].proc)) ∧ w'.cell? ⟨b, o + k * 6 + 1, none⟩ = some (.slice au x.lines[k].mods.length cu) ∧ w'.cell? ⟨b, o + k * 6 + 2, none⟩ = some (.int .i64 x.lines[k].date) ∧ w'.cell? ⟨b, o + k * 6 + 3, none⟩ = some (.int .i64 x.lines[k].units) ∧ w'.cell? ⟨b, o + k * 6 + 4, none⟩ = some (.int .i64 x.lines[k].billed) ∧ w'.cell? ⟨b, o + k * 6 + 5, none⟩ = some (.int .i64 x.lines[k].prior) ∧ w'.cell? ⟨b', o' + k * 6, none⟩ = some (.string (mk y.lines[k].proc)) ∧ w'.cell? ⟨b', o' + k * 6 + 1, none⟩ = some (.slice au' y.lines[k].mods.length cu') ∧ w'.cell? ⟨b', o' + k * 6 + 2, none⟩ = some (.int .i64 y.lines[k].date) ∧ w'.cell? ⟨b', o' + k * 6 + 3, none⟩ = some (.int .i64 y.lines[k].units) ∧ w'.cell? ⟨b', o' + k * 6 + 4, none⟩ = some (.int .i64 y.lines[k].billed) ∧ w'.cell? ⟨b', o' + k * 6 + 5, none⟩ = some (.int .i64 y.lines[k].prior)) (go_keep) (first | (go_at_call 39; refine (HC.out _ HBd.out).mono ?_; rintro e w1 ⟨rfl, hb⟩; have HB2 := Lib.hid (below_trans HBd.out hb); obtain ⟨r0, r1, r2, r3, r4, r5, r6, r7, r8, r9, r10, r11, r12, r13⟩ := HSX.out _ HB2.out; clear hb))
        go_wp2
        go_ret
        exact ⟨by rw [HE2.out]; rfl, below_trans HBW.out HB2.out⟩
    · have HE2 := Lib.hid (HS.out (takes_all x.lines y.lines k (by omega) HL.out HA.out))
      go_wp2
      go_ret
      exact ⟨by rw [HE2.out]; rfl, HBW.out⟩
end Go.Proofs.YtpmnepihaljamaaGreatDoor.Cm
end

/-
  Digits' plain mathematics: the number that digits are, which texts are a number's, an amount's; amounts as texts.
-/
section
namespace Go.Proofs.YtpmnepihaljamaaGreatDoor.Nu
open Go.Lib

def isD (c : UInt8) : Bool := decide (48 ≤ c.toNat) && decide (c.toNat ≤ 57)
def allD (l : List UInt8) : Bool := l.all isD
def numL (l : List UInt8) : Nat := l.foldl (fun n c => n * 10 + (c.toNat - 48)) 0
def canon (l : List UInt8) : Bool := !l.isEmpty && allD l && (l.head? != some 48 || l == [48])
def riOk (l : List UInt8) (most : Int) : Bool := canon l && decide ((l.length : Int) ≤ most) && decide (l.length ≤ 18)
def riV (l : List UInt8) (most : Int) : Int := if riOk l most = true then (numL l : Int) else 0
def riE (l : List UInt8) (most : Int) : Int := if riOk l most = true then 0 else 4
def whole (l : List UInt8) : List UInt8 := l.takeWhile (fun c => c != 46)
def hasDot (l : List UInt8) : Bool := decide ((whole l).length < l.length)
def behind (l : List UInt8) : List UInt8 := l.drop ((whole l).length + 1)
def ctOk (b : List UInt8) : Bool := (b.length == 1 || b.length == 2) && allD b
def ctV (b : List UInt8) : Nat := if b.length = 1 then numL b * 10 else numL b
def mnRaw (l : List UInt8) : Nat := numL (whole l) * 100 + if hasDot l = true then ctV (behind l) else 0
def mnOk (l : List UInt8) : Bool := riOk (whole l) 12 && (!hasDot l || ctOk (behind l)) && decide (mnRaw l ≤ 10000000000000)
def mnV (l : List UInt8) : Int := if mnOk l = true then (mnRaw l : Int) else 0
def mnE (l : List UInt8) : Int := if mnOk l = true then 0 else 8
def below (l : List UInt8) : Bool := l.head? == some 45
def sgOk (l : List UInt8) : Bool := if below l = true then mnOk l.tail && mnV l.tail != 0 else mnOk l
def sgV (l : List UInt8) : Int := if below l = true then -mnV l.tail else mnV l
def sgE (l : List UInt8) : Int := if sgOk l = true then 0 else 8
def two (u : Nat) : List UInt8 := [UInt8.ofNat (48 + u / 10 % 10), UInt8.ofNat (48 + u % 10)]
def moneyU (u : Nat) : List UInt8 := decDigits (u / 100) ++ 46 :: two u
def moneyL (a : Int) : List UInt8 := (if a < 0 then [45] else []) ++ moneyU a.natAbs

/-! ### Digits and their number -/
theorem isD_iff (c : UInt8) : isD c = true ↔ 48 ≤ c.toNat ∧ c.toNat ≤ 57 := by simp [isD]
theorem numL_nil : numL [] = 0 := rfl
theorem numL_snoc (l : List UInt8) (c : UInt8) : numL (l ++ [c]) = numL l * 10 + (c.toNat - 48) := by simp [numL, List.foldl_append]
theorem allD_snoc (l : List UInt8) (c : UInt8) : allD (l ++ [c]) = (allD l && isD c) := by simp [allD, List.all_append]
theorem allD_app (l m : List UInt8) : allD (l ++ m) = (allD l && allD m) := by simp [allD, List.all_append]
theorem dg_toNat (k : Nat) (h : k < 10) : (UInt8.ofNat (48 + k)).toNat = 48 + k := by
  simp [UInt8.toNat_ofNat']; omega
theorem dg_isD (k : Nat) (h : k < 10) : isD (UInt8.ofNat (48 + k)) = true := by rw [isD_iff, dg_toNat k h]; omega
theorem snoc_cases (l : List UInt8) : l = [] ∨ ∃ t c, l = t ++ [c] := by
  rcases List.eq_nil_or_concat l with h | ⟨t, c, h⟩
  · exact Or.inl h
  · exact Or.inr ⟨t, c, by simpa using h⟩
theorem snoc_ind {p : List UInt8 → Prop} (h0 : p []) (h1 : ∀ t c, p t → p (t ++ [c])) (l : List UInt8) : p l := by
  have key : ∀ n (l : List UInt8), l.length = n → p l := by
    intro n
    induction n with
    | zero => intro l hl; rw [List.length_eq_zero_iff.1 hl]; exact h0
    | succ n ih =>
      intro l hl
      rcases snoc_cases l with rfl | ⟨t, c, rfl⟩
      · simp at hl
      · exact h1 t c (ih t (by simpa using hl))
  exact key _ l rfl
theorem numL_lt (l : List UInt8) : allD l = true → numL l < 10 ^ l.length := by
  refine snoc_ind (p := fun l => allD l = true → numL l < 10 ^ l.length) (by simp [numL]) (fun t c ih h => ?_) l
  rw [allD_snoc, Bool.and_eq_true] at h
  have := ih h.1
  have := (isD_iff c).1 h.2
  rw [numL_snoc, List.length_append, List.length_singleton, Nat.pow_succ]
  omega
theorem dec_small (u : Nat) (h : u < 10) : decDigits u = [UInt8.ofNat (48 + u)] := by rw [decDigits, dif_pos h]
theorem dec_big (u : Nat) (h : ¬ u < 10) : decDigits u = decDigits (u / 10) ++ [UInt8.ofNat (48 + u % 10)] := by rw [decDigits, dif_neg h]
theorem dec_allD (u : Nat) : allD (decDigits u) = true := by
  induction u using Nat.strongRecOn with
  | _ u ih =>
    by_cases h : u < 10
    · have := dg_isD u h
      rw [dec_small u h]
      generalize UInt8.ofNat (48 + u) = c at this ⊢
      simp [allD, this]
    · rw [dec_big u h, allD_snoc, ih (u / 10) (by omega), dg_isD _ (by omega)]; rfl
theorem dec_num (u : Nat) : numL (decDigits u) = u := by
  induction u using Nat.strongRecOn with
  | _ u ih =>
    by_cases h : u < 10
    · rw [dec_small u h, show [UInt8.ofNat (48 + u)] = [] ++ [UInt8.ofNat (48 + u)] from rfl, numL_snoc, numL_nil, dg_toNat u h]; omega
    · rw [dec_big u h, numL_snoc, ih (u / 10) (by omega), dg_toNat _ (by omega)]; omega
theorem dec_ne (u : Nat) : decDigits u ≠ [] := by
  by_cases h : u < 10
  · rw [dec_small u h]; simp
  · rw [dec_big u h]; simp
theorem head_app (l m : List UInt8) (h : l ≠ []) : (l ++ m).head? = l.head? := by
  cases l with
  | nil => exact absurd rfl h
  | cons a t => rfl
theorem dec_head (u : Nat) (h : 1 ≤ u) : (decDigits u).head? ≠ some 48 := by
  induction u using Nat.strongRecOn with
  | _ u ih =>
    by_cases hu : u < 10
    · rw [dec_small u hu]
      intro e
      have e2 : UInt8.ofNat (48 + u) = 48 := by simpa using e
      have := congrArg UInt8.toNat e2
      rw [dg_toNat u hu] at this
      simp at this; omega
    · rw [dec_big u hu, head_app _ _ (dec_ne _)]
      exact ih (u / 10) (by omega) (by omega)
theorem dec_canon (u : Nat) : canon (decDigits u) = true := by
  unfold canon
  rw [dec_allD]
  have hne : (decDigits u).isEmpty = false := by
    cases h : decDigits u with
    | nil => exact absurd h (dec_ne u)
    | cons a t => rfl
  rw [hne]
  by_cases h : u = 0
  · subst h; rw [dec_small 0 (by omega)]; rfl
  · have := dec_head u (by omega)
    simp [bne, this]
theorem c48 (c : UInt8) (h : isD c = true) (h0 : c ≠ 48) : 49 ≤ c.toNat := by
  have h1 := (isD_iff c).1 h
  have : c.toNat ≠ 48 := fun e => h0 (UInt8.toNat_inj.1 (by simpa using e))
  omega
theorem dg_back (c : UInt8) (h : isD c = true) : UInt8.ofNat (48 + (c.toNat - 48)) = c := by
  have h1 := (isD_iff c).1 h
  rw [show 48 + (c.toNat - 48) = c.toNat by omega]
  exact UInt8.ofNat_toNat
theorem numL_pos (l : List UInt8) : allD l = true → l ≠ [] → l.head? ≠ some 48 → 1 ≤ numL l := by
  refine snoc_ind (p := fun l => allD l = true → l ≠ [] → l.head? ≠ some 48 → 1 ≤ numL l) (fun _ h => absurd rfl h) (fun t c ih h _ h48 => ?_) l
  rw [allD_snoc, Bool.and_eq_true] at h
  rw [numL_snoc]
  by_cases e : t = []
  · subst e
    have hc : c ≠ 48 := by intro e; apply h48; simp [e]
    have := c48 c h.2 hc
    omega
  · have := ih h.1 e (by rw [← head_app t [c] e]; exact h48)
    omega
theorem num_dec (l : List UInt8) : allD l = true → l ≠ [] → l.head? ≠ some 48 → decDigits (numL l) = l := by
  refine snoc_ind (p := fun l => allD l = true → l ≠ [] → l.head? ≠ some 48 → decDigits (numL l) = l) (fun _ h => absurd rfl h) (fun t c ih h _ h48 => ?_) l
  rw [allD_snoc, Bool.and_eq_true] at h
  have hc := (isD_iff c).1 h.2
  rw [numL_snoc]
  by_cases e : t = []
  · subst e
    rw [numL_nil, dec_small _ (by omega), show 48 + (0 * 10 + (c.toNat - 48)) = 48 + (c.toNat - 48) by omega, dg_back c h.2]
    rfl
  · have h48' : t.head? ≠ some 48 := by rw [← head_app t [c] e]; exact h48
    have hp := numL_pos t h.1 e h48'
    rw [dec_big _ (by omega), show (numL t * 10 + (c.toNat - 48)) / 10 = numL t by omega, show (numL t * 10 + (c.toNat - 48)) % 10 = c.toNat - 48 by omega, ih h.1 e h48', dg_back c h.2]
theorem canon_dec (l : List UInt8) (h : canon l = true) : decDigits (numL l) = l := by
  unfold canon at h
  simp only [Bool.and_eq_true, Bool.not_eq_true', Bool.or_eq_true, bne_iff_ne, beq_iff_eq] at h
  obtain ⟨⟨h1, h2⟩, h3⟩ := h
  rcases h3 with h3 | h3
  · exact num_dec l h2 (by intro e; subst e; simp at h1) h3
  · subst h3; exact dec_small 0 (by omega)
theorem canon_iff (l : List UInt8)  : (decDigits (numL l) = l) ↔ canon l = true := by
  constructor
  · intro e; rw [← e]; exact dec_canon _
  · exact canon_dec l
theorem canon_allD (l : List UInt8) (h : canon l = true) : allD l = true ∧ l ≠ [] := by
  unfold canon at h
  simp only [Bool.and_eq_true, Bool.not_eq_true'] at h
  exact ⟨h.1.2, by intro e; subst e; simp at h⟩
theorem nD_le (u k : Nat) (h : u < 10 ^ k) (hk : 1 ≤ k) : nDigits u ≤ k := by
  induction u using Nat.strongRecOn generalizing k with
  | _ u ih =>
    by_cases hu : u < 10
    · rw [nDigits_small hu]; exact hk
    · rw [nDigits_big hu]
      obtain ⟨j, rfl⟩ : ∃ j, k = j + 1 := ⟨k - 1, by omega⟩
      have hj : 1 ≤ j := by
        rcases Nat.eq_zero_or_pos j with e | e
        · subst e; simp at h; omega
        · exact e
      rw [Nat.pow_succ] at h
      have := ih (u / 10) (by omega) j (by omega) hj
      omega
theorem dec_len (u k : Nat) (h : u < 10 ^ k) (hk : 1 ≤ k) : (decDigits u).length ≤ k := by rw [decDigits_length]; exact nD_le u k h hk
theorem nD_mono (a b : Nat) (h : a ≤ b) : nDigits a ≤ nDigits b := nD_le a _ (by have := lt_pow_nDigits b; omega) (nDigits_pos b)

/-! ### What is read -/
theorem ri_bd (l : List UInt8) (most : Int) : 0 ≤ riV l most ∧ riV l most < 1000000000000000000 := by
  unfold riV
  split
  · rename_i h
    unfold riOk at h
    simp only [Bool.and_eq_true, decide_eq_true_eq] at h
    have h1 := numL_lt l (canon_allD l h.1.1).1
    have h2 : 10 ^ l.length ≤ 10 ^ 18 := Nat.pow_le_pow_right (by omega) h.2
    have h3 : (10 : Nat) ^ 18 = 1000000000000000000 := rfl
    omega
  · omega
theorem ri_bd12 (l : List UInt8) : 0 ≤ riV l 12 ∧ riV l 12 < 1000000000000 := by
  unfold riV
  split
  · rename_i h
    unfold riOk at h
    simp only [Bool.and_eq_true, decide_eq_true_eq] at h
    have h1 := numL_lt l (canon_allD l h.1.1).1
    have h2 : 10 ^ l.length ≤ 10 ^ 12 := Nat.pow_le_pow_right (by omega) (by omega)
    have h3 : (10 : Nat) ^ 12 = 1000000000000 := rfl
    omega
  · omega
theorem ct_bd (b : List UInt8) (h : ctOk b = true) : ctV b ≤ 99 := by
  unfold ctOk at h
  simp only [Bool.and_eq_true, Bool.or_eq_true, beq_iff_eq] at h
  have h1 := numL_lt b h.2
  unfold ctV
  rcases h.1 with e | e
  · rw [e] at h1; rw [if_pos e]; omega
  · rw [e] at h1; rw [if_neg (by omega)]; omega
theorem ri_dec (u : Nat) (most : Int) (k : Nat) (h : u < 10 ^ k) (hk : 1 ≤ k) (h18 : k ≤ 18) (hm : (k : Int) ≤ most) : riOk (decDigits u) most = true := by
  unfold riOk
  have := dec_len u k h hk
  rw [dec_canon]
  simp only [Bool.true_and, Bool.and_eq_true, decide_eq_true_eq]
  omega
theorem isD_ne46 (c : UInt8) (h : isD c = true) : (c != 46) = true := by
  have h1 := (isD_iff c).1 h
  simp only [bne_iff_ne]
  intro e; subst e; simp at h1
theorem whole_dig (l m : List UInt8) (h : allD l = true) : whole (l ++ 46 :: m) = l := by
  unfold whole
  induction l with
  | nil => rfl
  | cons a t ih =>
    simp only [allD, List.all_cons, Bool.and_eq_true] at h
    rw [List.cons_append, List.takeWhile_cons, if_pos (isD_ne46 a h.1), ih h.2]
theorem whole_all (l : List UInt8) (h : allD l = true) : whole l = l := by
  unfold whole
  induction l with
  | nil => rfl
  | cons a t ih =>
    simp only [allD, List.all_cons, Bool.and_eq_true] at h
    rw [List.takeWhile_cons, if_pos (isD_ne46 a h.1), ih h.2]
theorem mn_dot (u : Nat) (b : List UInt8) (hb : ctOk b = true) (hu : u < 1000000000000) (hm : u * 100 + ctV b ≤ 10000000000000) : mnOk (decDigits u ++ 46 :: b) = true ∧ mnV (decDigits u ++ 46 :: b) = ((u * 100 + ctV b : Nat) : Int) := by
  have hw := whole_dig (decDigits u) b (dec_allD u)
  have hd : hasDot (decDigits u ++ 46 :: b) = true := by unfold hasDot; rw [hw]; simp
  have hbh : behind (decDigits u ++ 46 :: b) = b := by unfold behind; rw [hw]; simp
  have hr : mnRaw (decDigits u ++ 46 :: b) = u * 100 + ctV b := by unfold mnRaw; rw [hw, hd, hbh, dec_num]; rfl
  have ho : mnOk (decDigits u ++ 46 :: b) = true := by
    unfold mnOk
    rw [hr, hw, hd, hbh, hb, ri_dec u 12 12 (by omega) (by omega) (by omega) (by omega)]
    simpa using hm
  exact ⟨ho, by unfold mnV; rw [if_pos ho, hr]⟩
theorem mn_bare (u : Nat) (hu : u < 1000000000000) (hm : u * 100 ≤ 10000000000000) : mnOk (decDigits u) = true ∧ mnV (decDigits u) = ((u * 100 : Nat) : Int) := by
  have hw := whole_all (decDigits u) (dec_allD u)
  have hd : hasDot (decDigits u) = false := by unfold hasDot; rw [hw]; simp
  have hr : mnRaw (decDigits u) = u * 100 := by unfold mnRaw; rw [hw, hd, dec_num]; rfl
  have ho : mnOk (decDigits u) = true := by
    unfold mnOk
    rw [hr, hw, hd, ri_dec u 12 12 (by omega) (by omega) (by omega) (by omega)]
    simpa using hm
  exact ⟨ho, by unfold mnV; rw [if_pos ho, hr]⟩
theorem two_ok (u : Nat) : ctOk (two u) = true ∧ ctV (two u) = u % 100 := by
  have h1 := dg_isD (u / 10 % 10) (by omega)
  have h2 := dg_isD (u % 10) (by omega)
  refine ⟨by unfold two; generalize UInt8.ofNat (48 + u / 10 % 10) = c at h1 ⊢; generalize UInt8.ofNat (48 + u % 10) = d at h2 ⊢; simp [ctOk, allD, h1, h2], ?_⟩
  unfold ctV
  rw [if_neg (by simp [two])]
  show numL ([] ++ [UInt8.ofNat (48 + u / 10 % 10)] ++ [UInt8.ofNat (48 + u % 10)]) = _
  rw [numL_snoc, numL_snoc, numL_nil, dg_toNat _ (by omega), dg_toNat _ (by omega)]
  omega
theorem one_ok (k : Nat) (h : k < 10) : ctOk (decDigits k) = true ∧ ctV (decDigits k) = k * 10 ∧ ctOk (decDigits k ++ [48]) = true ∧ ctV (decDigits k ++ [48]) = k * 10 := by
  have h1 := dg_isD k h
  have e : numL [UInt8.ofNat (48 + k)] = k := by have := dec_num k; rwa [dec_small k h] at this
  have e2 : numL ([UInt8.ofNat (48 + k)] ++ [48]) = k * 10 := by rw [numL_snoc, e]; rfl
  rw [dec_small k h]
  generalize UInt8.ofNat (48 + k) = c at h1 e e2 ⊢
  refine ⟨by simp [ctOk, allD, h1], by simp [ctV, e], by simp [ctOk, allD, h1]; rfl, ?_⟩
  unfold ctV
  rw [if_neg (by simp), e2]
theorem mn_money (u : Nat) (h : u ≤ 10000000000000) : mnOk (moneyU u) = true ∧ mnV (moneyU u) = (u : Int) := by
  obtain ⟨h1, h2⟩ := two_ok u
  obtain ⟨a, b⟩ := mn_dot (u / 100) (two u) h1 (by omega) (by rw [h2]; omega)
  refine ⟨a, ?_⟩
  unfold moneyU
  rw [b, h2]
  omega
theorem money_head (u : Nat) : below (moneyU u) = false := by
  unfold below moneyU
  rw [head_app _ _ (dec_ne _)]
  have h := dec_allD (u / 100)
  cases e : decDigits (u / 100) with
  | nil => rfl
  | cons a t =>
    rw [e] at h
    simp only [allD, List.all_cons, Bool.and_eq_true] at h
    have h1 := (isD_iff a).1 h.1
    simp only [List.head?_cons, beq_eq_false_iff_ne, ne_eq, Option.some.injEq]
    intro e2; subst e2; simp at h1
theorem sg_money (a : Int) (h0 : -10000000000000 ≤ a) (h1 : a ≤ 10000000000000) : sgOk (moneyL a) = true ∧ sgV (moneyL a) = a := by
  obtain ⟨ho, hv⟩ := mn_money a.natAbs (by omega)
  unfold moneyL
  by_cases hn : a < 0
  · rw [if_pos hn]
    have hb : below ([45] ++ moneyU a.natAbs) = true := rfl
    have hd : ([45] ++ moneyU a.natAbs).tail = moneyU a.natAbs := rfl
    refine ⟨?_, ?_⟩
    · unfold sgOk
      rw [if_pos hb, hd, ho, hv]
      simp [bne]; omega
    · unfold sgV
      rw [if_pos hb, hd, hv]; omega
  · rw [if_neg hn, List.nil_append]
    have hb := money_head a.natAbs
    refine ⟨?_, ?_⟩
    · unfold sgOk
      rw [if_neg (by rw [hb]; decide), ho]
    · unfold sgV
      rw [if_neg (by rw [hb]; decide), hv]; omega
theorem mn_bd (l : List UInt8) : 0 ≤ mnV l ∧ mnV l ≤ 10000000000000 := by
  unfold mnV
  split
  · rename_i h
    unfold mnOk at h
    simp only [Bool.and_eq_true, decide_eq_true_eq] at h
    omega
  · omega
end Go.Proofs.YtpmnepihaljamaaGreatDoor.Nu
end
