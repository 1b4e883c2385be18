/-
  Texts put together (merge.py): EOnce.
-/
import Derived.Test.YtpmnepihaljamaaGreatDoorM17
/-
  How long what is written is; which signs it has; what is read, written again; one claim by itself: over plain lists.
-/
section
set_option linter.unusedSimpArgs false
namespace Go.Proofs.YtpmnepihaljamaaGreatDoor.Et
open Cm

def pl (ps : List Tx) : Nat := (ps.map fun x => 1 + x.length).sum
def gl (g : Sg) : Nat := (g.map pl).sum
theorem ln_app (a b : List Sg) : ln (a ++ b) = ln a + ln b := by simp [ln]
theorem ln_cons (g : Sg) (r : List Sg) : ln (g :: r) = gl g + ln r := by simp [ln, gl]; rfl
theorem ln_nil : ln [] = 0 := rfl
theorem pl_nil : pl [] = 0 := rfl
theorem pl_one (t : Tx) : pl [t] = 1 + t.length := by simp [pl]
theorem pl_cons (t : Tx) (r : List Tx) : pl (t :: r) = 1 + t.length + pl r := by simp [pl]
theorem gl_cons (p : List Tx) (r : Sg) : gl (p :: r) = pl p + gl r := by simp [gl]
theorem gl_nil : gl [] = 0 := rfl

/-! ### At most so long -/
theorem mods_pl : ∀ l : List Tx, (∀ t ∈ l, codeB t 2 2 = true) → pl l ≤ 3 * l.length
  | [], _ => by simp [pl]
  | t :: r, h => by
    have h1 := code_len (h t List.mem_cons_self)
    have := mods_pl r fun x hx => h x (List.mem_cons_of_mem _ hx)
    rw [pl_cons, List.length_cons]
    omega
theorem lnS_ln (k : Nat) (x : Ln) (hk : k ≤ 999) (h : lineE x = 0) : ln (lnS k x) ≤ 91 := by
  obtain ⟨f1, f2, f3, f4, f5, f6, f7, f8, f9, f10, f11⟩ := line_facts h
  obtain ⟨-, -, m3⟩ := mn_moneyL x.billed f8 f9
  obtain ⟨-, -, p3⟩ := mn_moneyL x.prior f10 f11
  obtain ⟨-, -, u3, -⟩ := ri_itoa x.units 4 (by omega) (by omega) (by omega) (by omega)
  obtain ⟨-, -, d3, -⟩ := ri_itoa x.date 8 (by omega) (by omega) (by omega) (by omega)
  obtain ⟨-, -, k3, -⟩ := ri_itoa (k : Int) 3 (by omega) (by omega) (by omega) (by omega)
  have g1 := code_len f1
  have g2 := mods_pl x.mods f3
  unfold lnS
  rw [ln_app]
  have hq : ln (if 0 < x.prior then [[[tAMT], [tD], [Nu.moneyL x.prior]]] else []) ≤ 22 := by
    split
    · simp only [ln_cons, ln_nil, gl_cons, gl_nil, pl_one, tAMT, tD, List.length_cons, List.length_nil]; omega
    · rw [ln_nil]; omega
  simp only [ln_cons, ln_nil, gl_cons, gl_nil, pl_one, pl_cons, pl_nil, tLX, tSV, tHC, tDTP, t472, List.length_cons, List.length_nil]
  omega
theorem lnsS_ln : ∀ (ls : List Ln) (k : Nat), (∀ x ∈ ls, lineE x = 0) → k + ls.length ≤ 999 → ln (lnsS k ls) ≤ 91 * ls.length
  | [], _, _, _ => by simp [lnsS, ln]
  | x :: r, k, h, hk => by
    rw [List.length_cons] at hk ⊢
    have h1 := lnS_ln (k + 1) x (by omega) (h x List.mem_cons_self)
    have h2 := lnsS_ln r (k + 1) (fun y hy => h y (List.mem_cons_of_mem _ hy)) (by omega)
    unfold lnsS
    rw [ln_app]
    omega
theorem clS_ln (k : Nat) (c : Cl) (hk : k ≤ 999) (h : checkE c = 0) : ln (clS k c) ≤ 86 + 91 * c.lines.length := by
  obtain ⟨f1, f2, f3, f4, f5, f6, f7, f8, f9, f10, f11⟩ := check_facts h
  obtain ⟨-, -, m3⟩ := mn_moneyL (totV c.lines) f10 f11
  obtain ⟨-, -, n3, -⟩ := ri_itoa c.net 1 (by omega) (by omega) (by omega) (by omega)
  obtain ⟨-, -, d3, -⟩ := ri_itoa c.does 1 (by omega) (by omega) (by omega) (by omega)
  obtain ⟨-, -, k3, -⟩ := ri_itoa (k : Int) 3 (by omega) (by omega) (by omega) (by omega)
  have g1 := code_len f1
  have g2 := code_len f2
  have g3 := code_len f3
  have g4 : c.ref.length ≤ 12 := by
    rcases f6 with e | e
    · rw [e]; simp
    · have := code_len e; omega
  have h2 := lnsS_ln c.lines 0 f8 (by omega)
  unfold clS hdS
  rw [ln_app]
  simp only [ln_cons, ln_nil, gl_cons, gl_nil, pl_one, tHL, tNM, tCLM, List.length_cons, List.length_nil]
  omega
def up (l : List Cl) : Nat := (l.map fun c => 86 + 91 * c.lines.length).sum
theorem clsS_ln : ∀ (l : List Cl) (k : Nat), (∀ c ∈ l, checkE c = 0) → k + l.length ≤ 999 → ln (clsS k l) ≤ up l
  | [], _, _, _ => by simp [clsS, ln, up]
  | c :: r, k, h, hk => by
    rw [List.length_cons] at hk
    have h1 := clS_ln (k + 1) c (by omega) (h c List.mem_cons_self)
    have h2 := clsS_ln r (k + 1) (fun y hy => h y (List.mem_cons_of_mem _ hy)) (by omega)
    unfold clsS
    rw [ln_app]
    simp only [up, List.map_cons, List.sum_cons] at h2 ⊢
    omega
theorem segs_ln (n : Int) (l : List Cl) (h : batchE n l = 0) : ln (segs l) ≤ 8 + up l := by
  obtain ⟨-, -, h2, h3⟩ := batch_facts h
  obtain ⟨-, -, k3, -⟩ := ri_itoa (l.length : Int) 3 (by omega) (by omega) (by omega) (by omega)
  have := clsS_ln l 0 h3 (by omega)
  unfold segs
  simp only [ln_cons, gl_cons, gl_nil, pl_one, tBHT, List.length_cons, List.length_nil]
  omega
theorem lnS_len (k : Nat) (x : Ln) : (lnS k x).length = 3 + if 0 < x.prior then 1 else 0 := by
  unfold lnS; split <;> simp
theorem lnsS_le : ∀ (k : Nat) (ls : List Ln), (lnsS k ls).length ≤ 4 * ls.length
  | _, [] => by simp [lnsS]
  | k, x :: r => by
    have := lnsS_le (k + 1) r
    have h2 := lnS_len (k + 1) x
    unfold lnsS
    rw [List.length_append, List.length_cons]
    split at h2 <;> omega
def wide (l : List Cl) : Nat := (l.map fun c => 1 + c.lines.length).sum
theorem clsS_le : ∀ (k : Nat) (l : List Cl), (clsS k l).length ≤ 4 * wide l
  | _, [] => by simp [clsS, wide]
  | k, c :: r => by
    have := clsS_le (k + 1) r
    have h2 := lnsS_le 0 c.lines
    unfold clsS clS hdS
    simp only [wide, List.map_cons, List.sum_cons, List.length_append, List.length_cons, List.length_nil] at this ⊢
    omega
theorem up_wide : ∀ l : List Cl, up l ≤ 91 * wide l
  | [] => by simp [up, wide]
  | c :: r => by
    have := up_wide r
    simp only [up, wide, List.map_cons, List.sum_cons] at this ⊢
    omega
/-- A batch that may be, and is light: its segments are not too many, and not too long. -/
theorem segs_light (n : Int) (l : List Cl) (h : batchE n l = 0) (hw : wide l ≤ 600) : ln (segs l) ≤ 90000 ∧ (segs l).length ≤ 100000 := by
  have h1 := segs_ln n l h
  have h2 := up_wide l
  have h3 := clsS_le 0 l
  refine ⟨by omega, ?_⟩
  unfold segs
  rw [List.length_cons]
  omega

/-! ### Which signs there are -/
def okc (c : UInt8) : Bool := Cm.signB c || decide (c.toNat = 46)
def okT (t : Tx) : Bool := t.all okc
theorem plain_ok {e p s : UInt8} (hg : goodB e p s = true) {t : Tx} (h : okT t = true) : plainB e p s t = true := by
  simp only [goodB, Bool.and_eq_true, bne_iff_ne] at hg
  obtain ⟨⟨⟨-, h4⟩, h5⟩, h6⟩ := hg
  have key : ∀ (c d : UInt8), okc c = true → _root_.Go.Proofs.YtpmnepihaljamaaGreatDoor.signB d = true → c ≠ d := by
    intro c d hc hd e
    subst e
    simp only [okc, Cm.signB, Bool.or_eq_true, Bool.and_eq_true, decide_eq_true_eq] at hc
    simp only [_root_.Go.Proofs.YtpmnepihaljamaaGreatDoor.signB, Bool.and_eq_true, Bool.not_eq_true', decide_eq_true_eq, decide_eq_false_iff_not, Bool.and_eq_false_iff] at hd
    omega
  unfold plainB
  rw [List.all_eq_true]
  intro c hc
  have hc' := List.all_eq_true.1 h c hc
  have hp : prn c = true := by
    simp only [okc, Cm.signB, Bool.or_eq_true, Bool.and_eq_true, decide_eq_true_eq] at hc'
    simp only [prn, Bool.and_eq_true, decide_eq_true_eq]
    omega
  simp only [plain1, Bool.and_eq_true, bne_iff_ne]
  exact ⟨⟨⟨hp, key c e hc' h4⟩, key c p hc' h5⟩, key c s hc' h6⟩
theorem ok_code {t : Tx} {f m : Int} (h : codeB t f m = true) : okT t = true := by
  have := (code_len h).2.2
  unfold okT
  rw [List.all_eq_true] at this ⊢
  intro c hc
  unfold okc
  rw [this c hc]; rfl
theorem ok_dig {t : Tx} (h : Nu.allD t = true) : okT t = true := by
  unfold okT
  unfold Nu.allD at h
  rw [List.all_eq_true] at h ⊢
  intro c hc
  have := (Nu.isD_iff c).1 (h c hc)
  simp only [okc, Cm.signB, Bool.or_eq_true, Bool.and_eq_true, decide_eq_true_eq]
  omega
theorem ok_app {a b : Tx} (h1 : okT a = true) (h2 : okT b = true) : okT (a ++ b) = true := by
  unfold okT at *
  rw [List.all_append, h1, h2]; rfl
theorem ok_itoa (n : Int) (h : 0 ≤ n) : okT (Lib.itoa n) = true := by
  obtain ⟨m, rfl⟩ : ∃ m : Nat, n = m := ⟨n.toNat, by omega⟩
  have e : Lib.itoa (m : Int) = Lib.decDigits m := by simp [Lib.itoa]
  rw [e]
  exact ok_dig (Nu.dec_allD m)
theorem ok_money (a : Int) (h : 0 ≤ a) : okT (Nu.moneyL a) = true := by
  have e : Nu.moneyL a = Lib.decDigits (a.natAbs / 100) ++ 46 :: Nu.two a.natAbs := by unfold Nu.moneyL; rw [if_neg (by omega)]; rfl
  rw [e]
  refine ok_app (ok_dig (Nu.dec_allD _)) ?_
  have h2 := (Nu.two_ok a.natAbs).1
  simp only [Nu.ctOk, Bool.and_eq_true] at h2
  have := ok_dig h2.2
  show (okc 46 && okT (Nu.two a.natAbs)) = true
  rw [this]; rfl
def okS (g : Sg) : Bool := namedB g && g.all fun ps => !ps.isEmpty && ps.all okT
theorem ok_seg {e p s : UInt8} (hg : goodB e p s = true) {g : Sg} (h : okS g = true) : segOk e p s g = true := by
  unfold okS at h
  unfold segOk partsB
  rw [Bool.and_eq_true] at h ⊢
  refine ⟨h.1, ?_⟩
  have h2 := h.2
  rw [List.all_eq_true] at h2 ⊢
  intro ps hp
  have := h2 ps hp
  rw [Bool.and_eq_true] at this ⊢
  refine ⟨this.1, ?_⟩
  have h3 := this.2
  rw [List.all_eq_true] at h3 ⊢
  exact fun t ht => plain_ok hg (h3 t ht)
def okL (l : List Sg) : Bool := l.all okS
theorem okL_app {a b : List Sg} (h1 : okL a = true) (h2 : okL b = true) : okL (a ++ b) = true := by
  unfold okL at *
  rw [List.all_append, h1, h2]; rfl
theorem lnS_ok (k : Nat) (x : Ln) (h : lineE x = 0) : okL (lnS k x) = true := by
  obtain ⟨f1, f2, f3, f4, f5, f6, f7, f8, f9, f10, f11⟩ := line_facts h
  have a1 := ok_itoa (k : Int) (by omega)
  have a2 := ok_code f1
  have a3 : x.mods.all okT = true := by rw [List.all_eq_true]; exact fun t ht => ok_code (f3 t ht)
  have a4 := ok_money x.billed f8
  have a5 := ok_itoa x.units (by omega)
  have a6 := ok_itoa x.date (by omega)
  have a7 := ok_money x.prior f10
  have c1 : okT tLX = true := by decide
  have c2 : okT tSV = true := by decide
  have c3 : okT tHC = true := by decide
  have c4 : okT tDTP = true := by decide
  have c5 : okT t472 = true := by decide
  have c6 : okT tAMT = true := by decide
  have c7 : okT tD = true := by decide
  unfold lnS
  refine okL_app ?_ ?_
  · unfold okL okS
    simp only [List.all_cons, List.all_nil, List.isEmpty_cons, Bool.not_false, Bool.true_and, Bool.and_true, a1, a2, a3, a4, a5, a6, c1, c2, c3, c4, c5]
    rfl
  · split
    · unfold okL okS
      simp only [List.all_cons, List.all_nil, List.isEmpty_cons, Bool.not_false, Bool.true_and, Bool.and_true, a7, c6, c7]
      rfl
    · rfl
theorem lnsS_ok : ∀ (k : Nat) (ls : List Ln), (∀ x ∈ ls, lineE x = 0) → okL (lnsS k ls) = true
  | _, [], _ => rfl
  | k, x :: r, h => by
    unfold lnsS
    exact okL_app (lnS_ok _ x (h x List.mem_cons_self)) (lnsS_ok _ r fun y hy => h y (List.mem_cons_of_mem _ hy))
theorem clS_ok (k : Nat) (c : Cl) (h : checkE c = 0) : okL (clS k c) = true := by
  obtain ⟨f1, f2, f3, f4, f5, f6, f7, f8, f9, f10, f11⟩ := check_facts h
  have a1 := ok_itoa (k : Int) (by omega)
  have a2 := ok_code f1
  have a3 := ok_code f2
  have a4 := ok_code f3
  have a5 := ok_money _ f10
  have a6 := ok_itoa c.net (by omega)
  have a7 := ok_itoa c.does (by omega)
  have a8 : okT c.ref = true := by
    rcases f6 with e | e
    · rw [e]; rfl
    · exact ok_code e
  have c1 : okT tHL = true := by decide
  have c2 : okT tNM = true := by decide
  have c3 : okT tCLM = true := by decide
  unfold clS
  refine okL_app ?_ (lnsS_ok 0 c.lines f8)
  unfold hdS okL okS
  simp only [List.all_cons, List.all_nil, List.isEmpty_cons, Bool.not_false, Bool.true_and, Bool.and_true, a1, a2, a3, a4, a5, a6, a7, a8, c1, c2, c3]
  rfl
theorem clsS_ok : ∀ (k : Nat) (l : List Cl), (∀ c ∈ l, checkE c = 0) → okL (clsS k l) = true
  | _, [], _ => rfl
  | k, c :: r, h => by
    unfold clsS
    exact okL_app (clS_ok _ c (h c List.mem_cons_self)) (clsS_ok _ r fun y hy => h y (List.mem_cons_of_mem _ hy))
theorem segs_ok (n : Int) (l : List Cl) (h : batchE n l = 0) : okL (segs l) = true := by
  obtain ⟨-, -, h2, h3⟩ := batch_facts h
  have a1 := ok_itoa (l.length : Int) (by omega)
  have c1 : okT tBHT = true := by decide
  have := clsS_ok 0 l h3
  unfold okL at this
  unfold segs okL okS
  simp only [List.all_cons, List.all_nil, List.isEmpty_cons, Bool.not_false, Bool.true_and, Bool.and_true, a1, c1]
  rw [show l.length = l.length from rfl]
  simp only [namedB, tBHT, List.isEmpty_cons, Bool.not_false, Bool.true_and]
  exact this
theorem seg3_ok (a b c : Tx) (h0 : a ≠ []) (h1 : okT a = true) (h2 : okT b = true) (h3 : okT c = true) : okS (seg3 a b c) = true := by
  cases a with
  | nil => exact absurd rfl h0
  | cons x r =>
    unfold okS seg3
    simp only [List.all_cons, List.all_nil, List.isEmpty_cons, Bool.not_false, Bool.true_and, Bool.and_true, h1, h2, h3, namedB]
theorem abt_ok (n : Int) (l : List Cl) (h : batchE n l = 0) : okL (abt t837 n (segs l)) = true := by
  obtain ⟨h0, h1, -, -⟩ := batch_facts h
  have a1 := ok_itoa n h0
  have a2 := ok_itoa (((segs l).length : Int) + 2) (by omega)
  unfold abt
  refine okL_app ?_ (okL_app (segs_ok n l h) ?_)
  · unfold fore okL
    simp only [List.all_cons, List.all_nil, seg3_ok tGS t837 (Lib.itoa n) (by decide) (by decide) (by decide) a1, seg3_ok tST t837 (Lib.itoa n) (by decide) (by decide) (by decide) a1, Bool.and_true]
  · unfold aft okL
    simp only [List.all_cons, List.all_nil, seg3_ok tSE _ (Lib.itoa n) (by decide) (by decide) a2 a1, seg3_ok tGE t1 (Lib.itoa n) (by decide) (by decide) (by decide) a1, seg3_ok tIEA t1 (Lib.itoa n) (by decide) (by decide) (by decide) a1, Bool.and_true]
theorem wr_segs {e p s : UInt8} (hg : goodB e p s = true) (n : Int) (l : List Cl) (h : batchE n l = 0) (hl : (abt t837 n (segs l)).length ≤ 4096) : wrOk e p s (abt t837 n (segs l)) = true := by
  have := abt_ok n l h
  unfold okL at this
  rw [List.all_eq_true] at this
  unfold wrOk
  rw [hg, decide_eq_true hl, Bool.true_and, Bool.true_and, List.all_eq_true]
  exact fun g hgm => ok_seg hg (this g hgm)
theorem wt_split {e p s : UInt8} {n : Int} {l : List Cl} (h : wtE e p s n l = 0) : batchE n l = 0 ∧ wpE e p s t837 n (segs l) = 0 ∧ wtV e p s n l = wpV e p s t837 n (segs l) := by
  have hb : batchE n l = 0 := by
    unfold wtE at h
    split at h
    · assumption
    · exact h
  exact ⟨hb, by unfold wtE at h; rwa [if_pos hb] at h, by unfold wtV; rw [if_pos hb]⟩
theorem wt_bad {e p s : UInt8} {n : Int} {l : List Cl} (h : wtE e p s n l ≠ 0) : wtV e p s n l = [] := by
  unfold wtV
  split
  · next hb =>
    unfold wtE at h
    rw [if_pos hb] at h
    exact wp_bad h
  · rfl
theorem wp_vals (e p s : UInt8) (k : Tx) (n : Int) (l : List Sg) : wpE e p s k n l = 0 ∨ wpE e p s k n l = 1 ∨ wpE e p s k n l = 10 := by
  unfold wpE
  repeat' split
  all_goals simp
theorem wt_len {e p s : UInt8} {n : Int} {l : List Cl} (h : wtE e p s n l = 0) : (wtV e p s n l).length = 6 + ln (abt t837 n (segs l)) ∧ (wtV e p s n l).length ≤ 65536 := by
  obtain ⟨hb, hw, hv⟩ := wt_split h
  obtain ⟨hg, hk, h0, h1, hwr, hl, hvv⟩ := wp_zero hw
  have := wrT_len _ (wr_ok hwr).2.2
  rw [hv, hvv, List.length_append, headL_len, this]
  rw [this] at hl
  omega

/-! ### One claim by itself -/
theorem itoa_mono (a b : Nat) (h : a ≤ b) : (Lib.itoa (a : Int)).length ≤ (Lib.itoa (b : Int)).length := by
  have e : ∀ m : Nat, Lib.itoa (m : Int) = Lib.decDigits m := fun m => by simp [Lib.itoa]
  rw [e, e, Lib.decDigits_length, Lib.decDigits_length]
  exact Nu.nD_mono a b h
theorem clS_mono (j k : Nat) (c : Cl) (h : j ≤ k) : ln (clS j c) ≤ ln (clS k c) ∧ (clS j c).length = (clS k c).length := by
  have := itoa_mono j k h
  unfold clS hdS
  refine ⟨?_, by simp⟩
  rw [ln_app, ln_app]
  simp only [ln_cons, gl_cons, gl_nil, pl_one]
  omega
theorem cls_one : ∀ (l : List Cl) (k i : Nat) (c : Cl), l[i]? = some c → ln (clS 1 c) ≤ ln (clsS k l) ∧ (clS 1 c).length ≤ (clsS k l).length
  | [], _, _, _, h => by simp at h
  | x :: r, k, 0, c, h => by
    obtain rfl : x = c := by simpa using h
    have := clS_mono 1 (k + 1) x (by omega)
    unfold clsS
    rw [ln_app, List.length_append]
    omega
  | x :: r, k, i + 1, c, h => by
    have := cls_one r (k + 1) i c (by simpa using h)
    unfold clsS
    rw [ln_app, List.length_append]
    omega
theorem part_ok {e p s : UInt8} {n : Int} {l : List Cl} (h : wtE e p s n l = 0) (i : Nat) (c : Cl) (hc : l[i]? = some c) : wtE e p s n [c] = 0 := by
  obtain ⟨hb, hw, hv⟩ := wt_split h
  obtain ⟨hg, hk, h0, h1, hwr, hl, hvv⟩ := wp_zero hw
  obtain ⟨-, -, -, hall⟩ := batch_facts hb
  have hb1 : batchE n [c] = 0 := batch_of h0 h1 (by simp) (fun d hd => by
    obtain rfl : d = c := by simpa using hd
    exact hall d (List.mem_of_getElem? hc))
  have hi : 1 ≤ l.length := by have := (List.getElem?_eq_some_iff.1 hc).1; omega
  obtain ⟨q1, q2⟩ := cls_one l 0 i c hc
  have e1 : segs [c] = [[tBHT], [Lib.itoa ((1 : Nat) : Int)]] :: (clS 1 c ++ []) := rfl
  have hm := itoa_mono 1 l.length hi
  have s1 : ln (segs [c]) ≤ ln (segs l) := by
    rw [e1, List.append_nil]
    unfold segs
    simp only [ln_cons, gl_cons, gl_nil, pl_one]
    omega
  have s2 : (segs [c]).length ≤ (segs l).length := by
    rw [e1, List.append_nil]
    unfold segs
    simp only [List.length_cons]
    omega
  have hm2 := itoa_mono ((segs [c]).length + 2) ((segs l).length + 2) (by omega)
  have lenl := (wr_ok hwr).2.1
  rw [abt_len] at lenl
  have hwr1 := wr_segs hg n [c] hb1 (by rw [abt_len]; omega)
  have L1 := wrT_len _ (wr_ok hwr1).2.2
  have L2 := wrT_len _ (wr_ok hwr).2.2
  have hln : ln (abt t837 n (segs [c])) ≤ ln (abt t837 n (segs l)) := by
    unfold abt
    rw [ln_app, ln_app, ln_app, ln_app]
    unfold aft seg3
    simp only [ln_cons, ln_nil, gl_cons, gl_nil, pl_one]
    have e2 : ∀ m : Nat, ((m : Int) + 2) = ((m + 2 : Nat) : Int) := fun m => by omega
    rw [e2, e2]
    omega
  unfold wtE
  rw [if_pos hb1]
  exact wp_of hg hk h0 h1 hwr1 (by rw [L1]; rw [L2] at hl; omega)

/-! ### What is read, written again -/
theorem ri_pos {t : Tx} {m : Int} (h : Nu.riE t m = 0) : 1 ≤ t.length := by
  unfold Nu.riE at h
  split at h
  · next ho =>
    unfold Nu.riOk at ho
    simp only [Bool.and_eq_true] at ho
    have := (Nu.canon_allD t ho.1.1).2
    cases t with
    | nil => exact absurd rfl this
    | cons a r => simp
  · cases h
theorem mn_pos {t : Tx} (h : Nu.mnE t = 0) : 1 ≤ t.length := by
  unfold Nu.mnE at h
  split at h
  · next ho =>
    unfold Nu.mnOk at ho
    simp only [Bool.and_eq_true] at ho
    have h1 : Nu.riE (Nu.whole t) 12 = 0 := by unfold Nu.riE; rw [if_pos ho.1.1]
    have h2 := ri_pos h1
    cases t with
    | nil => simp [Nu.whole] at h2
    | cons a r => simp
  · cases h
theorem beh_form {l : List Sg} {t : Tx} {n : Nat} (h : behB l t n = true) : ∃ p g r, l = (p :: g) :: r ∧ g.length = n ∧ p.headD [] = t := by
  unfold behB at h
  simp only [Bool.and_eq_true, decide_eq_true_eq, Bool.not_eq_true'] at h
  obtain ⟨h1, h2, h3⟩ := h
  cases l with
  | nil => simp at h1
  | cons g r =>
    cases g with
    | nil => simp at h3
    | cons p g => exact ⟨p, g, r, rfl, by simpa using h3, h2⟩
theorem len1 {α : Type} {l : List α} (h : l.length = 1) : ∃ a, l = [a] := by
  cases l with
  | nil => simp at h
  | cons a r =>
    cases r with
    | nil => exact ⟨a, rfl⟩
    | cons b r => simp at h
theorem one_forms : ∀ (g : Sg), oneB g = true → ∃ ts : List Tx, g = ts.map fun t => [t]
  | [], _ => ⟨[], rfl⟩
  | p :: g, h => by
    simp only [oneB, List.all_cons, Bool.and_eq_true, decide_eq_true_eq] at h
    obtain ⟨a, rfl⟩ := len1 h.1
    obtain ⟨ts, rfl⟩ := one_forms g h.2
    exact ⟨a :: ts, rfl⟩
theorem tx_form {l : List Sg} {t : Tx} {n : Nat} (h : txB l t n = true) : ∃ (p : List Tx) (ts : List Tx) (r : List Sg), l = (p :: ts.map fun t => [t]) :: r ∧ ts.length = n ∧ p.headD [] = t := by
  unfold txB at h
  rw [Bool.and_eq_true] at h
  obtain ⟨p, g, r, rfl, h2, h3⟩ := beh_form h.1
  obtain ⟨ts, rfl⟩ := one_forms g h.2
  exact ⟨p, ts, r, rfl, by simpa using h2, h3⟩
theorem tx1_form {l : List Sg} {t : Tx} (h : txB l t 1 = true) : ∃ p a r, l = [p, [a]] :: r ∧ p.headD [] = t := by
  obtain ⟨p, ts, r, rfl, h2, h3⟩ := tx_form h
  obtain ⟨a, rfl⟩ := len1 h2
  exact ⟨p, a, r, rfl, h3⟩
theorem tx2_form {l : List Sg} {t : Tx} (h : txB l t 2 = true) : ∃ p a b r, l = [p, [a], [b]] :: r ∧ p.headD [] = t := by
  obtain ⟨p, ts, r, rfl, h2, h3⟩ := tx_form h
  match ts, h2 with
  | [a, b], _ => exact ⟨p, a, b, r, rfl, h3⟩
theorem tx5_form {l : List Sg} {t : Tx} (h : txB l t 5 = true) : ∃ p a b c d e r, l = [p, [a], [b], [c], [d], [e]] :: r ∧ p.headD [] = t := by
  obtain ⟨p, ts, r, rfl, h2, h3⟩ := tx_form h
  match ts, h2 with
  | [a, b, c, d, e], _ => exact ⟨p, a, b, c, d, e, r, rfl, h3⟩
theorem pl_head {p : List Tx} {t : Tx} (h : p.headD [] = t) (h0 : t ≠ []) : 1 + t.length ≤ pl p := by
  cases p with
  | nil => exact absurd h.symm h0
  | cons a r =>
    obtain rfl : a = t := h
    rw [pl_cons]; omega
theorem dn_low {l : List Sg} (h : dnE l = 0) : ∃ g r, l = g :: r ∧ 11 ≤ gl g := by
  unfold dnE at h
  split at h
  case isFalse => cases h
  case isTrue ho =>
  unfold dnOk at ho
  simp only [Bool.and_eq_true, decide_eq_true_eq] at ho
  obtain ⟨hb, h1, h2, h3, h4⟩ := ho
  obtain ⟨p, g, r, rfl, hg, hp⟩ := beh_form hb
  match g, hg with
  | [p1, p2, p3], _ =>
    obtain ⟨a2, rfl⟩ := len1 (show p2.length = 1 from h3)
    obtain ⟨a3, rfl⟩ := len1 (show p3.length = 1 from h4)
    split at h
    case isFalse hm => exact absurd h hm
    case isTrue hm =>
    have m1 : 1 ≤ a2.length := mn_pos hm
    have m2 : 1 ≤ a3.length := ri_pos h
    have q0 := pl_head hp (by decide)
    refine ⟨_, r, rfl, ?_⟩
    have h1' : 2 ≤ p1.length := h1
    have h2' : p1.headD [] = tHC := h2
    match p1, h1' with
    | x :: y :: z, _ =>
      obtain rfl : x = tHC := h2'
      simp only [gl_cons, gl_nil, pl_one, pl_cons, pl_nil, tHC, tSV, List.length_cons, List.length_nil] at q0 ⊢
      omega
theorem dy_low {l : List Sg} (h : dyE l = 0) : ∃ g r, l = g :: r ∧ 10 ≤ gl g := by
  unfold dyE at h
  split at h
  case isFalse => cases h
  case isTrue ho =>
  unfold dyOk at ho
  simp only [Bool.and_eq_true, decide_eq_true_eq] at ho
  obtain ⟨p, a, b, r, rfl, hp⟩ := tx2_form ho.1
  split at h
  case isFalse => cases h
  case isTrue hr =>
  have m1 : 1 ≤ b.length := ri_pos hr
  have q0 := pl_head hp (by decide)
  have h2 : a = t472 := ho.2
  subst h2
  refine ⟨_, r, rfl, ?_⟩
  simp only [gl_cons, gl_nil, pl_one, t472, tDTP, List.length_cons, List.length_nil] at q0 ⊢
  omega
theorem sv_low {l : List Sg} (h : svE l = 0) (k : Nat) : 21 + ln (svN l) ≤ ln l ∧ l.length + 1 = (lnS k (svX l)).length + (svN l).length := by
  unfold svE at h
  split at h
  case isFalse hd => exact absurd h hd
  case isTrue hd =>
  split at h
  case isFalse hy => exact absurd h hy
  case isTrue hy =>
  obtain ⟨g, r, rfl, h1⟩ := dn_low hd
  obtain ⟨g', q, hr, h2⟩ := dy_low hy
  rw [List.tail_cons] at hr
  subst hr
  rw [lnS_len]
  have e1 : svN (g :: g' :: q) = if amB q = true then q.tail else q := rfl
  have e2 : (svX (g :: g' :: q)).prior = if amB q = true then Nu.mnV (tx q 2) else 0 := rfl
  rw [e1, e2, ln_cons, ln_cons]
  have h' : (if amB q = true then (if amOk q = true then 0 else 8) else 0) = (0 : Int) := h
  by_cases ha : amB q = true
  · rw [if_pos ha] at h' ⊢
    rw [if_pos ha]
    split at h'
    case isFalse => cases h'
    case isTrue hk =>
    simp only [amOk, Bool.and_eq_true, decide_eq_true_eq] at hk
    have hpos : 0 < Nu.mnV (tx q 2) := by have := (Nu.mn_bd (tx q 2)).1; have := hk.2.2; omega
    rw [if_pos hpos]
    obtain ⟨p, a, b, q', rfl, -⟩ := tx2_form ha
    simp only [List.tail_cons, ln_cons, List.length_cons]
    omega
  · rw [if_neg ha, if_neg ha, if_neg (by omega)]
    simp only [List.length_cons]
    omega
theorem svs_once : ∀ (f : Nat) (acc : List Ln) (l : List Sg), (svsA f acc l).1 = 0 → ∃ ls, (svsA f acc l).2.1 = acc ++ ls ∧ (lnsS acc.length ls).length + (svsA f acc l).2.2.length = l.length ∧ 25 * ls.length + ln (svsA f acc l).2.2 ≤ ln l
  | 0, acc, l, _ => ⟨[], by simp [svsA, lnsS]⟩
  | f + 1, acc, l, h => by
    unfold svsA at h ⊢
    by_cases h1 : isLX l = true
    · rw [if_pos h1] at h ⊢
      by_cases h2 : plB l tLX (acc.length + 1) = true
      · rw [if_pos h2] at h ⊢
        by_cases h3 : svE l.tail = 0
        · rw [if_pos h3] at h ⊢
          obtain ⟨ls, e1, e2, e3⟩ := svs_once f (acc ++ [svX l.tail]) (svN l.tail) h
          obtain ⟨q1, q2⟩ := sv_low h3 (acc.length + 1)
          unfold plB at h2
          rw [Bool.and_eq_true] at h2
          obtain ⟨p, a, r, rfl, hp⟩ := tx1_form h2.1
          have q0 := pl_head hp (by decide)
          rw [List.tail_cons] at e1 e2 e3 q1 q2 ⊢
          rw [List.length_append, List.length_singleton] at e2
          refine ⟨svX r :: ls, by rw [e1]; simp, ?_, ?_⟩
          · have hw : lnsS acc.length (svX r :: ls) = lnS (acc.length + 1) (svX r) ++ lnsS (acc.length + 1) ls := rfl
            rw [hw, List.length_append, List.length_cons]
            omega
          · simp only [ln_cons, gl_cons, gl_nil, pl_one, tLX, List.length_cons, List.length_nil] at q0 ⊢
            omega
        · rw [if_neg h3] at h; exact absurd h h3
      · rw [if_neg h2] at h; cases h
    · rw [if_neg h1] at h ⊢
      exact ⟨[], by simp [lnsS]⟩
theorem cl_once {k : Nat} {l : List Sg} (h : clE k l = 0) (j : Nat) : checkE (clC l) = 0 ∧ (clS j (clC l)).length + (clP l).2.2.length = l.length ∧ 21 + 25 * (clC l).lines.length + ln (clP l).2.2 ≤ ln l := by
  unfold clE at h
  split at h
  case isFalse => cases h
  case isTrue h1 =>
  split at h
  case isFalse h2 => exact absurd h h2
  case isTrue h2 =>
  split at h
  case isFalse h3 => exact absurd h h3
  case isTrue h3 =>
  split at h
  case isFalse h4 => exact absurd h h4
  case isTrue h4 =>
  refine ⟨h4, ?_⟩
  obtain ⟨ls, e1, e2, e3⟩ := svs_once l.length [] l.tail.tail.tail h3
  have e1' : (clC l).lines = ls := e1
  unfold plB at h1
  rw [Bool.and_eq_true] at h1
  obtain ⟨p, a, r, rfl, hp⟩ := tx1_form h1.1
  rw [List.tail_cons] at h2
  unfold hdE at h2
  split at h2
  case isFalse => cases h2
  case isTrue ho =>
  split at h2
  case isFalse hm => exact absurd h2 hm
  case isTrue hm =>
  split at h2
  case isFalse => cases h2
  case isTrue hn =>
  split at h2
  case isFalse => cases h2
  case isTrue hd =>
  unfold hdOk at ho
  rw [Bool.and_eq_true] at ho
  obtain ⟨p2, a1, a2, r2, rfl, hp2⟩ := tx2_form ho.1
  obtain ⟨p3, b1, b2, b3, b4, b5, r3, hr3, hp3⟩ := tx5_form ho.2
  rw [List.tail_cons] at hr3
  subst hr3
  have m1 : 1 ≤ b2.length := mn_pos hm
  have m2 : 1 ≤ b3.length := ri_pos hn
  have m3 : 1 ≤ b4.length := ri_pos hd
  have q0 := pl_head hp (by decide)
  have q2 := pl_head hp2 (by decide)
  have q3 := pl_head hp3 (by decide)
  have e2' : (lnsS 0 ls).length + (clP ([p, [a]] :: [p2, [a1], [a2]] :: [p3, [b1], [b2], [b3], [b4], [b5]] :: r3)).2.2.length = r3.length := e2
  have e3' : 25 * ls.length + ln (clP ([p, [a]] :: [p2, [a1], [a2]] :: [p3, [b1], [b2], [b3], [b4], [b5]] :: r3)).2.2 ≤ ln r3 := e3
  unfold clS hdS
  rw [e1', List.length_append]
  simp only [ln_cons, gl_cons, gl_nil, pl_one, tHL, tNM, tCLM, List.length_cons, List.length_nil] at q0 q2 q3 ⊢
  constructor <;> omega
def low (l : List Cl) : Nat := (l.map fun c => 21 + 25 * c.lines.length).sum
theorem cls_once : ∀ (f : Nat) (acc : List Cl) (l : List Sg), (clsA f acc l).1 = 0 → acc.length ≤ 256 → l.length ≤ f → ∃ cs, (clsA f acc l).2 = acc ++ cs ∧ (clsS acc.length cs).length = l.length ∧ low cs ≤ ln l ∧ (∀ c ∈ cs, checkE c = 0) ∧ acc.length + cs.length ≤ 256
  | 0, acc, l, _, ha, hl => by
    obtain rfl : l = [] := List.length_eq_zero_iff.1 (by omega)
    exact ⟨[], by simp [clsA], rfl, by simp [low], by simp, by simpa using ha⟩
  | f + 1, acc, l, h, ha, hl => by
    unfold clsA at h ⊢
    by_cases h0 : l.isEmpty = true
    · rw [if_pos h0]
      obtain rfl : l = [] := by simpa using h0
      exact ⟨[], by simp, rfl, by simp [low], by simp, by simpa using ha⟩
    · rw [if_neg h0] at h ⊢
      by_cases h1 : acc.length = 256
      · rw [if_pos h1] at h; cases h
      · rw [if_neg h1] at h ⊢
        by_cases h2 : clE (acc.length + 1) l = 0
        · rw [if_pos h2] at h ⊢
          obtain ⟨c1, c2, c3⟩ := cl_once h2 (acc.length + 1)
          have hlen : 3 ≤ (clS (acc.length + 1) (clC l)).length := by unfold clS hdS; simp
          obtain ⟨cs, e1, e2, e3, e4, e5⟩ := cls_once f (acc ++ [clC l]) (clP l).2.2 h (by simp; omega) (by omega)
          rw [List.length_append, List.length_singleton] at e2 e5
          refine ⟨clC l :: cs, by rw [e1]; simp, ?_, ?_, ?_, by rw [List.length_cons]; omega⟩
          · have hw : clsS acc.length (clC l :: cs) = clS (acc.length + 1) (clC l) ++ clsS (acc.length + 1) cs := rfl
            rw [hw, List.length_append]
            omega
          · simp only [low, List.map_cons, List.sum_cons] at e3 ⊢
            omega
          · intro c hc
            rcases List.mem_cons.1 hc with e | e
            · rw [e]; exact c1
            · exact e4 c e
        · rw [if_neg h2] at h; exact absurd h h2
theorem up_low : ∀ l : List Cl, 10 * up l ≤ 41 * low l
  | [] => by simp [up, low]
  | c :: r => by
    have := up_low r
    simp only [up, low, List.map_cons, List.sum_cons] at this ⊢
    omega
theorem rs_once {l : List Sg} (h : rsE l = 0) : (rsV l).length ≤ 256 ∧ (∀ c ∈ rsV l, checkE c = 0) ∧ (segs (rsV l)).length = l.length ∧ low (rsV l) ≤ ln l := by
  have hv : rsV l = (rsP l).2 := by unfold rsV; rw [if_pos h]
  rw [hv]
  unfold rsE at h
  split at h
  case isFalse => cases h
  case isTrue h1 =>
  split at h
  case isFalse h2 => exact absurd h h2
  case isTrue h2 =>
  split at h
  case isFalse h3 => exact absurd h h3
  case isTrue h3 =>
  obtain ⟨p, a, r, rfl, hp⟩ := tx1_form h1
  obtain ⟨cs, e1, e2, e3, e4, e5⟩ := cls_once ([p, [a]] :: r).length [] r h3 (by simp) (by simp)
  have e1' : (rsP ([p, [a]] :: r)).2 = cs := e1
  rw [e1']
  refine ⟨by simpa using e5, e4, ?_, ?_⟩
  · unfold segs
    rw [List.length_cons, List.length_cons]
    have : (clsS 0 cs).length = r.length := e2
    omega
  · rw [ln_cons]; omega
/-- EVERY TEXT IS READ IN ONE WAY. -/
theorem eight_once {s : Tx} (h : rE s = 0) (hs : s.length ≤ 20000) :
    batchE (rN s) (rV s) = 0 ∧ ln (segs (rV s)) ≤ 90000 ∧ (segs (rV s)).length ≤ 100000 ∧ (wtE (rD s).1 (rD s).2.1 (rD s).2.2 (rN s) (rV s) = 0 ∨ wtE (rD s).1 (rD s).2.1 (rD s).2.2 (rN s) (rV s) = 10) := by
  have ho : opE t837 s = 0 := by
    unfold rE at h
    split at h
    · assumption
    · exact h
  have hr : rsE (opL t837 s) = 0 := by unfold rE at h; rwa [if_pos ho] at h
  have eD : rD s = opD t837 s := by unfold rD; rw [if_pos h]
  have eN : rN s = opN t837 s := by unfold rN; rw [if_pos h]
  have eV : rV s = rsV (opL t837 s) := by unfold rV; rw [if_pos h]
  rw [eD, eN, eV]
  obtain ⟨c1, c2, -⟩ := cover_once ho
  obtain ⟨hg, hk, h0, h1, hwr, hl, hvv⟩ := wp_zero c1
  obtain ⟨r1, r2, r3, r4⟩ := rs_once hr
  have L := wrT_len _ (wr_ok hwr).2.2
  have hlen : s.length = 6 + ln (abt t837 (opN t837 s) (opL t837 s)) := by
    have := congrArg List.length c2
    rw [hvv, List.length_append, headL_len, L] at this
    exact this.symm
  have hln : ln (opL t837 s) ≤ ln (abt t837 (opN t837 s) (opL t837 s)) := by
    unfold abt
    rw [ln_app, ln_app]
    omega
  have hb := batch_of h0 h1 r1 r2
  have u1 := segs_ln _ _ hb
  have u2 := up_low (rsV (opL t837 s))
  have lenl := (wr_ok hwr).2.1
  rw [abt_len] at lenl
  have hw := wr_segs hg (opN t837 s) (rsV (opL t837 s)) hb (by rw [abt_len]; omega)
  refine ⟨hb, by omega, by omega, ?_⟩
  unfold wtE
  rw [if_pos hb]
  unfold wpE
  rw [hw, if_neg (by unfold wpOk; rw [hg, hk]; simp [h0, h1]), if_neg (by simp)]
  split
  · exact Or.inr rfl
  · exact Or.inl rfl
end Go.Proofs.YtpmnepihaljamaaGreatDoor.Et
end
