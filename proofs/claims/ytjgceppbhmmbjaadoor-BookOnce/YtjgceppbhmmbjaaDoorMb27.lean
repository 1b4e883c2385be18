/-
  Texts put together (merge.py): BMade, BVoid.
-/
import Derived.Test.YtjgceppbhmmbjaaDoorMb24
/-
  What layer 18's Made leaves, as a contract: the book that claims make.
-/
section
set_option linter.unusedSimpArgs false
set_option linter.unusedVariables false
set_option maxRecDepth 100000
namespace Go.Proofs.YtjgceppbhmmbjaaDoor.Bk
open Go.RowKit
open Cm (Ln Cl cl0 LnsAt ClsAt ClCells lnv clv LnOk ClOk ClLight boxc)
open Sh (Ot)

theorem made_snoc (most : Int) : ∀ (l : List Cl) (i : Int) (b : List En) (c : Cl), made most i b (l ++ [c]) = (if admE (made most i b l) c most = 0 then putL (made most i b l) c (i + l.length) else made most i b l)
  | [], i, b, c => by simp [made]
  | x :: l, i, b, c => by
    show made most (i + 1) _ (l ++ [c]) = _
    rw [made_snoc most l (i + 1) _ c]
    show _ = if admE (made most (i + 1) _ l) c most = 0 then putL (made most (i + 1) _ l) c (i + ((x :: l).length : Nat)) else made most (i + 1) _ l
    rw [show i + 1 + (l.length : Int) = i + ((x :: l).length : Nat) by simp only [List.length_cons]; omega]
theorem made_take {most : Int} {l : List Cl} {k : Nat} {c : Cl} (h : l[k]? = some c) : made most 0 [] (l.take (k + 1)) = (if admE (made most 0 [] (l.take k)) c most = 0 then putL (made most 0 [] (l.take k)) c k else made most 0 [] (l.take k)) := by
  have hk : k < l.length := (List.getElem?_eq_some_iff.1 h).1
  rw [List.take_add_one, h]
  show made most 0 [] (l.take k ++ [c]) = _
  rw [made_snoc, List.length_take, Nat.min_eq_left (by omega)]
  simp
theorem putL_b {l : List En} {c : Cl} {t most : Int} (hc : Fit c) (h : ∀ x ∈ l, EnB x) (ha : admE l c most = 0) : ∀ x ∈ putL l c t, EnB x := by
  have := put_b hc h t most
  unfold putV at this
  rwa [if_pos ha] at this
theorem made_b (most : Int) : ∀ (l : List Cl) (i : Int) (b : List En), (∀ c ∈ l, Fit c) → (∀ x ∈ b, EnB x) → ∀ x ∈ made most i b l, EnB x
  | [], _, _, _, h => h
  | c :: l, i, b, hf, h => by
    unfold made
    refine made_b most l _ _ (fun x hx => hf x (List.mem_cons_of_mem _ hx)) ?_
    split
    · next e => exact putL_b (hf c (List.mem_cons_self ..)) h e
    · exact h
theorem made_l (most : Int) : ∀ (l : List Cl) (i : Int) (b : List En), (made most i b l).length ≤ b.length + l.length
  | [], _, b => by simp [made]
  | c :: l, i, b => by
    unfold made
    have := made_l most l (i + 1) (if admE b c most = 0 then putL b c i else b)
    have h2 : (if admE b c most = 0 then putL b c i else b).length ≤ b.length + 1 := by
      split
      · next e => rw [put_len e]; exact Nat.le_refl _
      · omega
    simp only [List.length_cons]; omega
theorem cl_get {w : World} {a : Option Addr} {n cc : Nat} {l : List Cl} (h : ClsAt All w (.slice a n cc) l) (k : Nat) (hk : k < l.length) : ∃ b o m, a = some ⟨b, o, none⟩ ∧ b < w.heap.size ∧ l[k]? = some l[k] ∧ ClCells w b (o + k * 7) l[k] m ∧ LnsAt All w m l[k].lines := by
  obtain ⟨a', c', he, h1, h2, h3⟩ := h
  have ha : a = a' := by injection he
  subst ha
  rcases h3 with h | ⟨b, o, ha, _, hb, hc⟩
  · subst h; simp at hk
  · have hx := List.getElem?_eq_getElem hk
    obtain ⟨m, q1, q2⟩ := hc k _ hx
    exact ⟨b, o, m, ha, hb, hx, q1, q2⟩
set_option maxHeartbeats 4000000 in
theorem made_any (most : Int) (l : List Cl) (v : Value) (w : World) (h : ClsAt All w v l) (hz : ∀ c ∈ l, ClOk c) (hf : ∀ c ∈ l, Fit c) (hl : l.length ≤ 1000) :
    Calls Tryd.prog 21 #[v, .int .i64 most] w fun e w' => (∃ a k, e = .returned (.slice a (made most 0 [] l).length k) ∧ EnsAt All w' (.slice a (made most 0 [] l).length k) (made most 0 [] l)) ∧ Below w.heap.size w w' := by
  obtain ⟨fa, fk, rfl, hm1, hm2⟩ := ClsAt.form h
  have HK := Lib.hid fun W (hb : Below w.heap.size w W) => (ClsAt.move h (Below.moves hb) : ClsAt All W (.slice fa l.length fk) l)
  have HZ := Lib.hid hz
  have HF := Lib.hid hf
  clear h hz hf
  go_enter Tryd.func21, Tryd.ntmps21
  go_wp2
  go_loopg [5, 6] (l.length) (fun gg s5 s6 wr => ∃ (k : Nat) (a : Option Addr) (cp : Nat), s6 = .int .i64 k ∧ s5 = .slice a (made most 0 [] (l.take k)).length cp ∧ k ≤ l.length ∧ l.length - k ≤ gg ∧ Hid (EnsAt All wr (.slice a (made most 0 [] (l.take k)).length cp) (made most 0 [] (l.take k))) ∧ Hid (Below w.heap.size w wr))
  case atStart => exact ⟨0, none, 0, rfl, rfl, Nat.zero_le _, by omega, EnsAt.nil _ _, Below.refl _ _⟩
  case round =>
    obtain ⟨k, a, cp, rfl, rfl, hk, hgk, HE, HBn⟩ := hrel
    by_cases hlt : k < l.length
    · have hltz : (k : Int) < (l.length : Int) := by omega
      obtain ⟨b, oo, m, rfl, hb1, hx, hc, hln⟩ := cl_get (HK.out _ HBn.out) k hlt
      have hmem := List.mem_of_getElem? hx
      have HMT := Lib.hid (made_take (most := most) hx)
      have hml := made_l most (l.take k) 0 []
      rw [List.length_take] at hml
      obtain ⟨am, km, e1, -, -⟩ := Cm.LnsAt.form hln
      have HP := Lib.hid (rput_at (made most 0 [] (l.take k)) l[k] (k : Nat) most (.slice a (made most 0 [] (l.take k)).length cp) m wr HE.out hln (HZ.out _ hmem) (by simp only [List.length_nil] at hml; omega) (HF.out _ hmem))
      subst e1
      generalize l[k] = x at *
      unfold putV at HP
      generalize made most 0 [] (l.take k) = B at *
      obtain ⟨x0, x1, x2, x3, x4, x5, x6⟩ := hc
      have hi1 : k < l.length := hlt
      clear hln hx hml hmem
      by_cases h0 : admE B x most = 0
      · have hM := HMT.out
        rw [if_pos h0] at hM
        rw [if_pos h0, ← hM] at HP
        rw [h0] at HP
        obtain ⟨B2, hB2⟩ : ∃ z, z = made most 0 [] (l.take (k + 1)) := ⟨_, rfl⟩
        rw [← hB2] at HP
        have HQ := Lib.hid hB2
        clear h0 hM HMT HE hB2
        go_wp2_with (first | (go_at_call 12; refine (HP.out).mono ?_; rintro e w2 ⟨⟨a2, k2, rfl, he2⟩, hb2⟩; have HE2 := Lib.hid he2; have HB2 := Lib.hid (below_trans HBn.out hb2); clear he2 hb2))
        go_roundg (l.length - (k + 1))
        case measure => omega
        case rel => exact ⟨k + 1, a2, k2, by first | rfl | go_num | (congr 1; omega), by rw [← HQ.out], by omega, by omega, by rw [← HQ.out]; exact HE2.out, HB2.out⟩
      · have hM := HMT.out
        rw [if_neg h0] at hM
        rw [if_neg h0] at HP
        have h0b : (admE B x most == 0) = false := by simp [h0]
        have HQ := Lib.hid hM
        have HE2 : Hid (∀ W, Below wr.heap.size wr W → EnsAt All W (.slice a B.length cp) B) := fun W hb => HE.out.grw hb
        clear h0 HMT HE hM
        go_wp2_with (first | (go_at_call 12; refine (HP.out).mono ?_; rintro e w2 ⟨⟨a2, k2, rfl, -⟩, hb2⟩; have HE3 := Lib.hid (HE2.out _ hb2); have HB2 := Lib.hid (below_trans HBn.out hb2); clear hb2))
        go_roundg (l.length - (k + 1))
        case measure => omega
        case rel => exact ⟨k + 1, a, cp, by first | rfl | go_num | (congr 1; omega), by rw [HQ.out], by omega, by omega, by rw [HQ.out]; exact HE3.out, HB2.out⟩
    · have hltz : ¬ (k : Int) < (l.length : Int) := by omega
      have hall : l.take k = l := List.take_of_length_le (by omega)
      rw [hall] at HE ⊢
      clear hall
      go_wp2
      go_ret
      first | exact ⟨⟨a, cp, rfl, HE.out⟩, HBn.out⟩ | exact ⟨_, _, rfl, HE.out, HBn.out⟩
end Go.Proofs.YtjgceppbhmmbjaaDoor.Bk
end

/-
  What is put and taken back, what takes another one's place: over plain lists.
-/
section
set_option linter.unusedSimpArgs false
set_option linter.unusedVariables false
namespace Go.Proofs.YtjgceppbhmmbjaaDoor.Bk
open Go.RowKit
open Cm (Ln Cl cl0 codeB namesB netB refB doesB headE voidB restE checkE linesE totE)
open Sh (Ot)

def vd (s : Tx) (c : Cl) : Cl := ⟨s, c.mem, c.fam, 0, 8, c.id, []⟩
theorem names_of {c : Cl} (h : checkE c = 0) : namesB c = true := by
  unfold checkE at h
  split at h
  · next h0 =>
    unfold headE at h0
    split at h0
    · next hn => exact hn
    · simp at h0
  · next h0 => exact absurd h h0
theorem vd_check (s : Tx) (c : Cl) (h : checkE c = 0) : checkE (vd s c) = 0 ∨ checkE (vd s c) = 9 := by
  have hn := names_of h
  unfold namesB at hn
  simp only [Bool.and_eq_true] at hn
  by_cases hs : codeB s 1 12 = true
  · left
    have h1 : namesB (vd s c) = true := by unfold namesB vd; simp [hs, hn.2.1, hn.2.2]
    have h2 : refB (vd s c) = true := by unfold refB vd; simp [hn.1]
    have h3 : headE (vd s c) = 0 := by unfold headE; rw [if_pos h1, if_pos (by rfl), if_pos h2, if_pos (by rfl)]
    unfold checkE
    rw [if_pos h3]
    unfold restE
    rw [if_pos (by simp [vd]), if_pos (by simp [voidB, vd])]
    have h4 : linesE (vd s c).lines = 0 := rfl
    rw [if_pos h4]
    rfl
  · right
    have h1 : ¬ namesB (vd s c) = true := by unfold namesB vd; simp [hs]
    have h3 : headE (vd s c) = 9 := by unfold headE; rw [if_neg h1]
    unfold checkE
    rw [if_neg (by rw [h3]; decide), h3]
theorem getD_last (B : List En) (e : En) : (B ++ [e]).getD B.length en0 = e := by simp [List.getD]
theorem void_adm {B : List En} {c : Cl} (hB : B.length ≤ 30) (h : admE B c 100 = 0) (s : Tx) :
    (admE (B ++ [⟨c, 0, 0, []⟩]) (vd s c) 100 = 0 ∨ admE (B ++ [⟨c, 0, 0, []⟩]) (vd s c) 100 = 9 ∨ admE (B ++ [⟨c, 0, 0, []⟩]) (vd s c) 100 = 12) ∧
    (admE (B ++ [⟨c, 0, 0, []⟩]) (vd s c) 100 = 0 → putA (B ++ [⟨c, 0, 0, []⟩]) (vd s c) 100 = (B.length : Int) ∧ stand (putV (B ++ [⟨c, 0, 0, []⟩]) (vd s c) 0 100) = stand B) := by
  obtain ⟨k1, k2, k3, k4⟩ := adm_ok h
  have hf := find_last B c 0 k2
  constructor
  · rcases vd_check s c k1 with hc | hc
    · by_cases h2 : find (B ++ [⟨c, 0, 0, []⟩]) (vd s c).id = none
      · left
        refine adm0 hc h2 ?_ (by simp; omega)
        rw [refL (by simp [vd])]
        unfold linkE
        rw [show (vd s c).ref = c.id from rfl, hf]
        simp only [getD_last]
        simp [vd]
      · exact Or.inr (Or.inr (adm12 hc h2))
    · exact Or.inr (Or.inl ((adm_chk (by rw [hc]; decide)).trans hc))
  · intro h0
    refine ⟨?_, ?_⟩
    · unfold putA
      rw [if_pos h0, if_neg (by simp [vd])]
      exact find_id hf
    · unfold putV
      rw [if_pos h0]
      exact void_stand B c (vd s c) 0 0 k2 rfl rfl
theorem void_fit (s : Tx) (c : Cl) : Fit (vd s c) := ⟨by simp [vd], fun x hx => by simp [vd] at hx⟩
theorem void_ok (s : Tx) (c : Cl) (hs : s.length ≤ 281474976710656) (h : Cm.ClOk c) : Cm.ClOk (vd s c) := ⟨⟨by simp [vd], by simp [vd]⟩, ⟨by simp [vd], by simp [vd]⟩, hs, h.2.2.2.1, h.2.2.2.2.1, h.2.2.1, by simp [vd], fun x hx => by simp [vd] at hx⟩
/-- In another one's place. -/
theorem rep_stand {B : List En} {c : Cl} (hi : Inv B) (h : admE B c 100 = 0) (hd : c.does = 7) :
    stand (putV B c 77 100) = (stand B).map fun e => if e.cl.id = c.ref then ⟨c, e.tb, 0, []⟩ else e := by
  obtain ⟨k1, k2, k3, k4⟩ := adm_ok h
  obtain ⟨k, e, e1, e2, e3, e4, -, -⟩ := ref_ok k3 (by omega)
  rw [(put7 h hd).1]
  refine replace_stand c B hi.1 fun x hx hxr => ?_
  obtain ⟨j, hj⟩ := List.getElem?_of_mem hx
  by_cases hjk : j = k
  · subst hjk
    rw [e2] at hj
    obtain rfl := Option.some.inj hj
    exact e4
  · exact absurd (hxr.trans e3.symm) (inv_once hi j k x e hj e2 hjk).1
end Go.Proofs.YtjgceppbhmmbjaaDoor.Bk
end
