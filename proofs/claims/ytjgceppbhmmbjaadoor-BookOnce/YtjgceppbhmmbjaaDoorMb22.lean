/-
  Texts put together (merge.py): BRPut.
-/
import Derived.Test.YtjgceppbhmmbjaaDoorMb14
import Derived.Test.YtjgceppbhmmbjaaDoorMb21
/-
  What the reference's Put answers, as a contract: for all books and claims.
-/
section
set_option linter.unusedSimpArgs false
set_option linter.unusedVariables false
set_option maxRecDepth 100000
namespace Go.Proofs.YtjgceppbhmmbjaaDoor.Bk
open Go.RowKit
open Cm (Ln Cl cl0 LnsAt ClCells lnv clv LnOk ClOk boxc)
open Sh (Ot)

/-! ### Round by round -/
def rnd (c : Cl) (a k : Nat) (y : En) : List En := if k = a then (if c.does = 7 then [gone 2 y, ⟨c, y.tb, 0, []⟩] else [gone 1 y]) else [y]
def acc (c : Cl) (a : Nat) : Nat → List En → List En
  | _, [] => []
  | k, y :: r => rnd c a k y ++ acc c a (k + 1) r
theorem acc_app (c : Cl) (a : Nat) : ∀ (x y : List En) (k : Nat), acc c a k (x ++ y) = acc c a k x ++ acc c a (k + x.length) y
  | [], y, k => by simp [acc]
  | e :: x, y, k => by
    simp only [List.cons_append, acc, acc_app c a x y (k + 1), List.append_assoc, List.length_cons]
    rw [show k + 1 + x.length = k + (x.length + 1) by omega]
theorem acc_none (c : Cl) (a : Nat) : ∀ (x : List En) (k : Nat), (a < k ∨ k + x.length ≤ a) → acc c a k x = x
  | [], k, _ => rfl
  | e :: x, k, h => by
    have hk : k ≠ a := by simp only [List.length_cons] at h; omega
    unfold acc
    rw [acc_none c a x (k + 1) (by simp only [List.length_cons] at h; omega)]
    unfold rnd
    rw [if_neg hk]; rfl
theorem acc_take {c : Cl} {a : Nat} {l : List En} {k : Nat} {x : En} (h : l[k]? = some x) : acc c a 0 (l.take (k + 1)) = acc c a 0 (l.take k) ++ rnd c a k x := by
  have hk := (List.getElem?_eq_some_iff.1 h).1
  rw [List.take_add_one, h, acc_app]
  simp only [Option.toList, acc, List.append_nil, List.length_take]
  rw [show 0 + min k l.length = k by omega]
theorem set_split (l : List En) (i : Nat) (e g : En) (h : l[i]? = some e) : (l.set i g).take (i + 1) = l.take i ++ [g] ∧ (l.set i g).drop (i + 1) = l.drop (i + 1) ∧ l = l.take i ++ e :: l.drop (i + 1) ∧ l.set i g = l.take i ++ g :: l.drop (i + 1) := by
  have hi := (List.getElem?_eq_some_iff.1 h).1
  have e1 : l.set i g = l.take i ++ g :: l.drop (i + 1) := by rw [List.set_eq_take_append_cons_drop, if_pos hi]
  have e2 : l = l.take i ++ e :: l.drop (i + 1) := by
    have : l[i] = e := by rw [List.getElem?_eq_getElem hi] at h; exact Option.some.inj h
    rw [← this, List.getElem_cons_drop, List.take_append_drop]
  have hl : (l.take i).length = i := by rw [List.length_take]; omega
  refine ⟨?_, ?_, e2, e1⟩
  · rw [e1, List.take_append, hl, List.take_of_length_le (by omega), show i + 1 - i = 1 by omega]; rfl
  · rw [e1, List.drop_append, hl, List.drop_of_length_le (by omega), show i + 1 - i = 1 by omega]; rfl
theorem acc_at {c : Cl} {i : Nat} {l : List En} {e : En} (h : l[i]? = some e) : acc c i 0 l = l.take i ++ rnd c i i e ++ l.drop (i + 1) := by
  have hi := (List.getElem?_eq_some_iff.1 h).1
  have hl : (l.take i).length = i := by rw [List.length_take]; omega
  conv => lhs; rw [(set_split l i e e h).2.2.1]
  rw [acc_app, acc_none c i (l.take i) 0 (Or.inr (by omega)), hl]
  simp only [acc, Nat.zero_add]
  rw [acc_none c i (l.drop (i + 1)) (i + 1) (Or.inl (by omega)), List.append_assoc]
theorem acc7 {c : Cl} {i : Nat} {l : List En} {e : En} (hf : find l c.ref = some i) (h : l[i]? = some e) (hd : c.does = 7) : acc c i 0 l = putR c l := by
  obtain ⟨s1, s2, -, -⟩ := set_split l i e (gone 2 e) h
  rw [acc_at h, putR_at c l i e hf h, s1, s2]
  unfold rnd
  rw [if_pos rfl, if_pos hd]; simp
theorem acc8 {c : Cl} {i : Nat} {l : List En} {e : En} (hf : find l c.ref = some i) (h : l[i]? = some e) (hd : c.does = 8) : acc c i 0 l = putD c l := by
  obtain ⟨-, -, -, s4⟩ := set_split l i e (gone 1 e) h
  rw [acc_at h, putD_at c l i e hf h, s4]
  unfold rnd
  rw [if_pos rfl, if_neg (by omega)]; simp
theorem acc_len (c : Cl) (a : Nat) : ∀ (l : List En) (k : Nat), (acc c a k l).length ≤ 2 * l.length
  | [], _ => by simp [acc]
  | e :: l, k => by
    have ih := acc_len c a l (k + 1)
    have : (rnd c a k e).length ≤ 2 := by unfold rnd; split <;> (try split) <;> simp
    simp only [acc, List.length_append, List.length_cons]; omega
theorem own_keep {B : Nat} {w w' : World} {v : Value} {L : List Ev} (h : OwnE B w v L) (hk : ∀ b, B ≤ b → b < w.heap.size → w'.heap[b]? = w.heap[b]?) : OwnE B w' v L := by
  refine ⟨h.1, h.2.imp id ?_⟩
  rintro ⟨g, c, cur, rfl, h0, hh, hr⟩
  exact ⟨g, c, cur, rfl, h0, (hk g h0 (Array.getElem?_eq_some_iff.1 hh).1).trans hh, hr⟩

theorem heap_far' (w : World) (q j : Nat) (u : Value) {b : Nat} (hne : b ≠ q) : (w.setCell ⟨q, j, none⟩ u).heap[b]? = w.heap[b]? := by
  cases h : w.heap[b]? with
  | some o => exact heap_far h hne
  | none =>
    have := Array.getElem?_eq_none_iff.1 h
    exact Array.getElem?_eq_none_iff.2 (by simpa using this)
/-- The round's state: the row of the call's own, the box of the one that is put, what was there. -/
def RS (w1 : World) (y : En) (m : Value) (wr : World) (s : Value) (L : List Ev) : Prop :=
  OwnE (w1.heap.size + 1) wr s L ∧ Below w1.heap.size w1 wr ∧ wr.heap[w1.heap.size]? = some (.cells (enc y m (.slice none 0 0)) TE (0, 0)) ∧ w1.heap.size + 1 ≤ wr.heap.size
theorem RS.al {w1 wr : World} {y : En} {m s : Value} {L : List Ev} (h : RS w1 y m wr s L) (o : Obj) : RS w1 y m (wr.alloc o) s L := by
  obtain ⟨h1, h2, h3, h4⟩ := h
  have b := below_alloc wr o
  exact ⟨own_keep h1 fun b' _ hb => b.block b' hb, h2.trans (b.mono (by omega)), keepB h3 b, by have := b.size; omega⟩
theorem RS.app {w1 W w' : World} {y : En} {m s s' : Value} {L L' : List Ev} (h : RS w1 y m W s L) (ho : OwnE (w1.heap.size + 1) w' s' L') (hg : W.grownBy w' s.ownBlock) : RS w1 y m w' s' L' := by
  obtain ⟨h1, h2, h3, h4⟩ := h
  have g := grow_low h1 hg h4
  exact ⟨ho, h2.trans (g.mono (by omega)), (g.block _ (by omega)).trans h3, by have := g.size; omega⟩
theorem RS.set {w1 wr : World} {y z : En} {m s : Value} {L : List Ev} (h : RS w1 y m wr s L) (j : Nat) (u : Value) (he : (enc y m (.slice none 0 0)).setIfInBounds j u = enc z m (.slice none 0 0)) : RS w1 z m (wr.setCell ⟨w1.heap.size, j, none⟩ u) s L := by
  obtain ⟨h1, h2, h3, h4⟩ := h
  refine ⟨own_set h1 (fun e => by have := (h1.lt _ e).1; omega) j u, ?_, ?_, by simpa using h4⟩
  · exact ⟨h2.os, h2.tape, h2.output, by simpa using h2.size, fun k hk => (heap_far' _ _ _ _ (by omega)).trans (h2.block k hk)⟩
  · rw [heap_set h3, he]
theorem alloc_new' {w : World} {n : Nat} {cs : Array Value} {t : TypeId} (hn : w.heap.size = n) : (w.alloc (.cells cs t)).heap[n]? = some (.cells cs t (0, 0)) := by rw [← hn]; exact alloc_new _ _ _
theorem cont_app {w : World} {L : List Ev} {f : Ev} (h : ∀ x ∈ L, Cont All w x) (hf : Cont All w f) : ∀ x ∈ L ++ [f], Cont All w x := fun x hx => by
  rcases List.mem_append.1 hx with q | q
  · exact h x q
  · simp at q; subst q; exact hf
theorem slice_of_own {B : Nat} {w : World} {v : Value} {L : List Ev} (h : OwnE B w v L) : ∃ a n c, v = .slice a n c := by
  rcases h.2 with ⟨rfl, -⟩ | ⟨g, c, cur, rfl, -⟩
  · exact ⟨_, _, _, rfl⟩
  · exact ⟨_, _, _, rfl⟩
/-- What Put leaves. -/
def RPutV (l : List En) (c : Cl) (t most : Int) (w : World) (e : Ending) (w' : World) : Prop :=
  (∃ v L, e = .returned (.tuple #[v, .int .i64 (putA l c most), .int .i64 (admE l c most)]) ∧ L.map (·.e) = putV l c t most ∧ Full w.heap.size w' v L) ∧ Below w.heap.size w w'
/-- The one that is put: its tables behind so many rounds. -/
def tbK (c : Cl) (a : Nat) (l : List En) (t : Int) (k : Nat) : Int := if c.does = 7 ∧ a < k then (l.getD a en0).tb else t

set_option maxHeartbeats 8000000 in
theorem rput_any (l : List En) (c : Cl) (t most : Int) (v m : Value) (w : World) (h : EnsAt All w v l) (hm : LnsAt All w m c.lines) (hz : ClOk c) (hl : l.length ≤ 100000) (hfc : Fit c) :
    Calls Tryd.prog 12 #[v, clv c m, .int .i64 t, .int .i64 most] w (RPutV l c t most w) := by
  have HB0 := Lib.hid (below_alloc w (boxc c m))
  have HC := Lib.hid (radmit_any l c most v m (w.alloc (boxc c m)) (h.grw HB0.out) (LnsAt.move hm (Below.moves HB0.out)) hz hfc.1)
  have HE : Hid (∀ w', Below (w.alloc (boxc c m)).heap.size (w.alloc (boxc c m)) w' → EnsAt All w' v l ∧ Below w.heap.size w w' ∧ Cm.ClBox w' w.heap.size c m) := fun w' hb => ⟨h.grw (below_trans HB0.out hb), below_trans HB0.out hb, cl_box w c m hb⟩
  have HS := Lib.hid h
  have HM := Lib.hid hm
  obtain ⟨fa, fk, rfl, hm1, hm2⟩ := h.form
  obtain ⟨ma, mk', rfl, -, -⟩ := Cm.LnsAt.form hm
  have hs0 : (w.alloc (boxc c (.slice ma c.lines.length mk'))).heap.size = w.heap.size + 1 := by simp
  rw [hs0] at HC
  clear h hm
  by_cases h0 : admE l c most = 0
  case neg =>
    obtain ⟨e1, e2⟩ := put_bad (t := t) h0
    have h0b : (admE l c most != 0) = true := by simp [h0]
    have HP : Hid (∀ w1, Below (w.heap.size + 1) (w.alloc (boxc c (.slice ma c.lines.length mk'))) w1 → RPutV l c t most w (.returned (.tuple #[.slice none 0 0, .int .i64 0, .int .i64 (admE l c most)])) w1) := fun w1 hb => by
      refine ⟨⟨.slice none 0 0, [], ?_, ?_, Full.nil _ _⟩, below_trans HB0.out (by rw [hs0]; exact hb)⟩
      · rw [e2]
      · rw [e1]; rfl
    clear h0 e1 e2 hz hs0
    go_enter Tryd.func12, Tryd.ntmps12
    go_wp2_with (go_at_call 15; refine (HC.out).mono ?_; rintro e w1 ⟨rfl, hb1⟩; have HB1 := Lib.hid hb1; clear hb1)
    refine bodyPost_ret (v := .tuple #[.slice none 0 0, .int .i64 0, .int .i64 (admE l c most)]) (by simp [results, Tryd.results12, go_sem]) rfl ?_
    exact HP.out _ HB1.out
  rw [h0] at HC
  -- the place
  obtain ⟨a, ha1, ha2, ha3, ha4⟩ : ∃ a : Nat, putA l c most = (a : Int) ∧ (c.does = 1 → a = l.length) ∧ (c.does ≠ 1 → a < l.length ∧ findV l c.ref = (a : Int) ∧ find l c.ref = some a) ∧ a ≤ l.length := by
    by_cases hd : c.does = 1
    · exact ⟨l.length, by rw [(put1 (t := t) h0 hd).2], fun _ => rfl, fun q => absurd hd q, Nat.le_refl _⟩
    · obtain ⟨i, e, hf, he, -⟩ := ref_ok (adm_ok h0).2.2.1 hd
      have hi := (List.getElem?_eq_some_iff.1 he).1
      refine ⟨i, ?_, fun q => absurd q hd, fun _ => ⟨hi, find_id hf, hf⟩, by omega⟩
      unfold putA; rw [if_pos h0, if_neg hd, find_id hf]
  have hal : a ≤ 9223372036854775807 := by omega
  have HX : Hid (∀ w1, Below (w.heap.size + 1) (w.alloc (boxc c (.slice ma c.lines.length mk'))) w1 → w.heap.size + 1 ≤ w1.heap.size ∧ EnsAt All w1 (.slice fa l.length fk) l ∧ Below w.heap.size w w1 ∧ Cm.ClBox w1 w.heap.size c (.slice ma c.lines.length mk')) := fun w1 hb => by
    have := HE.out w1 (by rw [hs0]; exact hb)
    exact ⟨by have := hb.size; omega, this⟩
  clear hs0 HE
  have hdd := does_in (adm_ok h0).1
  have HPOST : Hid (∀ w1 W v' L y, Below w.heap.size w w1 → w.heap.size + 1 ≤ w1.heap.size → L.map (·.e) = putV l c t most → RS w1 y (.slice ma c.lines.length mk') W v' L → (∀ x ∈ L, Cont All w x) → RPutV l c t most w (.returned (.tuple #[v', .int .i64 (a : Int), .int .i64 0])) W) := fun w1 W v' L y hb hsz hL hR hC => by
    obtain ⟨hO, hbW, -, -⟩ := hR
    have hbb : Below w.heap.size w W := hb.trans (hbW.mono (by omega))
    refine ⟨⟨v', L, by rw [h0, ha1], hL, Full.low (B := w1.heap.size + 1) ⟨hO, fun x hx => (hC x hx).move ⟨hbb.size, fun b hb' _ => ⟨fun e => ?_, hbb.block b hb'⟩⟩⟩ (by omega)⟩, hbb⟩
    have := (hO.lt b e).1
    omega
  have HCP : Hid (∀ t' s', Cont All w ⟨⟨c, t', s', []⟩, (.slice ma c.lines.length mk'), (.slice none 0 0)⟩) := fun t' s' => ⟨HM.out, OtsAt.nil _ _⟩
  rcases hdd with hd | hd | hd
  · have d1 : (c.does != 1) = false := by rw [hd]; rfl
    have d7 : (c.does == 7) = false := by rw [hd]; rfl
    have d7n : (c.does != 7) = true := by rw [hd]; rfl
    have d8 : (c.does == 8) = false := by rw [hd]; rfl
    have haL : a = l.length := ha2 hd
    have HV := Lib.hid (put1 (t := t) h0 hd)
    have HD := Lib.hid hd
    clear ha2 ha3 h0 hd
    go_enter Tryd.func12, Tryd.ntmps12
    go_wp2_with (first | (go_at_call 15; refine (HC.out).mono ?_; rintro e w1 ⟨rfl, hb1⟩; obtain ⟨hsz1, HE1, hB1, hbx1⟩ := HX.out _ hb1; have HBX1 := Lib.hid hbx1; obtain ⟨n0, n1, n2, n3, n4, n5, n6⟩ := hbx1; have HE1 := Lib.hid HE1; have HB1 := Lib.hid hB1; clear hb1 hB1; have HST : Hid (RS w1 ⟨c, t, 0, []⟩ (.slice ma c.lines.length mk') (w1.alloc (.cells (enc ⟨c, t, 0, []⟩ (.slice ma c.lines.length mk') (.slice none 0 0)) TE)) (.slice none 0 0) []) := ⟨(Full.nil _ _).1, below_alloc _ _, alloc_new _ _ _, by simp⟩))
    go_loopg [14, 15] (l.length) (fun gg s14 s15 wr => ∃ (k : Nat) (L : List Ev), s15 = .int .i64 k ∧ k ≤ l.length ∧ l.length - k ≤ gg ∧ Hid (L.map (·.e) = acc c a 0 (l.take k)) ∧ Hid (∀ x ∈ L, Cont All w x) ∧ Hid (RS w1 ⟨c, tbK c a l t k, 0, []⟩ (.slice ma c.lines.length mk') wr s14 L) ∧ (∃ a n c, s14 = .slice a n c))
    case atStart => exact ⟨0, [], rfl, Nat.zero_le _, by omega, rfl, by simp [Hid], (by rw [show tbK c a l t 0 = t by unfold tbK; rw [if_neg (by omega)]]; exact HST.out), ⟨_, _, _, rfl⟩⟩
    case round =>
      obtain ⟨k, L, rfl, hk, hgk, HL, HCo, HR, a0, n0', c0, rfl⟩ := hrel
      have hszr := HR.out.2.2.2
      have hne1 : ¬ w.heap.size = wr.heap.size := by omega
      have hne2 : ¬ w1.heap.size = wr.heap.size := by omega
      have hne3 : ¬ w.heap.size = w1.heap.size := by omega
      have hbxr := HBX1.out.grw HR.out.2.1
      have NB : Hid (∀ W, Below w1.heap.size w1 W → W.cell? ⟨w.heap.size, 4, none⟩ = some (.int .i64 c.does)) := fun W hb => (HBX1.out.grw hb).2.2.2.2.1
      obtain ⟨r0, r1, r2, r3, r4, r5, r6⟩ := hbxr
      have na4 : ∀ o, (wr.alloc o).cell? ⟨w.heap.size, 4, none⟩ = some (.int .i64 c.does) := fun o => NB.out _ (HR.out.al o).2.1
      have hLl : L.length ≤ 200000 := by
        have := congrArg List.length HL.out
        have h2 := acc_len c a (l.take k) 0
        rw [List.length_map] at this
        simp at h2
        omega
      by_cases hlt : k < l.length
      · have hltz : (k : Int) < (l.length : Int) := by omega
        obtain ⟨b, o, m2, mo, rfl, hbw, hx, hcell, hcont⟩ := EnsAt.get HS.out k hlt
        have hbs : wr.heap[b]? = w.heap[b]? := (HB1.out.trans (HR.out.2.1.mono (by omega))).block b hbw
        have hcell := hcell.of hbs
        have HTK := Lib.hid (acc_take (c := c) (a := a) hx)
        have HTB : Hid (k = a → c.does = 7 → tbK c a l t (k + 1) = l[k].tb) := fun e1 e2 => by
          unfold tbK
          rw [if_pos ⟨e2, by omega⟩, ← e1]
          simp [List.getD, hx]
        have HTB2 : Hid (¬ (c.does = 7 ∧ k = a) → tbK c a l t (k + 1) = tbK c a l t k) := fun e1 => by
          unfold tbK
          by_cases h1 : c.does = 7
          · have : ¬ k = a := fun e => e1 ⟨h1, e⟩
            by_cases h2 : a < k
            · rw [if_pos ⟨h1, by omega⟩, if_pos ⟨h1, h2⟩]
            · rw [if_neg (by omega), if_neg (by omega)]
          · rw [if_neg (fun q => h1 q.1), if_neg (fun q => h1 q.1)]
        generalize l[k] = x at *
        obtain ⟨x0, x1, x2, x3, x4, x5, x6, x7, x8, x9⟩ := hcell
        obtain ⟨am, km, e1, -, -⟩ := Cm.LnsAt.form hcont.1
        obtain ⟨ao, ko, e2, -, -⟩ := hcont.2.form
        dsimp only at e1 e2
        subst e1 e2
        have HCO := Lib.hid hcont
        have hi1 : k < l.length := hlt
        clear hcont hx hbs hbw
        have hka : ((k : Int) == (a : Int)) = false := by simp; omega
        have RA : Hid (RS w1 ⟨c, tbK c a l t (k + 1), 0, []⟩ (.slice ma c.lines.length mk') ((wr.alloc (.cells (enc x (.slice am x.cl.lines.length km) (.slice ao x.outs.length ko)) TE)).alloc (.cells (enc x (.slice am x.cl.lines.length km) (.slice ao x.outs.length ko)) TE)) (.slice a0 n0' c0) L) := by rw [HTB2.out (by first | omega | (rw [HD.out]; omega))]; exact (HR.out.al _).al _
        have HL2 : Hid (L.map (·.e) ++ [x] = acc c a 0 (l.take (k + 1))) := Lib.hid (by rw [HTK.out, HL.out]; unfold rnd; rw [if_neg (by omega)])
        clear HTB HTB2 HTK
        go_wp2_with (first | (at_builtin; refine wpList_plain (by rfl) (fun K hK => ?_); refine wp_app _ _ rfl (w1.heap.size + 1) (.slice a0 n0' c0) L rfl RA.out.1 _ 1 ⟨x, (.slice am x.cl.lines.length km), (.slice ao x.outs.length ko)⟩ rfl (alloc_new' (by simp)) HCO.out.sl (by first | omega | (simp only [List.length_append, List.length_singleton]; omega)) RA.out.2.2.2 (fun v' w' ho hg hat => ?_); refine hK _ _ ?_; have HR2 := Lib.hid (RA.out.app ho hg); clear ho hg hat hK; obtain ⟨pa, pn, pc, e3⟩ := slice_of_own HR2.out.1; subst e3))
        go_roundg (l.length - (k + 1))
        case measure => omega
        case rel => exact ⟨k + 1, L ++ [Ev.mk x (.slice am x.cl.lines.length km) (.slice ao x.outs.length ko)], by first | rfl | go_num | (congr 1; omega), by omega, by omega, (show List.map (fun z => z.e) (L ++ [Ev.mk x (.slice am x.cl.lines.length km) (.slice ao x.outs.length ko)]) = acc c a 0 (l.take (k + 1)) from List.map_append.trans HL2.out), (cont_app HCo.out HCO.out), HR2.out, ⟨_, _, _, rfl⟩⟩
      · have hltz : ¬ (k : Int) < (l.length : Int) := by omega
        have hkl : k = l.length := by omega
        have htk : l.take k = l := List.take_of_length_le (by omega)
        have HLE : Hid (L.map (·.e) ++ [⟨c, t, 0, []⟩] = putV l c t most) := Lib.hid (by
          have := HL.out
          rw [htk] at this
          rw [this, HV.out.1]
          rw [acc_none c a l 0 (Or.inr (by omega))])
        have ht : tbK c a l t k = t := by unfold tbK; rw [if_neg (by rw [HD.out]; omega)]
        have HR0 : Hid (RS w1 ⟨c, t, 0, []⟩ (.slice ma c.lines.length mk') wr (.slice a0 n0' c0) L) := by have := HR.out; rw [ht] at this; exact this
        have RA : Hid (RS w1 ⟨c, t, 0, []⟩ (.slice ma c.lines.length mk') (wr.alloc (.cells (enc ⟨c, t, 0, []⟩ (.slice ma c.lines.length mk') (.slice none 0 0)) TE)) (.slice a0 n0' c0) L) := HR0.out.al _
        have hp := ten HR0.out.2.2.1
        obtain ⟨p0, p1, p2, p3, p4, p5, p6, p7, p8, p9⟩ := hp
        have fz := frzn HR0.out.2.2.1 8
        clear htk hkl ht
        go_wp2_with (first | (at_builtin; refine wpList_plain (by rfl) (fun K hK => ?_); refine wp_app _ _ rfl (w1.heap.size + 1) (.slice a0 n0' c0) L rfl RA.out.1 _ 1 ⟨⟨c, t, 0, []⟩, (.slice ma c.lines.length mk'), (.slice none 0 0)⟩ rfl (alloc_new' (by simp)) (HCP.out _ _).sl (by first | omega | (simp only [List.length_append, List.length_singleton]; omega)) RA.out.2.2.2 (fun v' w' ho hg hat => ?_); refine hK _ _ ?_; have HR2 := Lib.hid (RA.out.app ho hg); clear ho hg hat hK; obtain ⟨pa, pn, pc, e3⟩ := slice_of_own HR2.out.1; subst e3))
        refine bodyPost_ret (v := .tuple #[.slice pa pn pc, .int .i64 (a : Int), .int .i64 0]) (by simp [results, Tryd.results12, go_sem, haL]) rfl ?_
        exact HPOST.out w1 _ _ (L ++ [(Ev.mk ⟨c, t, 0, []⟩ (.slice ma c.lines.length mk') (.slice none 0 0))]) _ HB1.out hsz1 (List.map_append.trans HLE.out) HR2.out (cont_app HCo.out (HCP.out _ _))
  · have hfv := (ha3 (by omega)).2.1
    have hfa := Lib.hid (ha3 (by omega)).2.2
    have haL := (ha3 (by omega)).1
    have d1 : (c.does != 1) = true := by rw [hd]; rfl
    have d7 : (c.does == 7) = true := by rw [hd]; rfl
    have d7n : (c.does != 7) = false := by rw [hd]; rfl
    have d8 : (c.does == 8) = false := by rw [hd]; rfl
    have HV := Lib.hid (put7 (t := t) h0 hd)
    have HD := Lib.hid hd
    clear ha2 ha3 h0 hd
    go_enter Tryd.func12, Tryd.ntmps12
    go_wp2_with (first | (go_at_call 15; refine (HC.out).mono ?_; rintro e w1 ⟨rfl, hb1⟩; obtain ⟨hsz1, HE1, hB1, hbx1⟩ := HX.out _ hb1; have HBX1 := Lib.hid hbx1; obtain ⟨n0, n1, n2, n3, n4, n5, n6⟩ := hbx1; have HE1 := Lib.hid HE1; have HB1 := Lib.hid hB1; clear hb1 hB1; have HST : Hid (RS w1 ⟨c, t, 0, []⟩ (.slice ma c.lines.length mk') (w1.alloc (.cells (enc ⟨c, t, 0, []⟩ (.slice ma c.lines.length mk') (.slice none 0 0)) TE)) (.slice none 0 0) []) := ⟨(Full.nil _ _).1, below_alloc _ _, alloc_new _ _ _, by simp⟩) | (go_at_call 17; refine (rfind_any l c.ref _ _ HE1.out).mono ?_; rintro e w2 ⟨rfl, hw2⟩; rw [hw2]; clear hw2 w2; rw [hfv]))
    go_loopg [14, 15] (l.length) (fun gg s14 s15 wr => ∃ (k : Nat) (L : List Ev), s15 = .int .i64 k ∧ k ≤ l.length ∧ l.length - k ≤ gg ∧ Hid (L.map (·.e) = acc c a 0 (l.take k)) ∧ Hid (∀ x ∈ L, Cont All w x) ∧ Hid (RS w1 ⟨c, tbK c a l t k, 0, []⟩ (.slice ma c.lines.length mk') wr s14 L) ∧ (∃ a n c, s14 = .slice a n c))
    case atStart => exact ⟨0, [], rfl, Nat.zero_le _, by omega, rfl, by simp [Hid], (by rw [show tbK c a l t 0 = t by unfold tbK; rw [if_neg (by omega)]]; exact HST.out), ⟨_, _, _, rfl⟩⟩
    case round =>
      obtain ⟨k, L, rfl, hk, hgk, HL, HCo, HR, a0, n0', c0, rfl⟩ := hrel
      have hszr := HR.out.2.2.2
      have hne1 : ¬ w.heap.size = wr.heap.size := by omega
      have hne2 : ¬ w1.heap.size = wr.heap.size := by omega
      have hne3 : ¬ w.heap.size = w1.heap.size := by omega
      have hbxr := HBX1.out.grw HR.out.2.1
      have NB : Hid (∀ W, Below w1.heap.size w1 W → W.cell? ⟨w.heap.size, 4, none⟩ = some (.int .i64 c.does)) := fun W hb => (HBX1.out.grw hb).2.2.2.2.1
      obtain ⟨r0, r1, r2, r3, r4, r5, r6⟩ := hbxr
      have na4 : ∀ o, (wr.alloc o).cell? ⟨w.heap.size, 4, none⟩ = some (.int .i64 c.does) := fun o => NB.out _ (HR.out.al o).2.1
      have hLl : L.length ≤ 200000 := by
        have := congrArg List.length HL.out
        have h2 := acc_len c a (l.take k) 0
        rw [List.length_map] at this
        simp at h2
        omega
      by_cases hlt : k < l.length
      · have hltz : (k : Int) < (l.length : Int) := by omega
        obtain ⟨b, o, m2, mo, rfl, hbw, hx, hcell, hcont⟩ := EnsAt.get HS.out k hlt
        have hbs : wr.heap[b]? = w.heap[b]? := (HB1.out.trans (HR.out.2.1.mono (by omega))).block b hbw
        have hcell := hcell.of hbs
        have HTK := Lib.hid (acc_take (c := c) (a := a) hx)
        have HTB : Hid (k = a → c.does = 7 → tbK c a l t (k + 1) = l[k].tb) := fun e1 e2 => by
          unfold tbK
          rw [if_pos ⟨e2, by omega⟩, ← e1]
          simp [List.getD, hx]
        have HTB2 : Hid (¬ (c.does = 7 ∧ k = a) → tbK c a l t (k + 1) = tbK c a l t k) := fun e1 => by
          unfold tbK
          by_cases h1 : c.does = 7
          · have : ¬ k = a := fun e => e1 ⟨h1, e⟩
            by_cases h2 : a < k
            · rw [if_pos ⟨h1, by omega⟩, if_pos ⟨h1, h2⟩]
            · rw [if_neg (by omega), if_neg (by omega)]
          · rw [if_neg (fun q => h1 q.1), if_neg (fun q => h1 q.1)]
        generalize l[k] = x at *
        obtain ⟨x0, x1, x2, x3, x4, x5, x6, x7, x8, x9⟩ := hcell
        obtain ⟨am, km, e1, -, -⟩ := Cm.LnsAt.form hcont.1
        obtain ⟨ao, ko, e2, -, -⟩ := hcont.2.form
        dsimp only at e1 e2
        subst e1 e2
        have HCO := Lib.hid hcont
        have hi1 : k < l.length := hlt
        clear hcont hx hbs hbw
        by_cases hka : k = a
        · have htb := HTB.out hka HD.out
          have hkb : ((k : Int) == (a : Int)) = true := by simp [hka]
          have HKA := Lib.hid hka
          clear hka
          have RA : Hid (RS w1 ⟨c, x.tb, 0, []⟩ (.slice ma c.lines.length mk') (((wr.alloc (.cells (enc (gone 2 x) (.slice am x.cl.lines.length km) (.slice none 0 0)) TE)).setCell ⟨w1.heap.size, 7, none⟩ (.int .i64 x.tb)).alloc (.cells (enc (gone 2 x) (.slice am x.cl.lines.length km) (.slice none 0 0)) TE)) (.slice a0 n0' c0) L) := ((HR.out.al _).set (z := ⟨c, x.tb, 0, []⟩) 7 (.int .i64 x.tb) rfl).al _
          have HG : Hid (Cont All w ⟨(gone 2 x), (.slice am x.cl.lines.length km), (.slice none 0 0)⟩) := ⟨HCO.out.1, OtsAt.nil _ _⟩
          have HL2 : Hid ((L.map (·.e) ++ [(gone 2 x)]) ++ [⟨c, x.tb, 0, []⟩] = acc c a 0 (l.take (k + 1))) := Lib.hid (by rw [HTK.out, HL.out]; unfold rnd; rw [if_pos HKA.out, if_pos HD.out]; simp)
          have HT7 : Hid (tbK c a l t (k + 1) = x.tb) := htb
          have hp := ten HR.out.2.2.1
          obtain ⟨p0, p1, p2, p3, p4, p5, p6, p7, p8, p9⟩ := hp
          have fz := frzn HR.out.2.2.1 7
          have pa7 : ∀ o, (wr.alloc o).cell? ⟨w1.heap.size, 7, none⟩ = some (.int .i64 (tbK c a l t k)) := fun o => (ten (HR.out.al o).2.2.1).2.2.2.2.2.2.2.1
          have fz2 : ∀ o, (wr.alloc o).frozen? ⟨w1.heap.size, 7, none⟩ = false := fun o => frzn (HR.out.al o).2.2.1 7
          clear HTB HTB2 HTK htb
          go_wp2_with (first | (at_builtin; refine wpList_plain (by rfl) (fun K hK => ?_); refine wp_app _ _ rfl (w1.heap.size + 1) _ (L ++ [(Ev.mk (gone 2 x) (.slice am x.cl.lines.length km) (.slice none 0 0))]) rfl HR3.out.1 _ 1 ⟨⟨c, x.tb, 0, []⟩, (.slice ma c.lines.length mk'), (.slice none 0 0)⟩ rfl (alloc_new' (by simp)) (HCP.out _ _).sl (by first | omega | (simp only [List.length_append, List.length_singleton]; omega)) HR3.out.2.2.2 (fun v' w' ho hg hat => ?_); refine hK _ _ ?_; have HR4 := Lib.hid (HR3.out.app ho hg); clear ho hg hat hK; obtain ⟨pa, pn, pc, e3⟩ := slice_of_own HR4.out.1; subst e3) | (at_builtin; refine wpList_plain (by rfl) (fun K hK => ?_); refine wp_app _ _ rfl (w1.heap.size + 1) (.slice a0 n0' c0) L rfl RA.out.1 _ 1 ⟨(gone 2 x), (.slice am x.cl.lines.length km), (.slice none 0 0)⟩ rfl (alloc_new' (by simp)) HG.out.sl (by first | omega | (simp only [List.length_append, List.length_singleton]; omega)) RA.out.2.2.2 (fun v' w' ho hg hat => ?_); refine hK _ _ ?_; have HR2 := Lib.hid (RA.out.app ho hg); clear ho hg hat hK; obtain ⟨pa, pn, pc, e3⟩ := slice_of_own HR2.out.1; subst e3; have na5 := NB.out _ HR2.out.2.1; have hq := ten HR2.out.2.2.1; obtain ⟨q0, q1, q2, q3, q4, q5, q6, q7, q8, q9⟩ := hq; have HR3 := Lib.hid (HR2.out.al (.cells (enc ⟨c, x.tb, 0, []⟩ (.slice ma c.lines.length mk') (.slice none 0 0)) TE))))
          go_roundg (l.length - (k + 1))
          case measure => omega
          case rel => exact ⟨k + 1, (L ++ [(Ev.mk (gone 2 x) (.slice am x.cl.lines.length km) (.slice none 0 0))]) ++ [(Ev.mk ⟨c, x.tb, 0, []⟩ (.slice ma c.lines.length mk') (.slice none 0 0))], by first | rfl | go_num | (congr 1; omega), by omega, by omega, (show List.map (fun z => z.e) ((L ++ [(Ev.mk (gone 2 x) (.slice am x.cl.lines.length km) (.slice none 0 0))]) ++ [(Ev.mk ⟨c, x.tb, 0, []⟩ (.slice ma c.lines.length mk') (.slice none 0 0))]) = acc c a 0 (l.take (k + 1)) from List.map_append.trans ((congrArg (· ++ _) List.map_append).trans HL2.out)), (cont_app (cont_app HCo.out HG.out) (HCP.out _ _)), (by rw [HT7.out]; exact HR4.out), ⟨_, _, _, rfl⟩⟩
        · have hkb : ((k : Int) == (a : Int)) = false := by simp; omega
          have RA : Hid (RS w1 ⟨c, tbK c a l t (k + 1), 0, []⟩ (.slice ma c.lines.length mk') ((wr.alloc (.cells (enc x (.slice am x.cl.lines.length km) (.slice ao x.outs.length ko)) TE)).alloc (.cells (enc x (.slice am x.cl.lines.length km) (.slice ao x.outs.length ko)) TE)) (.slice a0 n0' c0) L) := by rw [HTB2.out (by first | omega | (rw [HD.out]; omega))]; exact (HR.out.al _).al _
          have HL2 : Hid (L.map (·.e) ++ [x] = acc c a 0 (l.take (k + 1))) := Lib.hid (by rw [HTK.out, HL.out]; unfold rnd; rw [if_neg (by omega)])
          clear HTB HTB2 HTK
          go_wp2_with (first | (at_builtin; refine wpList_plain (by rfl) (fun K hK => ?_); refine wp_app _ _ rfl (w1.heap.size + 1) (.slice a0 n0' c0) L rfl RA.out.1 _ 1 ⟨x, (.slice am x.cl.lines.length km), (.slice ao x.outs.length ko)⟩ rfl (alloc_new' (by simp)) HCO.out.sl (by first | omega | (simp only [List.length_append, List.length_singleton]; omega)) RA.out.2.2.2 (fun v' w' ho hg hat => ?_); refine hK _ _ ?_; have HR2 := Lib.hid (RA.out.app ho hg); clear ho hg hat hK; obtain ⟨pa, pn, pc, e3⟩ := slice_of_own HR2.out.1; subst e3))
          go_roundg (l.length - (k + 1))
          case measure => omega
          case rel => exact ⟨k + 1, L ++ [Ev.mk x (.slice am x.cl.lines.length km) (.slice ao x.outs.length ko)], by first | rfl | go_num | (congr 1; omega), by omega, by omega, (show List.map (fun z => z.e) (L ++ [Ev.mk x (.slice am x.cl.lines.length km) (.slice ao x.outs.length ko)]) = acc c a 0 (l.take (k + 1)) from List.map_append.trans HL2.out), (cont_app HCo.out HCO.out), HR2.out, ⟨_, _, _, rfl⟩⟩
      · have hltz : ¬ (k : Int) < (l.length : Int) := by omega
        have hkl : k = l.length := by omega
        have htk : l.take k = l := List.take_of_length_le (by omega)
        have HLE : Hid (L.map (·.e) = putV l c t most) := by
          have := HL.out
          rw [htk] at this
          obtain ⟨e, he⟩ : ∃ e, l[a]? = some e := ⟨_, List.getElem?_eq_getElem haL⟩
          rw [this, HV.out.1]
          exact acc7 hfa.out he HD.out
        clear htk hkl
        go_wp2
        refine bodyPost_ret (v := .tuple #[.slice a0 n0' c0, .int .i64 (a : Int), .int .i64 0]) (by simp [results, Tryd.results12, go_sem]) rfl ?_
        exact HPOST.out w1 _ _ L _ HB1.out hsz1 HLE.out HR.out HCo.out
  · have hfv := (ha3 (by omega)).2.1
    have hfa := Lib.hid (ha3 (by omega)).2.2
    have haL := (ha3 (by omega)).1
    have d1 : (c.does != 1) = true := by rw [hd]; rfl
    have d7 : (c.does == 7) = false := by rw [hd]; rfl
    have d7n : (c.does != 7) = true := by rw [hd]; rfl
    have d8 : (c.does == 8) = true := by rw [hd]; rfl
    have HV := Lib.hid (put8 (t := t) h0 hd)
    have HD := Lib.hid hd
    clear ha2 ha3 h0 hd
    go_enter Tryd.func12, Tryd.ntmps12
    go_wp2_with (first | (go_at_call 15; refine (HC.out).mono ?_; rintro e w1 ⟨rfl, hb1⟩; obtain ⟨hsz1, HE1, hB1, hbx1⟩ := HX.out _ hb1; have HBX1 := Lib.hid hbx1; obtain ⟨n0, n1, n2, n3, n4, n5, n6⟩ := hbx1; have HE1 := Lib.hid HE1; have HB1 := Lib.hid hB1; clear hb1 hB1; have HST : Hid (RS w1 ⟨c, t, 0, []⟩ (.slice ma c.lines.length mk') (w1.alloc (.cells (enc ⟨c, t, 0, []⟩ (.slice ma c.lines.length mk') (.slice none 0 0)) TE)) (.slice none 0 0) []) := ⟨(Full.nil _ _).1, below_alloc _ _, alloc_new _ _ _, by simp⟩) | (go_at_call 17; refine (rfind_any l c.ref _ _ HE1.out).mono ?_; rintro e w2 ⟨rfl, hw2⟩; rw [hw2]; clear hw2 w2; rw [hfv]))
    go_loopg [14, 15] (l.length) (fun gg s14 s15 wr => ∃ (k : Nat) (L : List Ev), s15 = .int .i64 k ∧ k ≤ l.length ∧ l.length - k ≤ gg ∧ Hid (L.map (·.e) = acc c a 0 (l.take k)) ∧ Hid (∀ x ∈ L, Cont All w x) ∧ Hid (RS w1 ⟨c, tbK c a l t k, 0, []⟩ (.slice ma c.lines.length mk') wr s14 L) ∧ (∃ a n c, s14 = .slice a n c))
    case atStart => exact ⟨0, [], rfl, Nat.zero_le _, by omega, rfl, by simp [Hid], (by rw [show tbK c a l t 0 = t by unfold tbK; rw [if_neg (by omega)]]; exact HST.out), ⟨_, _, _, rfl⟩⟩
    case round =>
      obtain ⟨k, L, rfl, hk, hgk, HL, HCo, HR, a0, n0', c0, rfl⟩ := hrel
      have hszr := HR.out.2.2.2
      have hne1 : ¬ w.heap.size = wr.heap.size := by omega
      have hne2 : ¬ w1.heap.size = wr.heap.size := by omega
      have hne3 : ¬ w.heap.size = w1.heap.size := by omega
      have hbxr := HBX1.out.grw HR.out.2.1
      have NB : Hid (∀ W, Below w1.heap.size w1 W → W.cell? ⟨w.heap.size, 4, none⟩ = some (.int .i64 c.does)) := fun W hb => (HBX1.out.grw hb).2.2.2.2.1
      obtain ⟨r0, r1, r2, r3, r4, r5, r6⟩ := hbxr
      have na4 : ∀ o, (wr.alloc o).cell? ⟨w.heap.size, 4, none⟩ = some (.int .i64 c.does) := fun o => NB.out _ (HR.out.al o).2.1
      have hLl : L.length ≤ 200000 := by
        have := congrArg List.length HL.out
        have h2 := acc_len c a (l.take k) 0
        rw [List.length_map] at this
        simp at h2
        omega
      by_cases hlt : k < l.length
      · have hltz : (k : Int) < (l.length : Int) := by omega
        obtain ⟨b, o, m2, mo, rfl, hbw, hx, hcell, hcont⟩ := EnsAt.get HS.out k hlt
        have hbs : wr.heap[b]? = w.heap[b]? := (HB1.out.trans (HR.out.2.1.mono (by omega))).block b hbw
        have hcell := hcell.of hbs
        have HTK := Lib.hid (acc_take (c := c) (a := a) hx)
        have HTB : Hid (k = a → c.does = 7 → tbK c a l t (k + 1) = l[k].tb) := fun e1 e2 => by
          unfold tbK
          rw [if_pos ⟨e2, by omega⟩, ← e1]
          simp [List.getD, hx]
        have HTB2 : Hid (¬ (c.does = 7 ∧ k = a) → tbK c a l t (k + 1) = tbK c a l t k) := fun e1 => by
          unfold tbK
          by_cases h1 : c.does = 7
          · have : ¬ k = a := fun e => e1 ⟨h1, e⟩
            by_cases h2 : a < k
            · rw [if_pos ⟨h1, by omega⟩, if_pos ⟨h1, h2⟩]
            · rw [if_neg (by omega), if_neg (by omega)]
          · rw [if_neg (fun q => h1 q.1), if_neg (fun q => h1 q.1)]
        generalize l[k] = x at *
        obtain ⟨x0, x1, x2, x3, x4, x5, x6, x7, x8, x9⟩ := hcell
        obtain ⟨am, km, e1, -, -⟩ := Cm.LnsAt.form hcont.1
        obtain ⟨ao, ko, e2, -, -⟩ := hcont.2.form
        dsimp only at e1 e2
        subst e1 e2
        have HCO := Lib.hid hcont
        have hi1 : k < l.length := hlt
        clear hcont hx hbs hbw
        by_cases hka : k = a
        · have hkb : ((k : Int) == (a : Int)) = true := by simp [hka]
          have HKA := Lib.hid hka
          clear hka
          have RA : Hid (RS w1 ⟨c, tbK c a l t (k + 1), 0, []⟩ (.slice ma c.lines.length mk') ((wr.alloc (.cells (enc (gone 1 x) (.slice am x.cl.lines.length km) (.slice none 0 0)) TE)).alloc (.cells (enc (gone 1 x) (.slice am x.cl.lines.length km) (.slice none 0 0)) TE)) (.slice a0 n0' c0) L) := by rw [HTB2.out (by rw [HD.out]; omega)]; exact (HR.out.al _).al _
          have HG : Hid (Cont All w ⟨(gone 1 x), (.slice am x.cl.lines.length km), (.slice none 0 0)⟩) := ⟨HCO.out.1, OtsAt.nil _ _⟩
          have HL2 : Hid (L.map (·.e) ++ [(gone 1 x)] = acc c a 0 (l.take (k + 1))) := Lib.hid (by rw [HTK.out, HL.out]; unfold rnd; rw [if_pos HKA.out, if_neg (by rw [HD.out]; omega)])
          clear HTB HTB2 HTK
          go_wp2_with (first | (at_builtin; refine wpList_plain (by rfl) (fun K hK => ?_); refine wp_app _ _ rfl (w1.heap.size + 1) (.slice a0 n0' c0) L rfl RA.out.1 _ 1 ⟨(gone 1 x), (.slice am x.cl.lines.length km), (.slice none 0 0)⟩ rfl (alloc_new' (by simp)) HG.out.sl (by first | omega | (simp only [List.length_append, List.length_singleton]; omega)) RA.out.2.2.2 (fun v' w' ho hg hat => ?_); refine hK _ _ ?_; have HR2 := Lib.hid (RA.out.app ho hg); clear ho hg hat hK; obtain ⟨pa, pn, pc, e3⟩ := slice_of_own HR2.out.1; subst e3; have na5 := NB.out _ HR2.out.2.1))
          go_roundg (l.length - (k + 1))
          case measure => omega
          case rel => exact ⟨k + 1, L ++ [(Ev.mk (gone 1 x) (.slice am x.cl.lines.length km) (.slice none 0 0))], by first | rfl | go_num | (congr 1; omega), by omega, by omega, (show List.map (fun z => z.e) (L ++ [(Ev.mk (gone 1 x) (.slice am x.cl.lines.length km) (.slice none 0 0))]) = acc c a 0 (l.take (k + 1)) from List.map_append.trans HL2.out), (cont_app HCo.out HG.out), HR2.out, ⟨_, _, _, rfl⟩⟩
        · have hkb : ((k : Int) == (a : Int)) = false := by simp; omega
          have RA : Hid (RS w1 ⟨c, tbK c a l t (k + 1), 0, []⟩ (.slice ma c.lines.length mk') ((wr.alloc (.cells (enc x (.slice am x.cl.lines.length km) (.slice ao x.outs.length ko)) TE)).alloc (.cells (enc x (.slice am x.cl.lines.length km) (.slice ao x.outs.length ko)) TE)) (.slice a0 n0' c0) L) := by rw [HTB2.out (by first | omega | (rw [HD.out]; omega))]; exact (HR.out.al _).al _
          have HL2 : Hid (L.map (·.e) ++ [x] = acc c a 0 (l.take (k + 1))) := Lib.hid (by rw [HTK.out, HL.out]; unfold rnd; rw [if_neg (by omega)])
          clear HTB HTB2 HTK
          go_wp2_with (first | (at_builtin; refine wpList_plain (by rfl) (fun K hK => ?_); refine wp_app _ _ rfl (w1.heap.size + 1) (.slice a0 n0' c0) L rfl RA.out.1 _ 1 ⟨x, (.slice am x.cl.lines.length km), (.slice ao x.outs.length ko)⟩ rfl (alloc_new' (by simp)) HCO.out.sl (by first | omega | (simp only [List.length_append, List.length_singleton]; omega)) RA.out.2.2.2 (fun v' w' ho hg hat => ?_); refine hK _ _ ?_; have HR2 := Lib.hid (RA.out.app ho hg); clear ho hg hat hK; obtain ⟨pa, pn, pc, e3⟩ := slice_of_own HR2.out.1; subst e3))
          go_roundg (l.length - (k + 1))
          case measure => omega
          case rel => exact ⟨k + 1, L ++ [Ev.mk x (.slice am x.cl.lines.length km) (.slice ao x.outs.length ko)], by first | rfl | go_num | (congr 1; omega), by omega, by omega, (show List.map (fun z => z.e) (L ++ [Ev.mk x (.slice am x.cl.lines.length km) (.slice ao x.outs.length ko)]) = acc c a 0 (l.take (k + 1)) from List.map_append.trans HL2.out), (cont_app HCo.out HCO.out), HR2.out, ⟨_, _, _, rfl⟩⟩
      · have hltz : ¬ (k : Int) < (l.length : Int) := by omega
        have hkl : k = l.length := by omega
        have htk : l.take k = l := List.take_of_length_le (by omega)
        have HLE : Hid (L.map (·.e) ++ [⟨c, t, 1, []⟩] = putV l c t most) := Lib.hid (by
          have := HL.out
          rw [htk] at this
          rw [this, HV.out.1]
          rw [acc8 hfa.out (List.getElem?_eq_getElem haL) HD.out])
        have ht : tbK c a l t k = t := by unfold tbK; rw [if_neg (by rw [HD.out]; omega)]
        have HR0 : Hid (RS w1 ⟨c, t, 0, []⟩ (.slice ma c.lines.length mk') wr (.slice a0 n0' c0) L) := by have := HR.out; rw [ht] at this; exact this
        have RA : Hid (RS w1 ⟨c, t, 1, []⟩ (.slice ma c.lines.length mk') ((wr.setCell ⟨w1.heap.size, 8, none⟩ (.int .i64 1)).alloc (.cells (enc ⟨c, t, 1, []⟩ (.slice ma c.lines.length mk') (.slice none 0 0)) TE)) (.slice a0 n0' c0) L) := (HR0.out.set (z := ⟨c, t, 1, []⟩) 8 (.int .i64 1) rfl).al _
        have hp := ten HR0.out.2.2.1
        obtain ⟨p0, p1, p2, p3, p4, p5, p6, p7, p8, p9⟩ := hp
        have fz := frzn HR0.out.2.2.1 8
        clear htk hkl ht
        go_wp2_with (first | (at_builtin; refine wpList_plain (by rfl) (fun K hK => ?_); refine wp_app _ _ rfl (w1.heap.size + 1) (.slice a0 n0' c0) L rfl RA.out.1 _ 1 ⟨⟨c, t, 1, []⟩, (.slice ma c.lines.length mk'), (.slice none 0 0)⟩ rfl (alloc_new' (by simp)) (HCP.out _ _).sl (by first | omega | (simp only [List.length_append, List.length_singleton]; omega)) RA.out.2.2.2 (fun v' w' ho hg hat => ?_); refine hK _ _ ?_; have HR2 := Lib.hid (RA.out.app ho hg); clear ho hg hat hK; obtain ⟨pa, pn, pc, e3⟩ := slice_of_own HR2.out.1; subst e3))
        refine bodyPost_ret (v := .tuple #[.slice pa pn pc, .int .i64 (a : Int), .int .i64 0]) (by simp [results, Tryd.results12, go_sem]) rfl ?_
        exact HPOST.out w1 _ _ (L ++ [(Ev.mk ⟨c, t, 1, []⟩ (.slice ma c.lines.length mk') (.slice none 0 0))]) _ HB1.out hsz1 (List.map_append.trans HLE.out) HR2.out (cont_app HCo.out (HCP.out _ _))
end Go.Proofs.YtjgceppbhmmbjaaDoor.Bk
end
