/-
  Texts put together (merge.py): ZParse, NRefInt, NFmt.
-/
import Derived.Deep.LoopGhost
import Derived.Lib.ItoaMem
import Derived.Below
import Derived.Deep.QuietTactic
import Derived.BigQuiet
import Derived.RegionTactic
import Derived.ChangeAlike
import Derived.Test.YtmoldgmfhcmceaaGreatDoorMp20
import Derived.Test.YtmoldgmfhcmceaaGreatDoorMp26
import Derived.Test.YtmoldgmfhcmceaaGreatDoorMp17
import Derived.Test.YtmoldgmfhcmceaaGreatDoorMp27
import Derived.Test.YtmoldgmfhcmceaaGreatDoorMp18
/-
  What fees.Parse answers, as a contract: for every text.
-/
section
set_option linter.unusedSimpArgs false
set_option linter.unusedVariables false
set_option maxRecDepth 100000
namespace Go.Proofs.YtmoldgmfhcmceaaGreatDoor.Fe
open Go.RowKit
open Wo (Wd WdsAt wds keepB box_cell box_two heap_far below_alloc below_trans)

theorem rows_bad (E : Nat) : ∀ (n f : Nat) (acc : List Fee) (r : List Wd) (x : Int × Nat), r.length ≤ n → pRows E f acc r = .error x → x.1 ≠ 0
  | n, f, acc, [], x, _, h => by rw [rows_nil] at h; cases h
  | n, 0, acc, a :: r, x, _, h => by simp only [pRows, Except.error.injEq] at h; subst h; simp
  | 0, f + 1, acc, a :: r, x, hn, _ => by simp at hn
  | n + 1, f + 1, acc, x0 :: x1 :: x2 :: x3 :: x4 :: x5 :: t, x, hn, h => by
    rw [rows_six] at h
    cases hp : pRow x0 x1 x2 x3 x4 x5 with
    | error y => rw [hp] at h; simp only [Except.error.injEq] at h; subst h; exact row_bad hp
    | ok y => rw [hp] at h; exact rows_bad E n f _ t x (by simp at hn; omega) h
  | n + 1, f + 1, acc, [_], x, _, h => by simp only [pRows, Except.error.injEq] at h; subst h; simp
  | n + 1, f + 1, acc, [_, _], x, _, h => by simp only [pRows, Except.error.injEq] at h; subst h; simp
  | n + 1, f + 1, acc, [_, _, _], x, _, h => by simp only [pRows, Except.error.injEq] at h; subst h; simp
  | n + 1, f + 1, acc, [_, _, _, _], x, _, h => by simp only [pRows, Except.error.injEq] at h; subst h; simp
  | n + 1, f + 1, acc, [_, _, _, _, _], x, _, h => by simp only [pRows, Except.error.injEq] at h; subst h; simp
theorem rows_one {E : Nat} {a : List Wd} {l : List Fee} (h : pRows E 512 [] a = .ok l) : (∀ x ∈ l, oneE x = 0) ∧ l.length ≤ 512 := by
  obtain ⟨h1, -, -, h4⟩ := rows_two E E a.length 512 [] l a a [] (Nat.le_refl _) rfl h
  exact ⟨h4 (by simp), by simpa using h1⟩
theorem ok_of_one {f : Fee} (h : oneE f = 0) : FeOk f := by
  obtain ⟨h1, h2, h3, h4, h5, h6⟩ := one_facts h
  have hcode : ∀ (t : Tx) (m : Int), Cm.codeB t m m = true → (t.length : Int) ≤ m := fun t m h => by simp only [Cm.codeB, Bool.and_eq_true, decide_eq_true_eq] at h; exact h.1.2
  have a := hcode _ _ h1
  have b : f.mod.length ≤ 2 := by
    rcases h2 with e | e
    · rw [e]; simp
    · have := hcode _ _ e; omega
  have d := day_bd h5
  have c : 0 ≤ f.cents ∧ f.cents ≤ 10000000000000 := by simpa [Pl.goodB] using h6
  exact ⟨⟨by omega, by omega⟩, ⟨by omega, by omega⟩, ⟨by omega, by omega⟩, ⟨by omega, by omega⟩⟩
theorem le_sum : ∀ (l : List Nat) (x : Nat), x ∈ l → x ≤ l.sum
  | [], x, h => by cases h
  | a :: r, x, h => by
    rw [List.sum_cons]
    rcases List.mem_cons.1 h with rfl | h
    · omega
    · have := le_sum r x h; omega
theorem spV_lens {s : Tx} (h : Wo.spE s = 0) : (∀ x ∈ Wo.spV s, x.1.length ≤ 65536) ∧ s.length ≤ 65536 := by
  have hl : s.length ≤ 65536 := by
    unfold Wo.spE at h
    split at h
    · cases h
    · omega
  have hV : Wo.spV s = Wo.wds 0 s := by
    unfold Wo.spE at h
    unfold Wo.spV
    rw [if_neg (by omega)] at h ⊢
    split at h
    · next hg => rw [if_pos hg]
    · cases h
  have hsum := Wo.wds_sum s 0
  rw [hV]
  refine ⟨fun x hx => ?_, hl⟩
  have h1 : x.1.length ≤ (((Wo.wds 0 s).map (·.1)).map List.length).sum := le_sum _ _ (List.mem_map_of_mem (List.mem_map_of_mem hx))
  have : (((Wo.wds 0 s).map (·.1)).map List.length).sum ≤ s.length := hsum
  omega
/-- A table does not lie in a box of numbers. -/
theorem fes_set {w : World} {v : Value} {l : List Fee} {q : Nat} {x y : Value} (h : FesAt All w v l) (hq : w.heap[q]? = some (.cells #[x, y] 30 (0, 0))) (j : Nat) (u : Value) (hx : ∀ t, x ≠ .string t := by intro t h; cases h) : FesAt All (w.setCell ⟨q, j, none⟩ u) v l := by
  obtain ⟨a, c, rfl, h1, h2, h3⟩ := h
  refine ⟨a, c, rfl, h1, h2, ?_⟩
  rcases h3 with h3 | ⟨b, o, rfl, hk, hb, hc⟩
  · exact Or.inl h3
  · cases l with
    | nil => exact Or.inl rfl
    | cons f r =>
      have hne : b ≠ q := by
        rintro rfl
        obtain ⟨c0, c1, -⟩ := hc 0 f rfl
        rw [Nat.zero_mul, Nat.add_zero] at c0 c1
        rw [cell_of_row w b _ _ _ (0, 0) hq] at c0 c1
        match o, c0, c1 with
        | 0, c0, _ => simp at c0; exact hx _ c0
        | 1, _, c1 => simp at c1
        | n + 2, c0, _ => simp at c0
      exact Or.inr ⟨b, o, rfl, hk, by simpa [World.setCell] using hb, fun j' x' hj => (hc j' x' hj).of (Below.heap_setCell _ _ _ _ hne)⟩
theorem hp_one {w : World} {p : Nat} {x0 x1 a0 : Value} {T : TypeId} (h : w.heap[p]? = some (.cells #[x0, x1] T (0, 0))) : (w.setCell ⟨p, 0, none⟩ a0).heap[p]? = some (.cells #[a0, x1] T (0, 0)) := heap_setCell_same w p 0 _ _ _ h
def ParV (w' : World) : Except (Int × Nat) (List Fee) → Ending → Prop
  | .ok l, e => ∃ v, e = .returned (.tuple #[v, .agg #[.int .i64 0, .int .i64 0]]) ∧ FesAt All w' v l
  | .error x, e => e = .returned (.tuple #[.slice none 0 0, .agg #[.int .i64 x.1, .int .i64 (x.2 : Nat)]])
theorem par_bad {s : Tx} (h : ¬ Wo.spE s = 0) : paR s = .error (Wo.spE s, Wo.spA s) := by unfold paR; rw [if_neg h]
theorem par_err {s : Tx} {x : Int × Nat} (h : Wo.spE s = 0) (hr : pRows s.length 512 [] (Wo.spV s) = .error x) : paR s = .error x := by unfold paR; rw [if_pos h, hr]
theorem par_ok {s : Tx} {l l' : List Fee} (h : Wo.spE s = 0) (hr : pRows s.length 512 [] (Wo.spV s) = .ok l) (hp : l'.Perm l) (hw : Wk l') : paR s = if checkE l' = 0 then .ok l' else .error (checkE l', 0) := by
  obtain ⟨h1, h2⟩ := wk_check (hp.trans (srt_perm l).symm) hw (srt_wk l) (fun f hf => (rows_one hr).1 f (hp.mem_iff.1 hf))
  unfold paR
  rw [if_pos h, hr]
  simp only
  rw [← h1]
  by_cases hc : checkE l' = 0
  · rw [if_pos hc, if_pos hc, h2 hc]
  · rw [if_neg hc, if_neg hc]
set_option maxHeartbeats 16000000 in
theorem parse_any (s : ByteArray) (w : World) (hs : s.size ≤ maxLen) (hT : Da.Tab w) :
    Calls Tryz.prog 13 #[.string s] w fun e w' => ParV w' (paR s.data.toList) e ∧ Below w.heap.size w w' := by
  have HSP := Lib.hid fun W => Wo.split_any s W hs
  have HT := Lib.hid hT
  have HSZ : Hid (s.data.toList.length = s.size) := (Lib.size_eq s).symm
  have HB0 := Lib.hid (below_alloc w (.cells #[.int .i64 0, .int .i64 0] 30))
  have HZ0 := Lib.hid (heap_alloc_new w (.cells #[.int .i64 0, .int .i64 0] 30))
  have HS0 : Hid (w.heap.size + 1 ≤ (w.alloc (.cells #[.int .i64 0, .int .i64 0] 30)).heap.size) := by show _ ≤ _; simp
  have hsz2 : s.size ≤ 9223372036854775807 := by unfold maxLen at hs; exact hs
  have HPB := Lib.hid (@par_bad s.data.toList)
  have HPE : Hid (∀ x, Wo.spE s.data.toList = 0 → pRows s.data.toList.length 512 [] (Wo.spV s.data.toList) = .error x → paR s.data.toList = .error x) := fun x h1 h2 => par_err h1 h2
  have HPO : Hid (∀ l l', Wo.spE s.data.toList = 0 → pRows s.data.toList.length 512 [] (Wo.spV s.data.toList) = .ok l → l'.Perm l → Wk l' → paR s.data.toList = if checkE l' = 0 then .ok l' else .error (checkE l', 0)) := fun l l' h1 h2 h3 h4 => par_ok h1 h2 h3 h4
  have HLN := Lib.hid (@spV_lens s.data.toList)
  have HVL := Lib.hid (Wo.spV_len s.data.toList)
  rw [HSZ.out] at HPE HPO HLN
  generalize paR s.data.toList = RES at *
  generalize Wo.spE s.data.toList = xe at *
  generalize Wo.spA s.data.toList = xa at *
  generalize Wo.spV s.data.toList = ws at *
  clear hT hs
  go_enter Tryz.func13, Tryz.ntmps13
  go_upto_region 1 with fail
  generalize w.alloc (.cells #[.int .i64 0, .int .i64 0] 30) = W at *
  generalize hp : w.heap.size = p at *
  go_wp2_with fail
  go_at_call 32
  refine (HSP.out _).mono ?_
  rintro e w1 ⟨⟨u, rfl, hu⟩, hb1⟩
  have HB1 := Lib.hid (show Below p w w1 by subst hp; exact below_trans HB0.out hb1)
  have HZ1 := Lib.hid (keepB HZ0.out hb1)
  have HS1 : Hid (p + 1 ≤ w1.heap.size) := Nat.le_trans HS0.out hb1.size
  have HU1 : Hid (WdsAt All w1 u ws) := hu.move (moves_weak _ fun _ _ _ => trivial)
  clear hb1 hu HB0 HZ0 HS0 HSP
  obtain ⟨ua, uc, rfl, -, -⟩ := WdsAt.form HU1.out
  have hb2 := below_alloc w1 (.cells #[.int .i64 xe, .int .i64 (xa : Nat)] 30)
  have HB2 := Lib.hid (HB1.out.trans (hb2.mono (by have := HS1.out; omega)))
  have HZ2 := Lib.hid (keepB HZ1.out hb2)
  have HU2 := Lib.hid (HU1.out.move (Below.moves hb2))
  have HN2 := Lib.hid (heap_alloc_new w1 (.cells #[.int .i64 xe, .int .i64 (xa : Nat)] 30))
  have HS2 : Hid (w1.heap.size + 1 ≤ (w1.alloc (.cells #[.int .i64 xe, .int .i64 (xa : Nat)] 30)).heap.size) := by show _ ≤ _; simp
  have HPQ : Hid (p < w1.heap.size) := HS1.out
  clear hb2 HB1 HZ1 HS1 HU1
  go_upto_region 2 with fail
  generalize w1.alloc (.cells #[.int .i64 xe, .int .i64 (xa : Nat)] 30) = W2 at *
  generalize w1.heap.size = q at *
  have hpq : p < q := HPQ.out
  obtain ⟨v0, v1, -, -⟩ := box_two HN2.out
  by_cases hxe : xe = 0
  rotate_left
  · have q1 : (xe != 0) = true := by simpa using hxe
    have HR : Hid (RES = .error (xe, xa)) := HPB.out hxe
    clear hxe HPB HPE HPO HLN
    have f2 := Lib.frozen_of_heap HZ2.out
    obtain ⟨y0, y1, -, -⟩ := box_two HZ2.out
    go_upto_region 3 with fail
    go_region
    all_goals
      go_wp2
      clear y0 y1 f2 v0 v1
      have hr2 := drew_heap (hp2_same HZ2.out (.int .i64 xe) (.int .i64 (xa : Nat)))
      have hbf := Below.drew (below_p2 HB2.out (Nat.le_refl p) (.int .i64 xe) (.int .i64 (xa : Nat)))
      simp only [put2] at hr2 hbf
      obtain ⟨FW, hFW⟩ : ∃ z, z = ((W2.setCell ⟨p, 0, none⟩ (.int .i64 xe)).setCell ⟨p, 1, none⟩ (.int .i64 (xa : Nat))).drew := ⟨_, rfl⟩
      rw [← hFW] at hr2 hbf ⊢
      clear hFW
      obtain ⟨t0, t1, -, -⟩ := box_two hr2
      refine bodyPost_ret (v := .tuple #[.slice none 0 0, .agg #[.int .i64 xe, .int .i64 (xa : Nat)]]) (by simp [results, Tryz.results13, go_sem, t0, t1]) rfl ?_
      refine ⟨?_, by first | exact hbf | (rw [hp]; exact hbf)⟩
      rw [HR.out]
      rfl
  · have q1 : (xe != 0) = false := by rw [hxe]; rfl
    have HX := Lib.hid hxe
    clear hxe HPB
    have hB2' : Below w.heap.size w W2 := by subst hp; exact HB2.out
    have HRR := Lib.hid (readRows_any ws s.size (.slice ua ws.length uc) W2 HU2.out (HLN.out HX.out).1 (by have := HVL.out; omega) (by have := (HLN.out HX.out).2; omega) (Cm.tab_below HT.out hB2'))
    have HPE2 := Lib.hid (fun x => HPE.out x HX.out)
    have HPO2 := Lib.hid (fun l l' => HPO.out l l' HX.out)
    have HRB := Lib.hid (fun x => rows_bad s.size ws.length 512 [] ws x (Nat.le_refl _))
    have HR1 := Lib.hid (fun l => @rows_one s.size ws l)
    clear HPE HPO hB2' HLN
    generalize pRows s.size 512 [] ws = PR at *
    go_wp2_with fail
    go_at_call 33
    refine HRR.out.mono ?_
    rintro e w3 ⟨hrv, hb3⟩
    have HB3 := Lib.hid (HB2.out.trans (hb3.mono (by have := HS2.out; omega)))
    have HZ3 := Lib.hid (keepB HZ2.out hb3)
    have HN3 := Lib.hid (keepB HN2.out hb3)
    have HS3 : Hid (q + 1 ≤ w3.heap.size) := Nat.le_trans HS2.out hb3.size
    clear hb3 HRR v0 v1
    have f3 := Lib.frozen_of_heap HN3.out
    obtain ⟨v0, v1, -, -⟩ := box_two HN3.out
    cases PR with
    | error y =>
      obtain rfl := hrv
      have hy := HRB.out y rfl
      have q2 : (y.1 != 0) = true := by simpa using hy
      have HR : Hid (RES = .error y) := HPE2.out y rfl
      clear hy HRB HPE2 HPO2
      have HN4 := Lib.hid (hp2_same HN3.out (.int .i64 y.1) (.int .i64 (y.2 : Nat)))
      have HZ4 := Lib.hid (hp2_far HZ3.out (Nat.ne_of_lt hpq) (.int .i64 y.1) (.int .i64 (y.2 : Nat)))
      have HB4 := Lib.hid (below_p2 HB3.out (Nat.le_of_lt hpq) (.int .i64 y.1) (.int .i64 (y.2 : Nat)))
      go_upto_region 5 with fail
      simp only [put2] at HN4 HZ4 HB4
      generalize (w3.setCell ⟨q, 0, none⟩ (.int .i64 y.1)).setCell ⟨q, 1, none⟩ (.int .i64 (y.2 : Nat)) = W2 at *
      clear v0 v1 f3 HB3 HZ3 HN3 HB2 HZ2 HN2
      have HZ2 := HZ4
      have HB2 := HB4
      have f2 := Lib.frozen_of_heap HZ2.out
      obtain ⟨y0, y1, -, -⟩ := box_two HZ2.out
      obtain ⟨v0, v1, -, -⟩ := box_two HN4.out
      go_upto_region 6 with fail
      go_region
      all_goals
        go_wp2
        clear y0 y1 f2 v0 v1
        have hr2 := drew_heap (hp2_same HZ2.out (.int .i64 y.1) (.int .i64 (y.2 : Nat)))
        have hbf := Below.drew (below_p2 HB2.out (Nat.le_refl p) (.int .i64 y.1) (.int .i64 (y.2 : Nat)))
        simp only [put2] at hr2 hbf
        obtain ⟨FW, hFW⟩ : ∃ z, z = ((W2.setCell ⟨p, 0, none⟩ (.int .i64 y.1)).setCell ⟨p, 1, none⟩ (.int .i64 (y.2 : Nat))).drew := ⟨_, rfl⟩
        rw [← hFW] at hr2 hbf ⊢
        clear hFW
        obtain ⟨t0, t1, -, -⟩ := box_two hr2
        refine bodyPost_ret (v := .tuple #[.slice none 0 0, .agg #[.int .i64 y.1, .int .i64 (y.2 : Nat)]]) (by simp [results, Tryz.results13, go_sem, t0, t1]) rfl ?_
        refine ⟨?_, by first | exact hbf | (rw [hp]; exact hbf)⟩
        rw [HR.out]
        rfl
    | ok l =>
      obtain ⟨fv, rfl, hown⟩ := hrv
      obtain ⟨hr1, hr2⟩ := HR1.out l rfl
      have HR1 := Lib.hid hr1
      have HO3 := Lib.hid hown
      obtain ⟨fa, fk, rfl⟩ := own_form hown
      clear hr1 hown HRB HPE2
      have HZ4 := Lib.hid (hp2_far HZ3.out (Nat.ne_of_lt hpq) (.int .i64 0) (.int .i64 0))
      have HB4 := Lib.hid (below_p2 HB3.out (Nat.le_of_lt hpq) (.int .i64 0) (.int .i64 0))
      have HN4 := Lib.hid (hp2_same HN3.out (.int .i64 0) (.int .i64 0))
      have HO4 := Lib.hid (own_set (own_set HO3.out (show q < W2.heap.size + 1 by have := HS2.out; omega) 0 (.int .i64 0)) (show q < W2.heap.size + 1 by have := HS2.out; omega) 1 (.int .i64 0))
      have HS4 : Hid (q + 1 ≤ (put2 w3 q (.int .i64 0) (.int .i64 0)).heap.size) := by show _ ≤ _; simpa [World.setCell] using HS3.out
      go_upto_region 5 with fail
      simp only [put2] at HZ4 HB4 HN4 HS4
      generalize (w3.setCell ⟨q, 0, none⟩ (.int .i64 0)).setCell ⟨q, 1, none⟩ (.int .i64 0) = W4 at *
      clear v0 v1 f3 HB3 HZ3 HN3 HO3 HS3
      obtain ⟨v0, v1, -, -⟩ := box_two HN4.out
      have HSo := Lib.hid (sort_any l (by omega) _ _ W4 HO4.out)
      go_wp2_with fail
      go_at_call 34
      refine HSo.out.mono ?_
      rintro e w5 ⟨rfl, l', hpm, hwk, hfe, hb5⟩
      have hll : l'.length = l.length := hpm.length_eq
      have HB5 := Lib.hid (HB4.out.trans (hb5.mono (by have := HS2.out; omega)))
      have HZ5 : Hid (w5.heap[p]? = some (.cells #[.int .i64 0, .int .i64 0] 30 (0, 0))) := by show _ = _; rw [hb5.block p (by have := HS2.out; omega)]; exact HZ4.out
      have HF5 := Lib.hid hfe
      have HRS := Lib.hid (HPO2.out l l' rfl hpm hwk)
      have HOK : Hid (∀ f ∈ l', FeOk f) := fun f hf => ok_of_one (HR1.out f (hpm.mem_iff.1 hf))
      have hl5 : l'.length ≤ 512 := by omega
      clear hpm hwk hb5 HSo HPO2 HB4 HZ4 HO4 v0 v1 HN4 hfe
      have hB5' : Below w.heap.size w w5 := by subst hp; exact HB5.out
      have HCk := Lib.hid (check_any l' _ w5 HF5.out HOK.out (by omega) (Cm.tab_below HT.out hB5'))
      clear hB5'
      obtain ⟨ce, HCE⟩ : ∃ z, Hid (checkE l' = z) := ⟨_, rfl⟩
      rw [HCE.out] at HCk HRS
      clear hll
      go_wp2_with fail
      go_at_call 11
      refine HCk.out.mono ?_
      rintro e w6 ⟨rfl, hb6⟩
      have HB6 := Lib.hid (HB5.out.trans (hb6.mono (by have := HB5.out.size; omega)))
      have HZ6 := Lib.hid (keepB HZ5.out hb6)
      have HF6 := Lib.hid (HF5.out.grw hb6)
      clear hb6 HCk HB5 HZ5 HF5
      have f2 := Lib.frozen_of_heap HZ6.out
      obtain ⟨y0, y1, -, -⟩ := box_two HZ6.out
      by_cases hce : ce = 0
      · have q3 : (ce != 0) = false := by rw [hce]; rfl
        have HR : Hid (RES = .ok l') := by show _ = _; rw [HRS.out, if_pos hce]
        clear hce HRS
        go_wp2
        clear y0 y1 f2
        have hr2 := hp2_same HZ6.out (.int .i64 0) (.int .i64 0)
        have hbf := below_p2 HB6.out (Nat.le_refl p) (.int .i64 0) (.int .i64 0)
        have hff : FesAt All (put2 w6 p (.int .i64 0) (.int .i64 0)) (.slice fa l.length fk) l' := fes_set (fes_set HF6.out HZ6.out 0 (.int .i64 0)) (hp_one HZ6.out) 1 (.int .i64 0)
        simp only [put2] at hr2 hbf hff
        obtain ⟨FW, hFW⟩ : ∃ z, z = (w6.setCell ⟨p, 0, none⟩ (.int .i64 0)).setCell ⟨p, 1, none⟩ (.int .i64 0) := ⟨_, rfl⟩
        rw [← hFW] at hr2 hbf hff ⊢
        clear hFW
        obtain ⟨t0, t1, -, -⟩ := box_two hr2
        refine bodyPost_ret (v := .tuple #[.slice fa l.length fk, .agg #[.int .i64 0, .int .i64 0]]) (by simp [results, Tryz.results13, go_sem, t0, t1]) rfl ?_
        refine ⟨?_, by first | exact hbf | (rw [hp]; exact hbf)⟩
        rw [HR.out]
        exact ⟨_, rfl, hff⟩
      · have q3 : (ce != 0) = true := by simpa using hce
        have HR : Hid (RES = .error (ce, 0)) := by show _ = _; rw [HRS.out, if_neg hce]
        clear hce HRS
        go_wp2
        clear y0 y1 f2
        have hr2 := hp2_same HZ6.out (.int .i64 ce) (.int .i64 0)
        have hbf := below_p2 HB6.out (Nat.le_refl p) (.int .i64 ce) (.int .i64 0)
        simp only [put2] at hr2 hbf
        obtain ⟨FW, hFW⟩ : ∃ z, z = (w6.setCell ⟨p, 0, none⟩ (.int .i64 ce)).setCell ⟨p, 1, none⟩ (.int .i64 0) := ⟨_, rfl⟩
        rw [← hFW] at hr2 hbf ⊢
        clear hFW
        obtain ⟨t0, t1, -, -⟩ := box_two hr2
        refine bodyPost_ret (v := .tuple #[.slice none 0 0, .agg #[.int .i64 ce, .int .i64 0]]) (by simp [results, Tryz.results13, go_sem, t0, t1]) rfl ?_
        refine ⟨?_, by first | exact hbf | (rw [hp]; exact hbf)⟩
        rw [HR.out]
        rfl
end Go.Proofs.YtmoldgmfhcmceaaGreatDoor.Fe
end

/-
  What the reference's Int answers, as a contract: for every int64. It lays a new byte each round: the world grows.
-/
section
namespace Go.Proofs.YtmoldgmfhcmceaaGreatDoor.Nu
open Go.RowKit Go.Sort Go.Lib

theorem str_app (a b : List UInt8) : ((⟨a.toArray⟩ : ByteArray) ++ (⟨b.toArray⟩ : ByteArray)) = ⟨(a ++ b).toArray⟩ := by
  apply ByteArray.ext; simp
theorem str_cons (c : UInt8) (t : List UInt8) : ((⟨#[c]⟩ : ByteArray) ++ (⟨t.toArray⟩ : ByteArray)) = ⟨(c :: t).toArray⟩ := str_app [c] t
theorem str_list (t : List UInt8) : (⟨t.toArray⟩ : ByteArray).toList = t := by rw [Lib.toList_data]
theorem conv1 (W : World) (x : Int) (c : UInt8) (h : x = (c.toNat : Int)) : (convert 81 9 (.slice (some ⟨W.heap.size, 0, none⟩) 1 1)).run Tryz.prog (W.alloc (.cells #[.int .u8 x] 5)) = .ok (.string ⟨#[c]⟩) (W.alloc (.cells #[.int .u8 x] 5)) := by
  subst h
  exact run_convert_bytes_back (P := Tryz.prog) (W.alloc (.cells #[.int .u8 (c.toNat : Int)] 5)) 81 9 5 ⟨W.heap.size, 0, none⟩ 1 [c] Tryz.underlying81 Tryz.underlying5 Tryz.underlying9 (fun j hj => by
    have : j = 0 := by simpa using hj
    subst this
    rw [Lib.add_plain, World.cell?_alloc_new]
    rfl)
theorem grw_alloc (w : World) (o : Obj) : Grw w (w.alloc o) := (Below.refl _ _).alloc (Nat.le_refl _) _

def pre (k : Int) (t : List UInt8) : List UInt8 := if k = 0 ∧ t ≠ [] then t else decDigits k.natAbs ++ t
def ms (k : Int) (t : List UInt8) : Nat := k.natAbs + if t = [] then 1 else 0
theorem pre_len (k : Int) (t : List UInt8) (n : Int) (h : pre k t = decDigits n.natAbs) (h0 : -9223372036854775808 ≤ n) (h1 : n ≤ 9223372036854775807) : t.length ≤ 19 := by
  have hl := dec_len n.natAbs 19 (by omega) (by omega)
  rw [← h] at hl
  unfold pre at hl
  split at hl
  · exact hl
  · rw [List.length_append] at hl; omega
theorem pre_step (k k' : Int) (t : List UInt8) (c : UInt8) (hc : c = UInt8.ofNat (48 + k.natAbs % 10)) (hk : k'.natAbs = k.natAbs / 10) (h : k ≠ 0 ∨ t = []) : pre k' (c :: t) = pre k t ∧ ms k' (c :: t) < ms k t := by
  have e : pre k t = decDigits k.natAbs ++ t := by
    unfold pre
    rw [if_neg]
    rintro ⟨a, b⟩
    rcases h with h | h
    · exact h a
    · exact b h
  constructor
  · rw [e]
    by_cases hs : k.natAbs < 10
    · have : k' = 0 := by omega
      unfold pre
      rw [if_pos ⟨this, by simp⟩, dec_small _ hs, hc, Nat.mod_eq_of_lt hs]
      rfl
    · unfold pre
      rw [if_neg (by rintro ⟨a, _⟩; omega), dec_big _ hs, hk, ← hc, List.append_assoc]
      rfl
  · unfold ms
    rw [if_neg (by simp : ¬ (c :: t = []))]
    rcases h with h | h
    · split <;> omega
    · subst h; simp only [if_true]; omega
theorem ofn (u : Nat) : ((UInt8.ofNat (48 + u % 10)).toNat : Int) = 48 + (u : Int) % 10 := by rw [dg_toNat _ (by omega)]; omega

set_option maxHeartbeats 1000000 in
theorem rint_any (n : Int) (h0 : -9223372036854775808 ≤ n) (h1 : n ≤ 9223372036854775807) (w : World) :
    Calls Tryz.prog 26 #[.int .i64 n] w fun e w' => e = .returned (.string ⟨(Lib.itoa n).toArray⟩) ∧ Grw w w' := by
  go_enter Tryz.func26, Tryz.ntmps26
  go_wp2
  go_loopg [3, 4] (ms n []) (fun g s3 s4 wx => ∃ (k : Int) (t : List UInt8), s3 = .string ⟨t.toArray⟩ ∧ s4 = .int .i64 k ∧ -9223372036854775808 ≤ k ∧ k ≤ 9223372036854775807 ∧ g = ms k t ∧ Hid (pre k t = decDigits n.natAbs) ∧ Grw w wx)
  case atStart => exact ⟨n, [], rfl, rfl, h0, h1, rfl, by show pre n [] = _; simp [pre], grw_refl _⟩
  case round =>
    obtain ⟨k, t, rfl, rfl, hk0, hk1, rfl, HP, hw⟩ := hrel
    have ht := pre_len k t n HP.out h0 h1
    have hl := str_list t
    rcases Int.lt_trichotomy k 0 with hk | hk | hk
    · obtain ⟨c, hc⟩ : ∃ c, c = UInt8.ofNat (48 + k.natAbs % 10) := ⟨_, rfl⟩
      have hm := Int.tmod_nonneg (a := -k) 10 (by omega)
      have hm2 := Int.tmod_lt_of_pos (-k) (b := 10) (by omega)
      rw [Int.neg_tmod] at hm hm2
      have hq := Int.tdiv_eq_ediv_of_nonneg (a := -k) (b := 10) (by omega)
      rw [Int.neg_tdiv] at hq
      have hmq := Int.tmod_eq_emod_of_nonneg (a := -k) (b := 10) (by omega)
      rw [Int.neg_tmod] at hmq
      have hcn := ofn k.natAbs
      rw [← hc] at hcn
      obtain ⟨s1, s2⟩ := pre_step k (k.tdiv 10) t c hc (by omega) (Or.inl (by omega))
      have S1 := Lib.hid s1
      have S2 := Lib.hid s2
      have hqb : -9223372036854775808 ≤ k.tdiv 10 ∧ k.tdiv 10 ≤ 9223372036854775807 := by omega
      have hkb : (k != 0) = true := by simp; omega
      by_cases hz : k.tmod 10 < 0
      · have hcv := conv1 wr (48 + -(k.tmod 10)) c (by omega)
        clear hc hcn hq hmq s1 s2
        go_wp2
        go_roundg (ms (k.tdiv 10) (c :: t))
        case rel => exact ⟨k.tdiv 10, c :: t, by rw [← str_cons c t], rfl, hqb.1, hqb.2, rfl, by show pre _ _ = _; rw [S1.out]; exact HP.out, grw_trans hw (grw_alloc _ _)⟩
        all_goals exact S2.out
      · have hcv := conv1 wr (48 + k.tmod 10) c (by omega)
        clear hc hcn hq hmq s1 s2
        go_wp2
        go_roundg (ms (k.tdiv 10) (c :: t))
        case rel => exact ⟨k.tdiv 10, c :: t, by rw [← str_cons c t], rfl, hqb.1, hqb.2, rfl, by show pre _ _ = _; rw [S1.out]; exact HP.out, grw_trans hw (grw_alloc _ _)⟩
        all_goals exact S2.out
    · subst hk
      by_cases hte : t = []
      · subst hte
        have hcv := conv1 wr 48 48 (by rfl)
        obtain ⟨s1, s2⟩ := pre_step 0 0 [] 48 (by rfl) (by rfl) (Or.inr rfl)
        have S1 := Lib.hid s1
        have S2 := Lib.hid s2
        clear s1 s2
        go_wp2
        go_roundg (ms 0 [48])
        case rel => exact ⟨0, [48], by first | rfl | (simp; done) | decide, rfl, by omega, by omega, rfl, by show pre _ _ = _; rw [S1.out]; exact HP.out, grw_trans hw (grw_alloc _ _)⟩
        all_goals exact S2.out
      · have hpt : pre 0 t = t := by unfold pre; rw [if_pos ⟨rfl, hte⟩]
        have HQ := Lib.hid (hpt.symm.trans HP.out)
        clear hpt
        have hie : t.isEmpty = false := by cases t with
          | nil => exact absurd rfl hte
          | cons a t => rfl
        by_cases hn : n < 0
        · have H1 : Hid ((⟨(Lib.itoa n).toArray⟩ : ByteArray) = ⟨#[45]⟩ ++ ⟨t.toArray⟩) := by
            show _ = _
            rw [str_cons, HQ.out]
            unfold Lib.itoa
            rw [if_pos hn]
          go_wp2
          go_ret
          exact ⟨by rw [H1.out]; rfl, hw⟩
        · have H1 : Hid ((⟨(Lib.itoa n).toArray⟩ : ByteArray) = ⟨t.toArray⟩) := by
            show _ = _
            rw [HQ.out]
            unfold Lib.itoa
            rw [if_neg hn, show n.toNat = n.natAbs by omega]
          go_wp2
          go_ret
          exact ⟨by rw [H1.out]; rfl, hw⟩
    · obtain ⟨c, hc⟩ : ∃ c, c = UInt8.ofNat (48 + k.natAbs % 10) := ⟨_, rfl⟩
      have hcn := ofn k.natAbs
      rw [← hc] at hcn
      obtain ⟨s1, s2⟩ := pre_step k (k / 10) t c hc (by omega) (Or.inl (by omega))
      have S1 := Lib.hid s1
      have S2 := Lib.hid s2
      have hkb : (k != 0) = true := by simp; omega
      have hz : ¬ k % 10 < 0 := by omega
      have hcv := conv1 wr (48 + k % 10) c (by omega)
      clear hc hcn s1 s2
      go_wp2
      go_roundg (ms (k / 10) (c :: t))
      case rel => exact ⟨k / 10, c :: t, by rw [← str_cons c t], rfl, by omega, by omega, rfl, by show pre _ _ = _; rw [S1.out]; exact HP.out, grw_trans hw (grw_alloc _ _)⟩
      all_goals exact S2.out
end Go.Proofs.YtmoldgmfhcmceaaGreatDoor.Nu
end

/-
  What strconv.FormatUint answers, as a contract: at base 10, for every uint64. (NOT YET BUILT in this form: taken over from wip/digits/NLib; look at its imports and at the types' names.)
-/
section
namespace Go.Proofs.YtmoldgmfhcmceaaGreatDoor.Nu
open Go.RowKit Go.Sort Go.Lib

theorem holds_zero0 (w : World) (T : TypeId) (nd : Nat) (hs : nd ≤ 24) : Holds (fun (b : UInt8) => Value.int .u8 (b.toNat : Int)) (w.alloc (.cells zeros24 T)) w.heap.size 0 (Array.replicate nd (0 : UInt8)) := fun j hj => by
  have hj' : j < nd := by simpa using hj
  refine ⟨?_, World.frozen?_alloc_new _ _ _ _⟩
  rw [World.cell?_alloc_new, zeros24_at _ (by omega), getElem!_pos _ j hj]
  simp
theorem fin_pos0 (w : World) (o : Obj) (dk : Array UInt8) (k : Nat) : Grw w ((putRow (fun (b : UInt8) => Value.int .u8 (b.toNat : Int)) (w.alloc o) w.heap.size 0 dk).drewN k) := by
  rw [alloc_eq_grow]
  obtain ⟨os', _, e⟩ := putRow_grow_new (fun (b : UInt8) => Value.int .u8 (b.toNat : Int)) w #[o] w.heap.size 0 dk (Nat.le_refl _)
  rw [e]
  exact grw_grow w k os'

set_option maxHeartbeats 6400000 in
set_option maxRecDepth 100000 in
theorem formatUint_in (u : Nat) (hu64 : u < 18446744073709551616) (w : World) (htab : Tab w) :
    Calls Tryz.prog 73 #[.int .u64 u, .int .i64 10] w fun e w' => e = .returned (.string ⟨(Lib.decDigits u).toArray⟩) ∧ Grw w w' := by
  by_cases hs : u < 100
  · go_enter Tryz.func73, Tryz.ntmps73
    go_wp2_with (go_at_call 90; refine (Tryz.internal_strconv_small u hs _).mono ?_; rintro e w' ⟨rfl, rfl⟩)
    go_ret
    exact ⟨rfl, grw_refl _⟩
  · have hu1 : 1 ≤ u := by omega
    have hnd20 : Lib.nDigits u ≤ 20 := by have := Lib.numDigits_eq u hu1 hu64; split at this <;> omega
    have hal : Tryz.prog.arrayLen 118 = 24 := by kernel_rfl
    have hsl1 : ∀ W, (Instr.sliceAt 118 (.pointer (some ⟨w.heap.size, 0, none⟩)) none (some (.int .i64 (Lib.nDigits u : Int))) none).run Tryz.prog W = .ok (.slice (some ⟨w.heap.size, 0, none⟩) (Lib.nDigits u) 24) W := fun W => by
      rw [run_sliceAt_array_h W 118 ⟨w.heap.size, 0, none⟩ (by kernel_rfl) .i64 (Lib.nDigits u : Int) (by omega) (by rw [hal]; omega)]
      go_simp
    have hH0 := holds_zero0 w 118 (Lib.nDigits u) (by omega)
    have hfmt := Tryz.internal_strconv_formatBase10 w.heap.size 0 24 u (Array.replicate (Lib.nDigits u) 0) (w.alloc (.cells Lib.zeros24 118)) hH0 (by rw [Array.size_replicate]; exact Lib.lt_pow_nDigits u) hu64 (by rw [Array.size_replicate]; omega)
    rw [Array.size_replicate] at hfmt
    have HH0 := Lib.hid hH0
    clear hH0 hal
    go_enter Tryz.func73, Tryz.ntmps73
    go_wp2_with (first
      | (go_at_call 91; refine (Tryz.internal_strconv_numDigits u hu1 hu64 _ (Lib.tabIs_alloc htab _)).mono ?_; rintro e w' ⟨rfl, rfl⟩))
    go_at_call 92
    refine hfmt.mono ?_
    rintro e w' ⟨rfl, k, v', dk, rfl, hF⟩
    have hcv : (convert 81 9 (.slice (some ⟨w.heap.size, 0, none⟩) (Lib.nDigits u) 24)).run Tryz.prog ((putRow (fun (b : UInt8) => Value.int .u8 (b.toNat : Int)) (w.alloc (.cells Lib.zeros24 118)) w.heap.size 0 dk).drewN k) = .ok (.string ⟨(Lib.decDigits u).toArray⟩) ((putRow (fun (b : UInt8) => Value.int .u8 (b.toNat : Int)) (w.alloc (.cells Lib.zeros24 118)) w.heap.size 0 dk).drewN k) := by
      have h := run_convert_bytes_back (P := Tryz.prog) ((putRow (fun (b : UInt8) => Value.int .u8 (b.toNat : Int)) (w.alloc (.cells Lib.zeros24 118)) w.heap.size 0 dk).drewN k) 81 9 5 ⟨w.heap.size, 0, none⟩ 24 (Lib.decDigits u) Tryz.underlying81 Tryz.underlying5 Tryz.underlying9 (fun j hj => by
        rw [Lib.row_is_numeral hF j hj, Lib.add_plain, World.cell?_drewN]
        exact cell?_putRow (fun (b : UInt8) => Value.int .u8 (b.toNat : Int)) _ w.heap.size 0 _ dk HH0.out (by rw [hF.size, Array.size_replicate]) j (by rw [hF.size]; rw [Lib.decDigits_length] at hj; exact hj))
      rw [Lib.decDigits_length] at h
      exact h
    go_wp2
    go_ret
    exact ⟨rfl, fin_pos0 w (.cells Lib.zeros24 118) dk k⟩

theorem formatUint_any (u : Nat) (hu64 : u < 18446744073709551616) (w : World) (htab : Tab w) :
    Calls Tryz.prog 50 #[.int .u64 u, .int .i64 10] w fun e w' => e = .returned (.string ⟨(Lib.decDigits u).toArray⟩) ∧ Grw w w' := by
  go_enter Tryz.func50, Tryz.ntmps50
  go_wp2_with (go_at_call 73; refine (formatUint_in u hu64 _ htab).mono ?_; rintro e w1 ⟨rfl, g1⟩)
  go_ret
  exact ⟨rfl, g1⟩
end Go.Proofs.YtmoldgmfhcmceaaGreatDoor.Nu
end
