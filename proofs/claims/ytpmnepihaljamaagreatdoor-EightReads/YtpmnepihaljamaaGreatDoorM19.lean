/-
  Texts put together (merge.py): NCut, NRM, EPl, EMemS.
-/
import Derived.Lib.IndexBytes
import Derived.Shelf.RegionOpenPlain
import Derived.Deep.RegionHeld3
import Derived.Test.YtpmnepihaljamaaGreatDoorM8
import Derived.Test.YtpmnepihaljamaaGreatDoorM17
import Derived.Test.YtpmnepihaljamaaGreatDoorM18
import Derived.Test.YtpmnepihaljamaaGreatDoorM16
/-
  What strings.Cut at a dot answers at this program, of every text; digits.ReadMoney and digits.ReadSigned, as contracts: of every text.
-/
section
namespace Go.Proofs.YtpmnepihaljamaaGreatDoor.Nu
open Go.RowKit Go.Sort Go.Lib

theorem whole_le (l : List UInt8) : (whole l).length ≤ l.length := by unfold whole; exact (List.takeWhile_sublist _).length_le
theorem whole_take (l : List UInt8) : whole l = l.take (whole l).length := by
  unfold whole
  induction l with
  | nil => rfl
  | cons a t ih =>
    by_cases h : (a != 46) = true
    · rw [List.takeWhile_cons, if_pos h, List.length_cons, List.take_succ_cons, ← ih]
    · rw [List.takeWhile_cons, if_neg h]; rfl
theorem index_dot (l : List UInt8) : indexByte l 46 = if hasDot l = true then ((whole l).length : Int) else -1 := by
  unfold hasDot
  induction l with
  | nil => rfl
  | cons a t ih =>
    unfold indexByte
    by_cases h : a = 46
    · subst h
      have e : whole (46 :: t) = [] := rfl
      rw [e]; rfl
    · have hb : (a == 46) = false := by simpa using h
      have e : whole (a :: t) = a :: whole t := by
        unfold whole
        rw [List.takeWhile_cons, if_pos (by simpa using h)]
      rw [if_neg (by rw [hb]; decide), e, ih]
      simp only [List.length_cons, Nat.add_lt_add_iff_right]
      by_cases hd : (whole t).length < t.length
      · have hn : (((whole t).length : Int) == -1) = false := by rw [beq_eq_false_iff_ne]; omega
        simp [hd, hn]
      · simp [hd]

set_option maxHeartbeats 2000000 in
theorem cutIn_any (s : ByteArray) (w : World) (hs : s.size ≤ maxLen) :
    Calls Tryz.prog 158 #[.string s, .string ⟨#[46]⟩] w fun e w' => e = .returned (.tuple #[.string ⟨(whole s.data.toList).toArray⟩, .string ⟨(behind s.data.toList).toArray⟩, .bool (hasDot s.data.toList)]) ∧ Grw w w' := by
  unfold maxLen at hs
  have el : s.data.toList.length = s.size := (Lib.size_eq s).symm
  have hix := index_dot s.data.toList
  have hle := whole_le s.data.toList
  cases hd : hasDot s.data.toList
  · have e0 : (whole s.data.toList).length = s.data.toList.length := by
      unfold hasDot at hd
      rw [decide_eq_false_iff_not] at hd
      omega
    have e1 : (⟨(whole s.data.toList).toArray⟩ : ByteArray) = s := by
      rw [whole_take, e0, List.take_length]
    have e2 : (⟨(behind s.data.toList).toArray⟩ : ByteArray) = ByteArray.empty := by
      unfold behind; rw [e0, List.drop_of_length_le (by omega)]; rfl
    rw [hd] at hix
    rw [e1, e2]
    have hix' : indexByte s.data.toList 46 = -1 := hix
    clear hix e0 e1 e2 hle el
    go_enter Tryz.func158, Tryz.ntmps158
    go_wp2_with (go_at_call 167; refine (Tryz.stringslite_Index_one s 46 _).mono ?_; rintro e w' ⟨rfl, rfl⟩; rw [hix'])
    go_ret3
    exact ⟨rfl, grw_refl _⟩
  · have hlt : (whole s.data.toList).length < s.data.toList.length := by
      unfold hasDot at hd
      exact of_decide_eq_true hd
    have e1 : (⟨(whole s.data.toList).toArray⟩ : ByteArray) = s.extract 0 (whole s.data.toList).length := by
      rw [Lib.extract_eq]; simp only [List.drop_zero, Nat.sub_zero]; rw [← whole_take]
    have e2 : (⟨(behind s.data.toList).toArray⟩ : ByteArray) = s.extract ((whole s.data.toList).length + 1) s.size := by
      rw [Lib.extract_eq, List.take_of_length_le (by rw [List.length_drop]; omega)]; rfl
    rw [hd] at hix
    have hix' : indexByte s.data.toList 46 = ((whole s.data.toList).length : Int) := hix
    rw [e1, e2]
    have hlt' : (whole s.data.toList).length < s.size := by omega
    clear hix e1 e2 hle el hlt
    generalize (whole s.data.toList).length = i at hix' hlt' ⊢
    have c1 : (0 : Int) ≤ ↑i := by omega
    have c2 : (↑i : Int) ≤ ↑s.size := by omega
    have c3 : (0 : Int) ≤ ↑i + 1 := by omega
    have c4 : (↑i + 1 : Int) ≤ ↑s.size := by omega
    go_enter Tryz.func158, Tryz.ntmps158
    go_wp2_with (go_at_call 167; refine (Tryz.stringslite_Index_one s 46 _).mono ?_; rintro e w' ⟨rfl, rfl⟩; rw [hix'])
    go_quiet (fail)
    go_wp2
    go_ret3
    exact ⟨rfl, grw_drewN _ _⟩

theorem cut_any (s : ByteArray) (w : World) (hs : s.size ≤ maxLen) :
    Calls Tryz.prog 142 #[.string s, .string ⟨#[46]⟩] w fun e w' => e = .returned (.tuple #[.string ⟨(whole s.data.toList).toArray⟩, .string ⟨(behind s.data.toList).toArray⟩, .bool (hasDot s.data.toList)]) ∧ Grw w w' := by
  go_enter Tryz.func142, Tryz.ntmps142
  go_wp2_with (go_at_call 158; refine (cutIn_any s _ hs).mono ?_; rintro e w1 ⟨rfl, g1⟩)
  go_ret3
  exact ⟨rfl, g1⟩
end Go.Proofs.YtpmnepihaljamaaGreatDoor.Nu
end

/-
  What digits.ReadMoney and digits.ReadSigned answer, as contracts: of every text.
-/
section
namespace Go.Proofs.YtpmnepihaljamaaGreatDoor.Nu
open Go.RowKit Go.Sort Go.Lib

theorem readInt_list (l : List UInt8) (most : Int) (w : World) (h : l.length ≤ maxLen) :
    Calls Tryz.prog 64 #[.string ⟨l.toArray⟩, .int .i64 most] w fun e w' => e = .returned (.tuple #[.int .i64 (riV l most), .int .i64 (riE l most)]) ∧ w' = w :=
  readInt_any ⟨l.toArray⟩ most w (by rw [Lib.size_eq]; exact h)
theorem readCents_list (l : List UInt8) (w : World) (h : l.length ≤ maxLen) :
    Calls Tryz.prog 143 #[.string ⟨l.toArray⟩] w fun e w' => e = .returned (.tuple #[.int .i64 (ctR l), .bool (ctOk l)]) ∧ w' = w :=
  readCents_any ⟨l.toArray⟩ w (by rw [Lib.size_eq]; exact h)
theorem behind_le (l : List UInt8) : (behind l).length ≤ l.length := by unfold behind; rw [List.length_drop]; omega
theorem mn_none (l : List UInt8) (h : mnOk l = false) : mnV l = 0 ∧ mnE l = 8 := by simp [mnV, mnE, h]
theorem mn_some (l : List UInt8) (h : mnOk l = true) : mnV l = (mnRaw l : Int) ∧ mnE l = 0 := by simp [mnV, mnE, h]
theorem ri12 (l : List UInt8) (h : riOk l 12 = true) : numL l < 1000000000000 := by
  have := ri_bd12 l
  rw [(ri_some l 12 h).1] at this
  omega

set_option maxHeartbeats 2000000 in
theorem readMoney_any (s : ByteArray) (w : World) (hs : s.size ≤ maxLen) :
    Calls Tryz.prog 127 #[.string s] w fun e w' => e = .returned (.tuple #[.int .i64 (mnV s.data.toList), .int .i64 (mnE s.data.toList)]) ∧ Grw w w' := by
  have el : s.data.toList.length = s.size := (Lib.size_eq s).symm
  have hw1 : (whole s.data.toList).length ≤ maxLen := by have := whole_le s.data.toList; omega
  have hw2 : (behind s.data.toList).length ≤ maxLen := by have := behind_le s.data.toList; omega
  have HW1 := Lib.hid hw1
  have HW2 := Lib.hid hw2
  have hw : Grw w w := grw_refl w
  clear el hw1 hw2
  cases hr : riOk (whole s.data.toList) 12
  · obtain ⟨v1, v2⟩ := ri_none _ _ hr
    obtain ⟨e1, e2⟩ := mn_none s.data.toList (by simp [mnOk, hr])
    have H1 := Lib.hid e1
    have H2 := Lib.hid e2
    clear e1 e2 hr
    go_enter Tryz.func127, Tryz.ntmps127
    go_wp2_with (first | (go_at_call 142; refine (cut_any s _ hs).mono ?_; rintro e w1 ⟨rfl, g1⟩; replace hw := grw_trans hw g1; clear g1) | (go_at_call 64; refine (readInt_list _ 12 _ HW1.out).mono ?_; rintro e w' ⟨rfl, rfl⟩))
    go_ret2
    exact ⟨by rw [H1.out, H2.out]; rfl, hw⟩
  · obtain ⟨v1, v2⟩ := ri_some _ _ hr
    have hN := ri12 _ hr
    cases hd : hasDot s.data.toList
    · by_cases hb : numL (whole s.data.toList) * 100 ≤ 10000000000000
      · obtain ⟨e1, e2⟩ := mn_some s.data.toList (by simp [mnOk, hr, hd, mnRaw, hb])
        have H1 : Hid (mnV s.data.toList = (numL (whole s.data.toList) : Int) * 100) := by
          show mnV s.data.toList = _
          rw [e1]; simp [mnRaw, hd]
        have H2 := Lib.hid e2
        clear e1 e2 hr
        go_enter Tryz.func127, Tryz.ntmps127
        go_wp2_with (first | (go_at_call 142; refine (cut_any s _ hs).mono ?_; rintro e w1 ⟨rfl, g1⟩; replace hw := grw_trans hw g1; clear g1) | (go_at_call 64; refine (readInt_list _ 12 _ HW1.out).mono ?_; rintro e w' ⟨rfl, rfl⟩))
        go_ret2
        exact ⟨by rw [H1.out, H2.out]; rfl, hw⟩
      · obtain ⟨e1, e2⟩ := mn_none s.data.toList (by simp [mnOk, hr, hd, mnRaw]; omega)
        have H1 := Lib.hid e1
        have H2 := Lib.hid e2
        clear e1 e2 hr
        go_enter Tryz.func127, Tryz.ntmps127
        go_wp2_with (first | (go_at_call 142; refine (cut_any s _ hs).mono ?_; rintro e w1 ⟨rfl, g1⟩; replace hw := grw_trans hw g1; clear g1) | (go_at_call 64; refine (readInt_list _ 12 _ HW1.out).mono ?_; rintro e w' ⟨rfl, rfl⟩))
        go_ret2
        exact ⟨by rw [H1.out, H2.out]; rfl, hw⟩
    · cases hc : ctOk (behind s.data.toList)
      · obtain ⟨e1, e2⟩ := mn_none s.data.toList (by simp [mnOk, hd, hc])
        have H1 := Lib.hid e1
        have H2 := Lib.hid e2
        clear e1 e2 hr
        go_enter Tryz.func127, Tryz.ntmps127
        go_wp2_with (first | (go_at_call 142; refine (cut_any s _ hs).mono ?_; rintro e w1 ⟨rfl, g1⟩; replace hw := grw_trans hw g1; clear g1) | (go_at_call 64; refine (readInt_list _ 12 _ HW1.out).mono ?_; rintro e w' ⟨rfl, rfl⟩) | (go_at_call 143; refine (readCents_list _ _ HW2.out).mono ?_; rintro e w' ⟨rfl, rfl⟩))
        go_ret2
        exact ⟨by rw [H1.out, H2.out]; rfl, hw⟩
      · have hcv := ct_some _ hc
        have hcb := ct_bd _ hc
        by_cases hb : numL (whole s.data.toList) * 100 + ctV (behind s.data.toList) ≤ 10000000000000
        · obtain ⟨e1, e2⟩ := mn_some s.data.toList (by simp [mnOk, hr, hd, hc, mnRaw, hb])
          have H1 : Hid (mnV s.data.toList = (numL (whole s.data.toList) : Int) * 100 + (ctV (behind s.data.toList) : Int)) := by
            show mnV s.data.toList = _
            rw [e1]; simp [mnRaw, hd]
          have H2 := Lib.hid e2
          clear e1 e2 hr
          go_enter Tryz.func127, Tryz.ntmps127
          go_wp2_with (first | (go_at_call 142; refine (cut_any s _ hs).mono ?_; rintro e w1 ⟨rfl, g1⟩; replace hw := grw_trans hw g1; clear g1) | (go_at_call 64; refine (readInt_list _ 12 _ HW1.out).mono ?_; rintro e w' ⟨rfl, rfl⟩) | (go_at_call 143; refine (readCents_list _ _ HW2.out).mono ?_; rintro e w' ⟨rfl, rfl⟩))
          go_ret2
          exact ⟨by rw [H1.out, H2.out]; rfl, hw⟩
        · obtain ⟨e1, e2⟩ := mn_none s.data.toList (by simp [mnOk, hr, hd, hc, mnRaw]; omega)
          have H1 := Lib.hid e1
          have H2 := Lib.hid e2
          clear e1 e2 hr
          go_enter Tryz.func127, Tryz.ntmps127
          go_wp2_with (first | (go_at_call 142; refine (cut_any s _ hs).mono ?_; rintro e w1 ⟨rfl, g1⟩; replace hw := grw_trans hw g1; clear g1) | (go_at_call 64; refine (readInt_list _ 12 _ HW1.out).mono ?_; rintro e w' ⟨rfl, rfl⟩) | (go_at_call 143; refine (readCents_list _ _ HW2.out).mono ?_; rintro e w' ⟨rfl, rfl⟩))
          go_ret2
          exact ⟨by rw [H1.out, H2.out]; rfl, hw⟩
end Go.Proofs.YtpmnepihaljamaaGreatDoor.Nu
end

/-
  What eight.placed and readDay answer, as contracts.
-/
section
set_option linter.unusedSimpArgs false
set_option maxRecDepth 100000
namespace Go.Proofs.YtpmnepihaljamaaGreatDoor
open Go.RowKit
open Et

theorem mk_lit (x y : Tx) : ((mk x).toList == y) = decide (x = y) := by
  rw [Lib.toList_data, mk_list]
  rw [Bool.eq_iff_iff]
  simp
theorem txv1 {l : List Sg} {t : Tx} (h : txB l t 1 = true) : txV l t 1 = [tx l 1] := by
  rw [tx_yes h]
  obtain ⟨p, a, r, rfl, -⟩ := tx1_form h
  rfl
theorem txv2 {l : List Sg} {t : Tx} (h : txB l t 2 = true) : txV l t 2 = [tx l 1, tx l 2] := by
  rw [tx_yes h]
  obtain ⟨p, a, b, r, rfl, -⟩ := tx2_form h
  rfl
theorem txv5 {l : List Sg} {t : Tx} (h : txB l t 5 = true) : txV l t 5 = [tx l 1, tx l 2, tx l 3, tx l 4, tx l 5] := by
  rw [tx_yes h]
  obtain ⟨p, a, b, c, d, e, r, rfl, -⟩ := tx5_form h
  rfl
/-- A row of texts, laid open. -/
theorem tx_opn {w : World} {v : Value} {xs : List Tx} (h : TxAt All w v xs) (hne : 0 < xs.length) : ∃ b o c, v = .slice (some ⟨b, o, none⟩) xs.length c ∧ xs.length ≤ c ∧ c ≤ 9223372036854775807 ∧ ∀ j t, xs[j]? = some t → w.cell? ⟨b, o + j, none⟩ = some (.string (mk t)) := by
  obtain ⟨a, c, rfl, h1, h2, h3⟩ := h
  unfold maxLen at h2
  rcases h3 with h3 | ⟨b, o, rfl, _, _, hc⟩
  · subst h3; simp at hne
  · refine ⟨b, o, c, rfl, h1, h2, fun j t hj => ?_⟩
    obtain ⟨u, hu, rfl⟩ := hc j t hj
    exact hu

set_option maxHeartbeats 4000000 in
theorem eplaced_any (v : Value) (l : List Sg) (t : Tx) (k : Nat) (w : World) (h : SgAt All w v l) (hn : Nm l) (hT : Tab w) (hk : k ≤ 1000000) :
    Calls Tryz.prog 101 #[v, .string (mk t), .int .i64 (k : Int)] w fun e w' => e = .returned (.bool (plB l t k)) ∧ Below w.heap.size w w' := by
  have HC := Lib.hid (etexts_any v l t 1 w h hn (by omega) (by omega))
  have HW : Hid (∀ W, Below w.heap.size w W → Calls Tryz.prog 22 #[.int .i64 (k : Int)] W fun e w' => e = .returned (.string (mk (Lib.itoa (k : Int)))) ∧ Below W.heap.size W w') := fun W hW => whole_any _ W (tab_grw hT hW) (by omega) (by omega)
  obtain ⟨a, c, rfl, -, -, -⟩ := h
  clear hn hT
  cases hb : txB l t 1 with
  | false =>
    have HX : Hid (plB l t k = false) := by show _ = _; unfold plB; rw [hb]; rfl
    rw [hb] at HC
    clear hb
    go_enter Tryz.func101, Tryz.ntmps101
    go_wp2_with (first | (go_at_call 63; refine HC.out.mono ?_; rintro x w1 ⟨⟨u, rfl, he⟩, hb1⟩; have HB1 := Lib.hid hb1; clear hb1 he))
    go_quiet (fail)
    go_wp2
    go_ret
    exact ⟨by rw [HX.out]; rfl, HB1.out.trans ((below_drewq ⟨_, rfl⟩).mono HB1.out.size)⟩
  | true =>
    have HX : Hid (plB l t k = decide (tx l 1 = Lib.itoa (k : Int))) := by show _ = _; unfold plB; rw [hb]; rfl
    rw [hb, txv1 hb] at HC
    clear hb
    have heq := Cm.mk_ne (tx l 1) (Lib.itoa (k : Int))
    generalize hD : decide (tx l 1 = Lib.itoa (k : Int)) = D at *
    clear hD
    generalize Lib.itoa (k : Int) = q at *
    generalize tx l 1 = y at *
    go_enter Tryz.func101, Tryz.ntmps101
    go_wp2_with (first | (go_at_call 63; refine HC.out.mono ?_; rintro x w1 ⟨⟨u, rfl, he⟩, hb1⟩; have HB1 := Lib.hid hb1; obtain ⟨b, o, cc, rfl, g1, g2, hcc⟩ := tx_opn he (by simp); have hc0 := hcc 0 y rfl; rw [Nat.add_zero] at hc0; clear hb1 he hcc))
    have HBd := Lib.hid (Below.drew (Below.refl w1.heap.size w1))
    have HCe : Hid (∀ W, Below w1.heap.size w1 W → W.cell? ⟨b, o, none⟩ = some (.string (mk y))) := fun W hW => by
      rw [hW.cell (p := ⟨b, o, none⟩) (World.block_lt_of_cell? w1 _ hc0)]; exact hc0
    go_region_held3 (fun w' => w'.cell? ⟨b, o, none⟩ = some (.string (mk y))) (go_keep) (first | (go_at_call 22; refine (HW.out _ (by with_reducible exact below_trans HB1.out HBd.out)).mono ?_; rintro e w2 ⟨rfl, hb⟩; have HB2 := Lib.hid (below_trans HBd.out hb); have r1 := HCe.out _ HB2.out; clear hb))
    go_wp2
    go_ret
    exact ⟨by rw [HX.out]; rfl, below_trans HB1.out HB2.out⟩

theorem day_no {l : List Sg} (h : dyOk l = false) : dyE l = 4 ∧ dyV l = 0 := by
  have : dyE l = 4 := by unfold dyE; rw [h]; rfl
  exact ⟨this, by unfold dyV; rw [this]; rfl⟩
theorem day_yes {l : List Sg} (h : dyOk l = true) : dyE l = (if Nu.riE (tx l 2) 8 = 0 then 0 else 7) ∧ dyV l = (if Nu.riE (tx l 2) 8 = 0 then Nu.riV (tx l 2) 8 else 0) := by
  have : dyE l = (if Nu.riE (tx l 2) 8 = 0 then 0 else 7) := by unfold dyE; rw [h]; rfl
  refine ⟨this, ?_⟩
  unfold dyV
  rw [this]
  by_cases e : Nu.riE (tx l 2) 8 = 0
  · rw [if_pos e, if_pos rfl, if_pos e]
  · rw [if_neg e, if_neg (by decide), if_neg e]
theorem ri_e (t : Tx) (m : Int) : Nu.riE t m = 0 ∨ Nu.riE t m = 4 := by unfold Nu.riE; split <;> simp
theorem mn_e (t : Tx) : Nu.mnE t = 0 ∨ Nu.mnE t = 8 := by unfold Nu.mnE; split <;> simp
/-- Texts that are not too long. -/
def Sh (l : List Sg) : Prop := ∀ g ∈ l, ∀ ps ∈ g, ∀ x ∈ ps, x.length ≤ 65536
theorem Sh.tail {l : List Sg} (h : Sh l) : Sh l.tail := fun g hg => h g (List.mem_of_mem_tail hg)
theorem Sh.tx {l : List Sg} (h : Sh l) (i : Nat) : (tx l i).length ≤ 65536 := by
  unfold Et.tx el
  cases l with
  | nil => simp
  | cons g r =>
    show ((g.getD i []).headD []).length ≤ _
    rw [List.getD_eq_getElem?_getD]
    cases hg : g[i]? with
    | none => simp
    | some ps =>
      cases ps with
      | nil => simp
      | cons x q => exact h g (by simp) _ (List.mem_of_getElem? hg) x (by simp)

set_option maxHeartbeats 4000000 in
theorem eday_any (v : Value) (l : List Sg) (w : World) (h : SgAt All w v l) (hn : Nm l) (hs : Sh l) :
    Calls Tryz.prog 145 #[v] w fun e w' => e = .returned (.tuple #[.int .i64 (dyV l), .int .i64 (dyE l)]) ∧ Below w.heap.size w w' := by
  have HC : Hid (Calls Tryz.prog 63 #[v, .string ⟨#[68, 84, 80]⟩, .int .i64 2] w _) := etexts_any v l tDTP 2 w h hn (by omega) (by omega)
  have HR := Lib.hid fun W => Nu.readInt_list (tx l 2) 8 W (by have := hs.tx 2; unfold maxLen; omega)
  obtain ⟨a, c, rfl, -, -, -⟩ := h
  clear hn hs
  have hok : dyOk l = (txB l tDTP 2 && decide (tx l 1 = t472)) := rfl
  cases hb : txB l tDTP 2 with
  | false =>
    have HX := Lib.hid (day_no (by rw [hok, hb]; rfl))
    rw [hb] at HC
    clear hb hok
    go_enter Tryz.func145, Tryz.ntmps145
    go_wp2_with (first | (go_at_call 63; refine HC.out.mono ?_; rintro x w1 ⟨⟨u, rfl, he⟩, hb1⟩; have HB1 := Lib.hid hb1; clear hb1 he))
    go_ret2
    exact ⟨by rw [HX.out.1, HX.out.2]; rfl, HB1.out⟩
  | true =>
    rw [hb, txv2 hb] at HC
    have heq := Cm.mk_ne (tx l 1) t472
    have hmk : mk t472 = ⟨#[52, 55, 50]⟩ := rfl
    rw [hmk] at heq
    have heq2 : ((mk (tx l 1)).toList == [52, 55, 50]) = decide (tx l 1 = t472) := mk_lit _ t472
    by_cases h4 : tx l 1 = t472
    · rw [decide_eq_true h4] at heq heq2
      have HX := Lib.hid (day_yes (l := l) (by rw [hok, hb, decide_eq_true h4]; rfl))
      clear hb hok h4 hmk
      generalize tx l 1 = y1 at *
      generalize tx l 2 = y2 at *
      rcases ri_e y2 8 with e0 | e0
      · rw [e0] at HX HR
        generalize Nu.riV y2 8 = R at *
        clear e0
        go_enter Tryz.func145, Tryz.ntmps145
        go_wp2_with (first | (go_at_call 63; refine HC.out.mono ?_; rintro x w1 ⟨⟨u, rfl, he⟩, hb1⟩; have HB1 := Lib.hid hb1; obtain ⟨b, o, cc, rfl, g1, g2, hcc⟩ := tx_opn he (by simp); have hc0 := hcc 0 y1 rfl; have hc1 := hcc 1 y2 rfl; rw [Nat.add_zero] at hc0; clear hb1 he hcc) | (go_at_call 64; refine (HR.out _).mono ?_; rintro x w2 ⟨rfl, hw2⟩; subst hw2))
        go_ret2
        exact ⟨by rw [HX.out.1, HX.out.2]; rfl, HB1.out⟩
      · rw [e0] at HX HR
        generalize Nu.riV y2 8 = R at *
        clear e0
        go_enter Tryz.func145, Tryz.ntmps145
        go_wp2_with (first | (go_at_call 63; refine HC.out.mono ?_; rintro x w1 ⟨⟨u, rfl, he⟩, hb1⟩; have HB1 := Lib.hid hb1; obtain ⟨b, o, cc, rfl, g1, g2, hcc⟩ := tx_opn he (by simp); have hc0 := hcc 0 y1 rfl; have hc1 := hcc 1 y2 rfl; rw [Nat.add_zero] at hc0; clear hb1 he hcc) | (go_at_call 64; refine (HR.out _).mono ?_; rintro x w2 ⟨rfl, hw2⟩; subst hw2))
        go_ret2
        exact ⟨by rw [HX.out.1, HX.out.2]; rfl, HB1.out⟩
    · rw [decide_eq_false h4] at heq heq2
      have HX := Lib.hid (day_no (l := l) (by rw [hok, hb, decide_eq_false h4]; rfl))
      clear hb hok h4 hmk
      generalize tx l 1 = y1 at *
      generalize tx l 2 = y2 at *
      go_enter Tryz.func145, Tryz.ntmps145
      go_wp2_with (first | (go_at_call 63; refine HC.out.mono ?_; rintro x w1 ⟨⟨u, rfl, he⟩, hb1⟩; have HB1 := Lib.hid hb1; obtain ⟨b, o, cc, rfl, g1, g2, hcc⟩ := tx_opn he (by simp); have hc0 := hcc 0 y1 rfl; rw [Nat.add_zero] at hc0; clear hb1 he hcc))
      go_ret2
      exact ⟨by rw [HX.out.1, HX.out.2]; rfl, HB1.out⟩
end Go.Proofs.YtpmnepihaljamaaGreatDoor
end

/-
  What lies in a block, while others are written: small facts.
-/
section
set_option linter.unusedSimpArgs false
namespace Go.Proofs.YtpmnepihaljamaaGreatDoor
open Go.RowKit

theorem keepB {w w' : World} {q : Nat} {o : Obj} (h : w.heap[q]? = some o) (hb : Below w.heap.size w w') : w'.heap[q]? = some o := by
  rw [hb.block q (Array.getElem?_eq_some_iff.1 h).1]; exact h
theorem box_cell {w : World} {q : Nat} {v : Value} {T : TypeId} (h : w.heap[q]? = some (.cells #[v] T (0, 0))) : w.cell? ⟨q, 0, none⟩ = some v ∧ w.frozen? ⟨q, 0, none⟩ = false :=
  ⟨by rw [cell_of_row w q 0 _ T (0, 0) h]; rfl, Lib.frozen_of_heap h 0⟩
theorem cell_far {w : World} {b o q j : Nat} {v u : Value} (h : w.cell? ⟨b, o, none⟩ = some v) (hne : b ≠ q) : (w.setCell ⟨q, j, none⟩ u).cell? ⟨b, o, none⟩ = some v := by
  rw [World.cell?_of_block (w := w) (Below.heap_setCell _ _ _ _ hne)]; exact h
theorem new_at (w : World) (o : Obj) (q : Nat) (hq : w.heap.size = q) : (w.alloc o).heap[q]? = some o := by subst hq; exact heap_alloc_new w o
theorem heap_far {w : World} {b q j : Nat} {o : Obj} {u : Value} (h : w.heap[b]? = some o) (hne : b ≠ q) : (w.setCell ⟨q, j, none⟩ u).heap[b]? = some o := by
  rw [Below.heap_setCell _ _ _ _ hne]; exact h
theorem other_block {w : World} {a b : Nat} {cs ds : Array Value} {T U : TypeId} (h : w.heap[a]? = some (.cells cs T (0, 0))) (h' : w.heap[b]? = some (.cells ds U (0, 0))) (hT : T ≠ U) : a ≠ b := by
  rintro rfl
  rw [h] at h'
  simp only [Option.some.injEq, Obj.cells.injEq] at h'
  exact hT h'.2.1
theorem line_cells {w : World} {b : Nat} {c0 c1 c2 c3 c4 c5 : Value} {T : TypeId} (h : w.heap[b]? = some (.cells #[c0, c1, c2, c3, c4, c5] T (0, 0))) : w.cell? ⟨b, 0, none⟩ = some c0 ∧ w.cell? ⟨b, 1, none⟩ = some c1 ∧ w.cell? ⟨b, 2, none⟩ = some c2 ∧ w.cell? ⟨b, 3, none⟩ = some c3 ∧ w.cell? ⟨b, 4, none⟩ = some c4 ∧ w.cell? ⟨b, 5, none⟩ = some c5 := by
  refine ⟨?_, ?_, ?_, ?_, ?_, ?_⟩ <;> rw [cell_of_row w b _ _ T (0, 0) h] <;> rfl
theorem infoT : ∃ i, Tryz.prog.info? 9 = some i ∧ i.zero = some (.string ByteArray.empty) ∧ i.size = 1 ∧ i.bytes = 16 := by
  cases hq : Tryz.prog.info? 9 with
  | none => have := hi9; rw [hq] at this; cases this
  | some i =>
    have := hi9
    rw [hq] at this
    simp only [Option.map_some, Option.some.injEq, Prod.mk.injEq] at this
    exact ⟨i, rfl, this⟩
theorem app_zero {w : World} {B : Nat} (ty c : Nat) (a : Option Addr) (v : Value) (n : Nat) (xs : List Value) (hown : w.ownsRow B 9 1 v n xs) : (Builtin.append_ #[45, 45] ty #[v, .slice a 0 c]).run Tryz.prog w = .ok v w := by
  obtain ⟨i9, q1, _, _, _⟩ := infoT
  rcases hown.2 with ⟨rfl, rfl⟩ | ⟨g, cap, cur, rfl, _, _, hnc, _⟩
  · cases a <;> simp [Builtin.append_, run_underlying Tryz.underlying45, sizeOf, typeInfo, q1, Builtin.lenOf, Builtin.firstCells, loadCells, loadCellsFrom]
  · cases a <;> simp [Builtin.append_, run_underlying Tryz.underlying45, sizeOf, typeInfo, q1, Builtin.lenOf, Builtin.firstCells, hnc, storeCells, loadCells, loadCellsFrom]

end Go.Proofs.YtpmnepihaljamaaGreatDoor
end
