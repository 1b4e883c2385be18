/-
  Texts put together (merge.py): NRead, NLib, QLib, QSign, QGood.
-/
import Derived.Lib.Strings
import Derived.WalkLawsBesides
import Derived.Lib.Hide
import Derived.Lib.ItoaMem
import Derived.Below
import Derived.Deep.QuietTactic
import Derived.BigQuiet
import Derived.RegionTactic
import Derived.ChangeAlike
import Derived.Test.YtpmnepihaljamaaGreatDoorM10
import Derived.Test.YtpmnepihaljamaaGreatDoorShelf
import Derived.Test.YtpmnepihaljamaaGreatDoorM3
/-
  What digits.ReadInt and digits.readCents answer, as contracts: for every text and every int.
-/
section
namespace Go.Proofs.YtpmnepihaljamaaGreatDoor.Nu
open Go.RowKit

theorem ri_none (l : List UInt8) (m : Int) (h : riOk l m = false) : riV l m = 0 ∧ riE l m = 4 := by simp [riV, riE, h]
theorem ri_some (l : List UInt8) (m : Int) (h : riOk l m = true) : riV l m = numL l ∧ riE l m = 0 := by simp [riV, riE, h]
theorem ri_long (l : List UInt8) (m : Int) (h : ¬ ((l.length : Int) ≤ m ∧ l.length ≤ 18)) : riOk l m = false := by
  cases e : riOk l m
  · rfl
  · unfold riOk at e
    simp only [Bool.and_eq_true, decide_eq_true_eq] at e
    omega
theorem ri_short (l : List UInt8) (m : Int) (h : (l.length : Int) ≤ m ∧ l.length ≤ 18) : riOk l m = canon l := by
  unfold riOk
  rw [decide_eq_true h.1, decide_eq_true h.2]
  simp
theorem ri_notD (l : List UInt8) (m : Int) (h : allD l = false) : riOk l m = false := by simp [riOk, canon, h]
theorem ri_nil (m : Int) : riOk [] m = false := by simp [riOk, canon]
theorem head_zero (s : ByteArray) (h : 0 < s.size) : s.data.toList.head? = some s[0] := by
  rw [List.head?_eq_getElem?, List.getElem?_eq_getElem (by simpa using h)]; rfl
theorem canon_zero (l : List UInt8) (h : l.head? = some 48) (h2 : (l == [48]) = false) : canon l = false := by
  unfold canon
  rw [h, h2]
  simp
theorem canon_of (l : List UInt8) (hne : l ≠ []) (hd : allD l = true) (h : l.head? ≠ some 48 ∨ l = [48]) : canon l = true := by
  unfold canon
  have e : l.isEmpty = false := by cases l with
    | nil => exact absurd rfl hne
    | cons a t => rfl
  rw [e, hd]
  rcases h with h | h
  · simp [h]
  · subst h; rfl

set_option maxHeartbeats 1000000 in
theorem readInt_any (s : ByteArray) (most : Int) (w : World) (hs : s.size ≤ maxLen) :
    Calls Tryz.prog 64 #[.string s, .int .i64 most] w fun e w' => e = .returned (.tuple #[.int .i64 (riV s.data.toList most), .int .i64 (riE s.data.toList most)]) ∧ w' = w := by
  have el : s.data.toList.length = s.size := (Lib.size_eq s).symm
  have et := Lib.toList_data s
  have HL := Lib.hid el
  have HT := Lib.hid et
  clear el et
  by_cases h0 : s.toList = []
  · have hn : riOk s.data.toList most = false := by rw [← HT.out, h0]; exact ri_nil _
    obtain ⟨e1, e2⟩ := ri_none _ _ hn
    have H1 := Lib.hid e1
    have H2 := Lib.hid e2
    clear e1 e2 hn
    go_enter Tryz.func64, Tryz.ntmps64
    go_wp2
    go_ret2
    exact ⟨by rw [H1.out, H2.out]; rfl, rfl⟩
  · have hsz : 0 < s.size := by
      rcases Nat.eq_zero_or_pos s.size with e | e
      · exfalso; apply h0; rw [HT.out]; exact List.length_eq_zero_iff.1 (by rw [HL.out]; exact e)
      · exact e
    have hne : s.data.toList ≠ [] := by rw [← HT.out]; exact h0
    have HN := Lib.hid hne
    clear hne
    by_cases hlen : (s.size : Int) ≤ most ∧ s.size ≤ 18
    · have hR := ri_short s.data.toList most (by rw [HL.out]; exact hlen)
      have HR := Lib.hid hR
      clear hR
      obtain ⟨hl1, hl2⟩ := hlen
      have hie : s.toList.isEmpty = false := by cases e : s.toList with
        | nil => exact absurd e h0
        | cons a t => rfl
      have d1 : decide (18 < (s.size : Int)) = false := by rw [decide_eq_false_iff_not]; omega
      have d2 : decide (most < (s.size : Int)) = false := by rw [decide_eq_false_iff_not]; omega
      cases ha : allD s.data.toList
      · have hn := ri_notD _ most ha
        obtain ⟨e1, e2⟩ := ri_none _ _ hn
        have H1 := Lib.hid e1
        have H2 := Lib.hid e2
        clear e1 e2 hn
        go_enter Tryz.func64, Tryz.ntmps64
        go_wp2_with (go_at_call 99; refine (allD_any _ _ hs).mono ?_; rintro e w' ⟨rfl, rfl⟩)
        all_goals
          go_ret2
          exact ⟨by rw [H1.out, H2.out]; rfl, rfl⟩
      · have HA := Lib.hid ha
        cases hz : ((s[0].toNat : Int) == 48)
        · have hc : canon s.data.toList = true := canon_of _ HN.out ha (Or.inl (by rw [head_zero s hsz]; intro e; have e2 : s[0] = 48 := by simpa using e
                                                                                   rw [e2] at hz; simp at hz))
          obtain ⟨e1, e2⟩ := ri_some _ most (by rw [HR.out]; exact hc)
          have H1 := Lib.hid e1
          have H2 := Lib.hid e2
          clear e1 e2 hc
          go_enter Tryz.func64, Tryz.ntmps64
          go_wp2_with (first | (go_at_call 99; refine (allD_any _ _ hs).mono ?_; rintro e w' ⟨rfl, rfl⟩) | (go_at_call 100; refine (number_any _ _ hl2 HA.out).mono ?_; rintro e w' ⟨rfl, rfl⟩))
          all_goals
            go_ret2
            exact ⟨by rw [H1.out, H2.out]; rfl, rfl⟩
        · have h48 : s[0] = 48 := by
            have := beq_iff_eq.1 hz
            exact UInt8.toNat_inj.1 (by simp; omega)
          cases hq : (s.toList == [48])
          rotate_left
          · have hc : canon s.data.toList = true := canon_of _ HN.out ha (Or.inr (by rw [← HT.out]; simpa using hq))
            obtain ⟨e1, e2⟩ := ri_some _ most (by rw [HR.out]; exact hc)
            have H1 := Lib.hid e1
            have H2 := Lib.hid e2
            clear e1 e2 hc h48
            go_enter Tryz.func64, Tryz.ntmps64
            go_wp2_with (first | (go_at_call 99; refine (allD_any _ _ hs).mono ?_; rintro e w' ⟨rfl, rfl⟩) | (go_at_call 100; refine (number_any _ _ hl2 HA.out).mono ?_; rintro e w' ⟨rfl, rfl⟩))
            all_goals
              go_ret2
              exact ⟨by rw [H1.out, H2.out]; rfl, rfl⟩
          · have hc : canon s.data.toList = false := canon_zero _ (by rw [head_zero s hsz, h48]) (by rw [← HT.out]; exact hq)
            obtain ⟨e1, e2⟩ := ri_none _ most (by rw [HR.out]; exact hc)
            have H1 := Lib.hid e1
            have H2 := Lib.hid e2
            clear e1 e2 hc h48
            go_enter Tryz.func64, Tryz.ntmps64
            go_wp2_with (first | (go_at_call 99; refine (allD_any _ _ hs).mono ?_; rintro e w' ⟨rfl, rfl⟩) | (go_at_call 100; refine (number_any _ _ hl2 HA.out).mono ?_; rintro e w' ⟨rfl, rfl⟩))
            all_goals
              go_ret2
              exact ⟨by rw [H1.out, H2.out]; rfl, rfl⟩
    · have hn := ri_long s.data.toList most (by rw [HL.out]; exact hlen)
      obtain ⟨e1, e2⟩ := ri_none _ _ hn
      have H1 := Lib.hid e1
      have H2 := Lib.hid e2
      clear e1 e2 hn
      by_cases hm : 18 < most
      · have hl : ¬ (s.size : Int) ≤ 18 := by omega
        clear hlen
        go_enter Tryz.func64, Tryz.ntmps64
        go_wp2
        go_ret2
        exact ⟨by rw [H1.out, H2.out]; rfl, rfl⟩
      · have hl : ¬ (s.size : Int) ≤ most := by omega
        clear hlen
        go_enter Tryz.func64, Tryz.ntmps64
        go_wp2
        go_ret2
        exact ⟨by rw [H1.out, H2.out]; rfl, rfl⟩

theorem app_data (a b : ByteArray) : (a ++ b).data.toList = a.data.toList ++ b.data.toList := by simp
theorem app_size (a b : ByteArray) : (a ++ b).size = a.size + b.size := ByteArray.size_append
def ctR (l : List UInt8) : Int := if ctOk l = true then (ctV l : Int) else 0
theorem ct_none (l : List UInt8) (h : ctOk l = false) : ctR l = 0 := by simp [ctR, h]
theorem ct_some (l : List UInt8) (h : ctOk l = true) : ctR l = ctV l := by simp [ctR, h]

set_option maxHeartbeats 1000000 in
theorem readCents_any (s : ByteArray) (w : World) (hs : s.size ≤ maxLen) :
    Calls Tryz.prog 143 #[.string s] w fun e w' => e = .returned (.tuple #[.int .i64 (ctR s.data.toList), .bool (ctOk s.data.toList)]) ∧ w' = w := by
  have el : s.data.toList.length = s.size := (Lib.size_eq s).symm
  by_cases h1 : s.size = 1
  · have ok : ctOk s.data.toList = allD s.data.toList := by simp only [ctOk, el, h1]; simp
    have vv : allD s.data.toList = true → ctR s.data.toList = numL (s ++ (⟨#[48]⟩ : ByteArray)).data.toList := fun h => by
      rw [ct_some _ (by rw [ok]; exact h), app_data, show (⟨#[48]⟩ : ByteArray).data.toList = [48] from rfl, numL_snoc]
      unfold ctV
      rw [if_pos (by rw [el, h1])]
      simp
    have hsz : (s ++ (⟨#[48]⟩ : ByteArray)).size = 2 := by rw [app_size, h1]; rfl
    have had : allD (s ++ (⟨#[48]⟩ : ByteArray)).data.toList = allD s.data.toList := by
      rw [app_data, allD_app]; simp [allD, isD]
    have HO := Lib.hid ok
    have HE := Lib.hid had
    have HZ := Lib.hid hsz
    clear ok had hsz el
    cases ha : allD s.data.toList
    · have hb : allD (s ++ (⟨#[48]⟩ : ByteArray)).data.toList = false := by rw [HE.out]; exact ha
      have H1 := Lib.hid (ct_none s.data.toList (by rw [HO.out]; exact ha))
      clear vv
      go_enter Tryz.func143, Tryz.ntmps143
      go_wp2_with (first | (go_at_call 99; refine (allD_any _ _ (by rw [HZ.out]; unfold maxLen; omega)).mono ?_; rintro e w' ⟨rfl, rfl⟩; rw [hb]))
      go_ret2
      exact ⟨by rw [H1.out, HO.out, ha]; rfl, rfl⟩
    · have hb : allD (s ++ (⟨#[48]⟩ : ByteArray)).data.toList = true := by rw [HE.out]; exact ha
      have H1 := Lib.hid (vv ha)
      clear vv
      go_enter Tryz.func143, Tryz.ntmps143
      go_wp2_with (first | (go_at_call 99; refine (allD_any _ _ (by rw [HZ.out]; unfold maxLen; omega)).mono ?_; rintro e w' ⟨rfl, rfl⟩; rw [hb]) | (go_at_call 100; refine (number_any _ _ (by rw [HZ.out]; omega) hb).mono ?_; rintro e w' ⟨rfl, rfl⟩))
      go_ret2
      exact ⟨by rw [H1.out, HO.out, ha]; rfl, rfl⟩
  · by_cases h2 : s.size = 2
    · have ok : ctOk s.data.toList = allD s.data.toList := by simp only [ctOk, el, h2]; simp
      have vv : allD s.data.toList = true → ctR s.data.toList = numL s.data.toList := fun h => by
        rw [ct_some _ (by rw [ok]; exact h)]
        unfold ctV
        rw [if_neg (by rw [el, h2]; omega)]
      have HO := Lib.hid ok
      clear ok el
      cases ha : allD s.data.toList
      · have H1 := Lib.hid (ct_none s.data.toList (by rw [HO.out]; exact ha))
        clear vv
        go_enter Tryz.func143, Tryz.ntmps143
        go_wp2_with (first | (go_at_call 99; refine (allD_any _ _ hs).mono ?_; rintro e w' ⟨rfl, rfl⟩))
        go_ret2
        exact ⟨by rw [H1.out, HO.out, ha]; rfl, rfl⟩
      · have H1 := Lib.hid (vv ha)
        have HA := Lib.hid ha
        clear vv
        go_enter Tryz.func143, Tryz.ntmps143
        go_wp2_with (first | (go_at_call 99; refine (allD_any _ _ hs).mono ?_; rintro e w' ⟨rfl, rfl⟩) | (go_at_call 100; refine (number_any _ _ (by omega) HA.out).mono ?_; rintro e w' ⟨rfl, rfl⟩))
        go_ret2
        exact ⟨by rw [H1.out, HO.out, HA.out]; rfl, rfl⟩
    · have ok : ctOk s.data.toList = false := by
        have a1 : (s.data.toList.length == 1) = false := by rw [el]; simpa using h1
        have a2 : (s.data.toList.length == 2) = false := by rw [el]; simpa using h2
        unfold ctOk; rw [a1, a2]; rfl
      have H1 := Lib.hid (ct_none s.data.toList ok)
      have HO := Lib.hid ok
      have b1 : ((s.size : Int) == 1) = false := by rw [beq_eq_false_iff_ne]; omega
      have b2 : ((s.size : Int) == 2) = false := by rw [beq_eq_false_iff_ne]; omega
      clear ok el
      go_enter Tryz.func143, Tryz.ntmps143
      go_wp2
      go_ret2
      exact ⟨by rw [H1.out, HO.out]; rfl, rfl⟩
end Go.Proofs.YtpmnepihaljamaaGreatDoor.Nu
end

/-
  What strconv.FormatInt and FormatUint (at base 10), strings.Cut (at a dot) and strings.CutPrefix (at a -) answer at this program, as contracts; the world behind: as it was, or grown.
-/
section
namespace Go.Proofs.YtpmnepihaljamaaGreatDoor.Nu
open Go.RowKit Go.Sort Go.Lib

def Tab (w : World) : Prop := Lib.TabIs Tryz.prog w "internal/strconv.uint64pow10" .u64 Lib.pow10Tab
def Grw (w w' : World) : Prop := Below w.heap.size w w'
theorem grw_refl (w : World) : Grw w w := Below.refl _ _
theorem grw_trans {a b c : World} (h : Grw a b) (k : Grw b c) : Grw a c := Below.trans h (Below.mono k h.size)
theorem grw_drewN (w : World) (k : Nat) : Grw w (w.drewN k) := ⟨rfl, rfl, rfl, Nat.le_refl _, fun _ _ => rfl⟩
theorem grw_grow (w : World) (k : Nat) (os : Array Obj) : Grw w (grow (w.drewN k) os) :=
  ⟨rfl, rfl, rfl, by simp [grow, World.drewN], fun _ hi => heap_grow_old (w.drewN k) os hi⟩
theorem tab_grw {w w' : World} (h : Tab w) (b : Grw w w') : Tab w' := by
  unfold Tab Lib.TabIs World.var? at *
  cases hg : Tryz.prog.globalNamed "internal/strconv.uint64pow10" with
  | none => simp [hg] at h
  | some g =>
    simp only [hg, Option.bind_some] at h ⊢
    have hlt : g < w.heap.size := by
      rcases Nat.lt_or_ge g w.heap.size with h' | h'
      · exact h'
      · rw [Array.getElem?_eq_none h'] at h; simp at h
    rw [b.block g hlt]
    exact h

theorem tab_below {B : Nat} {w w' : World} (h : Tab w) (b : Below B w w') (hB : 0 < B) : Tab w' := by
  unfold Tab Lib.TabIs World.var? at *
  have hg : Tryz.prog.globalNamed "internal/strconv.uint64pow10" = some 0 := by kernel_rfl
  simp only [hg, Option.bind_some] at h ⊢
  rw [b.block 0 hB]
  exact h
theorem int_any (n : Int) (h0 : -9223372036854775808 ≤ n) (h1 : n ≤ 9223372036854775807) (w : World) (hT : Tab w) :
    Calls Tryz.prog 41 #[.int .i64 n] w fun e w' => e = .returned (.string ⟨(Lib.itoa n).toArray⟩) ∧ Grw w w' := by
  go_enter Tryz.func41, Tryz.ntmps41
  go_wp2_with (go_at_call 77; refine (Tryz.strconv_FormatInt_10 n h0 h1 _ hT).mono ?_; rintro e w1 ⟨rfl, k, os, rfl⟩)
  go_ret
  exact ⟨rfl, grw_grow _ _ _⟩
end Go.Proofs.YtpmnepihaljamaaGreatDoor.Nu
end

/-
  What strings.Split, Join, HasPrefix and the Builder answer, at this program.
-/
section
namespace Go.Proofs.YtpmnepihaljamaaGreatDoor
open Go.Shelf Go.RowKit

def ren167 : Go.Shelf.Ren := ⟨fun | 167 => 85 | n => Tryz.lays156_ren.f n, Tryz.lays156_ren.t, Tryz.lays156_ren.g⟩
theorem lays166 : Go.Proofs.Lays.n166 Tryz.prog Tryz.lays156_ren := { Tryz.lays156 with }
theorem extra167 : Builder.Extra Tryz.prog ren167 := {
  sizeBuilder := by kernel_rfl
  liesBuilder := by kernel_rfl
  t5 := Tryz.underlying5
  a5 := Tryz.isAgg5
  z5 := Tryz.sizeOf5
  v5 := Tryz.zeroValue5
  infoByte := by kernel_rfl
  cellsByte := by kernel_rfl
  sizeByte := by kernel_rfl
  neB5 := by decide }
theorem lays167 : Go.Proofs.Lays.n167 Tryz.prog ren167 := {
  mixed := by kernel_rfl
  f167 := Tryz.func85.trans (congrArg some (by kernel_rfl))
  f240 := Tryz.func117.trans (congrArg some (by kernel_rfl))
  f276 := Tryz.func140.trans (congrArg some (by kernel_rfl))
  t0 := Tryz.underlying0
  a0 := Tryz.isAgg0
  z0 := Tryz.sizeOf0
  v0 := Tryz.zeroValue0
  t4 := Tryz.underlying4
  a4 := Tryz.isAgg4
  z4 := Tryz.sizeOf4
  v4 := Tryz.zeroValue4
  t5 := Tryz.underlying5
  a5 := Tryz.isAgg5
  z5 := Tryz.sizeOf5
  v5 := Tryz.zeroValue5
  t9 := Tryz.underlying9
  a9 := Tryz.isAgg9
  z9 := Tryz.sizeOf9
  v9 := Tryz.zeroValue9
  t20 := Tryz.underlying20
  a20 := Tryz.isAgg20
  z20 := Tryz.sizeOf20
  v20 := Tryz.zeroValue20
  t37 := Tryz.underlying107
  a37 := Tryz.isAgg107
  z37 := Tryz.sizeOf107
  v37 := Tryz.zeroValue107
  t70 := Tryz.underlying106
  a70 := Tryz.isAgg106
  z70 := Tryz.sizeOf106
  v70 := Tryz.zeroValue106
  t72 := Tryz.underlying109
  a72 := Tryz.isAgg109
  z72 := Tryz.sizeOf109
  v72 := Tryz.zeroValue109
  t75 := Tryz.underlying113
  a75 := Tryz.isAgg113
  z75 := Tryz.sizeOf113
  v75 := Tryz.zeroValue113
  t164 := Tryz.underlying162
  a164 := Tryz.isAgg162
  z164 := Tryz.sizeOf162
  v164 := Tryz.zeroValue162 }
theorem writeString_b (B b : Nat) (bs : List Value) (s : ByteArray) (w : World) (h : Lib.IsBuilder 109 5 B b bs w) (hlen : bs.length + s.size ≤ 140737488355328) (hBw : B ≤ w.heap.size) :
    Calls Tryz.prog 84 #[.pointer (some ⟨b, 0, none⟩), .string s] w fun e w' => e = .returned (.tuple #[.int .i64 s.size, .nilIface]) ∧ (Lib.BuilderAt 109 5 B b (.pointer (some ⟨b, 0, none⟩)) (bs ++ Lib.strCells s) w' ∧ Below B w w') :=
  Any.Builder_WriteString lays166 Tryz.Builder_Extra_156 B b bs s w h hlen hBw
theorem writeByte_b (B b : Nat) (bs : List Value) (c : Int) (w : World) (h : Lib.IsBuilder 109 5 B b bs w) (hlen : bs.length + 1 ≤ 140737488355328) (hBw : B ≤ w.heap.size) :
    Calls Tryz.prog 85 #[.pointer (some ⟨b, 0, none⟩), .int .u8 c] w fun e w' => e = .returned .nilIface ∧ (Lib.BuilderAt 109 5 B b (.pointer (some ⟨b, 0, none⟩)) (bs ++ [.int .u8 c]) w' ∧ Below B w w') :=
  Any.Builder_WriteByte lays167 extra167 B b bs c w h hlen hBw

/-- The variables that the library reads on these roads: the greatest length, whatever it holds; the powers of ten. -/
def Low (n : Nat) : Prop := 4 < n ∧ 0 < n
theorem Low.le {n m : Nat} (h : Low n) (k : n ≤ m) : Low m := ⟨Nat.lt_of_lt_of_le h.1 k, Nat.lt_of_lt_of_le h.2 k⟩
def Tab (w : World) : Prop := Low w.heap.size ∧ (∃ m, w.cell? ⟨4, 0, none⟩ = some (.int .i64 m)) ∧ Nu.Tab w
theorem tab_below {B : Nat} {w w' : World} (h : Tab w) (hb : Below B w w') (hB : Low B) : Tab w' := ⟨h.1.le hb.size, by obtain ⟨m, hm⟩ := h.2.1; exact ⟨m, by rw [hb.cell (p := ⟨4, 0, none⟩) hB.1]; exact hm⟩, Nu.tab_below h.2.2 hb hB.2⟩
theorem tab_grw {w w' : World} (h : Tab w) (hb : Below w.heap.size w w') : Tab w' := tab_below h hb h.1

theorem strings_split (s : ByteArray) (c : UInt8) (w : World) (hT : Tab w) (hs : s.size ≤ 65536) :
    Calls Tryz.prog 123 #[.string s, .string (mk [c])] w fun e w' => ∃ v, e = .returned v ∧ TxAt (fun b => w.heap.size ≤ b) w' v (splitC c s.data.toList) ∧ Below w.heap.size w w' := by
  obtain ⟨_, ⟨m, hm⟩, _⟩ := hT
  refine (Tryz.strings_Split s (mk [c]) m w (by omega) hm (by rw [mk_size]; simp)).mono ?_
  rintro e w' ⟨rfl, rfl⟩
  have h1 : Lib.splitB (mk [c]) 0 (Lib.countB s (mk [c])) s = (splitC c s.data.toList).map mk := splitB_one c s
  have h2 : Lib.countB s (mk [c]) + 1 = (splitC c s.data.toList).length := by
    have := Lib.splitB_all (mk [c]) (by rw [mk_size]; simp) 0 _ s rfl
    rw [h1, List.length_map] at this
    exact this.symm
  have hl := split_len c s.data.toList
  rw [← Lib.size_eq] at hl
  rw [h1, h2]
  refine ⟨_, rfl, ⟨_, _, rfl, Nat.le_refl _, by simp only [maxLen]; omega, Or.inr ⟨_, 0, rfl, Nat.le_refl _, by simp, fun j x hj => ⟨_, ?_, rfl⟩⟩⟩, (Below.refl _ w).alloc (Nat.le_refl _) _⟩
  rw [Nat.zero_add, cell_of_row _ w.heap.size j _ _ _ (heap_alloc_new w _)]
  simp [hj]
theorem sum_many : ∀ xs : List Tx, xs.length ≤ (xs.map fun x => 1 + x.length).sum
  | [] => by simp
  | x :: r => by have := sum_many r; simp only [List.length_cons, List.map_cons, List.sum_cons]; omega
theorem join_many (c : UInt8) (xs : List Tx) : xs.length ≤ (joinC c xs).length + 1 := by
  by_cases h : xs = []
  · subst h; simp
  · rw [join_len c xs h]; exact sum_many xs
theorem strings_join (v : Value) (xs : List Tx) (c : UInt8) (w : World) (h : TxAt All w v xs) (hl : (joinC c xs).length ≤ 1000000) :
    Calls Tryz.prog 115 #[v, .string (mk [c])] w fun e w' => e = .returned (.string (mk (joinC c xs))) ∧ Below w.heap.size w w' := by
  obtain ⟨a, cap, rfl, h1, h2, h3⟩ := h
  rcases h3 with rfl | ⟨b, o, rfl, _, hb, hc⟩
  · refine (Tryz.strings_Join_none a cap _ w).mono ?_
    rintro e w' ⟨rfl, rfl⟩
    exact ⟨rfl, Below.refl _ _⟩
  · have e1 : (xs.map mk).map (·.data.toList) = xs := by
      rw [List.map_map]
      conv => rhs; rw [← List.map_id xs]
      exact List.map_congr_left fun x _ => mk_list x
    have e2 : (xs.map mk).length = xs.length := List.length_map ..
    have e3 : (mk [c]).data.toList = [c] := mk_list _
    have := Tryz.strings_Join b o cap (xs.map mk) (mk [c]) w (fun j x hx => by
      rw [List.getElem?_map, Option.map_eq_some_iff] at hx
      obtain ⟨y, hy, rfl⟩ := hx
      obtain ⟨u, hu, rfl⟩ := hc j y hy
      exact hu) hb (by rw [e2]; have := join_many c xs; omega) (by rw [e2]; exact h1) (by rw [e1, e3]; exact Nat.le_trans hl (by omega))
    rw [e1, e2, e3] at this
    exact this
end Go.Proofs.YtpmnepihaljamaaGreatDoor
end

/-
  Which bytes may be signs: seg.mayBeSign and its reference, as contracts.
-/
section
set_option linter.unusedSimpArgs false
namespace Go.Proofs.YtpmnepihaljamaaGreatDoor
open Go.RowKit

abbrev dv (e p s : UInt8) : Value := .agg #[.int .u8 e.toNat, .int .u8 p.toNat, .int .u8 s.toNat]

theorem sign_of (n : Nat) : ∀ c : UInt8, c.toNat = n → (signB c = true ↔ (33 ≤ n ∧ n ≤ 126 ∧ n ≠ 45 ∧ n ≠ 46 ∧ ¬ (48 ≤ n ∧ n ≤ 57) ∧ ¬ (65 ≤ n ∧ n ≤ 90) ∧ ¬ (97 ≤ n ∧ n ≤ 122))) := by
  intro c h
  rw [signB, h]
  simp only [Bool.and_eq_true, decide_eq_true_eq, Bool.not_eq_true', decide_eq_false_iff_not, Bool.and_eq_false_iff]
  omega
set_option maxHeartbeats 2000000 in
theorem mayBe_any (c : UInt8) (w : World) :
    Calls Tryz.prog 80 #[.int .u8 c.toNat] w fun e w' => e = .returned (.bool (signB c)) ∧ w' = w := by
  have hc := c.toNat_lt
  have hs := sign_of c.toNat c rfl
  generalize c.toNat = n at hc hs
  generalize signB c = b at hs
  have HS := Lib.hid hs
  clear hs
  go_enter Tryz.func80, Tryz.ntmps80
  go_wp2
  all_goals (go_ret; refine ⟨congrArg (fun z => Ending.returned (Value.bool z)) ?_, rfl⟩; rw [Bool.eq_iff_iff, HS.out]; (try simp only [beq_iff_eq] at *); (try simp only [Bool.and_eq_true, Bool.or_eq_true, Bool.not_eq_true', decide_eq_true_eq, decide_eq_false_iff_not, Bool.and_eq_false_iff, beq_iff_eq, Bool.false_eq_true, true_iff, false_iff]); first | omega | (intro h; simp_all; done) | (simp_all; done) | (simp_all; omega) | trace_state)
set_option maxHeartbeats 2000000 in
theorem rsign_any (c : UInt8) (w : World) :
    Calls Tryz.prog 38 #[.int .u8 c.toNat] w fun e w' => e = .returned (.bool (signB c)) ∧ w' = w := by
  have hc := c.toNat_lt
  have hs := sign_of c.toNat c rfl
  generalize c.toNat = n at hc hs
  generalize signB c = b at hs
  have HS := Lib.hid hs
  clear hs
  go_enter Tryz.func38, Tryz.ntmps38
  go_wp2
  all_goals (go_ret; refine ⟨congrArg (fun z => Ending.returned (Value.bool z)) ?_, rfl⟩; rw [Bool.eq_iff_iff, HS.out]; (try simp only [beq_iff_eq] at *); (try simp only [Bool.and_eq_true, Bool.or_eq_true, Bool.not_eq_true', decide_eq_true_eq, decide_eq_false_iff_not, Bool.and_eq_false_iff, beq_iff_eq, Bool.false_eq_true, true_iff, false_iff]); first | omega | (intro h; simp_all; done) | (simp_all; done) | (simp_all; omega) | trace_state)
end Go.Proofs.YtpmnepihaljamaaGreatDoor
end

/-
  What seg.Good and its reference answer, as contracts: whatever the signs.
-/
section
set_option linter.unusedSimpArgs false
namespace Go.Proofs.YtpmnepihaljamaaGreatDoor
open Go.RowKit

theorem u8_eq (a b : UInt8) : ((a.toNat : Int) == (b.toNat : Int)) = (a == b) := by
  rw [Bool.eq_iff_iff, beq_iff_eq, beq_iff_eq]
  constructor
  · intro h; exact UInt8.toNat_inj.1 (by omega)
  · intro h; rw [h]
theorem u8_ne (a b : UInt8) : ((a.toNat : Int) != (b.toNat : Int)) = (a != b) := by rw [bne, u8_eq]; rfl
set_option maxHeartbeats 2000000 in
theorem good_any (e p s : UInt8) (w : World) :
    Calls Tryz.prog 45 #[dv e p s] w fun x w' => x = .returned (.bool (goodB e p s)) ∧ Below w.heap.size w w' := by
  have hB : Hid (∀ o, Below w.heap.size w (w.alloc o)) := fun o => (Below.refl _ w).alloc (Nat.le_refl _) o
  by_cases h0 : e = p
  · have hv : goodB e p s = false := by simp [goodB, h0]
    have q0 : ((e.toNat : Int) == (p.toNat : Int)) = true := by rw [u8_eq]; simpa using h0
    clear h0
    have HV := Lib.hid hv
    clear hv
    go_enter Tryz.func45, Tryz.ntmps45
    go_wp2_with (go_at_call 80; refine (mayBe_any _ _).mono ?_; rintro e w' ⟨rfl, rfl⟩)
    go_ret
    exact ⟨by rw [HV.out]; rfl, hB.out _⟩
  have q0 : ((e.toNat : Int) == (p.toNat : Int)) = false := by rw [u8_eq]; simpa using h0
  by_cases h1 : e = s
  · have hv : goodB e p s = false := by simp [goodB, h1]
    have q1 : ((e.toNat : Int) == (s.toNat : Int)) = true := by rw [u8_eq]; simpa using h1
    clear h1
    have HV := Lib.hid hv
    clear hv
    go_enter Tryz.func45, Tryz.ntmps45
    go_wp2_with (go_at_call 80; refine (mayBe_any _ _).mono ?_; rintro e w' ⟨rfl, rfl⟩)
    go_ret
    exact ⟨by rw [HV.out]; rfl, hB.out _⟩
  have q1 : ((e.toNat : Int) == (s.toNat : Int)) = false := by rw [u8_eq]; simpa using h1
  by_cases h2 : p = s
  · have hv : goodB e p s = false := by simp [goodB, h2]
    have q2 : ((p.toNat : Int) == (s.toNat : Int)) = true := by rw [u8_eq]; simpa using h2
    clear h2
    have HV := Lib.hid hv
    clear hv
    go_enter Tryz.func45, Tryz.ntmps45
    go_wp2_with (go_at_call 80; refine (mayBe_any _ _).mono ?_; rintro e w' ⟨rfl, rfl⟩)
    go_ret
    exact ⟨by rw [HV.out]; rfl, hB.out _⟩
  have q2 : ((p.toNat : Int) == (s.toNat : Int)) = false := by rw [u8_eq]; simpa using h2
  cases b0 : signB e
  · have hv : goodB e p s = false := by simp [goodB, b0]
    clear h0 h1 h2
    have HV := Lib.hid hv
    clear hv
    go_enter Tryz.func45, Tryz.ntmps45
    go_wp2_with (go_at_call 80; refine (mayBe_any _ _).mono ?_; rintro e w' ⟨rfl, rfl⟩)
    go_ret
    exact ⟨by rw [HV.out]; rfl, hB.out _⟩
  cases b1 : signB p
  · have hv : goodB e p s = false := by simp [goodB, b1]
    clear h0 h1 h2
    have HV := Lib.hid hv
    clear hv
    go_enter Tryz.func45, Tryz.ntmps45
    go_wp2_with (go_at_call 80; refine (mayBe_any _ _).mono ?_; rintro e w' ⟨rfl, rfl⟩)
    go_ret
    exact ⟨by rw [HV.out]; rfl, hB.out _⟩
  cases b2 : signB s
  · have hv : goodB e p s = false := by simp [goodB, b2]
    clear h0 h1 h2
    have HV := Lib.hid hv
    clear hv
    go_enter Tryz.func45, Tryz.ntmps45
    go_wp2_with (go_at_call 80; refine (mayBe_any _ _).mono ?_; rintro e w' ⟨rfl, rfl⟩)
    go_ret
    exact ⟨by rw [HV.out]; rfl, hB.out _⟩
  have hv : goodB e p s = true := by simp [goodB, b0, b1, b2, h0, h1, h2, Ne.symm h0, Ne.symm h1, Ne.symm h2]
  clear h0 h1 h2
  have HV := Lib.hid hv
  clear hv
  go_enter Tryz.func45, Tryz.ntmps45
  go_wp2_with (go_at_call 80; refine (mayBe_any _ _).mono ?_; rintro e w' ⟨rfl, rfl⟩)
  go_ret
  exact ⟨by rw [HV.out]; rfl, hB.out _⟩
set_option maxHeartbeats 2000000 in
theorem rgood_any (e p s : UInt8) (w : World) :
    Calls Tryz.prog 17 #[dv e p s] w fun x w' => x = .returned (.bool (goodB e p s)) ∧ Below w.heap.size w w' := by
  have hB : Hid (∀ o, Below w.heap.size w (w.alloc o)) := fun o => (Below.refl _ w).alloc (Nat.le_refl _) o
  by_cases h0 : e = p
  · have hv : goodB e p s = false := by simp [goodB, h0]
    have q0 : ((e.toNat : Int) == (p.toNat : Int)) = true := by rw [u8_eq]; simpa using h0
    clear h0
    have HV := Lib.hid hv
    clear hv
    go_enter Tryz.func17, Tryz.ntmps17
    go_wp2_with (go_at_call 38; refine (rsign_any _ _).mono ?_; rintro e w' ⟨rfl, rfl⟩)
    go_ret
    exact ⟨by rw [HV.out]; rfl, hB.out _⟩
  have q0 : ((e.toNat : Int) == (p.toNat : Int)) = false := by rw [u8_eq]; simpa using h0
  by_cases h1 : p = s
  · have hv : goodB e p s = false := by simp [goodB, h1]
    have q1 : ((p.toNat : Int) == (s.toNat : Int)) = true := by rw [u8_eq]; simpa using h1
    clear h1
    have HV := Lib.hid hv
    clear hv
    go_enter Tryz.func17, Tryz.ntmps17
    go_wp2_with (go_at_call 38; refine (rsign_any _ _).mono ?_; rintro e w' ⟨rfl, rfl⟩)
    go_ret
    exact ⟨by rw [HV.out]; rfl, hB.out _⟩
  have q1 : ((p.toNat : Int) == (s.toNat : Int)) = false := by rw [u8_eq]; simpa using h1
  by_cases h2 : s = e
  · have hv : goodB e p s = false := by simp [goodB, h2]
    have q2 : ((s.toNat : Int) == (e.toNat : Int)) = true := by rw [u8_eq]; simpa using h2
    clear h2
    have HV := Lib.hid hv
    clear hv
    go_enter Tryz.func17, Tryz.ntmps17
    go_wp2_with (go_at_call 38; refine (rsign_any _ _).mono ?_; rintro e w' ⟨rfl, rfl⟩)
    go_ret
    exact ⟨by rw [HV.out]; rfl, hB.out _⟩
  have q2 : ((s.toNat : Int) == (e.toNat : Int)) = false := by rw [u8_eq]; simpa using h2
  cases b0 : signB e
  · have hv : goodB e p s = false := by simp [goodB, b0]
    clear h0 h1 h2
    have HV := Lib.hid hv
    clear hv
    go_enter Tryz.func17, Tryz.ntmps17
    go_wp2_with (go_at_call 38; refine (rsign_any _ _).mono ?_; rintro e w' ⟨rfl, rfl⟩)
    go_ret
    exact ⟨by rw [HV.out]; rfl, hB.out _⟩
  cases b1 : signB p
  · have hv : goodB e p s = false := by simp [goodB, b1]
    clear h0 h1 h2
    have HV := Lib.hid hv
    clear hv
    go_enter Tryz.func17, Tryz.ntmps17
    go_wp2_with (go_at_call 38; refine (rsign_any _ _).mono ?_; rintro e w' ⟨rfl, rfl⟩)
    go_ret
    exact ⟨by rw [HV.out]; rfl, hB.out _⟩
  cases b2 : signB s
  · have hv : goodB e p s = false := by simp [goodB, b2]
    clear h0 h1 h2
    have HV := Lib.hid hv
    clear hv
    go_enter Tryz.func17, Tryz.ntmps17
    go_wp2_with (go_at_call 38; refine (rsign_any _ _).mono ?_; rintro e w' ⟨rfl, rfl⟩)
    go_ret
    exact ⟨by rw [HV.out]; rfl, hB.out _⟩
  have hv : goodB e p s = true := by simp [goodB, b0, b1, b2, h0, h1, h2, Ne.symm h0, Ne.symm h1, Ne.symm h2]
  clear h0 h1 h2
  have HV := Lib.hid hv
  clear hv
  go_enter Tryz.func17, Tryz.ntmps17
  go_wp2_with (go_at_call 38; refine (rsign_any _ _).mono ?_; rintro e w' ⟨rfl, rfl⟩)
  go_ret
  exact ⟨by rw [HV.out]; rfl, hB.out _⟩
end Go.Proofs.YtpmnepihaljamaaGreatDoor
end
