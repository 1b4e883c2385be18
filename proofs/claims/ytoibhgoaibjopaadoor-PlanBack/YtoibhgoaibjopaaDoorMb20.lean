/-
  Texts put together (merge.py): NFmt, NMon, PWr.
-/
import Derived.Lib.ItoaMem
import Derived.Below
import Derived.Deep.QuietTactic
import Derived.BigQuiet
import Derived.RegionTactic
import Derived.ChangeAlike
import Derived.Test.YtoibhgoaibjopaaDoorMb15
import Derived.Test.YtoibhgoaibjopaaDoorMb19
/-
  What strconv.FormatUint answers, as a contract: at base 10, for every uint64. (NOT YET BUILT in this form: taken over from wip/digits/NLib; look at its imports and at the types' names.)
-/
section
namespace Go.Proofs.YtoibhgoaibjopaaDoor.Nu
open Go.RowKit Go.Sort Go.Lib

theorem holds_zero0 (w : World) (T : TypeId) (nd : Nat) (hs : nd ≤ 24) : Holds (fun (b : UInt8) => Value.int .u8 (b.toNat : Int)) (w.alloc (.cells zeros24 T)) w.heap.size 0 (Array.replicate nd (0 : UInt8)) := fun j hj => by
  have hj' : j < nd := by simpa using hj
  refine ⟨?_, World.frozen?_alloc_new _ _ _ _⟩
  rw [World.cell?_alloc_new, zeros24_at _ (by omega), getElem!_pos _ j hj]
  simp
theorem fin_pos0 (w : World) (o : Obj) (dk : Array UInt8) (k : Nat) : Grw w ((putRow (fun (b : UInt8) => Value.int .u8 (b.toNat : Int)) (w.alloc o) w.heap.size 0 dk).drewN k) := by
  rw [alloc_eq_grow]
  obtain ⟨os', _, e⟩ := putRow_grow_new (fun (b : UInt8) => Value.int .u8 (b.toNat : Int)) w #[o] w.heap.size 0 dk (Nat.le_refl _)
  rw [e]
  exact grw_grow w k os'

set_option maxHeartbeats 6400000 in
set_option maxRecDepth 100000 in
theorem formatUint_in (u : Nat) (hu64 : u < 18446744073709551616) (w : World) (htab : Tab w) :
    Calls Tryd.prog 56 #[.int .u64 u, .int .i64 10] w fun e w' => e = .returned (.string ⟨(Lib.decDigits u).toArray⟩) ∧ Grw w w' := by
  by_cases hs : u < 100
  · go_enter Tryd.func56, Tryd.ntmps56
    go_wp2_with (go_at_call 70; refine (Tryd.internal_strconv_small u hs _).mono ?_; rintro e w' ⟨rfl, rfl⟩)
    go_ret
    exact ⟨rfl, grw_refl _⟩
  · have hu1 : 1 ≤ u := by omega
    have hnd20 : Lib.nDigits u ≤ 20 := by have := Lib.numDigits_eq u hu1 hu64; split at this <;> omega
    have hal : Tryd.prog.arrayLen 115 = 24 := by kernel_rfl
    have hsl1 : ∀ W, (Instr.sliceAt 115 (.pointer (some ⟨w.heap.size, 0, none⟩)) none (some (.int .i64 (Lib.nDigits u : Int))) none).run Tryd.prog W = .ok (.slice (some ⟨w.heap.size, 0, none⟩) (Lib.nDigits u) 24) W := fun W => by
      rw [run_sliceAt_array_h W 115 ⟨w.heap.size, 0, none⟩ (by kernel_rfl) .i64 (Lib.nDigits u : Int) (by omega) (by rw [hal]; omega)]
      go_simp
    have hH0 := holds_zero0 w 115 (Lib.nDigits u) (by omega)
    have hfmt := Tryd.internal_strconv_formatBase10 w.heap.size 0 24 u (Array.replicate (Lib.nDigits u) 0) (w.alloc (.cells Lib.zeros24 115)) hH0 (by rw [Array.size_replicate]; exact Lib.lt_pow_nDigits u) hu64 (by rw [Array.size_replicate]; omega)
    rw [Array.size_replicate] at hfmt
    have HH0 := Lib.hid hH0
    clear hH0 hal
    go_enter Tryd.func56, Tryd.ntmps56
    go_wp2_with (first
      | (go_at_call 71; refine (Tryd.internal_strconv_numDigits u hu1 hu64 _ (Lib.tabIs_alloc htab _)).mono ?_; rintro e w' ⟨rfl, rfl⟩))
    go_at_call 72
    refine hfmt.mono ?_
    rintro e w' ⟨rfl, k, v', dk, rfl, hF⟩
    have hcv : (convert 84 9 (.slice (some ⟨w.heap.size, 0, none⟩) (Lib.nDigits u) 24)).run Tryd.prog ((putRow (fun (b : UInt8) => Value.int .u8 (b.toNat : Int)) (w.alloc (.cells Lib.zeros24 115)) w.heap.size 0 dk).drewN k) = .ok (.string ⟨(Lib.decDigits u).toArray⟩) ((putRow (fun (b : UInt8) => Value.int .u8 (b.toNat : Int)) (w.alloc (.cells Lib.zeros24 115)) w.heap.size 0 dk).drewN k) := by
      have h := run_convert_bytes_back (P := Tryd.prog) ((putRow (fun (b : UInt8) => Value.int .u8 (b.toNat : Int)) (w.alloc (.cells Lib.zeros24 115)) w.heap.size 0 dk).drewN k) 84 9 5 ⟨w.heap.size, 0, none⟩ 24 (Lib.decDigits u) Tryd.underlying84 Tryd.underlying5 Tryd.underlying9 (fun j hj => by
        rw [Lib.row_is_numeral hF j hj, Lib.add_plain, World.cell?_drewN]
        exact cell?_putRow (fun (b : UInt8) => Value.int .u8 (b.toNat : Int)) _ w.heap.size 0 _ dk HH0.out (by rw [hF.size, Array.size_replicate]) j (by rw [hF.size]; rw [Lib.decDigits_length] at hj; exact hj))
      rw [Lib.decDigits_length] at h
      exact h
    go_wp2
    go_ret
    exact ⟨rfl, fin_pos0 w (.cells Lib.zeros24 115) dk k⟩

theorem formatUint_any (u : Nat) (hu64 : u < 18446744073709551616) (w : World) (htab : Tab w) :
    Calls Tryd.prog 40 #[.int .u64 u, .int .i64 10] w fun e w' => e = .returned (.string ⟨(Lib.decDigits u).toArray⟩) ∧ Grw w w' := by
  go_enter Tryd.func40, Tryd.ntmps40
  go_wp2_with (go_at_call 56; refine (formatUint_in u hu64 _ htab).mono ?_; rintro e w1 ⟨rfl, g1⟩)
  go_ret
  exact ⟨rfl, g1⟩
end Go.Proofs.YtoibhgoaibjopaaDoor.Nu
end

/-
  What digits.Money answers, as a contract: for every int64.
-/
section
namespace Go.Proofs.YtoibhgoaibjopaaDoor.Nu
open Go.RowKit Go.Sort Go.Lib

theorem formatUint_int (v : Int) (u : Nat) (h : v = (u : Int)) (hu : u < 18446744073709551616) (w : World) (hT : Tab w) (l : List UInt8) (hl : decDigits u = l) :
    Calls Tryd.prog 40 #[.int .u64 v, .int .i64 10] w fun e w' => e = .returned (.string ⟨l.toArray⟩) ∧ Grw w w' := by
  subst h; subst hl
  exact formatUint_any u hu w hT
theorem cents_one (u : Nat) (h : u % 100 < 10) : ∃ c, decDigits (u % 100) = [c] ∧ two u = [48, c] := by
  refine ⟨_, dec_small _ h, ?_⟩
  unfold two
  rw [show u / 10 % 10 = 0 by omega, show u % 10 = u % 100 by omega]
  rfl
theorem cents_two (u : Nat) (h : ¬ u % 100 < 10) : ∃ c d, decDigits (u % 100) = [c, d] ∧ two u = [c, d] := by
  refine ⟨UInt8.ofNat (48 + u % 100 / 10), UInt8.ofNat (48 + u % 100 % 10), Lib.decDigits_two h (by omega), ?_⟩
  unfold two
  rw [show u / 10 % 10 = u % 100 / 10 by omega, show u % 10 = u % 100 % 10 by omega]
theorem money_pos (u : Nat) (D t : List UInt8) (hD : decDigits (u / 100) = D) (ht : two u = t) : moneyL (u : Int) = D ++ 46 :: t := by
  unfold moneyL moneyU
  rw [if_neg (by omega), List.nil_append, show ((u : Int)).natAbs = u by omega, hD, ht]
theorem money_neg (u : Nat) (h : 1 ≤ u) (D t : List UInt8) (hD : decDigits (u / 100) = D) (ht : two u = t) : moneyL (-(u : Int)) = 45 :: (D ++ 46 :: t) := by
  unfold moneyL moneyU
  rw [if_pos (by omega), show (-(u : Int)).natAbs = u by omega, hD, ht]
  rfl

set_option maxHeartbeats 2000000 in
theorem money_any (a : Int) (h0 : -9223372036854775808 ≤ a) (h1 : a ≤ 9223372036854775807) (w : World) (hT : Tab w) :
    Calls Tryd.prog 23 #[.int .i64 a] w fun e w' => e = .returned (.string ⟨(moneyL a).toArray⟩) ∧ Grw w w' := by
  have hw : Grw w w := grw_refl w
  by_cases hn : a < 0
  · obtain ⟨u, rfl⟩ : ∃ u : Nat, a = -(u : Int) := ⟨a.natAbs, by omega⟩
    have hu1 : 1 ≤ u := by omega
    have hu : u < 18446744073709551616 := by omega
    have hwr : IntKind.u64.wrap (-IntKind.u64.wrap (-(u : Int))) = (u : Int) := by rw [IntKind.wrap_u64, IntKind.wrap_u64]; omega
    obtain ⟨D, hD⟩ : ∃ D, Hid (decDigits (u / 100) = D) := ⟨_, rfl⟩
    have hDl : D.length ≤ 20 := by rw [← hD.out]; exact dec_len _ 20 (by omega) (by omega)
    by_cases hc : u % 100 < 10
    · obtain ⟨c, ec, et⟩ := cents_one u hc
      have H : Hid ((⟨(moneyL (-(u : Int))).toArray⟩ : ByteArray) = ⟨#[45]⟩ ++ ⟨D.toArray⟩ ++ ⟨#[46]⟩ ++ (⟨#[48]⟩ ++ ⟨[c].toArray⟩)) := by
        show _ = _
        rw [money_neg u hu1 D _ hD.out et]
        apply ByteArray.ext; simp
      have EC := Lib.hid ec
      clear ec et
      go_enter Tryd.func23, Tryd.ntmps23
      go_wp2_with (first | (go_at_call 40; refine (formatUint_int _ (u % 100) (by omega) (by omega) _ hT _ EC.out).mono ?_; rintro e w1 ⟨rfl, g1⟩; replace hw := grw_trans hw g1; replace hT := tab_grw hT g1; clear g1 EC) | (go_at_call 40; refine (formatUint_int _ (u / 100) (by omega) (by omega) _ hT _ hD.out).mono ?_; rintro e w1 ⟨rfl, g1⟩; replace hw := grw_trans hw g1; replace hT := tab_grw hT g1; clear g1))
      go_ret
      exact ⟨by rw [H.out]; first | rfl | simp, hw⟩
    · obtain ⟨c, d, ec, et⟩ := cents_two u hc
      have H : Hid ((⟨(moneyL (-(u : Int))).toArray⟩ : ByteArray) = ⟨#[45]⟩ ++ ⟨D.toArray⟩ ++ ⟨#[46]⟩ ++ ⟨[c, d].toArray⟩) := by
        show _ = _
        rw [money_neg u hu1 D _ hD.out et]
        apply ByteArray.ext; simp
      have EC := Lib.hid ec
      clear ec et
      go_enter Tryd.func23, Tryd.ntmps23
      go_wp2_with (first | (go_at_call 40; refine (formatUint_int _ (u % 100) (by omega) (by omega) _ hT _ EC.out).mono ?_; rintro e w1 ⟨rfl, g1⟩; replace hw := grw_trans hw g1; replace hT := tab_grw hT g1; clear g1 EC) | (go_at_call 40; refine (formatUint_int _ (u / 100) (by omega) (by omega) _ hT _ hD.out).mono ?_; rintro e w1 ⟨rfl, g1⟩; replace hw := grw_trans hw g1; replace hT := tab_grw hT g1; clear g1))
      go_ret
      exact ⟨by rw [H.out]; first | rfl | simp, hw⟩
  · obtain ⟨u, rfl⟩ : ∃ u : Nat, a = (u : Int) := ⟨a.natAbs, by omega⟩
    have hu : u < 18446744073709551616 := by omega
    obtain ⟨D, hD⟩ : ∃ D, Hid (decDigits (u / 100) = D) := ⟨_, rfl⟩
    have hDl : D.length ≤ 20 := by rw [← hD.out]; exact dec_len _ 20 (by omega) (by omega)
    by_cases hc : u % 100 < 10
    · obtain ⟨c, ec, et⟩ := cents_one u hc
      have H : Hid ((⟨(moneyL (u : Int)).toArray⟩ : ByteArray) = ⟨#[]⟩ ++ ⟨D.toArray⟩ ++ ⟨#[46]⟩ ++ (⟨#[48]⟩ ++ ⟨[c].toArray⟩)) := by
        show _ = _
        rw [money_pos u D _ hD.out et]
        apply ByteArray.ext; simp
      have EC := Lib.hid ec
      clear ec et
      go_enter Tryd.func23, Tryd.ntmps23
      go_wp2_with (first | (go_at_call 40; refine (formatUint_int _ (u % 100) (by omega) (by omega) _ hT _ EC.out).mono ?_; rintro e w1 ⟨rfl, g1⟩; replace hw := grw_trans hw g1; replace hT := tab_grw hT g1; clear g1 EC) | (go_at_call 40; refine (formatUint_int _ (u / 100) (by omega) (by omega) _ hT _ hD.out).mono ?_; rintro e w1 ⟨rfl, g1⟩; replace hw := grw_trans hw g1; replace hT := tab_grw hT g1; clear g1))
      go_ret
      exact ⟨by rw [H.out]; first | rfl | simp, hw⟩
    · obtain ⟨c, d, ec, et⟩ := cents_two u hc
      have H : Hid ((⟨(moneyL (u : Int)).toArray⟩ : ByteArray) = ⟨#[]⟩ ++ ⟨D.toArray⟩ ++ ⟨#[46]⟩ ++ ⟨[c, d].toArray⟩) := by
        show _ = _
        rw [money_pos u D _ hD.out et]
        apply ByteArray.ext; simp
      have EC := Lib.hid ec
      clear ec et
      go_enter Tryd.func23, Tryd.ntmps23
      go_wp2_with (first | (go_at_call 40; refine (formatUint_int _ (u % 100) (by omega) (by omega) _ hT _ EC.out).mono ?_; rintro e w1 ⟨rfl, g1⟩; replace hw := grw_trans hw g1; replace hT := tab_grw hT g1; clear g1 EC) | (go_at_call 40; refine (formatUint_int _ (u / 100) (by omega) (by omega) _ hT _ hD.out).mono ?_; rintro e w1 ⟨rfl, g1⟩; replace hw := grw_trans hw g1; replace hT := tab_grw hT g1; clear g1))
      go_ret
      exact ⟨by rw [H.out]; first | rfl | simp, hw⟩
end Go.Proofs.YtoibhgoaibjopaaDoor.Nu
end

/-
  What the writer's add does, as a contract: where the text does not grow too long.
-/
section
set_option linter.unusedSimpArgs false
set_option linter.unusedVariables false
set_option maxRecDepth 100000
namespace Go.Proofs.YtoibhgoaibjopaaDoor.Pl
open Go.RowKit
open Wo (Wd WdsAt box_cell box_two keepB heap_far)

theorem w64 (n : Int) (h0 : -9223372036854775808 ≤ n) (h1 : n ≤ 9223372036854775807) : wrap64 n = n := by unfold wrap64; omega
abbrev strs (ts : List Tx) : List Value := ts.map fun t => .string (mk t)
/-- The writer in its box: the words, and how many bytes they take with a blank behind each. -/
def WrAt (q : Nat) (ws : List Tx) (w : World) : Prop := ∃ v, w.heap[q]? = some (.cells #[v, .int .i64 (szW ws : Nat)] 39 (0, 0)) ∧ w.ownsRow (q + 1) 9 1 v ws.length (strs ws)
/-- What the writer leaves as it was. -/
def KeptW (q : Nat) (w w' : World) : Prop := Below q w w' ∧ w.heap.size ≤ w'.heap.size ∧ ∀ (k : Nat) (cs : Array Value) (T : TypeId), q < k → T ≠ 9 → w.heap[k]? = some (.cells cs T (0, 0)) → w'.heap[k]? = some (.cells cs T (0, 0))
theorem KeptW.refl (q : Nat) (w : World) : KeptW q w w := ⟨Below.refl _ _, Nat.le_refl _, fun _ _ _ _ _ h => h⟩
theorem KeptW.trans {q : Nat} {a b c : World} (h : KeptW q a b) (k : KeptW q b c) : KeptW q a c := ⟨h.1.trans k.1, Nat.le_trans h.2.1 k.2.1, fun i cs T hi hT hh => k.2.2 i cs T hi hT (h.2.2 i cs T hi hT hh)⟩
theorem KeptW.of {q : Nat} {w w' : World} (hb : Below w.heap.size w w') (hq : q < w.heap.size) : KeptW q w w' := ⟨hb.mono (Nat.le_of_lt hq), hb.size, fun i cs T _ _ hh => keepB hh hb⟩
theorem WrAt.lt {q : Nat} {ws : List Tx} {w : World} (h : WrAt q ws w) : q < w.heap.size := by obtain ⟨v, h, -⟩ := h; exact (Array.getElem?_eq_some_iff.1 h).1
theorem WrAt.grw {q : Nat} {ws : List Tx} {w w' : World} (h : WrAt q ws w) (hb : Below w.heap.size w w') : WrAt q ws w' := by
  obtain ⟨v, h1, h2⟩ := h
  exact ⟨v, keepB h1 hb, h2.kept (grown_of (p := none) hb) (by cases v.ownBlock <;> simp)⟩
theorem infoT : ∃ i, Tryd.prog.info? 9 = some i ∧ i.zero = some (.string ByteArray.empty) ∧ i.size = 1 ∧ i.bytes = 16 := by
  have hi : (Tryd.prog.info? 9).map (fun i => (i.zero, i.size, i.bytes)) = some (some (.string ByteArray.empty), 1, 16) := by kernel_rfl
  cases hq : Tryd.prog.info? 9 with
  | none => rw [hq] at hi; cases hi
  | some i =>
    rw [hq] at hi
    simp only [Option.map_some, Option.some.injEq, Prod.mk.injEq] at hi
    exact ⟨i, rfl, hi⟩
theorem sz_len (ws : List Tx) : ws.length ≤ szW ws := by
  induction ws with
  | nil => simp [szW]
  | cons x r ih => rw [sz_cons, List.length_cons]; omega
theorem sz_take (ts : List Tx) (n : Nat) (t : Tx) (h : ts[n]? = some t) : szW (ts.take (n + 1)) = szW (ts.take n) + (t.length + 1) := by
  rw [List.take_add_one, h, sz_app]; rfl
theorem sz_take_le (ts : List Tx) (n : Nat) : szW (ts.take n) ≤ szW ts := by
  conv => rhs; rw [← List.take_append_drop n ts, sz_app]
  omega
set_option maxHeartbeats 16000000 in
theorem add_any (q : Nat) (ws ts : List Tx) (tv : Value) (w : World) (h : WrAt q ws w) (ht : TxAt (fun b => b ≠ q) w tv ts) (hne : ts ≠ []) (hsz : szW ws + szW ts ≤ 65537) :
    Calls Tryd.prog 22 #[.pointer (some ⟨q, 0, none⟩), tv] w fun e w' => e = .returned (.tuple #[]) ∧ WrAt q (ws ++ ts) w' ∧ KeptW q w w' := by
  have hq := h.lt
  obtain ⟨lv, hbq, hown⟩ := h
  obtain ⟨iT, j1, j2, j3, j4⟩ := infoT
  obtain ⟨la, lc, rfl, hl1, hl2⟩ := own_form hown
  have hpos : 0 < ts.length := List.length_pos_iff.2 hne
  have HT := Lib.hid ht
  obtain ⟨ta, tc, rfl, ht1, ht2, -⟩ := ht
  unfold maxLen at ht2
  have HW := Lib.hid hown
  have HQ := Lib.hid hbq
  have hwl := sz_len ws
  have htl := sz_len ts
  have HG0 := Lib.hid (grown_of (p := some q) (Below.refl w.heap.size w))
  have HN := Lib.hid hne
  clear hbq hown hne
  go_enter Tryd.func22, Tryd.ntmps22
  go_wp2
  go_loopg [8] (ts.length) (fun g i wr => ∃ n : Nat, n ≤ ts.length ∧ g = ts.length - n ∧ i = .int .i64 n ∧ Hid (wr.heap[q]? = some (.cells #[.slice la ws.length lc, .int .i64 (szW ws + szW (ts.take n) : Nat)] 39 (0, 0))) ∧ Hid (w.grownBy wr (some q)))
  case atStart => exact ⟨0, Nat.zero_le _, rfl, rfl, HQ.out, HG0.out⟩
  case round =>
    clear HG0 HQ
    obtain ⟨n, hn, hgk, rfl, HQr, HGr⟩ := hrel
    obtain ⟨c0, c1, f0, f1⟩ := box_two HQr.out
    by_cases hlt : n < ts.length
    · obtain ⟨b, o, rfl, hx, hu⟩ : ∃ b o, ta = some ⟨b, o, none⟩ ∧ ts[n]? = some ts[n] ∧ wr.cell? ⟨b, o + n, none⟩ = some (.string (mk ts[n])) := by
        obtain ⟨a', c', he, _, _, h3⟩ := TxAt.rd HT.out HGr.out
        injection he with e1 e2 e3
        subst e1
        rcases h3 with h | ⟨b, o, ha, _, hb, hc⟩
        · exact absurd h HN.out
        · have hx := List.getElem?_eq_getElem hlt
          obtain ⟨u, q1, rfl⟩ := hc n _ hx
          exact ⟨b, o, ha, hx, q1⟩
      have hst := sz_take ts n _ hx
      have hsl := sz_take_le ts (n + 1)
      have hms := mk_size ts[n]
      have HST := Lib.hid hst
      clear hx
      generalize ts[n] = t at *
      generalize hye : szW (ts.take n) = y at *
      generalize hxe : szW ws = x at *
      have HV : Hid (((x + szW (ts.take (n + 1)) : Nat) : Int) = wrap64 ((x : Int) + (y : Int) + wrap64 ((t.length : Int) + 1))) := by
        show _ = _
        rw [HST.out, w64 ((t.length : Int) + 1) (by omega) (by omega), w64 _ (by omega) (by omega)]
        omega
      have HQ2 := Lib.hid (heap_setCell_same wr q 1 _ _ (.int .i64 (wrap64 ((x : Int) + (y : Int) + wrap64 ((t.length : Int) + 1)))) HQr.out)
      have HG2 := Lib.hid (grown_set HGr.out 1 (.int .i64 (wrap64 ((x : Int) + (y : Int) + wrap64 ((t.length : Int) + 1)))))
      clear hst HQr hye hxe HST hsl
      go_wp2
      go_roundg (ts.length - (n + 1))
      case rel => exact ⟨n + 1, by omega, rfl, by go_num, by rw [HV.out]; exact HQ2.out, HG2.out⟩
      case measure => omega
    · have hall : ts.take n = ts := List.take_of_length_le (by omega)
      rw [hall] at HQr c1
      clear hall
      have hrow := TxAt.rd HT.out HGr.out
      obtain ⟨b, o, rfl, HNw⟩ : ∃ b o, ta = some ⟨b, o, none⟩ ∧ Hid (∀ (j : Nat) u, (strs ts)[j]? = some u → wr.cell? ((⟨b, o, none⟩ : Addr).add j) = some u) := by
        obtain ⟨a', c', he, _, _, h3⟩ := hrow
        injection he with e1 e2 e3
        subst e1
        rcases h3 with h | ⟨b, o, ha, _, hb, hc⟩
        · exact absurd h HN.out
        · refine ⟨b, o, ha, fun j u hu => ?_⟩
          rw [List.getElem?_map] at hu
          cases hj : ts[j]? with
          | none => rw [hj] at hu; cases hu
          | some t =>
            rw [hj] at hu
            obtain rfl := Option.some.inj hu
            obtain ⟨u, q1, rfl⟩ := hc j _ hj
            have ea : (⟨b, o, none⟩ : Addr).add j = ⟨b, o + j, none⟩ := by unfold Addr.add; split <;> simp_all
            rw [ea]; exact q1
      have HO := Lib.hid (own_rd HW.out HGr.out (Nat.lt_succ_self q))
      have HON : Hid (∀ z ∈ strs ts, z.oneCell' = true) := fun z hz => by obtain ⟨t, _, rfl⟩ := List.mem_map.1 hz; rfl
      have HLN : Hid (ws.length + ts.length ≤ maxLen) := by show _ ≤ _; simp only [maxLen]; omega
      have HLB : Hid ((ws.length + ts.length) * 16 ≤ 140737488355328) := by show _ ≤ _; omega
      have HLL : Hid ((strs ts).length = ts.length * 1) := by show _ = _; simp
      have hsub : wrap64 (((szW ws + szW ts : Nat) : Int) - 1) = ((szW ws + szW ts : Nat) : Int) - 1 := w64 _ (by omega) (by omega)
      have hns : ¬ (65536 : Int) < ((szW ws + szW ts : Nat) : Int) - 1 := by omega
      have hgs := HGr.out.size
      clear hrow HT
      generalize hxy : szW ws + szW ts = xy at *
      go_wp2_with (at_builtin; refine wpList_append_own_at _ (by rfl) _ _ 37 (by rfl) (q + 1) 9 iT (.string ByteArray.empty) 1 16 Tryd.underlying37 j1 j2 j3 j4 (by rfl) (by omega) (.slice la ws.length lc) ws.length (strs ws) (by rfl) HO.out ⟨b, o, none⟩ ts.length tc (strs ts) (by rfl) HLL.out HNw.out HON.out HLN.out HLB.out (by omega) ?_)
      intro v6 w6 hown6 hgrow hnil hat
      obtain ⟨sa2, sc2, rfl, -, -⟩ := own_form hown6
      have hrow : ∀ k, (Value.slice la ws.length lc).ownBlock = some k → q < k := fun k hk => (HO.out.lt k hk).1
      have hq6 : w6.heap[q]? = some (.cells #[.slice la ws.length lc, .int .i64 (xy : Nat)] 39 (0, 0)) := by
        rw [hgrow.block q (Nat.lt_of_lt_of_le hq hgs) (fun e => Nat.lt_irrefl _ (hrow q e.symm))]; exact HQr.out
      obtain ⟨s0, s1, s2, s3⟩ := box_two hq6
      have HF : Hid (WrAt q (ws ++ ts) (w6.setCell ⟨q, 0, none⟩ (.slice sa2 (ws.length + ts.length) sc2)) ∧ KeptW q w (w6.setCell ⟨q, 0, none⟩ (.slice sa2 (ws.length + ts.length) sc2))) := by
        have hs6 := hgrow.size
        have hset : w6.grownBy (w6.setCell ⟨q, 0, none⟩ (.slice sa2 (ws.length + ts.length) sc2)) (some q) := grown_set (grown_of (Below.refl _ w6)) 0 _
        refine ⟨⟨.slice sa2 (ws.length + ts.length) sc2, ?_, ?_⟩, ⟨?_, ?_, ?_⟩⟩
        · rw [sz_app, hxy]
          exact heap_setCell_same w6 q 0 _ _ _ hq6
        · have hk := hown6.kept hset (by
            cases hv : (Value.slice sa2 (ws.length + ts.length) sc2).ownBlock with
            | none => exact Or.inl rfl
            | some k => exact Or.inr fun e => by have := (hown6.lt k hv).1; have : k = q := Option.some.inj e; omega)
          have e1 : strs (ws ++ ts) = strs ws ++ strs ts := by simp [strs]
          rw [e1, List.length_append]
          exact hk
        · refine ((Below.refl q w).trans ⟨HGr.out.os, HGr.out.tape, HGr.out.output, HGr.out.size, fun k hk => HGr.out.block k (by omega) (fun e => by have := Option.some.inj e; omega)⟩).trans ?_
          exact (⟨hgrow.os, hgrow.tape, hgrow.output, hgrow.size, fun k hk => hgrow.block k (by omega) (fun e => by have := hrow k e.symm; omega)⟩ : Below q wr w6).setCell (p := ⟨q, 0, none⟩) (Nat.le_refl _) _
        · have : (w6.setCell ⟨q, 0, none⟩ (.slice sa2 (ws.length + ts.length) sc2)).heap.size = w6.heap.size := by simp [World.setCell]
          omega
        · intro k cs T hk hT hh
          have h1 : wr.heap[k]? = some (.cells cs T (0, 0)) := grown_heap hh HGr.out (by omega)
          have h2 : w6.heap[k]? = some (.cells cs T (0, 0)) := Wo.kept_other h1 HO.out hT hgrow
          exact heap_far h2 (by omega)
      clear hown6 hgrow hnil hat hq6 hrow
      go_wp2
      go_end0
      exact ⟨rfl, HF.out.1, HF.out.2⟩
end Go.Proofs.YtoibhgoaibjopaaDoor.Pl
end
