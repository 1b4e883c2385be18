/-
  TwiceOrder holds for all services: in which order others stand ahead plays no part, nor how often.
-/
import Derived.Test.YtmgjnjbiljpneaaRows
import Derived.WalkKit
import Derived.ProofKit
import Derived.OpenShut
import Derived.ShutString
import Derived.Below
import Derived.Carry
import Derived.Laws.Cover2
import Derived.HandedShaped
import Derived.Test.YtmgjnjbiljpneaaIWorks
import Derived.Test.YtmgjnjbiljpneaaIRMarks
import Derived.Test.YtmgjnjbiljpneaaIRow
import Derived.Test.YtmgjnjbiljpneaaIOpen
namespace Go.Proofs.Ytmgjnjbiljpneaa.twiceOrder
open Go.ChangeShapes Go.WideShapes Go.ChangeAt Go.RowKit
open Io
open Cm (Ln LnsAt lnv LnOk below_alloc below_trans)
open Tw
set_option linter.unusedVariables false
set_option linter.unusedSimpArgs false
set_option maxRecDepth 100000

theorem own : ownKnob Try.prog.godebug = none := by kernel_rfl

/-! ### the walk: the law returns true -/
set_option maxHeartbeats 16000000 in
theorem walk (w : World) (v0 : Value) (l0 : List Ln) (h0 : LnsAt All w v0 l0) (n0 : l0.length ≤ 281474976710656) (z0 : ∀ f ∈ l0, LnOk f) (v1 : Value) (l1 : List Ln) (h1 : LnsAt All w v1 l1) (n1 : l1.length ≤ 281474976710656) (z1 : ∀ f ∈ l1, LnOk f) :
    Calls Try.prog 8 #[v0, v1] w fun e w' => e = .returned (.bool true) ∧ Below w.heap.size w w' := by
  have HLt0 := Lib.hid fun W (hW : Below w.heap.size w W) => light_any v0 l0 W (LnsAt.move h0 (Below.moves hW)) z0 n0
  have HLt1 := Lib.hid fun W (hW : Below w.heap.size w W) => light_any v1 l1 W (LnsAt.move h1 (Below.moves hW)) z1 n1
  have HB0 := Lib.hid (Below.refl w.heap.size w)
  have HM0 := Lib.hid fun W (hW : Below w.heap.size w W) q q' p p' => marks_any v0 v1 l0 l1 W (LnsAt.move h0 (Below.moves hW)) (LnsAt.move h1 (Below.moves hW)) q q' p p'
  have HM1 := Lib.hid fun W (hW : Below w.heap.size w W) v A (hA : LnsAt All W v A) q q' p p' => marks_any v0 v l0 A W (LnsAt.move h0 (Below.moves hW)) hA q q' p p'
  have h1c := h1
  obtain ⟨a, c, rfl, f1, f2⟩ := Cm.LnsAt.form h0
  obtain ⟨aa, ca, rfl, g1, g2⟩ := Cm.LnsAt.form h1
  obtain ⟨L1, hL1, hcs, hms⟩ := lns_rows h1c
  have HCs := Lib.hid hcs
  have HMs := Lib.hid hms
  have HL1 := Lib.hid hL1
  have hlen : L1.length = l1.length := by rw [← hL1, List.length_map]
  clear h0 h1 z0 z1 h1c hcs hms hL1
  go_enter Try.func8, Try.ntmps8
  go_wp2_with fail
  go_at_call 9
  refine (HLt0.out w HB0.out).mono ?_
  rintro e w1 ⟨⟨bl, rfl, hbl⟩, hb1⟩
  have HB1 := Lib.hid (below_trans HB0.out hb1)
  clear hb1
  cases bl with
  | false =>
    clear hbl
    go_wp2_with (go_at_call 10; refine (works_any _).mono ?_; rintro e w9 ⟨rfl, hb9⟩; have HB9 := Lib.hid (below_trans HB1.out hb9); clear hb9)
    go_ret
    exact ⟨rfl, HB9.out⟩
  | true =>
  obtain ⟨k0, k1⟩ := hbl rfl
  have HK0 := Lib.hid k1
  clear hbl k1
  go_wp2_with fail
  go_at_call 9
  refine (HLt1.out w1 HB1.out).mono ?_
  rintro e w2 ⟨⟨bl, rfl, hbl⟩, hb2⟩
  have HB2 := Lib.hid (below_trans HB1.out hb2)
  clear hb2
  cases bl with
  | false =>
    clear hbl
    go_wp2_with (go_at_call 10; refine (works_any _).mono ?_; rintro e w9 ⟨rfl, hb9⟩; have HB9 := Lib.hid (below_trans HB2.out hb9); clear hb9)
    go_ret
    exact ⟨rfl, HB9.out⟩
  | true =>
  obtain ⟨k2, k3⟩ := hbl rfl
  have HK1 := Lib.hid k3
  clear hbl k3
  have HBw := Lib.hid (Below.refl w2.heap.size w2)
  go_wp2
  go_loopg [5, 6] l1.length (fun gg v i wr => ∃ q : Nat, q ≤ L1.length ∧ gg = q ∧ i = .int .i64 ((q : Int) - 1) ∧ Hid (OwnL w2.heap.size wr v (L1.reverse.take (L1.length - q))) ∧ Hid (Below w2.heap.size w2 wr))
  case atStart => exact ⟨L1.length, Nat.le_refl _, hlen.symm, by rw [hlen], by show OwnL _ _ _ _; rw [Nat.sub_self, List.take_zero]; exact OwnL.nil _ _, Below.refl _ _⟩
  case round =>
    obtain ⟨q, hq, hg, rfl, HO, HB3⟩ := hrel
    cases q with
    | succ p =>
      have hp : p < L1.length := by omega
      obtain ⟨x, m, hx⟩ : ∃ x m, L1[p]? = some (x, m) := ⟨_, _, List.getElem?_eq_getElem hp⟩
      have HR := Lib.hid (rev_step L1 p _ hx)
      obtain ⟨b, o, rfl, hb, ⟨c0, c1, c2, c3, c4, c5⟩⟩ := cs_get (CsAt.far HCs.out (below_trans HB2.out HB3.out)) p x m hx
      have hm : TxAt All w m x.mods := HMs.out _ (List.mem_of_getElem? hx)
      have HMm := Lib.hid fun W (hW : Below w.heap.size w W) (t : Rw) (ht : t ∈ [(x, m)]) => (show TxAt All W t.2 t.1.mods by simp at ht; rw [ht]; exact TxAt.move hm (Below.moves hW))
      obtain ⟨am, cm, rfl, -, -⟩ := Cm.TxAt.form hm
      clear hm hx
      have hp1 : ((p + 1 : Nat) : Int) - 1 = (p : Int) := by omega
      rw [hp1]
      have hpi : (p : Int) < (l1.length : Int) := by omega
      have hp0 : (0 : Int) ≤ (p : Int) := by omega
      have HOa := Lib.hid fun o => HO.out.far (below_alloc wr o)
      have HB4 := Lib.hid fun o => below_trans (below_trans HB2.out HB3.out) (below_alloc wr o)
      have HB5 := Lib.hid fun o => below_trans HB3.out (below_alloc wr o)
      have hlr : (L1.reverse.take (L1.length - (p + 1))).length ≤ 3000 := by rw [List.length_take]; omega
      go_wp2_with (first
        | (at_builtin; refine app_ln rfl _ _ rfl w2.heap.size _ (L1.reverse.take (L1.length - (p + 1))) rfl (HOa.out _) _ 1 1 [(x, .slice am x.mods.length cm)] rfl rfl (cs_one (alloc_new wr _ _)) (HMm.out _ (HB4.out _)) (by simp only [List.length_cons, List.length_nil]; omega) (HB5.out _).size ?_; intro v3 w3 ho3 hb3)
        | go_in)
      go_roundg p
      case rel => exact ⟨p, by omega, rfl, by first | rfl | (congr 1; omega) | go_num, by show OwnL _ _ _ _; rw [HR.out]; exact ho3, (HB5.out _).trans hb3⟩
      case measure => omega
    | zero =>
      obtain ⟨wo, hwo⟩ : ∃ z, z = wr := ⟨_, rfl⟩
      subst hwo
      have HO1 := HO
      rw [Nat.sub_zero, List.take_of_length_le (by simp)] at HO1
      clear HO
      have HB6 := Lib.hid (below_trans HB2.out HB3.out)
      have HCs6 := Lib.hid (HCs.out.far HB6.out)
      have HMs6 := Lib.hid (HMs.out.far HB6.out)
      have hn : ¬ (0 : Int) ≤ ((0 : Nat) : Int) - 1 := by omega
      go_upto_region 8 with fail
      go_wp2_with (at_builtin; refine app_ln rfl _ _ rfl w2.heap.size _ L1.reverse rfl HO1.out aa l1.length ca L1 rfl hlen.symm HCs6.out HMs6.out (by simp; omega) HB3.out.size ?_; intro v7 w7 ho7 hb7)
      have HB7 := Lib.hid (below_trans HB2.out (HB3.out.trans hb7))
      have HA7 := Lib.hid (own_lns ho7 (fun t ht => HMs.out.far HB7.out t (by simpa using ht)))
      rw [List.map_append, List.map_reverse, HL1.out] at HA7
      clear ho7 hb7
      go_at_call 14
      refine (HM0.out w7 HB7.out HK0.out HK1.out (by omega) (by omega)).mono ?_
      rintro e w8 ⟨u8, rfl, hu8, hb8⟩
      go_wp2_with fail
      go_at_call 14
      refine (HM1.out w8 (below_trans HB7.out hb8) _ _ (LnsAt.move HA7.out (Below.moves hb8)) HK0.out (fun x hx => HK1.out x (by simpa using hx)) (by omega) (by simp; omega)).mono ?_
      rintro e w10 ⟨u10, rfl, hu10, hb10⟩
      rw [marks_turned] at hu10
      go_wp2_with fail
      go_at_call 13
      refine (same_eq _ _ _ w10 (hu8.far hb10) hu10).mono ?_
      rintro e w11 ⟨rfl, hb11⟩
      have HB11 := Lib.hid (below_trans (below_trans (below_trans HB7.out hb8) hb10) hb11)
      clear hb8 hb10 hb11 hu8 hu10 HA7
      go_wp2_with (go_at_call 10; refine (works_any _).mono ?_; rintro e w9 ⟨rfl, hb9⟩; have HB9 := Lib.hid (below_trans HB11.out hb9); clear hb9)
      go_ret
      exact ⟨rfl, HB9.out⟩

/-! ### the row's step -/
theorem laidOut : laidOutB Try.prog = true := by kernel_rfl
theorem lifted (os : Os) (started : os.Started) (H : Type) (enc : TypeId × Value → H) :
    ReturnsInHanded {} Try.checked os 8 .any (Rows.twiceOrderSpec.pre6 enc Try.prog Try.f8 Rows.twiceOrderRow.domain false) (Rows.twiceOrderSpec.post enc Try.prog Try.f8 false true false false) := by
  refine returnsInHanded_of_change_shaped (C := Try.checked) own started (by kernel_rfl) Try.func8
    (ChangeSpec.witness6 (enc := enc) (C := Try.checked) false ⟨#[], #[.slice none 0 0, .slice none 0 0], []⟩ 8 (by kernel_rfl) (by kernel_rfl) (by kernel_rfl) (by kernel_rfl)) ?_
  intro W base args ds gs before hval0 hW hcnd hwt _ _
  have hval : ∀ (j : Nat) t v, Try.f8.params[j]? = some t → args[j]? = some v → Value.okWide Try.prog W .any base t v := hval0
  have hW' := hW
  obtain ⟨p, q, hA0, hV, rfl, hfz, hnd⟩ := hW
  have hA : DataW.TrodAll enc Try.prog W 0 (fun _ => true) true Try.f8.params.toList args.toList ds p := hA0
  rw [Try.params8] at hA hval hwt
  obtain ⟨v0, vs0, d0, ds0, p0, q0, hargs, rfl, rfl, h0, r0⟩ := trodAll_cons hA
  obtain ⟨v1, vs1, d1, ds1, p1, q1, rfl, rfl, rfl, h1, r1⟩ := trodAll_cons r0
  obtain ⟨rfl, rfl, rfl⟩ := trodAll_nil r1
  obtain rfl : args = #[v0, v1] := by cases args; simp_all
  obtain ⟨rfl, rfl⟩ := trodVars_none hV
  have hwl : ∀ z, (z ∈ d0.weights Try.prog 26 → z ≤ reachBytes) ∧ (z ∈ d1.weights Try.prog 26 → z ≤ reachBytes) := fun z => by
    have h := List.all_eq_true.1 hwt z
    simp only [decide_eq_true_eq] at h
    refine ⟨fun hz => h ?_, fun hz => h ?_⟩
    all_goals
      simp only [List.cons_append, List.nil_append, List.toList_toArray, List.append_nil, DataW.weightsEach, List.mem_append]
      first | exact Or.inl hz | exact Or.inr (Or.inl hz) | exact Or.inr (Or.inr (Or.inl hz)) | exact Or.inr (Or.inr (Or.inr (Or.inl hz))) | simp [hz]
  have k0 := h0
  have lt0 : ∀ x ∈ p0, x.block < W.heap.size := by obtain ⟨m, hm⟩ := k0; exact DataW.trod_lt m _ _ _ hm
  obtain ⟨l0, g0, n0, z0⟩ := open_lns (okWide_slice Try.underlying26 (hval 0 26 v0 rfl rfl)) h0 (fun z hz => (hwl z).1 hz)
  have k1 := h1
  have lt1 : ∀ x ∈ p1, x.block < W.heap.size := by obtain ⟨m, hm⟩ := k1; exact DataW.trod_lt m _ _ _ hm
  obtain ⟨l1, g1, n1, z1⟩ := open_lns (okWide_slice Try.underlying26 (hval 1 26 v1 rfl rfl)) h1 (fun z hz => (hwl z).2 hz)
  clear hA0 hval0
  refine (walk W v0 l0 g0 n0 z0 v1 l1 g1 n1 z1).mono fun e W' ⟨he, bel⟩ => ?_
  subst he
  exact ⟨_, rfl, _, _, _, [], _, [], hW', (trodAll_cons_mk (shut_bool Try.underlying4 _) trodAll_mk0), (trodAll_cons_mk (Below.trod laidOut (by kernel_rfl) (of_decide_eq_true (by kernel_rfl)) k0 bel lt0) (trodAll_cons_mk (Below.trod laidOut (by kernel_rfl) (of_decide_eq_true (by kernel_rfl)) k1 bel lt1) trodAll_mk0)), rfl, bel.frame _, fun h => by cases h⟩

theorem over : Rows.twiceOrderRow.holds Try.pinned (OpenSpec.ofChange Rows.twiceOrderSpec) :=
  OpenClaim.holds_of_wide 8 Try.f8 rfl rfl rfl rfl rfl rfl rfl ⟨rfl, rfl, rfl, rfl, rfl⟩ rfl rfl rfl rfl rfl (by kernel_rfl) Try.func8 (by kernel_rfl)
    (of_decide_eq_true (by kernel_rfl)) (by unfold Func.isWrapper; first | (rw [if_pos (by decide +kernel)]; kernel_rfl) | (rw [if_neg (by decide +kernel)]; exact ⟨rfl, rfl⟩))
    (fun os started H enc _ => lifted os started H enc)

/-- The statement. -/
theorem proved : Rows.TwiceOrderSaid := over
end Go.Proofs.Ytmgjnjbiljpneaa.twiceOrder
namespace Go.Proofs.Ytmgjnjbiljpneaa
theorem twiceOrder_holds : Rows.TwiceOrderSaid := twiceOrder.proved
#print axioms twiceOrder_holds
end Go.Proofs.Ytmgjnjbiljpneaa
