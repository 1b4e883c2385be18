/-
  What a plan sets: the reference's value, as a contract. (Written by gen_res.py.)
-/
import Derived.Test.YtbokhiaiihpeeaaUPre
import Derived.Test.YtbokhiaiihpeeaaURApp
set_option linter.unusedSimpArgs false
set_option linter.unusedVariables false
set_option maxRecDepth 100000
namespace Go.Proofs.Ytbokhiaiihpeeaa.Ul
open Go.RowKit
open Pl (Cd St Ru Pn KsAt StsAt RusAt RuIn Ok1 cdv stv ruv pnv below_alloc below_trans bfive bsix beight below_tr)
open Wo (box_cell box_two keepB heap_far)
open Cm (Ln)

theorem set_none (k : Int) : ∀ (l : List St), (∀ s ∈ l, ¬ s.what = k) → setOf k l = none
  | [], _ => rfl
  | s :: r, h => by
    have h1 := h s List.mem_cons_self
    have := set_none k r fun t ht => h t (List.mem_cons_of_mem _ ht)
    unfold setOf at *
    rw [List.find?_cons, decide_eq_false h1]
    exact this
theorem set_some (k : Int) : ∀ (l : List St) (j : Nat) (s : St), l[j]? = some s → s.what = k → (∀ t ∈ l.take j, ¬ t.what = k) → setOf k l = some s.n
  | [], j, s, h, _, _ => by simp at h
  | x :: r, 0, s, h, hw, _ => by
    simp at h; subst h
    unfold setOf
    rw [List.find?_cons, decide_eq_true hw]
    rfl
  | x :: r, j + 1, s, h, hw, hn => by
    have h1 := hn x (by simp)
    have := set_some k r j s (by simpa using h) hw fun t ht => hn t (by simp [ht])
    unfold setOf at *
    rw [List.find?_cons, decide_eq_false h1]
    exact this
theorem none_snoc (k : Int) (l : List St) (j : Nat) (s : St) (h : l[j]? = some s) (hn : ∀ t ∈ l.take j, ¬ t.what = k) (hs : ¬ s.what = k) : ∀ t ∈ l.take (j + 1), ¬ t.what = k := by
  rw [List.take_add_one, h]
  intro t ht
  rcases List.mem_append.1 ht with h1 | h1
  · exact hn t h1
  · simp at h1; subst h1; exact hs
theorem step_hit {x : Ln} {net k : Int} {b : Int × Int} {r : Ru} {n : Int} (h1 : b.1 < r.rank) (h2 : appB x net r = true) (h3 : setOf k r.sets = some n) : stepV x net k b r = (r.rank, n) := by
  unfold stepV; rw [if_neg (by omega), if_pos h2, h3]
theorem step_miss {x : Ln} {net k : Int} {b : Int × Int} {r : Ru} (h3 : setOf k r.sets = none) : stepV x net k b r = b := by
  unfold stepV; rw [h3]; split <;> simp
theorem step_low {x : Ln} {net k : Int} {b : Int × Int} {r : Ru} (h1 : r.rank ≤ b.1) : stepV x net k b r = b := by
  unfold stepV; rw [if_pos h1]
set_option maxHeartbeats 16000000 in
theorem rval_any (p : Pn) (m : Value) (x : Ln) (ml : Value) (net what : Int) (w : World) (h : RusAt All w m p.rules) (hx : TxAt All w ml x.mods) :
    Calls Try.prog 23 #[pnv p m, lnv x ml, .int .i64 net, .int .i64 what] w fun e w' => e = .returned (.int .i64 (valV x net what p.rules)) ∧ Below w.heap.size w w' := by
  obtain ⟨U, HU⟩ : ∃ U, Hid (valV x net what p.rules = U) := ⟨_, rfl⟩
  rw [HU.out]
  obtain ⟨hb, hz1, hz2⟩ := box_pl w p m x ml
  have HB := Lib.hid hb
  have HX := Lib.hid hz1
  have HL := Lib.hid hz2
  have HRu := Lib.hid (h.grw hb)
  have HM := Lib.hid (tx_grw hx hb)
  obtain ⟨ma, mc, rfl, hm1, hm2, hm3⟩ := h.form
  have hm3 : p.rules.length ≤ 281474976710656 := hm3
  obtain ⟨la, lk, rfl, hl1, hl2⟩ := tx_form hx
  clear h hx hb hz1 hz2
  go_enter Try.func23, Try.ntmps23
  go_upto_region 1 with fail
  generalize (w.alloc (.cells #[.int .i64 p.mode, .int .i64 p.indDed, .int .i64 p.famDed, .int .i64 p.indOop, .int .i64 p.famOop, .slice ma p.rules.length mc] 34)).alloc (.cells #[.string (mk x.proc), .slice la x.mods.length lk, .int .i64 x.date, .int .i64 x.units, .int .i64 x.billed, .int .i64 x.prior] 30) = W at *
  generalize hp : w.heap.size = p0 at *
  obtain ⟨q1, hq1⟩ : ∃ q1, q1 = p0 + 1 := ⟨_, rfl⟩
  rw [← hq1] at HL ⊢
  clear hq1
  obtain ⟨x0, x1, x2, x3, x4, x5⟩ := bsix HX.out
  obtain ⟨y0, y1, y2, y3, y4, y5⟩ := bsix HL.out
  have HXK := Lib.hid fun W' (hW : Below W.heap.size W W') => And.intro (bsix (keepB HX.out hW)) (bsix (keepB HL.out hW))
  have HW0 := Lib.hid (Below.refl W.heap.size W)
  go_wp2
  go_loopg [9, 10, 11] (p.rules.length) (fun g bs n i wr => ∃ (j : Nat) (A V : Int), j ≤ p.rules.length ∧ g = p.rules.length - j ∧ bs = .int .i64 A ∧ n = .int .i64 V ∧ i = .int .i64 j ∧ Hid (Below W.heap.size W wr) ∧ Hid ((A, V) = bestV x net what (p.rules.take j)))
  case atStart => exact ⟨0, -1, 0, Nat.zero_le _, rfl, rfl, rfl, rfl, HW0.out, rfl⟩
  case round =>
    clear x0 x1 x2 x3 x4 x5 y0 y1 y2 y3 y4 y5 HW0
    obtain ⟨j, A, V, hj, hgk, rfl, rfl, rfl, HBr, E⟩ := hrel
    obtain ⟨⟨x0, x1, x2, x3, x4, x5⟩, ⟨y0, y1, y2, y3, y4, y5⟩⟩ := HXK.out _ HBr.out
    by_cases hlt : j < p.rules.length
    case neg =>
      have HE : Hid (V = U) := by
        show _ = _
        have e := E.out
        rw [List.take_of_length_le (by omega)] at e
        rw [← HU.out, val_of e]
      clear E
      go_wp2
      go_ret
      exact ⟨by first | rfl | (rw [← HE.out]; rfl), by first | exact below_tr hp HB.out HBr.out | (rw [hp]; exact below_tr hp HB.out HBr.out)⟩
    obtain ⟨b, o, kv, uv, sv, rfl, hbs, hxx, hcc, hin⟩ := RusAt.get (HRu.out.grw HBr.out) j hlt
    obtain ⟨z0, z1, z2, z3, z4, z5, z6, z7⟩ := hcc
    obtain ⟨-, -, -, hk1, hk2, hk3⟩ := id hin
    obtain ⟨ka, kc, rfl, -, -⟩ := hk1.form
    obtain ⟨ua, uc, rfl, -, -⟩ := hk2.form
    obtain ⟨sa, sc, rfl, hs1, hs2, hs3⟩ := hk3.form
    have hs3 : p.rules[j].sets.length ≤ 281474976710656 := hs3
    have hbz := below_alloc wr (.cells #[.int .i64 p.rules[j].rank, .int .i64 p.rules[j].cif.kind, .string (mk p.rules[j].cif.lo), .string (mk p.rules[j].cif.hi), .int .i64 p.rules[j].cif.n, .slice ka p.rules[j].cif.kids.length kc, .slice ua p.rules[j].unl.length uc, .slice sa p.rules[j].sets.length sc] 27)
    have HZ := Lib.hid (heap_alloc_new wr (.cells #[.int .i64 p.rules[j].rank, .int .i64 p.rules[j].cif.kind, .string (mk p.rules[j].cif.lo), .string (mk p.rules[j].cif.hi), .int .i64 p.rules[j].cif.n, .slice ka p.rules[j].cif.kids.length kc, .slice ua p.rules[j].unl.length uc, .slice sa p.rules[j].sets.length sc] 27))
    have HBz := Lib.hid (below_trans HBr.out hbz)
    have HAp := Lib.hid (rapp_any x net _ p.rules[j] _ _ _ _ (hin.move (Below.moves hbz)) (tx_grw HM.out HBz.out))
    have HSt := Lib.hid (hk3.grw hbz)
    have HXz := Lib.hid (HXK.out _ HBz.out)
    have N := Lib.hid (best_snoc x net what p.rules j _ hxx)
    rw [← E.out] at N
    clear hin hk1 hk2 hk3 hxx hbs hbz HBr E
    generalize p.rules[j] = r at *
    go_upto_region 7 with fail
    clear x0 x1 x2 x3 x4 x5 y0 y1 y2 y3 y4 y5 z0 z1 z2 z3 z4 z5 z6 z7
    generalize wr.alloc (.cells #[.int .i64 r.rank, .int .i64 r.cif.kind, .string (mk r.cif.lo), .string (mk r.cif.hi), .int .i64 r.cif.n, .slice ka r.cif.kids.length kc, .slice ua r.unl.length uc, .slice sa r.sets.length sc] 27) = W3 at *
    generalize wr.heap.size = s3 at *
    obtain ⟨⟨x0, x1, x2, x3, x4, x5⟩, ⟨y0, y1, y2, y3, y4, y5⟩⟩ := HXz.out
    obtain ⟨z0, z1, z2, z3, z4, z5, z6, z7⟩ := beight HZ.out
    by_cases hle : r.rank ≤ A
    case pos =>
      clear HAp
      go_wp2
      go_roundg (p.rules.length - (j + 1))
      case rel => exact ⟨j + 1, A, V, by omega, rfl, rfl, rfl, by go_num, HBz.out, by show _ = _; rw [N.out, step_low hle]⟩
      case measure => omega
    go_wp2_with fail
    go_at_call 14
    refine HAp.out.mono ?_
    rintro e w4 ⟨rfl, hb4⟩
    have HB4 := Lib.hid (below_trans HBz.out hb4)
    have HZ4 := Lib.hid (keepB HZ.out hb4)
    have HSt4 := Lib.hid (HSt.out.grw hb4)
    clear hb4 HAp HZ HSt HXz x0 x1 x2 x3 x4 x5 y0 y1 y2 y3 y4 y5 z0 z1 z2 z3 z4 z5 z6 z7
    obtain ⟨z0, z1, z2, z3, z4, z5, z6, z7⟩ := beight HZ4.out
    cases hq : appB x net r
    · go_wp2
      go_roundg (p.rules.length - (j + 1))
      case rel => exact ⟨j + 1, A, V, by omega, rfl, rfl, rfl, by go_num, HB4.out, by show _ = _; rw [N.out, step_out hq]⟩
      case measure => omega
    have HW4 := Lib.hid (Below.refl w4.heap.size w4)
    go_wp2
    go_loopg [9, 10, 13] (r.sets.length) (fun g bs n i wr => ∃ k : Nat, k ≤ r.sets.length ∧ g = r.sets.length - k ∧ bs = .int .i64 A ∧ n = .int .i64 V ∧ i = .int .i64 k ∧ wr = w4 ∧ Hid (∀ t ∈ r.sets.take k, ¬ t.what = what))
    case atStart => exact ⟨0, Nat.zero_le _, rfl, rfl, rfl, rfl, rfl, fun t ht => by simp at ht⟩
    case round =>
      obtain ⟨k, hkk, hgk2, rfl, rfl, rfl, hwr, HNo⟩ := hrel
      rw [hwr]
      clear hwr
      by_cases hlt2 : k < r.sets.length
      case neg =>
        have HE : Hid (setOf what r.sets = none) := set_none what r.sets (by have := HNo.out; rwa [List.take_of_length_le (by omega)] at this)
        clear HNo
        go_wp2
        go_roundg (p.rules.length - (j + 1))
        case rel => exact ⟨j + 1, A, V, by omega, rfl, rfl, rfl, by go_num, HB4.out, by show _ = _; rw [N.out, step_miss HE.out]⟩
        case measure => omega
      obtain ⟨b2, o2, rfl, -, hx2, c0, c1, -, -⟩ := StsAt.get HSt4.out k hlt2
      by_cases hw : r.sets[k].what = what
      · have HE := Lib.hid (set_some what r.sets k _ hx2 hw HNo.out)
        have bw : (r.sets[k].what == what) = true := by simpa using hw
        clear hx2 HNo hw
        generalize r.sets[k] = st at *
        go_wp2
        go_roundg (p.rules.length - (j + 1))
        case rel => exact ⟨j + 1, r.rank, st.n, by omega, rfl, rfl, rfl, by go_num, HB4.out, by show _ = _; rw [N.out, step_hit hle hq HE.out]⟩
        case measure => omega
      · have HE := Lib.hid (none_snoc what r.sets k _ hx2 HNo.out hw)
        have bw : (r.sets[k].what == what) = false := by simpa using hw
        clear hx2 HNo hw
        generalize r.sets[k] = st at *
        go_wp2
        go_roundg (r.sets.length - (k + 1))
        case rel => exact ⟨k + 1, by omega, rfl, rfl, rfl, by go_num, rfl, HE.out⟩
        case measure => omega
end Go.Proofs.Ytbokhiaiihpeeaa.Ul
