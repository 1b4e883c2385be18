/-
  What the reference's Marks and Same answer, as contracts.
-/
import Derived.Test.YtmgjnjbiljpneaaIRKey
import Derived.Test.YtmgjnjbiljpneaaIMarks
import Derived.Test.YtmgjnjbiljpneaaLTexts
set_option linter.unusedSimpArgs false
set_option linter.unusedVariables false
set_option maxRecDepth 100000
namespace Go.Proofs.Ytmgjnjbiljpneaa.Tw
open Go.RowKit
open Cm (Ln lnv LnsAt LnBox below_alloc below_trans)

def OwnB (B : Nat) (w : World) (v : Value) (l : List Bool) : Prop := w.ownsRow B 4 1 v l.length (l.map Value.bool)
theorem OwnB.nil (B : Nat) (w : World) : OwnB B w (.slice none 0 0) [] := World.ownsRow_nil _ _ _ _
theorem OwnB.far {B : Nat} {w w' : World} {v : Value} {l : List Bool} (h : OwnB B w v l) (hb : Below w.heap.size w w') : OwnB B w' v l := own_far h hb
theorem info4' : ∃ i, Try.prog.info? 4 = some i ∧ i.zero = some (.bool false) ∧ i.size = 1 ∧ i.bytes = 1 := by
  have hi := info4
  cases hq : Try.prog.info? 4 with
  | none => rw [hq] at hi; cases hi
  | some i =>
    rw [hq] at hi
    simp only [Option.map_some, Option.some.injEq, Prod.mk.injEq] at hi
    exact ⟨i, rfl, hi⟩
theorem app_bl {ops : Array Oper} {rest : List Oper} {o : Oper} {a : Act} {w : World} {Q : Exit → Act → World → Prop} (hgd : o.guard = none) (s x : Operand) (ho : o.op = .call { callee := .builtin .append, args := #[s, x], argTypes := #[31, 31] })
    (B : Nat) (v : Value) (l : List Bool) (hs : a.eval s = v) (hown : OwnB B w v l) (b k : Nat) (c : Bool) (hx : a.eval x = .slice (some ⟨b, 0, none⟩) 1 k)
    (hc : w.cell? ⟨b, 0, none⟩ = some (.bool c)) (hl : l.length ≤ 1000000000) (hB : B ≤ w.heap.size)
    (h : ∀ v' w', OwnB B w' v' (l ++ [c]) → Below B w w' → wpList Try.prog ops Q rest (a.put o.dst v') w') : wpList Try.prog ops Q (o :: rest) a w := by
  obtain ⟨i, q1, q2, q3, q4⟩ := info4'
  refine wpList_append_own _ hgd s x 31 ho B 4 i _ 1 1 Try.underlying31 q1 q2 q3 q4 rfl (by decide) v l.length (l.map Value.bool) hs hown ⟨b, 0, none⟩ 1 k [.bool c] hx rfl (fun j u hj => ?_) (fun u hu => ?_) (by unfold maxLen; omega) (by omega) hB fun v' w' ho' hg _ => ?_
  · match j, hj with
    | 0, hj =>
      rw [show (⟨b, 0, none⟩ : Addr).add 0 = ⟨b, 0, none⟩ by unfold Addr.add; split <;> simp_all, hc]
      exact hj
    | j + 1, hj => simp at hj
  · simp at hu
    rw [hu]; rfl
  · refine h v' w' ?_ (grow_low hown hg hB)
    unfold OwnB
    rw [List.map_append, List.length_append]
    exact ho'
theorem bl_of_own {B : Nat} {w : World} {v : Value} {l : List Bool} (h : OwnB B w v l) : BlAt w v l := by
  refine row_of_own (K := All) (R := fun _ u x => u = .bool x) h (fun _ _ => trivial) fun j u y hj hy => ?_
  rw [List.getElem?_map, hy] at hj
  simp at hj
  exact hj.symm
theorem in_step (x y : Ln) (A : List Ln) (j : Nat) (h : A[j]? = some y) : inB x (A.take (j + 1)) = (inB x (A.take j) || decide (keyV y = keyV x)) := by
  rw [take_snoc A j y h, in_app]
  congr 1
  simp [inB]
  rw [Bool.eq_iff_iff]
  simp
theorem marks_snoc (A l : List Ln) (k : Nat) (x : Ln) (h : l[k]? = some x) : (marksV A l).take (k + 1) = (marksV A l).take k ++ [inB x (A ++ l.take k)] := by
  have hm := marks_at l A k x h
  rw [← in_app] at hm
  rw [List.take_add_one, hm]
  rfl
theorem in_nil (x : Ln) : inB x [] = false := rfl

set_option maxHeartbeats 8000000 in
theorem rmarks_any (v va : Value) (l A : List Ln) (w : World) (h : LnsAt All w v l) (hA : LnsAt All w va A) (hz : ∀ x ∈ l, KyOk x) (hzA : ∀ x ∈ A, KyOk x) (hl : l.length ≤ 10000) (hlA : A.length ≤ 10000) :
    Calls Try.prog 15 #[v, va] w fun e w' => ∃ u, e = .returned u ∧ BlAt w' u (marksV A l) ∧ Below w.heap.size w w' := by
  have HL := Lib.hid fun W (hb : Below w.heap.size w W) => LnsAt.move h (Below.moves hb)
  have HLA := Lib.hid fun W (hb : Below w.heap.size w W) => LnsAt.move hA (Below.moves hb)
  have HZ := Lib.hid hz
  have HZA := Lib.hid hzA
  obtain ⟨a, c, rfl, f1, f2⟩ := LnsAt.form h
  obtain ⟨aa, ca, rfl, g1, g2⟩ := LnsAt.form hA
  clear h hA hz hzA
  go_enter Try.func15, Try.ntmps15
  go_wp2
  go_loopg [5, 6] l.length (fun gg v i wr => ∃ k : Nat, k ≤ l.length ∧ gg = l.length - k ∧ i = .int .i64 k ∧ Hid (OwnB w.heap.size wr v ((marksV A l).take k)) ∧ Hid (Below w.heap.size w wr))
  case atStart => exact ⟨0, Nat.zero_le _, rfl, rfl, OwnB.nil _ _, Below.refl _ _⟩
  case round =>
    obtain ⟨k, hk, hg, rfl, HO, HB⟩ := hrel
    by_cases hlt : k < l.length
    · obtain ⟨b, o, m, rfl, hx, ⟨c0, c1, c2, c3, c4, c5⟩, hr⟩ := LnsAt.get (HL.out wr HB.out) k hlt
      have hky := HZ.out _ (List.mem_of_getElem? hx)
      have HKy := Lib.hid (rkey_any l[k] m wr hr hky)
      have HMS := Lib.hid (marks_snoc A l k _ hx)
      obtain ⟨am, cm, rfl, -, -⟩ := Cm.TxAt.form hr
      clear hx hr hky
      obtain ⟨wo, hwo⟩ : ∃ z, z = wr := ⟨_, rfl⟩
      subst hwo
      have hlm : ((marksV A l).take k).length ≤ 10000 := by rw [List.length_take]; omega
      generalize hxx : l[k] = x at *
      clear hxx
      go_wp2_with (first
        | (go_at_call 12; refine HKy.out.mono ?_; rintro e w1 ⟨rfl, hb1⟩)
        | go_in)
      have HB1 := Lib.hid (below_trans HB.out hb1)
      have HO1 := Lib.hid (HO.out.far hb1)
      clear hb1 c0 c1 c2 c3 c4 c5
      go_loopg [8, 9] A.length (fun gg t j wr => ∃ n : Nat, n ≤ A.length ∧ gg = A.length - n ∧ j = .int .i64 n ∧ t = .bool (inB x (A.take n)) ∧ Hid (Below w1.heap.size w1 wr))
      case atStart => exact ⟨0, Nat.zero_le _, rfl, rfl, rfl, Below.refl _ _⟩
      case round =>
        obtain ⟨n, hn, hgn, rfl, rfl, HB2⟩ := hrel
        by_cases hltn : n < A.length
        · obtain ⟨b', o', m', rfl, hx, ⟨c0, c1, c2, c3, c4, c5⟩, hr⟩ := LnsAt.get (HLA.out wr (below_trans HB1.out HB2.out)) n hltn
          have HKy2 := Lib.hid (rkey_any A[n] m' wr hr (HZA.out _ (List.mem_of_getElem? hx)))
          have HI := Lib.hid (in_step x _ A n hx)
          have HE := Lib.hid (Cm.mk_ne (keyV A[n]) (keyV x))
          obtain ⟨am', cm', rfl, -, -⟩ := Cm.TxAt.form hr
          clear hx hr
          generalize A[n] = y at *
          obtain ⟨V, HV⟩ : ∃ V, Hid (decide (keyV y = keyV x) = V) := ⟨_, rfl⟩
          rw [HV.out] at HI HE
          have hEe := HE.out
          obtain ⟨T, HT⟩ : ∃ T, Hid (inB x (A.take n) = T) := ⟨_, rfl⟩
          rw [HT.out] at HI ⊢
          cases T
          · rw [Bool.false_or] at HI
            go_wp2_with (first
              | (go_at_call 12; refine HKy2.out.mono ?_; rintro e w2 ⟨rfl, hb2⟩)
              | go_in)
            go_roundg (A.length - (n + 1))
            case rel => exact ⟨n + 1, by omega, rfl, by go_num, by rw [HI.out], below_trans HB2.out hb2⟩
            case measure => omega
          · rw [Bool.true_or] at HI
            go_wp2
            go_roundg (A.length - (n + 1))
            case rel => exact ⟨n + 1, by omega, rfl, by go_num, by rw [HI.out], HB2.out⟩
            case measure => omega
        · have HT : Hid (A.take n = A) := List.take_of_length_le (by omega)
          rw [HT.out]
          have hltn' : ¬ (n : Int) < (A.length : Int) := by omega
          obtain ⟨w2, hwo⟩ : ∃ z, z = wr := ⟨_, rfl⟩
          subst hwo
          go_wp2
          go_loopg [8, 10] k (fun gg t j wr => ∃ n : Nat, n ≤ k ∧ gg = k - n ∧ j = .int .i64 n ∧ t = .bool (inB x (A ++ l.take n)) ∧ Hid (Below w1.heap.size w1 wr))
          case atStart => exact ⟨0, Nat.zero_le _, rfl, rfl, by rw [List.take_zero, List.append_nil], HB2.out⟩
          case round =>
            obtain ⟨j, hj, hgj, rfl, rfl, HB3⟩ := hrel
            by_cases hltj : j < k
            · have hjl : j < l.length := by omega
              obtain ⟨b', o', m', he, hx, ⟨c0, c1, c2, c3, c4, c5⟩, hr⟩ := LnsAt.get (HL.out wr (below_trans HB1.out HB3.out)) j hjl
              injection he with he
              injection he with he1 he2
              subst he1 he2
              have HKy2 := Lib.hid (rkey_any l[j] m' wr hr (HZ.out _ (List.mem_of_getElem? hx)))
              have HI : Hid (inB x (A ++ l.take (j + 1)) = (inB x (A ++ l.take j) || decide (keyV l[j] = keyV x))) := by
                show _ = _
                rw [in_app, in_step x _ l j hx, in_app, Bool.or_assoc]
              have HE := Lib.hid (Cm.mk_ne (keyV l[j]) (keyV x))
              obtain ⟨am', cm', rfl, -, -⟩ := Cm.TxAt.form hr
              clear hx hr
              generalize l[j] = y at *
              obtain ⟨V, HV⟩ : ∃ V, Hid (decide (keyV y = keyV x) = V) := ⟨_, rfl⟩
              rw [HV.out] at HI HE
              have hEe := HE.out
              obtain ⟨T, HT⟩ : ∃ T, Hid (inB x (A ++ l.take j) = T) := ⟨_, rfl⟩
              rw [HT.out] at HI ⊢
              cases T
              · rw [Bool.false_or] at HI
                go_wp2_with (first
                  | (go_at_call 12; refine HKy2.out.mono ?_; rintro e w2 ⟨rfl, hb2⟩)
                  | go_in)
                go_roundg (k - (j + 1))
                case rel => exact ⟨j + 1, by omega, rfl, by go_num, by rw [HI.out], below_trans HB3.out hb2⟩
                case measure => omega
              · rw [Bool.true_or] at HI
                go_wp2
                go_roundg (k - (j + 1))
                case rel => exact ⟨j + 1, by omega, rfl, by go_num, by rw [HI.out], HB3.out⟩
                case measure => omega
            · obtain rfl : j = k := by omega
              have hltj' : ¬ (j : Int) < (j : Int) := by omega
              generalize inB x (A ++ l.take j) = T at *
              have HB4 := Lib.hid fun o => below_trans (below_trans HB1.out HB3.out) (below_alloc wr o)
              have HO4 := Lib.hid fun o => (HO1.out.far HB3.out).far (below_alloc wr o)
              go_wp2_with (first
                | (at_builtin; refine app_bl rfl _ _ rfl w.heap.size _ ((marksV A l).take j) rfl (HO4.out _) _ 1 T rfl (by first | simp | rfl) (by omega) (HB4.out _).size ?_; intro v2 w3 ho3 hb3)
                | go_in)
              go_roundg (l.length - (j + 1))
              case rel => exact ⟨j + 1, by omega, rfl, by go_num, by show OwnB _ _ _ _; rw [HMS.out]; exact ho3, (HB4.out _).trans hb3⟩
              case measure => omega
    · have HT : Hid ((marksV A l).take k = marksV A l) := List.take_of_length_le (by rw [marks_len]; omega)
      have HU := Lib.hid (bl_of_own HO.out)
      rw [HT.out] at HU
      have hlt' : ¬ (k : Int) < (l.length : Int) := by omega
      go_wp2
      go_ret
      exact ⟨_, rfl, HU.out, HB.out⟩

theorem bl_drop {w : World} {g N k : Nat} {l : List Bool} (h : BlAt w (.slice (some ⟨g, 0, none⟩) N N) l) (hk : k ≤ N) (hN : N ≤ 1000000) : BlAt w (.slice (some ⟨g, k, none⟩) (N - k) (N - k)) (l.drop k) := by
  obtain ⟨a', c', he, h1, h2, h3⟩ := h
  injection he with he1 he2 he3
  subst he1 he2
  refine ⟨_, l.length - k, by rw [List.length_drop], by rw [List.length_drop]; exact Nat.le_refl _, by unfold maxLen; omega, ?_⟩
  rcases h3 with h | ⟨b, o, ha, hK, hb, hc⟩
  · exact Or.inl (by rw [h]; simp)
  · injection ha with ha
    injection ha with ha1 ha2
    subst ha1 ha2
    refine Or.inr ⟨g, k, rfl, trivial, hb, fun j x hj => ?_⟩
    rw [List.getElem?_drop] at hj
    obtain ⟨u, h5, h6⟩ := hc (k + j) x hj
    exact ⟨u, by rw [← h5, Nat.zero_add], h6⟩
theorem bl_nil (w : World) (g : Nat) : BlAt w (.slice (some ⟨g, 0, none⟩) 0 0) [] := ⟨_, 0, rfl, by simp, by simp [maxLen], Or.inl rfl⟩
set_option maxHeartbeats 2000000 in
/-- Same, of equal rows. -/
theorem same_eq (v v' : Value) (l : List Bool) (w : World) (h : BlAt w v l) (h' : BlAt w v' l) :
    Calls Try.prog 13 #[v, v'] w fun e w' => e = .returned (.bool true) ∧ Below w.heap.size w w' := by
  have H := Lib.hid h
  have H' := Lib.hid h'
  obtain ⟨a, c, rfl, f1, f2⟩ := BlAt.form h
  obtain ⟨a', c', rfl, g1, g2⟩ := BlAt.form h'
  have hlb : ((l.length : Int) != (l.length : Int)) = false := by simp
  clear h h'
  go_enter Try.func13, Try.ntmps13
  go_wp2
  go_loopg [5] l.length (fun g i wr => ∃ (k q : Nat), k ≤ l.length ∧ g = l.length - k ∧ i = .int .i64 k ∧ wr = w.drewN q)
  case atStart => exact ⟨0, 0, Nat.zero_le _, rfl, rfl, rfl⟩
  case round =>
    obtain ⟨k, q, hk, hg, rfl, rfl⟩ := hrel
    by_cases hlt : k < l.length
    · obtain ⟨b, o, rfl, hx, hc⟩ := BlAt.get H.out k hlt
      obtain ⟨b', o', rfl, -, hc'⟩ := BlAt.get H'.out k hlt
      clear hx
      generalize l[k] = V at *
      go_wp2_with fail
      go_quiet (fail)
      go_wp2
      cases V
      all_goals
        go_roundg (l.length - (k + 1))
        case rel => exact ⟨k + 1, q + nq, by omega, rfl, by go_num, by first | rfl | rw [World.drewN_drewN]⟩
        case measure => omega
    · have hlt' : ¬ (k : Int) < (l.length : Int) := by omega
      go_wp2
      go_ret
      exact ⟨rfl, Cm.below_drewq ⟨q, rfl⟩⟩
end Go.Proofs.Ytmgjnjbiljpneaa.Tw
