/-
  Texts put together (merge.py): QRSplit.
-/
import Derived.Test.YtpmnepihaljamaaGreatDoorM12
import Derived.Test.YtpmnepihaljamaaGreatDoorM9
/-
  What the reference's Split answers, as a contract: for every text and whatever signs.
-/
section
set_option linter.unusedSimpArgs false
namespace Go.Proofs.YtpmnepihaljamaaGreatDoor
open Go.RowKit
attribute [local go_sem ↓] Go.wp_at_zero Go.wp_at_succ

theorem ini_len (c : UInt8) (l : Tx) : (ini c l).length ≤ l.length ∧ (las c l).length ≤ l.length := by
  have h1 := split_len c l
  have h2 := split_ini c l
  constructor
  · rw [h2, List.length_append] at h1; simp at h1; exact h1
  · exact split_each c l _ (by rw [h2]; simp)
theorem st_len (e p s : UInt8) (l : Tx) (i : Nat) : (stP e p s l i).length ≤ i ∧ (stE e p s l i).length ≤ i ∧ (stG e p s l i).length ≤ i := by
  have h0 : (l.take i).length ≤ i := by rw [List.length_take]; omega
  have h1 := ini_len s (l.take i)
  have h2 := ini_len e (curS s l i)
  have h3 := ini_len p (curE e s l i)
  simp only [stP, stE, stG, List.length_map]
  simp only [curS, curE] at h2 h3 ⊢
  omega
theorem own_form {w : World} {B : Nat} {e : TypeId} {v : Value} {n : Nat} {xs : List Value} (h : w.ownsRow B e 1 v n xs) : ∃ a c, v = .slice a n c := by
  rcases h.2 with ⟨rfl, rfl⟩ | ⟨g, c, cur, rfl, _⟩
  · exact ⟨_, _, rfl⟩
  · exact ⟨_, _, rfl⟩
theorem info9 : ∃ i, Tryz.prog.info? 9 = some i ∧ i.zero = some (.string ByteArray.empty) ∧ i.size = 1 ∧ i.bytes = 16 := by
  have hi := hi9
  cases hq : Tryz.prog.info? 9 with
  | none => rw [hq] at hi; cases hi
  | some i =>
    rw [hq] at hi
    simp only [Option.map_some, Option.some.injEq, Prod.mk.injEq] at hi
    exact ⟨i, rfl, hi⟩
theorem info48 : ∃ i, Tryz.prog.info? 45 = some i ∧ i.zero = some (.slice none 0 0) ∧ i.size = 1 ∧ i.bytes = 24 := by
  have hi := hi48
  cases hq : Tryz.prog.info? 45 with
  | none => rw [hq] at hi; cases hi
  | some i =>
    rw [hq] at hi
    simp only [Option.map_some, Option.some.injEq, Prod.mk.injEq] at hi
    exact ⟨i, rfl, hi⟩
/-- Behind an append to a row of the call's own. -/
theorem grown_low {B : Nat} {wr w7 : World} {o : Obj} {row : Option Nat} (hB : B ≤ wr.heap.size) (hg : (wr.alloc o).grownBy w7 row) (hr : ∀ k, row = some k → B ≤ k) : Below B wr w7 :=
  ((Below.refl B wr).alloc hB o).grown hg (by simp; omega) hr

def nm1 : List Tx → Bool
  | [n] => !n.isEmpty
  | _ => false
theorem named_hd (g : Sg) (h : 0 < g.length) : namedB g = nm1 g[0] := by
  rcases g with _ | ⟨ps, r⟩
  · simp at h
  · rcases ps with _ | ⟨x, _ | ⟨y, z⟩⟩ <;> rfl
theorem bool_t : ∀ b : Bool, true = !b → b = false := by decide
theorem bool_f : ∀ b : Bool, false = !b → b = true := by decide

set_option maxHeartbeats 2000000 in
set_option maxRecDepth 100000 in
theorem rsplit_any (e p s : UInt8) (t : ByteArray) (w : World) (hs : t.size ≤ maxLen) :
    Calls Tryz.prog 67 #[dv e p s, .string t] w fun x w' => (∃ u, x = .returned (.tuple #[u, .int .i64 (spE e p s t.data.toList)]) ∧ SgAt All w' u (spV e p s t.data.toList)) ∧ Below w.heap.size w w' := by
  unfold maxLen at hs
  have HGD := Lib.hid (rgood_any e p s)
  have HL : Hid (t.data.toList.length = t.size) := (Lib.size_eq t).symm
  cases hg : goodB e p s
  · rw [hg] at HGD
    have HE := Lib.hid (spE_arg (l := t.data.toList) hg)
    have HVv := Lib.hid (sp_bad (l := t.data.toList) (by rw [spE_arg hg]; decide))
    clear hg
    go_enter Tryz.func67, Tryz.ntmps67
    go_wp2_with (go_at_call 17; refine (HGD.out _).mono ?_; rintro x w1 ⟨rfl, hb⟩; have HB1 := Lib.hid (below_trans (below_alloc w _) hb); clear hb)
    go_ret2
    exact ⟨⟨_, by rw [HE.out]; rfl, by rw [HVv.out]; exact SgAt.nil _ _⟩, HB1.out⟩
  rw [hg] at HGD
  have HG := Lib.hid hg
  clear hg
  by_cases hl : 65536 < t.size
  · have hl' : (65536 : Int) < (t.size : Int) := by omega
    have hE := spE_long (l := t.data.toList) HG.out (by rw [HL.out]; exact hl)
    have HE := Lib.hid hE
    have HVv := Lib.hid (sp_bad (l := t.data.toList) (by rw [hE]; decide))
    clear hl hE
    go_enter Tryz.func67, Tryz.ntmps67
    go_wp2_with (go_at_call 17; refine (HGD.out _).mono ?_; rintro x w1 ⟨rfl, hb⟩; have HB1 := Lib.hid (below_trans (below_alloc w _) hb); clear hb)
    go_ret2
    exact ⟨⟨_, by rw [HE.out]; rfl, by rw [HVv.out]; exact SgAt.nil _ _⟩, HB1.out⟩
  have hl' : ¬ (65536 : Int) < (t.size : Int) := by omega
  have HTL : Hid (t.toList = t.data.toList) := Lib.toList_data t
  by_cases h0 : t.size = 0
  · have hn : t.data.toList = [] := List.length_eq_zero_iff.1 (by rw [HL.out]; exact h0)
    have ht : t.toList = [] := by rw [HTL.out]; exact hn
    have HN := Lib.hid hn
    have hemp : t.toList.isEmpty = true := by rw [ht]; rfl
    clear hn h0 hl
    go_enter Tryz.func67, Tryz.ntmps67
    go_wp2_with (go_at_call 17; refine (HGD.out _).mono ?_; rintro x w1 ⟨rfl, hb⟩; have HB1 := Lib.hid (below_trans (below_alloc w _) hb); clear hb)
    go_ret2
    exact ⟨⟨_, by rw [HN.out, (spE_none HG.out).1]; rfl, by rw [HN.out, (spE_none HG.out).2]; exact SgAt.nil _ _⟩, HB1.out⟩
  obtain ⟨n, hn⟩ : ∃ n, t.size = n + 1 := ⟨t.size - 1, by omega⟩
  have hne : t.data.toList ≠ [] := fun e => h0 (by rw [← HL.out, e]; rfl)
  have ht : ¬ t.toList = [] := by rw [HTL.out]; exact hne
  have hemp : t.toList.isEmpty = false := by cases e : t.toList with
    | nil => exact absurd e ht
    | cons a b => rfl
  have HNE := Lib.hid hne
  have hlt : n < t.size := by omega
  have HLA := Lib.hid (last_at t n hlt hn)
  have hst : Hid (∀ o w1, Below (w.alloc o).heap.size (w.alloc o) w1 → Below w.heap.size w w1) := fun o w1 h => below_trans (below_alloc w o) h
  have h65 : n ≤ 65535 := by omega
  have hn1 : (t.size : Int) - 1 = (n : Int) := by omega
  have HNn := Lib.hid hn
  clear hne h0 hl
  cases hq : (t[n] == s)
  · have hb : ((t[n].toNat : Int) != (s.toNat : Int)) = true := by rw [u8_ne, bne, hq]; rfl
    have HE := Lib.hid (spE_end HG.out (l := t.data.toList) (by rw [HL.out]; omega) HNE.out (by rw [HLA.out]; intro e; have e2 := Option.some.inj e; rw [e2] at hq; simp at hq))
    have HVv := Lib.hid (sp_bad (l := t.data.toList) (by rw [HE.out]; decide))
    clear hq hn
    go_enter Tryz.func67, Tryz.ntmps67
    go_wp2_with (go_at_call 17; refine (HGD.out _).mono ?_; rintro x w1 ⟨rfl, hb⟩; have HB1 := Lib.hid (below_trans (below_alloc w _) hb); obtain ⟨-, d0, d1, d2⟩ := DBox.grw (DBox.new w e p s) hb; clear hb)
    go_quiet (fail)
    go_wp2
    go_ret2
    exact ⟨⟨_, by rw [HE.out]; rfl, by rw [HVv.out]; exact SgAt.nil _ _⟩, below_drewN HB1.out _⟩
  have hs0 : t[n] = s := by simpa using hq
  have hb : ((t[n].toNat : Int) != (s.toNat : Int)) = false := by rw [u8_ne, bne, hq]; rfl
  have hLast : t.data.toList.getLast? = some s := by rw [HLA.out, hs0]
  obtain ⟨g1, g2⟩ := spE_go HG.out (l := t.data.toList) (by rw [HL.out]; omega) HNE.out hLast
  have HG1 := Lib.hid g1
  have HG2 := Lib.hid g2
  have HLast := Lib.hid hLast
  have hts : t.size ≤ 65536 := by omega
  clear hq hs0 g1 g2 hn hLast
  rw [HG1.out, HG2.out]
  go_enter Tryz.func67, Tryz.ntmps67
  go_wp2_with (go_at_call 17; refine (HGD.out _).mono ?_; rintro x w1 ⟨rfl, hb⟩; have HB1 := Lib.hid (below_trans (below_alloc w _) hb); have HD1 := Lib.hid (DBox.grw (DBox.new w e p s) hb); obtain ⟨-, d0, d1, d2⟩ := HD1.out; clear hb)
  go_quiet (fail)
  have HBq := Lib.hid (below_drewN HB1.out nq)
  have HDq : Hid (DBox (w1.drewN nq) w.heap.size e p s) := HD1.out
  have hwB : w.heap.size < (w1.drewN nq).heap.size := HDq.out.1
  generalize hwq : w1.drewN nq = wq at *
  clear hwq d0 d1 d2 HB1 HD1 HGD
  go_wp2
  clear hb hn1 ht hemp h65 hst HLA HNn
  obtain ⟨i9, r1, r2, r3, r4⟩ := info9
  obtain ⟨i48, t1, t2, t3, t4⟩ := info48
  obtain ⟨i47, q1, q2, q3, q4⟩ := info47
  obtain ⟨n1, n2, n3, -, -, -⟩ := good_ne HG.out
  obtain ⟨-, -, -, n4, n5, n6⟩ := good_ne HG.out
  have HNE2 : Hid (e ≠ p ∧ e ≠ s ∧ p ≠ s ∧ prn e = true ∧ prn p = true ∧ prn s = true) := ⟨n1, n2, n3, n4, n5, n6⟩
  clear n1 n2 n3 n4 n5 n6
  go_loopg [6, 7, 8, 10, 11] (t.size) (fun gg ov fv bv pv iv wr => ∃ (i f : Nat) (bd : Bool) (gv : Value) (ocs gcs pcs : List Value), i ≤ t.size ∧ gg = t.size - i ∧ iv = .int .i64 i ∧ fv = .int .i64 f ∧ f ≤ i ∧ bv = .bool bd ∧ Hid (bd = !printB (curS s t.data.toList i)) ∧ Hid ((t.data.toList.drop f).take (i - f) = curP e p s t.data.toList i) ∧ Hid (St wq.heap.size wq.heap.size (stG e p s t.data.toList i) (stE e p s t.data.toList i) (stP e p s t.data.toList i) ov gv pv ocs gcs pcs wr) ∧ Hid (rdE e p 0 (ini s (t.data.toList.take i)) = 0) ∧ Hid (Below w.heap.size w wr) ∧ Hid (DBox wr w.heap.size e p s))
  case atStart =>
    obtain ⟨z1, z2, z3, z4, z5⟩ := st_zero e p s t.data.toList
    refine ⟨0, 0, false, .slice none 0 0, [], [], [], Nat.zero_le _, rfl, rfl, rfl, Nat.le_refl _, rfl, by show _ = _; rw [z5]; rfl, by show _ = _; rw [z4]; rfl, ?_, rfl, below_trans HBq.out (below_alloc wq _), DBox.grw HDq.out (below_alloc wq _)⟩
    show St _ _ _ _ _ _ _ _ _ _ _ _
    rw [z1, z2, z3]
    exact ⟨heap_alloc_new wq _, by simp [Value.ownBlock], Nat.le_refl _, World.ownsRow_nil _ _ _ _, World.ownsRow_nil _ _ _ _, World.ownsRow_nil _ _ _ _, fun j g hj => by simp at hj, fun j g hj => by simp at hj, fun j g hj => by simp at hj⟩
  case round =>
    clear HBq HDq
    obtain ⟨i, f, bd, gv, ocs, gcs, pcs, hi, hgi, rfl, rfl, hfi, rfl, HBd, HCp, HSt, HRd, HBw, HD⟩ := hrel
    obtain ⟨-, d0, d1, d2⟩ := HD.out
    have hBw : wq.heap.size ≤ wr.heap.size := Nat.le_of_lt HSt.out.lt
    obtain ⟨oa, oc, rfl⟩ := own_form HSt.out.oG
    by_cases hlt : i < t.size
    case neg =>
      have hall := take_all t i (by omega)
      have hrd := HRd.out
      rw [hall] at hrd
      have HRd2 := Lib.hid hrd
      have HSg : Hid (SgAt All wr (.slice oa (stG e p s t.data.toList i).length oc) ((ini s t.data.toList).map (parse e p))) := by
        have h := HSt.out.segs
        have e0 : stG e p s t.data.toList i = (ini s t.data.toList).map (parse e p) := by unfold stG; rw [hall]
        show SgAt _ _ _ _
        rw [← e0]
        exact h
      clear hall hrd
      go_wp2
      go_ret2
      exact ⟨⟨_, by rw [HRd2.out]; rfl, by rw [rdV_ok HRd2.out]; exact HSg.out⟩, HBw.out⟩
    have HTk := Lib.hid (take_snoc t i hlt)
    have HBy := Lib.hid (byte_at' t i hlt)
    have hgl : (stG e p s t.data.toList i).length = (ini s (t.data.toList.take i)).length := by simp [stG]
    by_cases hN : (stG e p s t.data.toList i).length = 4096
    · have hNb : (((stG e p s t.data.toList i).length : Int) == 4096) = true := by rw [beq_iff_eq]; omega
      have HV := Lib.hid (rd_limit HBy.out HLast.out HRd.out (by rw [← hgl]; exact hN))
      clear hN hgl
      generalize (stG e p s t.data.toList i).length = ng at *
      go_wp2
      go_ret2
      exact ⟨⟨_, by rw [HV.out]; rfl, by rw [rdV_bad (by rw [HV.out]; decide)]; exact SgAt.nil _ _⟩, HBw.out⟩
    have hNb : (((stG e p s t.data.toList i).length : Int) == 4096) = false := by rw [beq_eq_false_iff_ne]; omega
    have HN : Hid ((ini s (t.data.toList.take i)).length ≠ 4096) := by show _ ≠ _; rw [← hgl]; exact hN
    obtain ⟨l1, l2, l3⟩ := st_len e p s t.data.toList i
    clear hN hgl
    by_cases he : t[i] = e
    case pos =>
      obtain ⟨n1, n2, n3, n4, n5, n6⟩ := HNE2.out
      have ynee : ((t[i].toNat : Int) != (e.toNat : Int)) = false := by rw [u8_ne]; rw [he]; simp
      have yeqp : ((t[i].toNat : Int) == (p.toNat : Int)) = false := by rw [u8_eq]; rw [he]; simpa using n1
      have yeqe : ((t[i].toNat : Int) == (e.toNat : Int)) = true := by rw [u8_eq]; rw [he]; simp
      obtain ⟨s1, s2, s3, s4, s5, s6⟩ := st_elem (e := e) (p := p) (s := s) (l := t.data.toList) (i := i) (by rw [HTk.out, he]) n2
      have HB' : Hid (bd = !printB (curS s t.data.toList (i + 1))) := by show _ = _; rw [s5, print_snoc, n4, Bool.and_true]; exact HBd.out
      have HR' : Hid (rdE e p 0 (ini s (t.data.toList.take (i + 1))) = 0) := by show _ = _; rw [s6]; exact HRd.out
      have HC' : Hid ((t.data.toList.drop (i + 1)).take (i + 1 - (i + 1)) = curP e p s t.data.toList (i + 1)) := by show _ = _; rw [Nat.sub_self, List.take_zero, s4]
      have HS1 := Lib.hid s1
      have HS2 := Lib.hid s2
      have HS3 := Lib.hid s3
      clear n1 n2 n3 n4 n5 n6 s1 s2 s3 s4 s5 s6 he
      have j1 : (0 : Int) ≤ (f : Int) := by omega
      have j2 : (f : Int) ≤ (i : Int) := by omega
      have j3 : (i : Int) ≤ (t.size : Int) := by omega
      have HXe : Hid (t.extract f i = mk (curP e p s t.data.toList i)) := by show _ = _; rw [← HCp.out]; exact Lib.extract_eq t f i
      have HOP : Hid ((wr.alloc (.cells #[.string (t.extract f i)] 9)).ownsRow wq.heap.size 9 1 u10 (stP e p s t.data.toList i).length pcs) := HSt.out.oP.alloc _
      go_wp2_with (at_builtin; refine wpList_append_own_at _ (by rfl) _ _ 45 (by rfl) wq.heap.size 9 i9 (.string ByteArray.empty) 1 16 Tryz.underlying45 r1 r2 r3 r4 (by rfl) (by omega) u10 (stP e p s t.data.toList i).length pcs (by rfl) HOP.out ⟨wr.heap.size, 0, none⟩ 1 1 [.string (t.extract f i)] (by rfl) (by rfl) (cell_one_new wr _ 9) ?c2 ?c3 ?c4 ?c5 ?_)
      case c2 => intro u hu; simp at hu; subst hu; rfl
      case c3 => simp only [maxLen]; omega
      case c4 => omega
      case c5 => simp; omega
      intro pv7 w7 hown hgrow hnil hat
      obtain ⟨pa, pc, rfl⟩ := own_form hown
      have HB7 := Lib.hid (grown_low hBw hgrow fun k hk => (HOP.out.lt k hk).1)
      have HS7 : Hid (St wq.heap.size wq.heap.size (stG e p s t.data.toList i) (stE e p s t.data.toList i) (stP e p s t.data.toList i ++ [curP e p s t.data.toList i]) (.slice oa (stG e p s t.data.toList i).length oc) gv (Value.slice pa ((stP e p s t.data.toList i).length + 1) pc) ocs gcs (pcs ++ [.string (mk (curP e p s t.data.toList i))]) w7) := by
        rw [HXe.out] at hown hgrow
        exact St.part (HSt.out.grw (below_alloc wr (.cells #[.string (mk (curP e p s t.data.toList i))] 9))) hown hgrow (by simpa using hat)
      have HD7 := Lib.hid (DBox.below HD.out HB7.out hwB)
      have hBw7 : wq.heap.size ≤ w7.heap.size := Nat.le_trans hBw HB7.out.size
      obtain ⟨-, k0, k1, k2⟩ := HD7.out
      clear hown hgrow hnil hat d0 d1 d2 HOP
      have hbx7 : w7.cell? ⟨wq.heap.size, 0, none⟩ = some gv := by rw [cell_of_row w7 wq.heap.size 0 _ 50 (0, 0) HS7.out.box]; rfl
      have HOE : Hid ((w7.alloc (.cells #[(Value.slice pa ((stP e p s t.data.toList i).length + 1) pc)] 45)).ownsRow wq.heap.size 45 1 gv (stE e p s t.data.toList i).length gcs) := HS7.out.oE.alloc _
      go_wp2_with (at_builtin; refine wpList_append_own_at _ (by rfl) _ _ 48 (by rfl) wq.heap.size 45 i48 (.slice none 0 0) 1 24 Tryz.underlying48 t1 t2 t3 t4 (by rfl) (by omega) gv (stE e p s t.data.toList i).length gcs (by rfl) HOE.out ⟨w7.heap.size, 0, none⟩ 1 1 [(Value.slice pa ((stP e p s t.data.toList i).length + 1) pc)] (by rfl) (by rfl) (cell_one_new w7 _ 45) ?c2 ?c3 ?c4 ?c5 ?_)
      case c2 => intro u hu; simp at hu; subst hu; rfl
      case c3 => simp only [maxLen]; omega
      case c4 => omega
      case c5 => simp; omega
      intro gv8 w8 hown hgrow hnil hat
      obtain ⟨ga, gc, rfl⟩ := own_form hown
      have HB8 := Lib.hid (grown_low hBw7 hgrow fun k hk => (HOE.out.lt k hk).1)
      have hbox8 : w8.heap[wq.heap.size]? = some (.cells #[gv] 50 (0, 0)) := by
        rw [hgrow.block wq.heap.size (by have := HS7.out.lt; simp; omega) (Ne.symm (own_box HS7.out.oE HS7.out.box (by decide))), Below.heap_alloc _ _ _ HS7.out.lt]
        exact HS7.out.box
      have hcx8 : w8.cell? ⟨wq.heap.size, 0, none⟩ = some gv := by rw [cell_of_row w8 wq.heap.size 0 _ 50 (0, 0) hbox8]; rfl
      have hfx8 : w8.frozen? ⟨wq.heap.size, 0, none⟩ = false := Lib.frozen_of_heap hbox8 0
      have HS9 : Hid (St wq.heap.size wq.heap.size (stG e p s t.data.toList i) (stE e p s t.data.toList i ++ [stP e p s t.data.toList i ++ [curP e p s t.data.toList i]]) [] (.slice oa (stG e p s t.data.toList i).length oc) (Value.slice ga ((stE e p s t.data.toList i).length + 1) gc) (.slice none 0 0) ocs (gcs ++ [(Value.slice pa ((stP e p s t.data.toList i).length + 1) pc)]) [] (w8.setCell ⟨wq.heap.size, 0, none⟩ (Value.slice ga ((stE e p s t.data.toList i).length + 1) gc))) := St.elem (HS7.out.grw (below_alloc w7 (.cells #[(Value.slice pa ((stP e p s t.data.toList i).length + 1) pc)] 45))) hown hgrow (by simpa using hat)
      have HB9 : Hid (Below wq.heap.size wr (w8.setCell ⟨wq.heap.size, 0, none⟩ (Value.slice ga ((stE e p s t.data.toList i).length + 1) gc))) := (HB7.out.trans HB8.out).setCell (p := ⟨wq.heap.size, 0, none⟩) (Nat.le_refl _) _
      have HD9 := Lib.hid (DBox.below HD.out HB9.out hwB)
      obtain ⟨-, m0, m1, m2⟩ := HD9.out
      clear hown hgrow hnil hat hbox8 k0 k1 k2 HOE
      have HSn : Hid (St wq.heap.size wq.heap.size (stG e p s t.data.toList (i + 1)) (stE e p s t.data.toList (i + 1)) (stP e p s t.data.toList (i + 1)) (.slice oa (stG e p s t.data.toList i).length oc) (Value.slice ga ((stE e p s t.data.toList i).length + 1) gc) (.slice none 0 0) ocs (gcs ++ [(Value.slice pa ((stP e p s t.data.toList i).length + 1) pc)]) [] (w8.setCell ⟨wq.heap.size, 0, none⟩ (Value.slice ga ((stE e p s t.data.toList i).length + 1) gc))) := by show St _ _ _ _ _ _ _ _ _ _ _ _; rw [HS1.out, HS2.out, HS3.out]; exact HS9.out
      have HBw9 := Lib.hid (HBw.out.trans (HB9.out.mono (by omega)))
      generalize (stG e p s t.data.toList i).length = ng at *
      go_wp2
      go_roundg (t.size - (i + 1))
      case rel => exact ⟨i + 1, i + 1, bd, _, ocs, _, [], by omega, rfl, by go_num, by go_num, Nat.le_refl _, rfl, HB', HC', HSn, HR', HBw9, HD9⟩
      case measure => omega
    by_cases hp : t[i] = p
    case pos =>
      obtain ⟨n1, n2, n3, n4, n5, n6⟩ := HNE2.out
      have ynee : ((t[i].toNat : Int) != (e.toNat : Int)) = true := by rw [u8_ne]; rw [hp]; simpa using Ne.symm n1
      have ynep : ((t[i].toNat : Int) != (p.toNat : Int)) = false := by rw [u8_ne]; rw [hp]; simp
      have yeqp : ((t[i].toNat : Int) == (p.toNat : Int)) = true := by rw [u8_eq]; rw [hp]; simp
      obtain ⟨s1, s2, s3, s4, s5, s6⟩ := st_part (e := e) (p := p) (s := s) (l := t.data.toList) (i := i) (by rw [HTk.out, hp]) (Ne.symm n1) n3
      have HB' : Hid (bd = !printB (curS s t.data.toList (i + 1))) := by show _ = _; rw [s5, print_snoc, n5, Bool.and_true]; exact HBd.out
      have HR' : Hid (rdE e p 0 (ini s (t.data.toList.take (i + 1))) = 0) := by show _ = _; rw [s6]; exact HRd.out
      have HC' : Hid ((t.data.toList.drop (i + 1)).take (i + 1 - (i + 1)) = curP e p s t.data.toList (i + 1)) := by show _ = _; rw [Nat.sub_self, List.take_zero, s4]
      have HS1 := Lib.hid s1
      have HS2 := Lib.hid s2
      have HS3 := Lib.hid s3
      clear n1 n2 n3 n4 n5 n6 s1 s2 s3 s4 s5 s6 hp he
      have j1 : (0 : Int) ≤ (f : Int) := by omega
      have j2 : (f : Int) ≤ (i : Int) := by omega
      have j3 : (i : Int) ≤ (t.size : Int) := by omega
      have HXe : Hid (t.extract f i = mk (curP e p s t.data.toList i)) := by show _ = _; rw [← HCp.out]; exact Lib.extract_eq t f i
      have HOP : Hid ((wr.alloc (.cells #[.string (t.extract f i)] 9)).ownsRow wq.heap.size 9 1 u10 (stP e p s t.data.toList i).length pcs) := HSt.out.oP.alloc _
      go_wp2_with (at_builtin; refine wpList_append_own_at _ (by rfl) _ _ 45 (by rfl) wq.heap.size 9 i9 (.string ByteArray.empty) 1 16 Tryz.underlying45 r1 r2 r3 r4 (by rfl) (by omega) u10 (stP e p s t.data.toList i).length pcs (by rfl) HOP.out ⟨wr.heap.size, 0, none⟩ 1 1 [.string (t.extract f i)] (by rfl) (by rfl) (cell_one_new wr _ 9) ?c2 ?c3 ?c4 ?c5 ?_)
      case c2 => intro u hu; simp at hu; subst hu; rfl
      case c3 => simp only [maxLen]; omega
      case c4 => omega
      case c5 => simp; omega
      intro pv7 w7 hown hgrow hnil hat
      obtain ⟨pa, pc, rfl⟩ := own_form hown
      have HB7 := Lib.hid (grown_low hBw hgrow fun k hk => (HOP.out.lt k hk).1)
      have HS7 : Hid (St wq.heap.size wq.heap.size (stG e p s t.data.toList i) (stE e p s t.data.toList i) (stP e p s t.data.toList i ++ [curP e p s t.data.toList i]) (.slice oa (stG e p s t.data.toList i).length oc) gv (Value.slice pa ((stP e p s t.data.toList i).length + 1) pc) ocs gcs (pcs ++ [.string (mk (curP e p s t.data.toList i))]) w7) := by
        rw [HXe.out] at hown hgrow
        exact St.part (HSt.out.grw (below_alloc wr (.cells #[.string (mk (curP e p s t.data.toList i))] 9))) hown hgrow (by simpa using hat)
      have HD7 := Lib.hid (DBox.below HD.out HB7.out hwB)
      have hBw7 : wq.heap.size ≤ w7.heap.size := Nat.le_trans hBw HB7.out.size
      obtain ⟨-, k0, k1, k2⟩ := HD7.out
      clear hown hgrow hnil hat d0 d1 d2 HOP
      have HSn : Hid (St wq.heap.size wq.heap.size (stG e p s t.data.toList (i + 1)) (stE e p s t.data.toList (i + 1)) (stP e p s t.data.toList (i + 1)) (.slice oa (stG e p s t.data.toList i).length oc) gv (Value.slice pa ((stP e p s t.data.toList i).length + 1) pc) ocs gcs (pcs ++ [.string (mk (curP e p s t.data.toList i))]) w7) := by show St _ _ _ _ _ _ _ _ _ _ _ _; rw [HS1.out, HS2.out, HS3.out]; exact HS7.out
      have HBw7 := Lib.hid (HBw.out.trans (HB7.out.mono (by omega)))
      generalize (stG e p s t.data.toList i).length = ng at *
      go_wp2
      go_roundg (t.size - (i + 1))
      case rel => exact ⟨i + 1, i + 1, bd, gv, ocs, gcs, _, by omega, rfl, by go_num, by go_num, Nat.le_refl _, rfl, HB', HC', HSn, HR', HBw7, HD7⟩
      case measure => omega
    by_cases hs : t[i] = s
    case pos =>
      obtain ⟨n1, n2, n3, n4, n5, n6⟩ := HNE2.out
      have ynee : ((t[i].toNat : Int) != (e.toNat : Int)) = true := by rw [u8_ne]; rw [hs]; simpa using Ne.symm n2
      have ynep : ((t[i].toNat : Int) != (p.toNat : Int)) = true := by rw [u8_ne]; rw [hs]; simpa using Ne.symm n3
      have ynes : ((t[i].toNat : Int) != (s.toNat : Int)) = false := by rw [u8_ne]; rw [hs]; simp
      have yeqp : ((t[i].toNat : Int) == (p.toNat : Int)) = false := by rw [u8_eq]; rw [hs]; simpa using Ne.symm n3
      have yeqe : ((t[i].toNat : Int) == (e.toNat : Int)) = false := by rw [u8_eq]; rw [hs]; simpa using Ne.symm n2
      obtain ⟨s1, s2, s3, s4, s5, s6⟩ := st_seg (e := e) (p := p) (s := s) (l := t.data.toList) (i := i) (by rw [HTk.out, hs])
      have HSx : Hid (t.data.toList[i]? = some s) := by show _ = _; rw [HBy.out, hs]
      have HPC := Lib.hid (parse_cur e p s t.data.toList i)
      have HC' : Hid ((t.data.toList.drop (i + 1)).take (i + 1 - (i + 1)) = curP e p s t.data.toList (i + 1)) := by show _ = _; rw [Nat.sub_self, List.take_zero, s4]
      have HB' : Hid (false = !printB (curS s t.data.toList (i + 1))) := by show _ = _; rw [s5]; rfl
      have HS1 := Lib.hid s1
      have HS2 := Lib.hid s2
      have HS3 := Lib.hid s3
      have HS6 := Lib.hid s6
      clear n1 n2 n3 n4 n5 n6 s1 s2 s3 s4 s5 s6 hs he hp
      have j1 : (0 : Int) ≤ (f : Int) := by omega
      have j2 : (f : Int) ≤ (i : Int) := by omega
      have j3 : (i : Int) ≤ (t.size : Int) := by omega
      have HXe : Hid (t.extract f i = mk (curP e p s t.data.toList i)) := by show _ = _; rw [← HCp.out]; exact Lib.extract_eq t f i
      have HOP : Hid ((wr.alloc (.cells #[.string (t.extract f i)] 9)).ownsRow wq.heap.size 9 1 u10 (stP e p s t.data.toList i).length pcs) := HSt.out.oP.alloc _
      go_wp2_with (at_builtin; refine wpList_append_own_at _ (by rfl) _ _ 45 (by rfl) wq.heap.size 9 i9 (.string ByteArray.empty) 1 16 Tryz.underlying45 r1 r2 r3 r4 (by rfl) (by omega) u10 (stP e p s t.data.toList i).length pcs (by rfl) HOP.out ⟨wr.heap.size, 0, none⟩ 1 1 [.string (t.extract f i)] (by rfl) (by rfl) (cell_one_new wr _ 9) ?c2 ?c3 ?c4 ?c5 ?_)
      case c2 => intro u hu; simp at hu; subst hu; rfl
      case c3 => simp only [maxLen]; omega
      case c4 => omega
      case c5 => simp; omega
      intro pv7 w7 hown hgrow hnil hat
      obtain ⟨pa, pc, rfl⟩ := own_form hown
      have HB7 := Lib.hid (grown_low hBw hgrow fun k hk => (HOP.out.lt k hk).1)
      have HS7 : Hid (St wq.heap.size wq.heap.size (stG e p s t.data.toList i) (stE e p s t.data.toList i) (stP e p s t.data.toList i ++ [curP e p s t.data.toList i]) (.slice oa (stG e p s t.data.toList i).length oc) gv (Value.slice pa ((stP e p s t.data.toList i).length + 1) pc) ocs gcs (pcs ++ [.string (mk (curP e p s t.data.toList i))]) w7) := by
        rw [HXe.out] at hown hgrow
        exact St.part (HSt.out.grw (below_alloc wr (.cells #[.string (mk (curP e p s t.data.toList i))] 9))) hown hgrow (by simpa using hat)
      have HD7 := Lib.hid (DBox.below HD.out HB7.out hwB)
      have hBw7 : wq.heap.size ≤ w7.heap.size := Nat.le_trans hBw HB7.out.size
      obtain ⟨-, k0, k1, k2⟩ := HD7.out
      clear hown hgrow hnil hat d0 d1 d2 HOP
      have hbx7 : w7.cell? ⟨wq.heap.size, 0, none⟩ = some gv := by rw [cell_of_row w7 wq.heap.size 0 _ 50 (0, 0) HS7.out.box]; rfl
      have HOE : Hid ((w7.alloc (.cells #[(Value.slice pa ((stP e p s t.data.toList i).length + 1) pc)] 45)).ownsRow wq.heap.size 45 1 gv (stE e p s t.data.toList i).length gcs) := HS7.out.oE.alloc _
      go_wp2_with (at_builtin; refine wpList_append_own_at _ (by rfl) _ _ 48 (by rfl) wq.heap.size 45 i48 (.slice none 0 0) 1 24 Tryz.underlying48 t1 t2 t3 t4 (by rfl) (by omega) gv (stE e p s t.data.toList i).length gcs (by rfl) HOE.out ⟨w7.heap.size, 0, none⟩ 1 1 [(Value.slice pa ((stP e p s t.data.toList i).length + 1) pc)] (by rfl) (by rfl) (cell_one_new w7 _ 45) ?c2 ?c3 ?c4 ?c5 ?_)
      case c2 => intro u hu; simp at hu; subst hu; rfl
      case c3 => simp only [maxLen]; omega
      case c4 => omega
      case c5 => simp; omega
      intro gv8 w8 hown hgrow hnil hat
      obtain ⟨ga, gc, rfl⟩ := own_form hown
      have HB8 := Lib.hid (grown_low hBw7 hgrow fun k hk => (HOE.out.lt k hk).1)
      have hbox8 : w8.heap[wq.heap.size]? = some (.cells #[gv] 50 (0, 0)) := by
        rw [hgrow.block wq.heap.size (by have := HS7.out.lt; simp; omega) (Ne.symm (own_box HS7.out.oE HS7.out.box (by decide))), Below.heap_alloc _ _ _ HS7.out.lt]
        exact HS7.out.box
      have hcx8 : w8.cell? ⟨wq.heap.size, 0, none⟩ = some gv := by rw [cell_of_row w8 wq.heap.size 0 _ 50 (0, 0) hbox8]; rfl
      have hfx8 : w8.frozen? ⟨wq.heap.size, 0, none⟩ = false := Lib.frozen_of_heap hbox8 0
      have HS9 : Hid (St wq.heap.size wq.heap.size (stG e p s t.data.toList i) (stE e p s t.data.toList i ++ [stP e p s t.data.toList i ++ [curP e p s t.data.toList i]]) [] (.slice oa (stG e p s t.data.toList i).length oc) (Value.slice ga ((stE e p s t.data.toList i).length + 1) gc) (.slice none 0 0) ocs (gcs ++ [(Value.slice pa ((stP e p s t.data.toList i).length + 1) pc)]) [] (w8.setCell ⟨wq.heap.size, 0, none⟩ (Value.slice ga ((stE e p s t.data.toList i).length + 1) gc))) := St.elem (HS7.out.grw (below_alloc w7 (.cells #[(Value.slice pa ((stP e p s t.data.toList i).length + 1) pc)] 45))) hown hgrow (by simpa using hat)
      have HB9 : Hid (Below wq.heap.size wr (w8.setCell ⟨wq.heap.size, 0, none⟩ (Value.slice ga ((stE e p s t.data.toList i).length + 1) gc))) := (HB7.out.trans HB8.out).setCell (p := ⟨wq.heap.size, 0, none⟩) (Nat.le_refl _) _
      have HD9 := Lib.hid (DBox.below HD.out HB9.out hwB)
      obtain ⟨-, m0, m1, m2⟩ := HD9.out
      clear hown hgrow hnil hat hbox8 k0 k1 k2 HOE
      have HBw9 := Lib.hid (HBw.out.trans (HB9.out.mono (by omega)))
      have HNm := Lib.hid (named_hd (stE e p s t.data.toList i ++ [stP e p s t.data.toList i ++ [curP e p s t.data.toList i]]) (by simp))
      have hbx9 : (w8.setCell ⟨wq.heap.size, 0, none⟩ (Value.slice ga ((stE e p s t.data.toList i).length + 1) gc)).cell? ⟨wq.heap.size, 0, none⟩ = some (Value.slice ga ((stE e p s t.data.toList i).length + 1) gc) := by rw [cell_of_row _ wq.heap.size 0 _ 50 (0, 0) HS9.out.box]; rfl
      have hBw9 : wq.heap.size ≤ (w8.setCell ⟨wq.heap.size, 0, none⟩ (Value.slice ga ((stE e p s t.data.toList i).length + 1) gc)).heap.size := Nat.le_of_lt HS9.out.lt
      go_upto_region 28 with fail
      generalize (w8.setCell ⟨wq.heap.size, 0, none⟩ (Value.slice ga ((stE e p s t.data.toList i).length + 1) gc)) = w9 at *
      obtain ⟨b2, o2, u2, rfl, -, hu2, hr2⟩ := RowAt.get HS9.out.els 0 (by simp)
      rw [Nat.add_zero] at hu2
      generalize (stE e p s t.data.toList i ++ [stP e p s t.data.toList i ++ [curP e p s t.data.toList i]])[0]'(by simp) = hd at *
      clear hcx8 hfx8 hbx7
      cases bd
      case true =>
        have HV := Lib.hid (rd_wrong HSx.out HRd.out HN.out (Or.inl (bool_t _ HBd.out)))
        clear hr2
        generalize (stG e p s t.data.toList i).length = ng at *
        go_wp2
        go_ret2
        exact ⟨⟨_, by rw [HV.out]; rfl, by rw [rdV_bad (by rw [HV.out]; decide)]; exact SgAt.nil _ _⟩, HBw9.out⟩
      obtain ⟨a3, c3, rfl, v1, v2, v3⟩ := hr2
      unfold maxLen at v2
      have HSy : Hid (nm1 hd = false → rdE e p 0 (ini s t.data.toList) = 4) := fun h => rd_wrong HSx.out HRd.out HN.out (Or.inr (by rw [HPC.out, HNm.out]; exact h))
      have HNx : Hid (nm1 hd = true → rdE e p 0 (ini s (t.data.toList.take (i + 1))) = 0) := fun h => by rw [HS6.out]; exact rd_next HRd.out HN.out (bool_f _ HBd.out) (by rw [HPC.out, HNm.out]; exact h)
      rcases hd with _ | ⟨x, _ | ⟨y, z⟩⟩
      · have HV := Lib.hid (HSy.out rfl)
        clear v3
        generalize (stG e p s t.data.toList i).length = ng at *
        go_wp2
        go_ret2
        exact ⟨⟨_, by rw [HV.out]; rfl, by rw [rdV_bad (by rw [HV.out]; decide)]; exact SgAt.nil _ _⟩, HBw9.out⟩
      · rcases v3 with v3 | ⟨b3, o3, rfl, -, -, v4⟩
        · cases v3
        obtain ⟨u3, hu3, rfl⟩ := v4 0 x rfl
        rw [Nat.add_zero] at hu3
        clear v4
        have z1 := mk_nil x
        have z2 := mk_empty x
        have HN1 : Hid (nm1 [x] = !x.isEmpty) := rfl
        generalize mk x = X at *
        cases hxe : x.isEmpty
        · rw [hxe] at z1 z2 HN1
          have z3 : ¬ X.toList = [] := by intro e0; rw [e0] at z1; cases z1
          have HR' := Lib.hid (HNx.out HN1.out)
          have HOG : Hid ((w9.alloc (.cells #[(Value.slice (some ⟨b2, o2, none⟩) ((stE e p s t.data.toList i).length + 1) gc)] 50)).ownsRow wq.heap.size 50 1 (.slice oa (stG e p s t.data.toList i).length oc) (stG e p s t.data.toList i).length ocs) := HS9.out.oG.alloc _
          clear hxe HNx HSy
          go_wp2_with (at_builtin; refine wpList_append_own_at _ (by rfl) _ _ 53 (by rfl) wq.heap.size 50 i47 (.agg #[.slice none 0 0]) 1 24 Tryz.underlying53 q1 q2 q3 q4 (by rfl) (by omega) (.slice oa (stG e p s t.data.toList i).length oc) (stG e p s t.data.toList i).length ocs (by rfl) HOG.out ⟨w9.heap.size, 0, none⟩ 1 1 [(Value.slice (some ⟨b2, o2, none⟩) ((stE e p s t.data.toList i).length + 1) gc)] (by rfl) (by rfl) (cell_one_new w9 _ 50) ?c2 ?c3 ?c4 ?c5 ?_)
          case c2 => intro u hu; simp at hu; subst hu; rfl
          case c3 => simp only [maxLen]; omega
          case c4 => omega
          case c5 => simp; omega
          intro ov' w10 hown hgrow hnil hat
          have HB10 := Lib.hid (grown_low hBw9 hgrow fun k hk => (HOG.out.lt k hk).1)
          have hbox10 : w10.heap[wq.heap.size]? = some (.cells #[(Value.slice (some ⟨b2, o2, none⟩) ((stE e p s t.data.toList i).length + 1) gc)] 50 (0, 0)) := by
            rw [hgrow.block wq.heap.size (by have := HS9.out.lt; simp; omega) (Ne.symm HS9.out.apart), Below.heap_alloc _ _ _ HS9.out.lt]
            exact HS9.out.box
          have hcx10 : w10.cell? ⟨wq.heap.size, 0, none⟩ = some (Value.slice (some ⟨b2, o2, none⟩) ((stE e p s t.data.toList i).length + 1) gc) := by rw [cell_of_row w10 wq.heap.size 0 _ 50 (0, 0) hbox10]; rfl
          have hfx10 : w10.frozen? ⟨wq.heap.size, 0, none⟩ = false := Lib.frozen_of_heap hbox10 0
          have HS11 : Hid (St wq.heap.size wq.heap.size (stG e p s t.data.toList (i + 1)) (stE e p s t.data.toList (i + 1)) (stP e p s t.data.toList (i + 1)) ov' (.slice none 0 0) (.slice none 0 0) (ocs ++ [(Value.slice (some ⟨b2, o2, none⟩) ((stE e p s t.data.toList i).length + 1) gc)]) [] [] (w10.setCell ⟨wq.heap.size, 0, none⟩ (.slice none 0 0))) := by
            show St _ _ _ _ _ _ _ _ _ _ _ _
            rw [HS1.out, HS2.out, HS3.out]
            exact St.seg (HS9.out.grw (below_alloc w9 (.cells #[(Value.slice (some ⟨b2, o2, none⟩) ((stE e p s t.data.toList i).length + 1) gc)] 50))) hown hgrow (by simpa using hat)
          have HB11 : Hid (Below wq.heap.size wr (w10.setCell ⟨wq.heap.size, 0, none⟩ (.slice none 0 0))) := (HB9.out.trans HB10.out).setCell (p := ⟨wq.heap.size, 0, none⟩) (Nat.le_refl _) _
          have HD11 := Lib.hid (DBox.below HD.out HB11.out hwB)
          have HBw11 := Lib.hid (HBw.out.trans (HB11.out.mono (by omega)))
          clear hown hgrow hnil hat hbox10 HOG
          generalize (stG e p s t.data.toList i).length = ng at *
          go_wp2
          go_roundg (t.size - (i + 1))
          case rel => exact ⟨i + 1, i + 1, false, _, _, [], [], by omega, rfl, by go_num, by go_num, Nat.le_refl _, rfl, HB', HC', HS11, HR', HBw11, HD11⟩
          case measure => omega
        · rw [hxe] at z1 z2 HN1
          have z3 : X.toList = [] := by simpa using z1
          have HV := Lib.hid (HSy.out HN1.out)
          clear hxe HNx HSy
          generalize (stG e p s t.data.toList i).length = ng at *
          go_wp2
          go_ret2
          exact ⟨⟨_, by rw [HV.out]; rfl, by rw [rdV_bad (by rw [HV.out]; decide)]; exact SgAt.nil _ _⟩, HBw9.out⟩
      · have HV := Lib.hid (HSy.out rfl)
        rw [List.length_cons, List.length_cons] at v1 hu2
        generalize hzz : z.length + 1 + 1 = mm at v1 hu2
        have hm1 : ((mm : Int) != 1) = true := by simp; omega
        have hm2 : ((mm : Int) == 1) = false := by rw [beq_eq_false_iff_ne]; omega
        clear v3 hzz
        generalize (stG e p s t.data.toList i).length = ng at *
        go_wp2
        go_ret2
        exact ⟨⟨_, by rw [HV.out]; rfl, by rw [rdV_bad (by rw [HV.out]; decide)]; exact SgAt.nil _ _⟩, HBw9.out⟩
    have ye : ((t[i].toNat : Int) != (e.toNat : Int)) = true := by rw [u8_ne]; simpa using he
    have yp : ((t[i].toNat : Int) != (p.toNat : Int)) = true := by rw [u8_ne]; simpa using hp
    have ys : ((t[i].toNat : Int) != (s.toNat : Int)) = true := by rw [u8_ne]; simpa using hs
    obtain ⟨s1, s2, s3, s4, s5, s6⟩ := st_other HTk.out he hp hs
    have HS' : Hid (St wq.heap.size wq.heap.size (stG e p s t.data.toList (i + 1)) (stE e p s t.data.toList (i + 1)) (stP e p s t.data.toList (i + 1)) (.slice oa (stG e p s t.data.toList i).length oc) gv u10 ocs gcs pcs wr) := by show St _ _ _ _ _ _ _ _ _ _ _ _; rw [s1, s2, s3]; exact HSt.out
    have HC' : Hid ((t.data.toList.drop f).take (i + 1 - f) = curP e p s t.data.toList (i + 1)) := by show _ = _; rw [mid_snoc t f i hlt hfi, HCp.out, s4]
    have HR' : Hid (rdE e p 0 (ini s (t.data.toList.take (i + 1))) = 0) := by show _ = _; rw [s6]; exact HRd.out
    have HPr : Hid (printB (curS s t.data.toList (i + 1)) = (printB (curS s t.data.toList i) && prn t[i])) := by show _ = _; rw [s5, print_snoc]
    have hpn := prn_iff t[i]
    clear he hp hs s1 s2 s3 s4 s5 s6 l1 l2 l3
    generalize (stG e p s t.data.toList i).length = ng at *
    cases bd
    case true =>
      have HB' : Hid (true = !printB (curS s t.data.toList (i + 1))) := by show _ = _; rw [HPr.out, bool_t _ HBd.out]; rfl
      clear hpn
      go_wp2
      go_roundg (t.size - (i + 1))
      case rel => exact ⟨i + 1, f, true, gv, ocs, gcs, pcs, by omega, rfl, by go_num, rfl, by omega, rfl, HB', HC', HS', HR', HBw, HD⟩
      case measure => omega
    have hpt : printB (curS s t.data.toList i) = true := bool_f _ HBd.out
    have HPT := Lib.hid hpt
    clear hpt
    by_cases h1 : (t[i].toNat : Int) < 32
    · have HB' : Hid (true = !printB (curS s t.data.toList (i + 1))) := by
        show _ = _
        rw [HPr.out, HPT.out]
        cases hq : prn t[i]
        · rfl
        · have := hpn.1 hq; omega
      clear hpn
      go_wp2
      go_roundg (t.size - (i + 1))
      case rel => exact ⟨i + 1, f, true, gv, ocs, gcs, pcs, by omega, rfl, by go_num, rfl, by omega, rfl, HB', HC', HS', HR', HBw, HD⟩
      case measure => omega
    by_cases h2 : 126 < (t[i].toNat : Int)
    · have HB' : Hid (true = !printB (curS s t.data.toList (i + 1))) := by
        show _ = _
        rw [HPr.out, HPT.out]
        cases hq : prn t[i]
        · rfl
        · have := hpn.1 hq; omega
      clear hpn
      go_wp2
      go_roundg (t.size - (i + 1))
      case rel => exact ⟨i + 1, f, true, gv, ocs, gcs, pcs, by omega, rfl, by go_num, rfl, by omega, rfl, HB', HC', HS', HR', HBw, HD⟩
      case measure => omega
    · have HB' : Hid (false = !printB (curS s t.data.toList (i + 1))) := by
        show _ = _
        rw [HPr.out, HPT.out, hpn.2 (by omega)]
        rfl
      clear hpn
      go_wp2
      go_roundg (t.size - (i + 1))
      case rel => exact ⟨i + 1, f, false, gv, ocs, gcs, pcs, by omega, rfl, by go_num, rfl, by omega, rfl, HB', HC', HS', HR', HBw, HD⟩
      case measure => omega
end Go.Proofs.YtpmnepihaljamaaGreatDoor
end
