/-
  Texts put together (merge.py): QOne, QRWrite.
-/
import Derived.Test.YtpmnepihaljamaaGreatDoorM14
import Derived.Test.YtpmnepihaljamaaGreatDoorM32
/-
  What the reference's one answers, as a contract: a segment as a text.
-/
section
set_option linter.unusedSimpArgs false
namespace Go.Proofs.YtpmnepihaljamaaGreatDoor
open Go.RowKit
attribute [local go_sem ↓] Go.wp_at_zero Go.wp_at_succ

theorem join_take (c : UInt8) (xs : List Tx) (k : Nat) (x : Tx) (hx : xs[k]? = some x) : joinC c (xs.take (k + 1)) = (if k = 0 then [] else joinC c (xs.take k) ++ [c]) ++ x := by
  cases xs with
  | nil => simp at hx
  | cons y r =>
    cases k with
    | zero =>
      simp at hx
      subst hx
      simp [joinC_one]
    | succ k =>
      rw [List.getElem?_cons_succ] at hx
      unfold joinC
      rw [List.take_succ_cons, Lib.join_cons, List.take_succ_cons, Lib.join_cons, Lib.joinTail_take_succ [c] r k x hx, if_neg (by omega)]
      simp
def preE (e p : UInt8) (g : Sg) (i : Nat) : Tx := if i = 0 then [] else segT e p (g.take i) ++ [e]
def preP (p : UInt8) (ps : List Tx) (k : Nat) : Tx := if k = 0 then [] else joinC p (ps.take k) ++ [p]
theorem seg_take (e p : UInt8) (g : Sg) (i : Nat) (ps : List Tx) (hx : g[i]? = some ps) : segT e p (g.take (i + 1)) = preE e p g i ++ joinC p ps := by
  unfold segT preE
  rw [List.map_take, join_take e (g.map (joinC p)) i (joinC p ps) (by rw [List.getElem?_map, hx]; rfl)]
  unfold segT
  rw [List.map_take]
theorem gn_take : ∀ (g : Sg) (k : Nat), gn (g.take k) ≤ gn g
  | [], k => by simp
  | a :: r, 0 => by simp [gn]
  | a :: r, k + 1 => by have := gn_take r k; simp only [gn, List.take_succ_cons, List.map_cons, List.sum_cons] at this ⊢; omega
theorem preE_len {e p s : UInt8} {g : Sg} {i : Nat} (h : partsB e p s (g.take i) = true) : (segT e p (g.take i)).length ≤ gn g := by
  have hle := gn_take g i
  by_cases hn : g.take i = []
  · rw [hn]; simp [segT, joinC, Lib.join_nil]
  · have h1 := segT_len h hn
    simp only [gn] at hle ⊢
    omega
theorem sum_take (ps : List Tx) (k : Nat) : ((ps.take k).map fun x => 1 + x.length).sum ≤ (ps.map fun x => 1 + x.length).sum := by
  induction ps generalizing k with
  | nil => simp
  | cons a r ih => cases k with
    | zero => simp
    | succ k => have := ih k; simp only [List.take_succ_cons, List.map_cons, List.sum_cons]; omega
theorem preP_len {p : UInt8} {ps : List Tx} {k : Nat} : (joinC p (ps.take k)).length ≤ (ps.map fun x => 1 + x.length).sum := Nat.le_trans (join_short p _) (sum_take ps k)

def oneV (e p s : UInt8) (g : Sg) : Tx := if segOk e p s g then segT e p g else []
theorem one_bad {e p s : UInt8} {g : Sg} (h : segOk e p s g = false) : oneV e p s g = [] := by simp [oneV, h]
theorem one_good {e p s : UInt8} {g : Sg} (h : segOk e p s g = true) : oneV e p s g = segT e p g := by simp [oneV, h]

set_option maxHeartbeats 2000000 in
set_option maxRecDepth 100000 in
theorem one_any (e p s : UInt8) (v : Value) (g : Sg) (w : World) (h : ElAt All w v g) (hn : gn g ≤ 100000) :
    Calls Tryz.prog 90 #[dv e p s, .agg #[v]] w fun x w' => x = .returned (.tuple #[.string (mk (oneV e p s g)), .bool (segOk e p s g)]) ∧ Below w.heap.size w w' := by
  have HE0 : Hid (ElAt All w v g) := h
  have HGN := Lib.hid hn
  have HG : Hid (∀ o1 o2, Below w.heap.size w ((w.alloc o1).alloc o2)) := fun o1 o2 => below_trans (below_alloc w o1) (below_alloc _ o2)
  clear hn
  cases hnm : namedB g
  · have hko : segOk e p s g = false := by simp [segOk, hnm]
    have HV := Lib.hid (one_bad hko)
    have HK := Lib.hid hko
    clear hko
    obtain ⟨a, c, rfl, h1, h2, h3⟩ := h
    unfold maxLen at h2
    rcases g with _ | ⟨ps, r⟩
    · clear h3 hnm
      go_enter Tryz.func90, Tryz.ntmps90
      go_wp2
      go_ret2
      exact ⟨by rw [HV.out, HK.out]; rfl, HG.out _ _⟩
    · rcases h3 with h3 | ⟨b, o, rfl, _, hb, hc⟩
      · cases h3
      obtain ⟨u, hu, a', c', rfl, h1', h2', h3'⟩ := hc 0 ps rfl
      rw [Nat.add_zero] at hu
      have hu' : ∀ o1 o2, ((w.alloc o1).alloc o2).cell? ⟨b, o, none⟩ = some (.slice a' ps.length c') := fun o1 o2 => by rw [(HG.out o1 o2).cell (p := ⟨b, o, none⟩) hb]; exact hu
      unfold maxLen at h2'
      rw [List.length_cons] at h1 ⊢
      generalize r.length = n at h1 ⊢
      clear hc hu
      rcases ps with _ | ⟨x, _ | ⟨y, z⟩⟩
      · clear h3' hnm
        go_enter Tryz.func90, Tryz.ntmps90
        go_wp2
        go_ret2
        exact ⟨by rw [HV.out, HK.out]; rfl, HG.out _ _⟩
      · rcases h3' with h3' | ⟨b', o', rfl, _, hb', hc'⟩
        · cases h3'
        obtain ⟨u', hu2, rfl⟩ := hc' 0 x rfl
        rw [Nat.add_zero] at hu2
        have hu2' : ∀ o1 o2, ((w.alloc o1).alloc o2).cell? ⟨b', o', none⟩ = some (.string (mk x)) := fun o1 o2 => by rw [(HG.out o1 o2).cell (p := ⟨b', o', none⟩) hb']; exact hu2
        have hxe : x = [] := by
          cases x with
          | nil => rfl
          | cons a t => cases hnm
        have e3 : (mk x).toList = [] := by rw [Lib.toList_data, mk_list, hxe]
        have e1 : ((mk x).toList == []) = true := by rw [e3]; rfl
        have e2 : (mk x).toList.isEmpty = true := by rw [e3]; rfl
        clear hc' hxe hnm hu2
        generalize mk x = X at *
        go_enter Tryz.func90, Tryz.ntmps90
        go_wp2
        go_ret2
        exact ⟨by rw [HV.out, HK.out]; rfl, HG.out _ _⟩
      · rw [List.length_cons, List.length_cons] at h1' hu'
        generalize hz : z.length + 1 + 1 = m at h1' hu'
        have hm : ((m : Int) != 1) = true := by simp; omega
        have hm2 : ((m : Int) == 1) = false := by rw [beq_eq_false_iff_ne]; omega
        clear h3' hz hnm
        go_enter Tryz.func90, Tryz.ntmps90
        go_wp2
        go_ret2
        exact ⟨by rw [HV.out, HK.out]; rfl, HG.out _ _⟩
  obtain ⟨nm, gr, hgx, hne⟩ : ∃ nm gr, g = [nm] :: gr ∧ nm ≠ [] := by
    rcases g with _ | ⟨ps, r⟩
    · cases hnm
    · rcases ps with _ | ⟨x, _ | ⟨y, z⟩⟩
      · cases hnm
      · exact ⟨x, r, rfl, fun e0 => by subst e0; cases hnm⟩
      · cases hnm
  obtain ⟨a, c, rfl, h1, h2, h3⟩ := h
  unfold maxLen at h2
  obtain ⟨b0, o0, rfl, hb0, hc0⟩ : ∃ b o, a = some ⟨b, o, none⟩ ∧ b < w.heap.size ∧ ∀ (j : Nat) x, g[j]? = some x → ∃ u, w.cell? ⟨b, o + j, none⟩ = some u ∧ TxAt All w u x := by
    rcases h3 with h3 | ⟨b, o, h, _, hb, hc⟩
    · rw [hgx] at h3; cases h3
    · exact ⟨b, o, h, hb, hc⟩
  obtain ⟨u, hu, a', c', rfl, h1', h2', h3'⟩ := hc0 0 [nm] (by rw [hgx]; rfl)
  obtain ⟨b1, o1, rfl, hb1, hc1⟩ : ∃ b o, a' = some ⟨b, o, none⟩ ∧ b < w.heap.size ∧ w.cell? ⟨b, o, none⟩ = some (.string (mk nm)) := by
    rcases h3' with h3' | ⟨b, o, h, _, hb, hc⟩
    · cases h3'
    · obtain ⟨u, h4, rfl⟩ := hc 0 nm rfl
      exact ⟨b, o, h, hb, h4⟩
  rw [Nat.add_zero] at hu
  have hu' : ∀ o3 o4, ((w.alloc o3).alloc o4).cell? ⟨b0, o0, none⟩ = some (.slice (some ⟨b1, o1, none⟩) 1 c') := fun o3 o4 => by rw [(HG.out o3 o4).cell (p := ⟨b0, o0, none⟩) hb0]; exact hu
  have hc1' : ∀ o3 o4, ((w.alloc o3).alloc o4).cell? ⟨b1, o1, none⟩ = some (.string (mk nm)) := fun o3 o4 => by rw [(HG.out o3 o4).cell (p := ⟨b1, o1, none⟩) hb1]; exact hc1
  have e1 : ((mk nm).toList == []) = false := by rw [Lib.toList_data, mk_list]; cases nm with
    | nil => exact absurd rfl hne
    | cons x t => rfl
  have e3 : ¬ (mk nm).toList = [] := by intro e; rw [e] at e1; cases e1
  have e2 : (mk nm).toList.isEmpty = false := by cases h : (mk nm).toList with
    | nil => exact absurd h e3
    | cons x t => rfl
  have hgl : 0 < g.length := by rw [hgx]; simp
  have hgl2 : ((g.length : Int) == 0) = false := by rw [beq_eq_false_iff_ne]; omega
  have HNM := Lib.hid hnm
  clear hgx hne hc0 hc1 hu h3 h3' hnm
  generalize mk nm = NM at *
  go_enter Tryz.func90, Tryz.ntmps90
  go_wp2
  clear hu' hc1' e1 e2 e3
  go_loopg [6, 7] (g.length) (fun gg out i wr => ∃ (k : Nat) (O : ByteArray), k ≤ g.length ∧ gg = g.length - k ∧ i = .int .i64 k ∧ out = .string O ∧ O.size ≤ 100000 ∧ Hid (O = mk (segT e p (g.take k))) ∧ Hid (partsB e p s (g.take k) = true) ∧ Hid (Below w.heap.size w wr) ∧ Hid (ElAt All wr (.slice (some ⟨b0, o0, none⟩) g.length c) g) ∧ Hid (DBox wr w.heap.size e p s) ∧ Hid (wr.cell? ⟨w.heap.size + 1, 0, none⟩ = some (.slice (some ⟨b0, o0, none⟩) g.length c)))
  case atStart =>
    refine ⟨0, ⟨#[]⟩, Nat.zero_le _, rfl, rfl, rfl, by decide, rfl, rfl, HG.out _ _, ElAt.move HE0.out (Below.moves (HG.out _ _)), DBox.grw (DBox.new w e p s) (below_alloc _ _), ?_⟩
    show _ = _
    simp
  case round =>
    clear HE0
    obtain ⟨i, O, hi, hgi, rfl, rfl, hO, HO, HPt, HBw, HE, HD, HBx⟩ := hrel
    by_cases hlt : i < g.length
    · obtain ⟨b, o, u, hsl, hx, hu, hr⟩ := RowAt.get HE.out i hlt
      obtain ⟨rfl, rfl⟩ : b0 = b ∧ o0 = o := by simpa using hsl
      have HR : Hid (TxAt All wr u g[i]) := hr
      have HST := Lib.hid (seg_take e p g i _ hx)
      have HPS := Lib.hid (parts_snoc e p s g i _ hx HPt.out)
      have HPF := Lib.hid (parts_false e p s g i _ hx)
      have hpn : (g[i].map fun x => 1 + x.length).sum ≤ 100000 := Nat.le_trans (pn_le (List.mem_of_getElem? hx)) HGN.out
      have HPE : Hid (preE e p g i = if i = 0 then [] else segT e p (g.take i) ++ [e]) := rfl
      obtain ⟨a2, c2, rfl, hv1, hv2, -⟩ := hr
      unfold maxLen at hv2
      clear hsl hx
      generalize g[i] = ps at *
      obtain ⟨-, d0, d1, d2⟩ := HD.out
      have hbx := HBx.out
      go_upto_if 38 with fail
      go_cut [6] (fun s6 wx => ∃ O' : ByteArray, s6 = .string O' ∧ O'.size ≤ 100001 ∧ Hid (O' = mk (preE e p g i)) ∧ Hid (Below wr.heap.size wr wx))
      case first =>
        by_cases h0 : i = 0
        · subst h0
          go_wp2
          go_meet
          exact ⟨O, rfl, by omega, by show _ = _; rw [HO.out, HPE.out]; rfl, Below.refl _ _⟩
        · have h0' : (0 : Int) < (i : Int) := by omega
          have hcv := conv1 wr e
          have hms := mk_size [e]
          have HA : Hid (O ++ mk [e] = mk (preE e p g i)) := by show _ = _; rw [HPE.out, if_neg h0, HO.out, mk_app]
          generalize mk [e] = ME at *
          have hms' : ME.size = 1 := hms
          clear hms h0
          go_wp2
          go_meet
          exact ⟨O ++ ME, rfl, by rw [ByteArray.size_append]; omega, HA, below_alloc wr _⟩
      case rest =>
        obtain ⟨O', rfl, hO', HO', HBc⟩ := hcut
        have HAll : Hid (∀ W, Below wr.heap.size wr W → Below w.heap.size w W ∧ ElAt All W (.slice (some ⟨b0, o0, none⟩) g.length c) g ∧ DBox W w.heap.size e p s ∧ W.cell? ⟨w.heap.size + 1, 0, none⟩ = some (.slice (some ⟨b0, o0, none⟩) g.length c) ∧ W.cell? ⟨b0, o0 + i, none⟩ = some (.slice a2 ps.length c2) ∧ TxAt All W (.slice a2 ps.length c2) ps) := fun W hW => by
          refine ⟨below_trans HBw.out hW, ElAt.move HE.out (Below.moves hW), DBox.grw HD.out hW, ?_, ?_, TxAt.move HR.out (Below.moves hW)⟩
          · rw [hW.cell (World.block_lt_of_cell? _ _ HBx.out)]; exact HBx.out
          · rw [hW.cell (World.block_lt_of_cell? _ _ hu)]; exact hu
        clear d0 d1 d2 hbx hu HO
        obtain ⟨-, -, -, hbx, hu, -⟩ := HAll.out _ HBc.out
        by_cases hp0 : ps = []
        · have hko : segOk e p s g = false := by simp [segOk, HPF.out (Or.inl hp0)]
          have HK := Lib.hid hko
          have HVV := Lib.hid (one_bad hko)
          subst hp0
          have HBz := Lib.hid (HAll.out _ HBc.out).1
          clear hko
          go_wp2
          go_ret2
          exact ⟨by rw [HVV.out, HK.out]; rfl, HBz.out⟩
        have hpl : ((ps.length : Int) == 0) = false := by
          rw [beq_eq_false_iff_ne]
          intro e0
          exact hp0 (List.length_eq_zero_iff.1 (by omega))
        have HP0 := Lib.hid hp0
        clear hp0
        go_wp2
        go_loopg [6, 8] (ps.length) (fun gg out k wq => ∃ (j : Nat) (Q : ByteArray), j ≤ ps.length ∧ gg = ps.length - j ∧ k = .int .i64 j ∧ out = .string Q ∧ Q.size ≤ 200001 ∧ Hid (Q = mk (preE e p g i ++ joinC p (ps.take j))) ∧ Hid ((ps.take j).all (plainB e p s) = true) ∧ Hid (Below wr.heap.size wr wq))
        case atStart => exact ⟨0, O', Nat.zero_le _, rfl, rfl, rfl, by omega, by show _ = _; rw [HO'.out]; simp [joinC, Lib.join_nil], rfl, HBc⟩
        case round =>
          clear hbx hu HBc HO'
          obtain ⟨j, Q, hj, hgj, rfl, rfl, hQ, HQ, HAj, HBq⟩ := hrel
          obtain ⟨-, -, ⟨-, d0, d1, d2⟩, hbx, hu, htx⟩ := HAll.out _ HBq.out
          by_cases hltj : j < ps.length
          · obtain ⟨b2, o2, u2, rfl, hx2, hu2, rfl⟩ := RowAt.get htx j hltj
            have HT2 := Lib.hid (all_take (plainB e p s) ps j _ hx2 HAj.out)
            have HN2 := Lib.hid (all_not (plainB e p s) ps j _ hx2)
            have HJT := Lib.hid (join_take p ps j _ hx2)
            have hxl : ps[j].length ≤ 100000 := by have := xn_le (List.mem_of_getElem? hx2); omega
            have hcall := fun W => rplain_any e p s (mk ps[j]) W (by rw [mk_size]; simp only [maxLen]; omega)
            rw [mk_list] at hcall
            have HC := Lib.hid hcall
            have hsx := mk_size ps[j]
            clear hcall hx2
            generalize hXe : ps[j] = x at *
            clear hXe
            have HSix : Hid (∀ W, Below wr.heap.size wr W → (W.cell? ⟨w.heap.size, 0, none⟩ = some (.int .u8 e.toNat) ∧ W.cell? ⟨w.heap.size, 1, none⟩ = some (.int .u8 p.toNat) ∧ W.cell? ⟨w.heap.size, 2, none⟩ = some (.int .u8 s.toNat) ∧ W.cell? ⟨w.heap.size + 1, 0, none⟩ = some (.slice (some ⟨b0, o0, none⟩) g.length c) ∧ W.cell? ⟨b0, o0 + i, none⟩ = some (.slice (some ⟨b2, o2, none⟩) ps.length c2) ∧ W.cell? ⟨b2, o2 + j, none⟩ = some (.string (mk x)))) := fun W hW => by
              obtain ⟨-, -, ⟨-, q0, q1, q2⟩, q3, q4, -⟩ := HAll.out _ (below_trans HBq.out hW)
              exact ⟨q0, q1, q2, q3, q4, by rw [hW.cell (World.block_lt_of_cell? _ _ hu2)]; exact hu2⟩
            have HPP0 : Hid (preP p ps j = if j = 0 then [] else joinC p (ps.take j) ++ [p]) := rfl
            go_upto_if 63 with fail
            go_cut [6] (fun s6 wx => ∃ Q' : ByteArray, s6 = .string Q' ∧ Q'.size ≤ 200002 ∧ Hid (Q' = mk (preE e p g i ++ preP p ps j)) ∧ Hid (Below wr.heap.size wr wx))
            case first =>
              by_cases h0 : j = 0
              · subst h0
                go_wp2
                go_meet
                exact ⟨Q, rfl, by omega, by show _ = _; rw [HQ.out, HPP0.out]; simp [joinC, Lib.join_nil], Below.refl _ _⟩
              · have h0' : (0 : Int) < (j : Int) := by omega
                have hcv := conv1 wr p
                have hms := mk_size [p]
                have HA : Hid (Q ++ mk [p] = mk (preE e p g i ++ preP p ps j)) := by show _ = _; rw [HPP0.out, if_neg h0, HQ.out, mk_app, List.append_assoc]
                generalize mk [p] = ME at *
                have hms' : ME.size = 1 := hms
                clear hms h0
                go_wp2
                go_meet
                exact ⟨Q ++ ME, rfl, by rw [ByteArray.size_append]; omega, HA, below_alloc wr _⟩
            case rest =>
              obtain ⟨Q', rfl, hQ', HQ', HBc⟩ := hcut
              clear d0 d1 d2 hbx hu hu2 HQ htx
              obtain ⟨t0, t1, t2, t3, t4, t5⟩ := HSix.out _ HBc.out
              have HNXT : Hid (Q' ++ mk x = mk (preE e p g i ++ joinC p (ps.take (j + 1)))) := by
                show _ = _
                rw [HQ'.out, mk_app, HJT.out, List.append_assoc]
                rfl
              have hnl : (Q' ++ mk x).size ≤ 200001 := by
                rw [HNXT.out, mk_size, List.length_append]
                have h1 := preP_len (p := p) (ps := ps) (k := j + 1)
                have h2 := preE_len HPt.out
                have h3 : (preE e p g i).length ≤ (segT e p (g.take i)).length + 1 := by rw [HPE.out]; split <;> simp
                have h4 := HGN.out
                omega
              generalize mk x = X at *
              have HCd : Hid (Below wr.heap.size wr wc.drew) := Below.drew HBc.out
              cases hpl : plainB e p s x
              · rw [hpl] at HC
                have hko : segOk e p s g = false := by simp [segOk, HPF.out (Or.inr (HN2.out hpl))]
                have HK := Lib.hid hko
                have HVV := Lib.hid (one_bad hko)
                clear hko hpl
                go_wp2_with fail
                go_region_held3 (fun w' => w'.cell? ⟨w.heap.size, 0, none⟩ = some (.int .u8 e.toNat) ∧ w'.cell? ⟨w.heap.size, 1, none⟩ = some (.int .u8 p.toNat) ∧ w'.cell? ⟨w.heap.size, 2, none⟩ = some (.int .u8 s.toNat) ∧ w'.cell? ⟨w.heap.size + 1, 0, none⟩ = some (.slice (some ⟨b0, o0, none⟩) g.length c) ∧ w'.cell? ⟨b0, o0 + i, none⟩ = some (.slice (some ⟨b2, o2, none⟩) ps.length c2) ∧ w'.cell? ⟨b2, o2 + j, none⟩ = some (.string X)) (go_keep) (first | (go_at_call 119; refine (HC.out _).mono ?_; rintro y x5 ⟨rfl, hb⟩; have HCe := Lib.hid (below_trans HCd.out hb); obtain ⟨r0, r1, r2, r3, r4, r5⟩ := HSix.out _ HCe.out; clear hb))
                all_goals
                  have HBz := Lib.hid (HAll.out _ (below_trans HBq.out HCe.out)).1
                  go_wp2
                  go_ret2
                  exact ⟨by rw [HVV.out, HK.out]; rfl, HBz.out⟩
              · rw [hpl] at HC
                have HT3 := Lib.hid (HT2.out hpl)
                clear hpl
                go_wp2_with fail
                go_region_held3 (fun w' => w'.cell? ⟨w.heap.size, 0, none⟩ = some (.int .u8 e.toNat) ∧ w'.cell? ⟨w.heap.size, 1, none⟩ = some (.int .u8 p.toNat) ∧ w'.cell? ⟨w.heap.size, 2, none⟩ = some (.int .u8 s.toNat) ∧ w'.cell? ⟨w.heap.size + 1, 0, none⟩ = some (.slice (some ⟨b0, o0, none⟩) g.length c) ∧ w'.cell? ⟨b0, o0 + i, none⟩ = some (.slice (some ⟨b2, o2, none⟩) ps.length c2) ∧ w'.cell? ⟨b2, o2 + j, none⟩ = some (.string X)) (go_keep) (first | (go_at_call 119; refine (HC.out _).mono ?_; rintro y x5 ⟨rfl, hb⟩; have HCe := Lib.hid (below_trans HCd.out hb); obtain ⟨r0, r1, r2, r3, r4, r5⟩ := HSix.out _ HCe.out; clear hb))
                all_goals
                  have HBz := Lib.hid (below_trans HBq.out HCe.out)
                  go_wp2
                  go_roundg (ps.length - (j + 1))
                  case rel => exact ⟨j + 1, Q' ++ X, by omega, rfl, by go_num, rfl, hnl, HNXT, HT3, HBz⟩
                  case measure => omega
          · have hall : ps.take j = ps := List.take_of_length_le (by omega)
            rw [hall] at HAj HQ
            have hq2 : Q = mk (segT e p (g.take (i + 1))) := by rw [HST.out]; exact HQ.out
            have hpp := HPS.out HP0.out HAj.out
            have hqs : Q.size ≤ 100000 := by rw [hq2, mk_size]; exact Nat.le_trans (preE_len hpp) HGN.out
            have HQ2 := Lib.hid hq2
            have HPP := Lib.hid hpp
            obtain ⟨y1, y2, y3, y4, -, -⟩ := HAll.out _ HBq.out
            have Y1 := Lib.hid y1
            have Y2 := Lib.hid y2
            have Y3 := Lib.hid y3
            have Y4 := Lib.hid y4
            clear hall hq2 hpp y1 y2 y3 y4 htx
            go_wp2
            go_roundg (g.length - (i + 1))
            case rel => exact ⟨i + 1, Q, by omega, rfl, by go_num, rfl, hqs, HQ2, HPP, Y1, Y2, Y3, Y4⟩
            case measure => omega
    · have hall : g.take i = g := List.take_of_length_le (by omega)
      rw [hall] at HO HPt
      have hko : segOk e p s g = true := by simp [segOk, HNM.out, HPt.out]
      have HK := Lib.hid hko
      have HVV := Lib.hid (one_good hko)
      have hbx := HBx.out
      clear hall hko
      go_wp2
      go_ret2
      exact ⟨by rw [HVV.out, HK.out, ← HO.out]; rfl, HBw.out⟩
end Go.Proofs.YtpmnepihaljamaaGreatDoor
end

/-
  What the reference's Write answers, as a contract: for every segments that are light.
-/
section
set_option linter.unusedSimpArgs false
namespace Go.Proofs.YtpmnepihaljamaaGreatDoor
open Go.RowKit
attribute [local go_sem ↓] Go.wp_at_zero Go.wp_at_succ

set_option maxHeartbeats 2000000 in
theorem rwrite_any (e p s : UInt8) (v : Value) (l : List Sg) (w : World) (h : SgAt All w v l) (hn : ln l ≤ 100000) :
    Calls Tryz.prog 57 #[dv e p s, v] w fun x w' => x = .returned (.tuple #[.string (mk (wrV e p s l)), .int .i64 (wrE e p s l)]) ∧ Below w.heap.size w w' := by
  have HS0 : Hid (SgAt All w v l) := h
  have HNL := Lib.hid hn
  obtain ⟨a, c, rfl, h1, h2, -⟩ := h
  unfold maxLen at h2
  have HGD := Lib.hid (rgood_any e p s)
  clear hn
  cases hg : goodB e p s
  · rw [hg] at HGD
    have HO : Hid (wrOk e p s l = false) := by show wrOk e p s l = false; simp [wrOk, hg]
    clear hg
    go_enter Tryz.func57, Tryz.ntmps57
    go_wp2_with (go_at_call 17; refine (HGD.out _).mono ?_; rintro x w1 ⟨rfl, hb⟩; have HB1 := Lib.hid (below_trans (below_alloc w _) hb); clear hb)
    go_ret2
    exact ⟨by rw [(wr_bad HO.out).1, (wr_bad HO.out).2]; rfl, HB1.out⟩
  rw [hg] at HGD
  have HG := Lib.hid hg
  clear hg
  by_cases hl : l.length ≤ 4096
  case neg =>
    have hl' : (4096 : Int) < (l.length : Int) := by omega
    have HO : Hid (wrOk e p s l = false) := by show wrOk e p s l = false; simp [wrOk, hl]
    clear hl
    go_enter Tryz.func57, Tryz.ntmps57
    go_wp2_with (go_at_call 17; refine (HGD.out _).mono ?_; rintro x w1 ⟨rfl, hb⟩; have HB1 := Lib.hid (below_trans (below_alloc w _) hb); clear hb)
    go_ret2
    exact ⟨by rw [(wr_bad HO.out).1, (wr_bad HO.out).2]; rfl, HB1.out⟩
  have HL := Lib.hid hl
  have hl' : ¬ (4096 : Int) < (l.length : Int) := by omega
  go_enter Tryz.func57, Tryz.ntmps57
  go_wp2_with (go_at_call 17; refine (HGD.out _).mono ?_; rintro x w1 ⟨rfl, hb⟩; have HB1 := Lib.hid (below_trans (below_alloc w _) hb); have HD1 := Lib.hid (DBox.grw (DBox.new w e p s) hb); clear hb)
  go_loopg [6, 7] (l.length) (fun gg out i wr => ∃ (k : Nat) (O : ByteArray), k ≤ l.length ∧ gg = l.length - k ∧ i = .int .i64 k ∧ out = .string O ∧ O.size ≤ 100000 ∧ Hid (O = mk (wrT e p s (l.take k))) ∧ Hid (∀ g ∈ l.take k, segOk e p s g = true) ∧ Hid (Below w.heap.size w wr) ∧ Hid (SgAt All wr (.slice a l.length c) l) ∧ Hid (DBox wr w.heap.size e p s))
  case atStart => exact ⟨0, ⟨#[]⟩, Nat.zero_le _, rfl, rfl, rfl, by decide, rfl, fun g hg => by simp at hg, HB1, SgAt.move HS0.out (Below.moves HB1.out), HD1⟩
  case round =>
    clear HB1 HD1 HS0 HGD
    obtain ⟨k, O, hk, hgk, rfl, rfl, hO, HO, HOk, HBw, HSg, HD⟩ := hrel
    by_cases hlt : k < l.length
    · obtain ⟨b, o, u, rfl, hx, hu, hr⟩ := RowAt.get HSg.out k hlt
      have hmem : l[k] ∈ l := List.getElem_mem _
      have HE : Hid (ElAt All wr u l[k]) := hr
      have HWS := Lib.hid (wr_snoc e p s l k _ hx)
      have HLT : Hid (ln (l.take (k + 1)) ≤ 100000) := Nat.le_trans (ln_take l (k + 1)) HNL.out
      have HTK : Hid (l.take (k + 1) = l.take k ++ [l[k]]) := by show _ = _; rw [List.take_add_one, hx]; rfl
      have hgn : gn l[k] ≤ 100000 := Nat.le_trans (gn_le hmem) HNL.out
      have HBAD : Hid (segOk e p s l[k] = false → wrOk e p s l = false) := ok_false hmem
      clear hx hmem
      obtain ⟨au, cu, rfl, hu1, hu2, -⟩ := hr
      unfold maxLen at hu2
      generalize l[k] = g at *
      have HOn := Lib.hid fun W h => one_any e p s (.slice au g.length cu) g W h hgn
      clear hgn
      have HFo : Hid (∀ W, Below wr.heap.size wr W → (W.cell? ⟨w.heap.size, 0, none⟩ = some (.int .u8 e.toNat) ∧ W.cell? ⟨w.heap.size, 1, none⟩ = some (.int .u8 p.toNat) ∧ W.cell? ⟨w.heap.size, 2, none⟩ = some (.int .u8 s.toNat) ∧ W.cell? ⟨b, o + k, none⟩ = some (.slice au g.length cu)) ∧ ElAt All W (.slice au g.length cu) g ∧ Below w.heap.size w W ∧ SgAt All W (.slice (some ⟨b, o, none⟩) l.length c) l ∧ DBox W w.heap.size e p s) := fun W hW => by
        have hd := DBox.grw HD.out hW
        exact ⟨⟨hd.2.1, hd.2.2.1, hd.2.2.2, by rw [hW.cell (World.block_lt_of_cell? _ _ hu)]; exact hu⟩, ElAt.move HE.out (Below.moves hW), below_trans HBw.out hW, SgAt.move HSg.out (Below.moves hW), hd⟩
      obtain ⟨-, d0, d1, d2⟩ := HD.out
      have HR : Hid (Below wr.heap.size wr wr.drew) := Below.drew (Below.refl _ _)
      cases hko : segOk e p s g
      · rw [one_bad hko, hko] at HOn
        have HOf := Lib.hid (HBAD.out hko)
        have HOn2 : Hid (∀ W, ElAt All W (.slice au g.length cu) g → Calls Tryz.prog 90 #[dv e p s, .agg #[.slice au g.length cu]] W fun x w' => x = .returned (.tuple #[.string ⟨#[]⟩, .bool false]) ∧ Below W.heap.size W w') := HOn.out
        clear hko HOn
        go_wp2_with fail
        go_region_held3 (fun w' => w'.cell? ⟨w.heap.size, 0, none⟩ = some (.int .u8 e.toNat) ∧ w'.cell? ⟨w.heap.size, 1, none⟩ = some (.int .u8 p.toNat) ∧ w'.cell? ⟨w.heap.size, 2, none⟩ = some (.int .u8 s.toNat) ∧ w'.cell? ⟨b, o + k, none⟩ = some (.slice au g.length cu)) (go_keep) (first | (go_at_call 90; refine (HOn2.out _ (HFo.out _ HR.out).2.1).mono ?_; rintro x x1 ⟨rfl, hb⟩; have HR1 := Lib.hid (below_trans HR.out hb); obtain ⟨⟨q0, q1, q2, q3⟩, -, -, -, -⟩ := HFo.out _ HR1.out; clear hb))
        all_goals
          have HBz := Lib.hid (HFo.out _ HR1.out).2.2.1
          go_wp2
          go_ret2
          exact ⟨by rw [(wr_bad HOf.out).1, (wr_bad HOf.out).2]; rfl, HBz.out⟩
      · rw [one_good hko, hko] at HOn
        have hok : ∀ g' ∈ l.take (k + 1), segOk e p s g' = true := fun g' hg' => by
          rw [HTK.out] at hg'
          rcases List.mem_append.1 hg' with h | h
          · exact HOk.out g' h
          · rw [List.mem_singleton.1 h]; exact hko
        have HOk2 := Lib.hid hok
        have hlen := wrT_len (e := e) (p := p) (s := s) (l.take (k + 1)) hok
        have hlt2 := HLT.out
        have hsz := mk_size (segT e p g)
        have hms := mk_size [s]
        have HNX : Hid (O ++ mk (segT e p g) ++ mk [s] = mk (wrT e p s (l.take (k + 1)))) := by show _ = _; rw [HO.out, mk_app, mk_app, HWS.out, List.append_assoc]
        have hns : (mk (wrT e p s (l.take (k + 1)))).size ≤ 100000 := by rw [mk_size, hlen]; exact hlt2
        rw [HWS.out, List.length_append, List.length_append] at hlen
        have hxs : (mk (segT e p g)).size ≤ 100000 := by rw [hsz]; omega
        have hcv := fun W => conv1 W s
        rw [← HNX.out] at hns
        generalize mk [s] = MS at *
        generalize mk (segT e p g) = X at *
        have hms' : MS.size = 1 := hms
        have hox : (O ++ X).size ≤ 200000 := by rw [ByteArray.size_append]; omega
        clear hko hok hlen hlt2 hsz hms
        go_wp2_with fail
        go_region_held3 (fun w' => w'.cell? ⟨w.heap.size, 0, none⟩ = some (.int .u8 e.toNat) ∧ w'.cell? ⟨w.heap.size, 1, none⟩ = some (.int .u8 p.toNat) ∧ w'.cell? ⟨w.heap.size, 2, none⟩ = some (.int .u8 s.toNat) ∧ w'.cell? ⟨b, o + k, none⟩ = some (.slice au g.length cu)) (go_keep) (first | (go_at_call 90; refine (HOn.out _ (HFo.out _ HR.out).2.1).mono ?_; rintro x x1 ⟨rfl, hb⟩; have HR1 := Lib.hid (below_trans HR.out hb); obtain ⟨⟨q0, q1, q2, q3⟩, -, -, -, -⟩ := HFo.out _ HR1.out; clear hb))
        all_goals
          have hcv1 := hcv x1
          clear hcv
          go_wp2
          go_roundg (l.length - (k + 1))
          case rel =>
            obtain ⟨-, -, z1, z2, z3⟩ := HFo.out _ (below_trans HR1.out (below_alloc x1 (.cells #[.int .u8 s.toNat] 5)))
            exact ⟨k + 1, O ++ X ++ MS, by omega, rfl, by go_num, rfl, hns, HNX, HOk2, z1, z2, z3⟩
          case measure => omega
    · have hall : l.take k = l := List.take_of_length_le (by omega)
      rw [hall] at HO HOk
      clear hall
      have HOt := Lib.hid (ok_true HG.out HL.out HOk.out)
      go_wp2
      go_ret2
      exact ⟨by rw [(wr_good HOt.out).1, (wr_good HOt.out).2, ← HO.out]; rfl, HBw.out⟩
end Go.Proofs.YtpmnepihaljamaaGreatDoor
end
