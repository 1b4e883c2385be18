/-
  Texts put together (merge.py): ZPrint.
-/
import Derived.Test.YtmoldgmfhcmceaaGreatDoorMp17
import Derived.Test.YtmoldgmfhcmceaaGreatDoorMp28
import Derived.Test.YtmoldgmfhcmceaaGreatDoorMp16
import Derived.Test.YtmoldgmfhcmceaaGreatDoorMp29
import Derived.Test.YtmoldgmfhcmceaaGreatDoorMp30
/-
  What fees.printMod, printNet and Print answer, as contracts: for every table.
-/
section
set_option linter.unusedSimpArgs false
set_option linter.unusedVariables false
set_option maxRecDepth 100000
namespace Go.Proofs.YtmoldgmfhcmceaaGreatDoor.Fe
open Go.RowKit
open Wo (Wd WdsAt keepB box_cell box_two heap_far below_alloc below_trans)

def txc (xs : List Tx) : List Value := xs.map fun x => .string (mk x)
theorem infoS : ∃ i, Tryz.prog.info? 9 = some i ∧ i.zero = some (.string ByteArray.empty) ∧ i.size = 1 ∧ i.bytes = 16 := by
  have hi : (Tryz.prog.info? 9).map (fun i => (i.zero, i.size, i.bytes)) = some (some (.string ByteArray.empty), 1, 16) := by kernel_rfl
  cases hq : Tryz.prog.info? 9 with
  | none => rw [hq] at hi; cases hi
  | some i =>
    rw [hq] at hi
    simp only [Option.map_some, Option.some.injEq, Prod.mk.injEq] at hi
    exact ⟨i, rfl, hi⟩
/-- append(v, x...) over texts. -/
theorem wp_appT {o : Oper} {a : Act} {w : World} {K : Act → World → Prop} {Q : Exit → Act → World → Prop} (s x : Operand) (ho : o.op = .call { callee := .builtin .append, args := #[s, x], argTypes := #[35, 35] })
    (B : Nat) (v : Value) (L : List Tx) (hs : a.eval s = v) (hown : w.ownsRow B 9 1 v L.length (txc L)) (ad : Addr) (m c : Nat) (ts : List Tx) (hx : a.eval x = .slice (some ad) m c) (hm : m = ts.length) (h0 : 0 < ts.length)
    (hc : ∀ j u, (txc ts)[j]? = some u → w.cell? (ad.add j) = some u) (hbd : L.length + ts.length ≤ 1000000) (hB : B ≤ w.heap.size)
    (h : ∀ v' w', w'.ownsRow B 9 1 v' (L ++ ts).length (txc (L ++ ts)) → w.grownBy w' v.ownBlock → (v'.ownBlock = v.ownBlock ∨ v'.ownBlock = some w.heap.size) → K (a.put o.dst v') w') : o.wp Tryz.prog a w K Q := by
  obtain ⟨i, q1, q2, q3, q4⟩ := infoS
  refine wp_append_lies w s x 35 ho B 9 i _ 1 16 Tryz.underlying35 q1 q2 q3 q4 rfl (by omega) v L.length (txc L) hs hown ad m c (txc ts) hx (by rw [hm]; simp [txc]) hc (fun u hu => by obtain ⟨t, -, rfl⟩ := List.mem_map.1 hu; rfl) (by omega) (by unfold maxLen; omega) (by omega) hB w.heap.size rfl fun g cap w' hown' hg hat _ => ?_
  refine h _ w' (by rw [show txc (L ++ ts) = txc L ++ txc ts by simp [txc], List.length_append, ← hm]; exact hown') hg ?_
  rcases hat with e | e
  · exact Or.inl (by rw [e]; rfl)
  · exact Or.inr (by rw [e]; rfl)
theorem tx_own {w : World} {B : Nat} {v : Value} {L : List Tx} (h : w.ownsRow B 9 1 v L.length (txc L)) : TxAt All w v L :=
  row_of_own h (fun _ _ => trivial) (fun j u y hu hy => by
    unfold txc at hu
    rw [List.getElem?_map, hy] at hu
    exact (Option.some.inj hu).symm)
theorem printMod_any (s : Tx) (w : World) : Calls Tryz.prog 21 #[.string (mk s)] w fun e w' => e = .returned (.string (mk (if s = [] then tNone else s))) ∧ w' = w := by
  by_cases h : s = []
  · have q : (mk s).toList.isEmpty = true := by rw [mk_emp]; exact decide_eq_true h
    rw [if_pos h]
    clear h
    go_enter Tryz.func21, Tryz.ntmps21
    go_wp2
    go_ret
    exact ⟨rfl, rfl⟩
  · have q : (mk s).toList.isEmpty = false := by rw [mk_emp]; exact decide_eq_false h
    rw [if_neg h]
    clear h
    go_enter Tryz.func21, Tryz.ntmps21
    go_wp2
    go_ret
    exact ⟨rfl, rfl⟩
theorem printNet_any (n : Int) (w : World) (h0 : 0 ≤ n) (h1 : n ≤ 1) : Calls Tryz.prog 22 #[.int .i64 n] w fun e w' => e = .returned (.string (mk (if n = 1 then tOut else tIn))) ∧ w' = w := by
  by_cases h : n = 1
  · have q : (n == 0) = false := by rw [beq_eq_false_iff_ne]; omega
    rw [if_pos h]
    clear h h0 h1
    go_enter Tryz.func22, Tryz.ntmps22
    go_wp2
    go_ret
    exact ⟨rfl, rfl⟩
  · have q : (n == 0) = true := by rw [beq_iff_eq]; omega
    rw [if_neg h]
    obtain ⟨V, hV, q'⟩ : ∃ V : Bool, V = true ∧ (n == 0) = V := ⟨_, q, rfl⟩
    clear h h0 h1 q
    go_enter Tryz.func22, Tryz.ntmps22
    go_wp2
    go_ret
    exact ⟨rfl, rfl⟩
theorem tab_take (l : List Fee) (n : Nat) (h : n < l.length) : tabW (l.take (n + 1)) = tabW (l.take n) ++ feW l[n] := by
  have e : l.take (n + 1) = l.take n ++ [l[n]] := by rw [List.take_add_one, List.getElem?_eq_getElem h]; rfl
  unfold tabW
  rw [e, List.flatMap_append]
  simp
theorem tabW_len : ∀ (l : List Fee), (tabW l).length = l.length * 6
  | [] => rfl
  | f :: r => by
    have e : tabW (f :: r) = feW f ++ tabW r := by simp [tabW]
    rw [e, List.length_append, tabW_len r]
    simp [feW]; omega
theorem tab_grw2 {w w' : World} (h : Nu.Tab w) (hb : Below w.heap.size w w') : Nu.Tab w' := Nu.tab_grw h hb
set_option maxHeartbeats 16000000 in
theorem print_any (l : List Fee) (v : Value) (w : World) (h : FesAt All w v l) (hok : ∀ f ∈ l, FeOk f) (hl : l.length ≤ 281474976710656) (hT : Da.Tab w) (hN : Nu.Tab w) :
    Calls Tryz.prog 9 #[v] w fun e w' => e = .returned (.tuple #[.string (mk (prV l)), .int .i64 (checkE l)]) ∧ Below w.heap.size w w' := by
  have HCk := Lib.hid (check_any l v w h hok hl hT)
  have HF := Lib.hid h
  have HNt := Lib.hid hN
  obtain ⟨fa, fk, rfl, hm1, hm2⟩ := h.form
  clear h hok hT hN
  by_cases hce : checkE l = 0
  rotate_left
  · have HV : Hid (prV l = []) := by show _ = _; unfold prV; rw [if_neg hce]
    rw [HV.out]
    obtain ⟨ce, HCE⟩ : ∃ z, Hid (checkE l = z) := ⟨_, rfl⟩
    rw [HCE.out] at HCk hce ⊢
    have q1 : (ce != 0) = true := by simpa using hce
    clear hce
    go_enter Tryz.func9, Tryz.ntmps9
    go_wp2_with fail
    go_at_call 11
    refine HCk.out.mono ?_
    rintro e w1 ⟨rfl, hb1⟩
    have HB1 := Lib.hid hb1
    clear hb1
    go_wp2
    go_ret2
    exact ⟨rfl, HB1.out⟩
  · obtain ⟨hc1, hc2, -⟩ := check_facts hce
    have HV : Hid (prV l = joinC 32 (tabW l)) := by show _ = _; unfold prV; rw [if_pos hce]; rfl
    have HO1 := Lib.hid hc2
    have HJL : Hid ((joinC 32 (tabW l)).length ≤ 1000000) := by
      show _ ≤ _
      have h1 := tab_size l hc2
      have h2 := Pl.join_size (tabW l)
      omega
    rw [hce] at HCk ⊢
    rw [HV.out]
    clear hce hc2
    go_enter Tryz.func9, Tryz.ntmps9
    go_wp2_with fail
    go_at_call 11
    refine HCk.out.mono ?_
    rintro e w1 ⟨rfl, hb1⟩
    have HB1 := Lib.hid hb1
    clear hb1 HCk
    generalize hp : w.heap.size = p at *
    go_wp2
    go_loopg [5, 15] (l.length) (fun g s5 i wr => ∃ (n : Nat) (fv : Value), s5 = fv ∧ n ≤ l.length ∧ g = l.length - n ∧ i = .int .i64 (n : Nat) ∧ Hid (Below p w wr) ∧ Hid (wr.ownsRow p 9 1 fv (tabW (l.take n)).length (txc (tabW (l.take n)))))
    case atStart => exact ⟨0, _, rfl, Nat.zero_le _, rfl, rfl, HB1.out, World.ownsRow_nil _ _ _ _⟩
    case round =>
      obtain ⟨n, fv, rfl, hn, hgk, rfl, HBn, HOn⟩ := hrel
      obtain ⟨la, lc, rfl⟩ := own_form HOn.out
      by_cases hlt : n < l.length
      · have hB' : Below w.heap.size w wr := by subst hp; exact HBn.out
        obtain ⟨b, oo, rfl, hbs, -, hcc⟩ := FesAt.get (HF.out.grw hB') n hlt
        have HTk := Lib.hid (tab_take l n hlt)
        obtain ⟨k1, k2, k3, k4, k5, k6⟩ := one_facts (HO1.out l[n] (List.getElem_mem hlt))
        have hok := ok_of_one (HO1.out l[n] (List.getElem_mem hlt))
        generalize l[n] = x at *
        obtain ⟨-, -, ⟨f1, f2⟩, ⟨g1, g2⟩⟩ := hok
        obtain ⟨c0, c1, c2, c3, c4⟩ := hcc
        have hb2 := below_alloc wr (.cells #[.string (mk x.proc), .string (mk x.mod), .int .i64 x.net, .int .i64 x.frm, .int .i64 x.cents] 45)
        have HZ := Lib.hid (heap_alloc_new wr (.cells #[.string (mk x.proc), .string (mk x.mod), .int .i64 x.net, .int .i64 x.frm, .int .i64 x.cents] 45))
        have HB2 := Lib.hid (HBn.out.trans (hb2.mono (by have := HBn.out.size; omega)))
        have HO2 := Lib.hid (own_far HOn.out hb2)
        have HNt2 := Lib.hid (tab_grw2 HNt.out (below_trans hB' hb2))
        have HPW : Hid (p ≤ (wr.alloc (.cells #[.string (mk x.proc), .string (mk x.mod), .int .i64 x.net, .int .i64 x.frm, .int .i64 x.cents] 45)).heap.size) := by have h1 := HB2.out.size; show _ ≤ _; omega
        clear hB' hb2
        go_upto_region 8 with fail
        generalize wr.alloc (.cells #[.string (mk x.proc), .string (mk x.mod), .int .i64 x.net, .int .i64 x.frm, .int .i64 x.cents] 45) = W at *
        generalize wr.heap.size = q at *
        clear c0 c1 c2 c3 c4
        have HXK := Lib.hid fun W' (hW : Below W.heap.size W W') => cells5 (keepB HZ.out hW)
        have HIn := Lib.hid fun W' (hW : Below W.heap.size W W') => Nu.int_any x.frm f1 f2 W' (tab_grw2 HNt2.out hW)
        have HMn := Lib.hid fun W' (hW : Below W.heap.size W W') => Nu.money_any x.cents g1 g2 W' (tab_grw2 HNt2.out hW)
        have HD := Lib.hid (Below.drew (Below.refl W.heap.size W))
        have HLn : Hid ((tabW (l.take n)).length + (feW x).length ≤ 1000000) := by
          show _ ≤ _
          rw [tabW_len, List.length_take, show (feW x).length = 6 from rfl]
          omega
        have HPm := Lib.hid fun W' => printMod_any x.mod W'
        have HPn := Lib.hid fun W' => printNet_any x.net W' k3 k4
        have HFW : Hid (feW x = [tFee, x.proc, if x.mod = [] then tNone else x.mod, if x.net = 1 then tOut else tIn, Lib.itoa x.frm, Nu.moneyL x.cents]) := rfl
        obtain ⟨M2, hM2⟩ : ∃ z, (if x.mod = [] then tNone else x.mod) = z := ⟨_, rfl⟩
        obtain ⟨M3, hM3⟩ : ∃ z, (if x.net = 1 then tOut else tIn) = z := ⟨_, rfl⟩
        rw [hM2] at HPm HFW
        rw [hM3] at HPn HFW
        obtain ⟨FW6, hFW6⟩ : ∃ z, feW x = z := ⟨_, rfl⟩
        rw [hFW6] at HFW HTk HLn
        generalize Lib.itoa x.frm = M4 at *
        generalize Nu.moneyL x.cents = M5 at *
        clear hM2 hM3 hFW6 k1 k2 k3 k4 k5 k6
        change Hid (∀ W' (hW : Below W.heap.size W W'), Calls Tryz.prog 23 #[.int .i64 x.frm] W' fun e w' => e = .returned (.string (mk M4)) ∧ Below W'.heap.size W' w') at HIn
        change Hid (∀ W' (hW : Below W.heap.size W W'), Calls Tryz.prog 24 #[.int .i64 x.cents] W' fun e w' => e = .returned (.string (mk M5)) ∧ Below W'.heap.size W' w') at HMn
        refine Ri.wp_region_tailX 16 (by kernel_rfl) (by kernel_rfl) (by kernel_rfl) (by decide) (by kernel_rfl) (fun Wx => Below W.heap.size W Wx) (fun kz vs wz => (fun kx vx wx => match kx with | 0 => vx = .slice la (tabW (l.take n)).length lc | 1 => vx = .pointer (some ⟨q, 0, none⟩) | 2 => vx = .string (mk x.proc) | 3 => vx = .pointer (some ⟨q, 1, none⟩) | 4 => vx = .string (mk x.mod) | 5 => vx = .string (mk M2) | 6 => vx = .pointer (some ⟨q, 2, none⟩) | 7 => vx = .int .i64 x.net | 8 => vx = .string (mk M3) | 9 => vx = .pointer (some ⟨q, 3, none⟩) | 10 => vx = .int .i64 x.frm | 11 => vx = .string (mk M4) | 12 => vx = .pointer (some ⟨q, 4, none⟩) | 13 => vx = .int .i64 x.cents | 14 => vx = .string (mk M5) | 15 => (∃ g, vx = .slice (some ⟨g, 0, none⟩) 6 6 ∧ wx.heap[g]? = some (.cells #[.string ⟨#[102, 101, 101]⟩, .string (mk x.proc), .string (mk M2), .string (mk M3), .string (mk M4), .string (mk M5)] 9 (0, 0))) | _ => True : Nat → Value → World → Prop) kz (vs kz) wz) (fun lst vs => lst 17 = false → vs 17 = Value.slice la (tabW (l.take n)).length lc) (fun kz => [kz]) (by kernel_rfl) (fun jz vs iz vz wz hiz hz => Ri.loc_own (F := (fun kx vx wx => match kx with | 0 => vx = .slice la (tabW (l.take n)).length lc | 1 => vx = .pointer (some ⟨q, 0, none⟩) | 2 => vx = .string (mk x.proc) | 3 => vx = .pointer (some ⟨q, 1, none⟩) | 4 => vx = .string (mk x.mod) | 5 => vx = .string (mk M2) | 6 => vx = .pointer (some ⟨q, 2, none⟩) | 7 => vx = .int .i64 x.net | 8 => vx = .string (mk M3) | 9 => vx = .pointer (some ⟨q, 3, none⟩) | 10 => vx = .int .i64 x.frm | 11 => vx = .string (mk M4) | 12 => vx = .pointer (some ⟨q, 4, none⟩) | 13 => vx = .int .i64 x.cents | 14 => vx = .string (mk M5) | 15 => (∃ g, vx = .slice (some ⟨g, 0, none⟩) 6 6 ∧ wx.heap[g]? = some (.cells #[.string ⟨#[102, 101, 101]⟩, .string (mk x.proc), .string (mk M2), .string (mk M3), .string (mk M4), .string (mk M5)] 9 (0, 0))) | _ => True : Nat → Value → World → Prop)) jz vs iz vz wz hiz hz) HD.out ?_ ⟨⟨rfl, ?_⟩, ⟨rfl, ?_⟩, ⟨rfl, ?_⟩, ⟨rfl, ?_⟩, ⟨rfl, ?_⟩, ⟨rfl, ?_⟩, ⟨rfl, ?_⟩, ⟨rfl, ?_⟩, ⟨rfl, ?_⟩, ⟨rfl, ?_⟩, ⟨rfl, ?_⟩, ⟨rfl, ?_⟩, ⟨rfl, ?_⟩, ⟨rfl, ?_⟩, ⟨rfl, ?_⟩, ⟨rfl, ?_⟩, trivial⟩ ?_
        · intro vs hvs
          intro _
          have h1 := congrArg (fun a => a.tmps[5]?.getD undef) hvs
          exact (show vs 17 = _ by kernel_rfl).trans (h1.trans (show _ = Value.slice la (tabW (l.take n)).length lc by kernel_rfl))
        · intro vs Wx A lst hA hB hls hX hno hpre K hK
          have e5 := ((hA 5).trans (show _ = vs 17 by kernel_rfl)).trans (hX (hno 17 (by decide)))
          clear hA hpre
          go_simp
          first | exact hK _ _ hB rfl (fun _ _ h => h) hX | exact hK _ _ hB trivial (fun _ _ h => h) hX | (rw [if_neg (by omega)]; go_simp; exact hK _ _ hB rfl (fun _ _ h => h) hX)
        · intro vs Wx A lst hA hB hls hX hno hpre K hK
          have e7 := (hA 7).trans (show _ = Value.pointer (some ⟨q, 0, none⟩) by kernel_rfl)
          clear hA hpre
          go_simp
          first | exact hK _ _ hB rfl (fun _ _ h => h) hX | exact hK _ _ hB trivial (fun _ _ h => h) hX | (rw [if_neg (by omega)]; go_simp; exact hK _ _ hB rfl (fun _ _ h => h) hX)
        · intro vs Wx A lst hA hB hls hX hno hpre K hK
          have e20 := ((hA 20).trans (show _ = vs 1 by kernel_rfl)).trans (by first | exact hpre.1 rfl | exact hpre.2.1 rfl | exact hpre.2.2.1 rfl | exact hpre.2.2.2.1 rfl | exact hpre.2.2.2.2.1 rfl | exact hpre.2.2.2.2.2.1 rfl | exact hpre.2.2.2.2.2.2.1 rfl | exact hpre.2.2.2.2.2.2.2.1 rfl | exact hpre.2.2.2.2.2.2.2.2.1 rfl | exact hpre.2.2.2.2.2.2.2.2.2.1 rfl)
          obtain ⟨x0, x1, x2, x3, x4⟩ := HXK.out Wx hB
          clear hA hpre
          go_simp
          first | exact hK _ _ hB rfl (fun _ _ h => h) hX | exact hK _ _ hB trivial (fun _ _ h => h) hX | (rw [if_neg (by omega)]; go_simp; exact hK _ _ hB rfl (fun _ _ h => h) hX)
        · intro vs Wx A lst hA hB hls hX hno hpre K hK
          have e7 := (hA 7).trans (show _ = Value.pointer (some ⟨q, 0, none⟩) by kernel_rfl)
          clear hA hpre
          go_simp
          first | exact hK _ _ hB rfl (fun _ _ h => h) hX | exact hK _ _ hB trivial (fun _ _ h => h) hX | (rw [if_neg (by omega)]; go_simp; exact hK _ _ hB rfl (fun _ _ h => h) hX)
        · intro vs Wx A lst hA hB hls hX hno hpre K hK
          have e22 := ((hA 22).trans (show _ = vs 3 by kernel_rfl)).trans (by first | exact hpre.1 rfl | exact hpre.2.1 rfl | exact hpre.2.2.1 rfl | exact hpre.2.2.2.1 rfl | exact hpre.2.2.2.2.1 rfl | exact hpre.2.2.2.2.2.1 rfl | exact hpre.2.2.2.2.2.2.1 rfl | exact hpre.2.2.2.2.2.2.2.1 rfl | exact hpre.2.2.2.2.2.2.2.2.1 rfl | exact hpre.2.2.2.2.2.2.2.2.2.1 rfl)
          obtain ⟨x0, x1, x2, x3, x4⟩ := HXK.out Wx hB
          clear hA hpre
          go_simp
          first | exact hK _ _ hB rfl (fun _ _ h => h) hX | exact hK _ _ hB trivial (fun _ _ h => h) hX | (rw [if_neg (by omega)]; go_simp; exact hK _ _ hB rfl (fun _ _ h => h) hX)
        · intro vs Wx A lst hA hB hls hX hno hpre K hK
          have e23 := ((hA 23).trans (show _ = vs 4 by kernel_rfl)).trans (by first | exact hpre.1 rfl | exact hpre.2.1 rfl | exact hpre.2.2.1 rfl | exact hpre.2.2.2.1 rfl | exact hpre.2.2.2.2.1 rfl | exact hpre.2.2.2.2.2.1 rfl | exact hpre.2.2.2.2.2.2.1 rfl | exact hpre.2.2.2.2.2.2.2.1 rfl | exact hpre.2.2.2.2.2.2.2.2.1 rfl | exact hpre.2.2.2.2.2.2.2.2.2.1 rfl)
          clear hA hpre
          go_simp
          go_at_call 21
          refine (HPm.out _).mono ?_
          rintro e w3 ⟨rfl, hw3⟩
          rw [hw3]
          exact hK _ _ hB rfl (fun _ _ h => h) hX
        · intro vs Wx A lst hA hB hls hX hno hpre K hK
          have e7 := (hA 7).trans (show _ = Value.pointer (some ⟨q, 0, none⟩) by kernel_rfl)
          clear hA hpre
          go_simp
          first | exact hK _ _ hB rfl (fun _ _ h => h) hX | exact hK _ _ hB trivial (fun _ _ h => h) hX | (rw [if_neg (by omega)]; go_simp; exact hK _ _ hB rfl (fun _ _ h => h) hX)
        · intro vs Wx A lst hA hB hls hX hno hpre K hK
          have e25 := ((hA 25).trans (show _ = vs 6 by kernel_rfl)).trans (by first | exact hpre.1 rfl | exact hpre.2.1 rfl | exact hpre.2.2.1 rfl | exact hpre.2.2.2.1 rfl | exact hpre.2.2.2.2.1 rfl | exact hpre.2.2.2.2.2.1 rfl | exact hpre.2.2.2.2.2.2.1 rfl | exact hpre.2.2.2.2.2.2.2.1 rfl | exact hpre.2.2.2.2.2.2.2.2.1 rfl | exact hpre.2.2.2.2.2.2.2.2.2.1 rfl)
          obtain ⟨x0, x1, x2, x3, x4⟩ := HXK.out Wx hB
          clear hA hpre
          go_simp
          first | exact hK _ _ hB rfl (fun _ _ h => h) hX | exact hK _ _ hB trivial (fun _ _ h => h) hX | (rw [if_neg (by omega)]; go_simp; exact hK _ _ hB rfl (fun _ _ h => h) hX)
        · intro vs Wx A lst hA hB hls hX hno hpre K hK
          have e26 := ((hA 26).trans (show _ = vs 7 by kernel_rfl)).trans (by first | exact hpre.1 rfl | exact hpre.2.1 rfl | exact hpre.2.2.1 rfl | exact hpre.2.2.2.1 rfl | exact hpre.2.2.2.2.1 rfl | exact hpre.2.2.2.2.2.1 rfl | exact hpre.2.2.2.2.2.2.1 rfl | exact hpre.2.2.2.2.2.2.2.1 rfl | exact hpre.2.2.2.2.2.2.2.2.1 rfl | exact hpre.2.2.2.2.2.2.2.2.2.1 rfl)
          clear hA hpre
          go_simp
          go_at_call 22
          refine (HPn.out _).mono ?_
          rintro e w3 ⟨rfl, hw3⟩
          rw [hw3]
          exact hK _ _ hB rfl (fun _ _ h => h) hX
        · intro vs Wx A lst hA hB hls hX hno hpre K hK
          have e7 := (hA 7).trans (show _ = Value.pointer (some ⟨q, 0, none⟩) by kernel_rfl)
          clear hA hpre
          go_simp
          first | exact hK _ _ hB rfl (fun _ _ h => h) hX | exact hK _ _ hB trivial (fun _ _ h => h) hX | (rw [if_neg (by omega)]; go_simp; exact hK _ _ hB rfl (fun _ _ h => h) hX)
        · intro vs Wx A lst hA hB hls hX hno hpre K hK
          have e28 := ((hA 28).trans (show _ = vs 9 by kernel_rfl)).trans (by first | exact hpre.1 rfl | exact hpre.2.1 rfl | exact hpre.2.2.1 rfl | exact hpre.2.2.2.1 rfl | exact hpre.2.2.2.2.1 rfl | exact hpre.2.2.2.2.2.1 rfl | exact hpre.2.2.2.2.2.2.1 rfl | exact hpre.2.2.2.2.2.2.2.1 rfl | exact hpre.2.2.2.2.2.2.2.2.1 rfl | exact hpre.2.2.2.2.2.2.2.2.2.1 rfl)
          obtain ⟨x0, x1, x2, x3, x4⟩ := HXK.out Wx hB
          clear hA hpre
          go_simp
          first | exact hK _ _ hB rfl (fun _ _ h => h) hX | exact hK _ _ hB trivial (fun _ _ h => h) hX | (rw [if_neg (by omega)]; go_simp; exact hK _ _ hB rfl (fun _ _ h => h) hX)
        · intro vs Wx A lst hA hB hls hX hno hpre K hK
          have e29 := ((hA 29).trans (show _ = vs 10 by kernel_rfl)).trans (by first | exact hpre.1 rfl | exact hpre.2.1 rfl | exact hpre.2.2.1 rfl | exact hpre.2.2.2.1 rfl | exact hpre.2.2.2.2.1 rfl | exact hpre.2.2.2.2.2.1 rfl | exact hpre.2.2.2.2.2.2.1 rfl | exact hpre.2.2.2.2.2.2.2.1 rfl | exact hpre.2.2.2.2.2.2.2.2.1 rfl | exact hpre.2.2.2.2.2.2.2.2.2.1 rfl)
          clear hA hpre
          go_simp
          go_at_call 23
          refine (HIn.out _ hB).mono ?_
          rintro e w3 ⟨rfl, hg⟩
          refine hK _ _ (below_trans hB hg) rfl (fun jz hj hz => ?_) hX
          match jz, hj, hz with
          | 0, _, hz => exact hz
          | 1, _, hz => exact hz
          | 2, _, hz => exact hz
          | 3, _, hz => exact hz
          | 4, _, hz => exact hz
          | 5, _, hz => exact hz
          | 6, _, hz => exact hz
          | 7, _, hz => exact hz
          | 8, _, hz => exact hz
          | 9, _, hz => exact hz
          | 10, _, hz => exact hz
          | 11, _, hz => exact hz
          | 12, _, hz => exact hz
          | 13, _, hz => exact hz
          | 14, _, hz => exact hz
          | 15, _, hz => exact (hz.elim fun g h => ⟨g, h.1, keepB h.2 hg⟩)
          | n + 16, _, hz => exact hz
        · intro vs Wx A lst hA hB hls hX hno hpre K hK
          have e7 := (hA 7).trans (show _ = Value.pointer (some ⟨q, 0, none⟩) by kernel_rfl)
          clear hA hpre
          go_simp
          first | exact hK _ _ hB rfl (fun _ _ h => h) hX | exact hK _ _ hB trivial (fun _ _ h => h) hX | (rw [if_neg (by omega)]; go_simp; exact hK _ _ hB rfl (fun _ _ h => h) hX)
        · intro vs Wx A lst hA hB hls hX hno hpre K hK
          have e31 := ((hA 31).trans (show _ = vs 12 by kernel_rfl)).trans (by first | exact hpre.1 rfl | exact hpre.2.1 rfl | exact hpre.2.2.1 rfl | exact hpre.2.2.2.1 rfl | exact hpre.2.2.2.2.1 rfl | exact hpre.2.2.2.2.2.1 rfl | exact hpre.2.2.2.2.2.2.1 rfl | exact hpre.2.2.2.2.2.2.2.1 rfl | exact hpre.2.2.2.2.2.2.2.2.1 rfl | exact hpre.2.2.2.2.2.2.2.2.2.1 rfl)
          obtain ⟨x0, x1, x2, x3, x4⟩ := HXK.out Wx hB
          clear hA hpre
          go_simp
          first | exact hK _ _ hB rfl (fun _ _ h => h) hX | exact hK _ _ hB trivial (fun _ _ h => h) hX | (rw [if_neg (by omega)]; go_simp; exact hK _ _ hB rfl (fun _ _ h => h) hX)
        · intro vs Wx A lst hA hB hls hX hno hpre K hK
          have e32 := ((hA 32).trans (show _ = vs 13 by kernel_rfl)).trans (by first | exact hpre.1 rfl | exact hpre.2.1 rfl | exact hpre.2.2.1 rfl | exact hpre.2.2.2.1 rfl | exact hpre.2.2.2.2.1 rfl | exact hpre.2.2.2.2.2.1 rfl | exact hpre.2.2.2.2.2.2.1 rfl | exact hpre.2.2.2.2.2.2.2.1 rfl | exact hpre.2.2.2.2.2.2.2.2.1 rfl | exact hpre.2.2.2.2.2.2.2.2.2.1 rfl)
          clear hA hpre
          go_simp
          go_at_call 24
          refine (HMn.out _ hB).mono ?_
          rintro e w3 ⟨rfl, hg⟩
          refine hK _ _ (below_trans hB hg) rfl (fun jz hj hz => ?_) hX
          match jz, hj, hz with
          | 0, _, hz => exact hz
          | 1, _, hz => exact hz
          | 2, _, hz => exact hz
          | 3, _, hz => exact hz
          | 4, _, hz => exact hz
          | 5, _, hz => exact hz
          | 6, _, hz => exact hz
          | 7, _, hz => exact hz
          | 8, _, hz => exact hz
          | 9, _, hz => exact hz
          | 10, _, hz => exact hz
          | 11, _, hz => exact hz
          | 12, _, hz => exact hz
          | 13, _, hz => exact hz
          | 14, _, hz => exact hz
          | 15, _, hz => exact (hz.elim fun g h => ⟨g, h.1, keepB h.2 hg⟩)
          | n + 16, _, hz => exact hz
        · intro vs Wx A lst hA hB hls hX hno hpre K hK
          have e21 := ((hA 21).trans (show _ = vs 2 by kernel_rfl)).trans (by first | exact hpre.1 rfl | exact hpre.2.1 rfl | exact hpre.2.2.1 rfl | exact hpre.2.2.2.1 rfl | exact hpre.2.2.2.2.1 rfl | exact hpre.2.2.2.2.2.1 rfl | exact hpre.2.2.2.2.2.2.1 rfl | exact hpre.2.2.2.2.2.2.2.1 rfl | exact hpre.2.2.2.2.2.2.2.2.1 rfl | exact hpre.2.2.2.2.2.2.2.2.2.1 rfl)
          have e24 := ((hA 24).trans (show _ = vs 5 by kernel_rfl)).trans (by first | exact hpre.1 rfl | exact hpre.2.1 rfl | exact hpre.2.2.1 rfl | exact hpre.2.2.2.1 rfl | exact hpre.2.2.2.2.1 rfl | exact hpre.2.2.2.2.2.1 rfl | exact hpre.2.2.2.2.2.2.1 rfl | exact hpre.2.2.2.2.2.2.2.1 rfl | exact hpre.2.2.2.2.2.2.2.2.1 rfl | exact hpre.2.2.2.2.2.2.2.2.2.1 rfl)
          have e27 := ((hA 27).trans (show _ = vs 8 by kernel_rfl)).trans (by first | exact hpre.1 rfl | exact hpre.2.1 rfl | exact hpre.2.2.1 rfl | exact hpre.2.2.2.1 rfl | exact hpre.2.2.2.2.1 rfl | exact hpre.2.2.2.2.2.1 rfl | exact hpre.2.2.2.2.2.2.1 rfl | exact hpre.2.2.2.2.2.2.2.1 rfl | exact hpre.2.2.2.2.2.2.2.2.1 rfl | exact hpre.2.2.2.2.2.2.2.2.2.1 rfl)
          have e30 := ((hA 30).trans (show _ = vs 11 by kernel_rfl)).trans (by first | exact hpre.1 rfl | exact hpre.2.1 rfl | exact hpre.2.2.1 rfl | exact hpre.2.2.2.1 rfl | exact hpre.2.2.2.2.1 rfl | exact hpre.2.2.2.2.2.1 rfl | exact hpre.2.2.2.2.2.2.1 rfl | exact hpre.2.2.2.2.2.2.2.1 rfl | exact hpre.2.2.2.2.2.2.2.2.1 rfl | exact hpre.2.2.2.2.2.2.2.2.2.1 rfl)
          have e33 := ((hA 33).trans (show _ = vs 14 by kernel_rfl)).trans (by first | exact hpre.1 rfl | exact hpre.2.1 rfl | exact hpre.2.2.1 rfl | exact hpre.2.2.2.1 rfl | exact hpre.2.2.2.2.1 rfl | exact hpre.2.2.2.2.2.1 rfl | exact hpre.2.2.2.2.2.2.1 rfl | exact hpre.2.2.2.2.2.2.2.1 rfl | exact hpre.2.2.2.2.2.2.2.2.1 rfl | exact hpre.2.2.2.2.2.2.2.2.2.1 rfl)
          clear hA hpre
          go_simp
          refine hK _ _ (below_trans hB (below_alloc Wx _)) ⟨_, rfl, heap_alloc_new Wx _⟩ (fun jz hj hz => ?_) hX
          match jz, hj, hz with
          | 0, _, hz => exact hz
          | 1, _, hz => exact hz
          | 2, _, hz => exact hz
          | 3, _, hz => exact hz
          | 4, _, hz => exact hz
          | 5, _, hz => exact hz
          | 6, _, hz => exact hz
          | 7, _, hz => exact hz
          | 8, _, hz => exact hz
          | 9, _, hz => exact hz
          | 10, _, hz => exact hz
          | 11, _, hz => exact hz
          | 12, _, hz => exact hz
          | 13, _, hz => exact hz
          | 14, _, hz => exact hz
          | 15, hj, _ => exact absurd rfl hj
          | n + 16, _, hz => exact hz
        · intro vs Wx lst hall hX hB hF
          refine fun A16 hA K16 hK16 => ?_
          have e19 := ((hA 19).trans (show _ = vs 0 by kernel_rfl)).trans (hF 0 (by decide))
          have e34 := (hA 34).trans (show _ = vs 15 by kernel_rfl)
          clear hA
          obtain ⟨g0, eg, hg0⟩ := hF 15 (by decide)
          rw [eg] at e34
          have hox := own_far HO2.out hB
          have hpz : p ≤ Wx.heap.size := Nat.le_trans HPW.out hB.size
          refine wp_appT _ _ rfl p (.slice la (tabW (l.take n)).length lc) (tabW (l.take n)) (by first | exact e19 | simpa [Act.eval] using e19) hox ⟨g0, 0, none⟩ 6 6 FW6 (by first | exact e34 | simpa [Act.eval] using e34) (by rw [HFW.out]; rfl) (by rw [HFW.out]; simp) (fun j u hj => by rw [HFW.out] at hj; rw [show (⟨g0, 0, none⟩ : Addr).add j = ⟨g0, j, none⟩ by unfold Addr.add; split <;> simp_all]; rw [cell_of_row _ _ j _ _ (0, 0) hg0]; match j, hj with | 0, hj => exact hj | 1, hj => exact hj | 2, hj => exact hj | 3, hj => exact hj | 4, hj => exact hj | 5, hj => exact hj | n + 6, hj => simp [txc] at hj) HLn.out hpz ?_
          intro vn w6 hown hgr hat
          have HOW := Lib.hid hown
          have HB6 := Lib.hid (HB2.out.trans ((hB.mono HPW.out).trans (grow_low hox hgr hpz)))
          clear hown hgr hat hox hpz hg0 eg e19 e34
          refine hK16 _ _ ?_
          refine fun A17 hA K17 hK17 => ?_
          have e35 := (hA 35).trans (show _ = vn by kernel_rfl)
          clear hA
          go_simp
          refine hK17 _ _ ?_
          clear hF hB hX hall
          simp only [Ri.Tail, Ri.puts]
          go_simp
          rw [← HTk.out] at HOW
          go_wp2
          go_roundg (l.length - (n + 1))
          case measure => omega
          case rel => exact ⟨n + 1, _, rfl, by omega, rfl, by first | rfl | go_num | (congr 1; omega), HB6.out, HOW.out⟩
      · have hltz : ¬ (n : Int) < (l.length : Int) := by omega
        have HE : Hid (wr.ownsRow p 9 1 (.slice la (tabW (l.take n)).length lc) (tabW l).length (txc (tabW l))) := by
          have := HOn.out
          rw [List.take_of_length_le (by omega)] at this ⊢
          exact this
        have HJ := Lib.hid (Wo.join_any _ (tabW l) wr (tx_own HE.out) HJL.out)
        clear HOn HE
        go_wp2_with fail
        go_at_call 25
        refine HJ.out.mono ?_
        rintro e w3 ⟨rfl, hb3⟩
        have HB3 := Lib.hid (HBn.out.trans (hb3.mono (by have := HBn.out.size; omega)))
        clear hb3
        go_wp2
        go_ret2
        exact ⟨rfl, by first | exact HB3.out | (rw [hp]; exact HB3.out)⟩
end Go.Proofs.YtmoldgmfhcmceaaGreatDoor.Fe
end
