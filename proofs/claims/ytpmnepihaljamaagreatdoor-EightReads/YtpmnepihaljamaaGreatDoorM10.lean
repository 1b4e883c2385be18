/-
  Texts put together (merge.py): QCut, QWrite.
-/
import Derived.Deep.RegionHeld3
import Derived.Deep.DrawnRows
import Derived.Deep.DeepCutAuto
import Derived.Deep.OwnRows
import Derived.Lib.Split
import Derived.Test.YtpmnepihaljamaaGreatDoorM8
import Derived.Test.YtpmnepihaljamaaGreatDoorM9
/-
  The functions that know their sign: seg.cutter, seg.joiner and what they make, as contracts.
-/
section
namespace Go.Proofs.YtpmnepihaljamaaGreatDoor
open Go.RowKit

theorem add_off (b o j : Nat) : (⟨b, o, none⟩ : Addr).add j = ⟨b, o + j, none⟩ := by unfold Addr.add; split <;> simp_all
theorem conv1 (W : World) (c : UInt8) : (convert 107 9 (.slice (some ⟨W.heap.size, 0, none⟩) 1 1)).run Tryz.prog (W.alloc (.cells #[.int .u8 c.toNat] 5)) = .ok (.string (mk [c])) (W.alloc (.cells #[.int .u8 c.toNat] 5)) :=
  run_convert_bytes_back (P := Tryz.prog) (W.alloc (.cells #[.int .u8 (c.toNat : Int)] 5)) 107 9 5 ⟨W.heap.size, 0, none⟩ 1 [c] Tryz.underlying107 Tryz.underlying5 Tryz.underlying9 (fun j hj => by
    have : j = 0 := by simpa using hj
    subst this
    rw [add_off, World.cell?_alloc_new]
    rfl)
abbrev markW (c : UInt8) (w : World) : World := (w.alloc (.cells #[.int .u8 c.toNat] 5)).alloc (.cells #[.string (mk [c])] 9)

set_option maxHeartbeats 800000 in
theorem cutter_any (c : UInt8) (w : World) :
    Calls Tryz.prog 94 #[.int .u8 c.toNat] w fun e w' => e = .returned (.func (.func 122) #[] #[.pointer (some ⟨w.heap.size + 1, 0, none⟩)]) ∧ w' = markW c w := by
  have hc := conv1 w c
  generalize hm : mk [c] = m at hc
  have HM := Lib.hid hm
  clear hm
  go_enter Tryz.func94, Tryz.ntmps94
  go_wp2
  go_ret
  exact ⟨rfl, by rw [← HM.out]⟩
set_option maxHeartbeats 800000 in
theorem joiner_any (c : UInt8) (w : World) :
    Calls Tryz.prog 81 #[.int .u8 c.toNat] w fun e w' => e = .returned (.func (.func 114) #[] #[.pointer (some ⟨w.heap.size + 1, 0, none⟩)]) ∧ w' = markW c w := by
  have hc := conv1 w c
  generalize hm : mk [c] = m at hc
  have HM := Lib.hid hm
  clear hm
  go_enter Tryz.func81, Tryz.ntmps81
  go_wp2
  go_ret
  exact ⟨rfl, by rw [← HM.out]⟩
set_option maxHeartbeats 800000 in
theorem cut_any (s : ByteArray) (c : UInt8) (b : Nat) (w : World) (hb : w.cell? ⟨b, 0, none⟩ = some (.string (mk [c]))) (hT : Tab w) (hs : s.size ≤ 65536) :
    Calls Tryz.prog 122 #[.string s, .pointer (some ⟨b, 0, none⟩)] w fun e w' => ∃ v, e = .returned v ∧ TxAt (fun b => w.heap.size ≤ b) w' v (splitC c s.data.toList) ∧ Below w.heap.size w w' := by
  have h := strings_split s c w hT hs
  have HH := Lib.hid h
  clear h
  generalize hm : mk [c] = m at hb HH
  go_enter Tryz.func122, Tryz.ntmps122
  go_wp2_with (go_at_call 123; refine HH.out.mono ?_; rintro e w' ⟨v, rfl, h1, h2⟩; have H1 := Lib.hid h1; have H2 := Lib.hid h2; clear h1 h2)
  go_ret
  exact ⟨v, rfl, H1.out, H2.out⟩
set_option maxHeartbeats 800000 in
theorem join_any (v : Value) (xs : List Tx) (c : UInt8) (b : Nat) (w : World) (h : TxAt All w v xs) (hb : w.cell? ⟨b, 0, none⟩ = some (.string (mk [c]))) (hl : (joinC c xs).length ≤ 1000000) :
    Calls Tryz.prog 114 #[v, .pointer (some ⟨b, 0, none⟩)] w fun e w' => e = .returned (.string (mk (joinC c xs))) ∧ Below w.heap.size w w' := by
  have h := strings_join v xs c w h hl
  have HH := Lib.hid h
  clear h
  generalize hm : mk [c] = m at hb HH
  generalize mk (joinC c xs) = r at HH
  go_enter Tryz.func114, Tryz.ntmps114
  go_wp2_with (go_at_call 115; refine HH.out.mono ?_; rintro e w' ⟨rfl, h2⟩; have H2 := Lib.hid h2; clear h2)
  go_ret
  exact ⟨rfl, H2.out⟩
end Go.Proofs.YtpmnepihaljamaaGreatDoor
end

/-
  What seg.Write answers, as a contract: for every segments that are light.
-/
section
set_option linter.unusedSimpArgs false
namespace Go.Proofs.YtpmnepihaljamaaGreatDoor
open Go.RowKit
attribute [local go_sem ↓] Go.wp_at_zero Go.wp_at_succ

def Mark (w : World) (m : Nat) (c : UInt8) : Prop := m < w.heap.size ∧ w.cell? ⟨m, 0, none⟩ = some (.string (mk [c]))
theorem Mark.below {w w' : World} {m B : Nat} {c : UInt8} (h : Mark w m c) (hb : Below B w w') (hB : m < B) : Mark w' m c :=
  ⟨Nat.lt_of_lt_of_le h.1 hb.size, by rw [hb.cell (p := ⟨m, 0, none⟩) hB]; exact h.2⟩
theorem Mark.grw {w w' : World} {m : Nat} {c : UInt8} (h : Mark w m c) (hb : Below w.heap.size w w') : Mark w' m c := h.below hb h.1
theorem Mark.new (w : World) (c : UInt8) : Mark (markW c w) (w.heap.size + 1) c := by
  refine ⟨by simp, ?_⟩
  simp
theorem below_mark (c : UInt8) (w : World) : Below w.heap.size w (markW c w) := below_trans (below_alloc w _) (below_alloc _ _)


theorem builder_grw {T e : TypeId} {B b : Nat} {bs : List Value} {w w' : World} (h : Lib.IsBuilder T e B b bs w) (hb : Below w.heap.size w w') : Lib.IsBuilder T e B b bs w' := by
  have hg : w.grownBy w' none := ⟨hb.os, hb.tape, hb.output, hb.size, fun k hk _ => hb.block k hk⟩
  have one : ∀ q, Lib.BuilderAt T e B b q bs w → Lib.BuilderAt T e B b q bs w' := fun q h => by
    have hlt := h.lt
    obtain ⟨h1, v, h2, h3, h4⟩ := h
    exact ⟨h1, v, by rw [hb.block b hlt]; exact h2, h3.kept hg (by cases hv : v.ownBlock <;> simp), h4⟩
  rcases h with h | h
  · exact Or.inl (one _ h)
  · exact Or.inr (one _ h)
theorem builder_lt {T e : TypeId} {B b : Nat} {bs : List Value} {w : World} (h : Lib.IsBuilder T e B b bs w) : b < w.heap.size := by
  rcases h with h | h <;> exact h.lt

theorem sum_take_le (f : Sg → Nat) : ∀ (l : List Sg) (k : Nat), ((l.take k).map f).sum ≤ (l.map f).sum
  | [], k => by simp
  | x :: r, 0 => by simp
  | x :: r, k + 1 => by have := sum_take_le f r k; simp only [List.take_succ_cons, List.map_cons, List.sum_cons]; omega
theorem ln_take (l : List Sg) (k : Nat) : ln (l.take k) ≤ ln l := sum_take_le _ l k
theorem mem_sum {α : Type} (f : α → Nat) : ∀ (l : List α) (x : α), x ∈ l → f x ≤ (l.map f).sum
  | [], x, h => by cases h
  | y :: r, x, h => by
    simp only [List.map_cons, List.sum_cons]
    rcases List.mem_cons.1 h with rfl | h
    · omega
    · have := mem_sum f r x h; omega
def gn (g : Sg) : Nat := (g.map fun ps => (ps.map fun x => 1 + x.length).sum).sum
theorem gn_le {l : List Sg} {g : Sg} (h : g ∈ l) : gn g ≤ ln l := mem_sum gn l g h
theorem pn_le {g : Sg} {ps : List Tx} (h : ps ∈ g) : (ps.map fun x => 1 + x.length).sum ≤ gn g := mem_sum (fun ps : List Tx => (ps.map fun x => 1 + x.length).sum) g ps h
theorem xn_le {ps : List Tx} {x : Tx} (h : x ∈ ps) : 1 + x.length ≤ (ps.map fun x => 1 + x.length).sum := mem_sum (fun x : Tx => 1 + x.length) ps x h
theorem g_short {e p s : UInt8} {g : Sg} (h : partsB e p s g = true) : g.length ≤ gn g := by
  have : ∀ g : Sg, (∀ ps ∈ g, ps ≠ []) → g.length ≤ gn g := by
    intro g
    induction g with
    | nil => intro _; simp
    | cons ps r ih =>
      intro hp
      have h1 := ih fun q hq => hp q (List.mem_cons_of_mem _ hq)
      have h2 : 1 ≤ (ps.map fun x => 1 + x.length).sum := by
        cases ps with
        | nil => exact absurd rfl (hp [] List.mem_cons_self)
        | cons x t => simp only [List.map_cons, List.sum_cons]; omega
      simp only [gn, List.length_cons, List.map_cons, List.sum_cons] at h1 ⊢
      omega
  exact this g fun ps hps => (parts_mem h ps hps).1
theorem join_short (c : UInt8) (xs : List Tx) : (joinC c xs).length ≤ (xs.map fun x => 1 + x.length).sum := by
  by_cases h : xs = []
  · subst h; simp [joinC, Lib.join_nil]
  · have := join_len c xs h; omega
theorem wr_snoc (e p s : UInt8) (l : List Sg) (k : Nat) (g : Sg) (hx : l[k]? = some g) : wrT e p s (l.take (k + 1)) = wrT e p s (l.take k) ++ (segT e p g ++ [s]) := by
  unfold wrT
  rw [List.take_add_one, hx, List.map_append, List.flatten_append]
  simp
theorem wr_bad {e p s : UInt8} {l : List Sg} (h : wrOk e p s l = false) : wrV e p s l = [] ∧ wrE e p s l = 1 := by simp [wrV, wrE, h]
theorem wr_good {e p s : UInt8} {l : List Sg} (h : wrOk e p s l = true) : wrV e p s l = wrT e p s l ∧ wrE e p s l = 0 := by simp [wrV, wrE, h]
theorem ok_false {e p s : UInt8} {l : List Sg} {g : Sg} (h : g ∈ l) (hg : segOk e p s g = false) : wrOk e p s l = false := by
  cases hh : wrOk e p s l
  · rfl
  · have := (wr_ok hh).2.2 g h
    rw [hg] at this; cases this
theorem ok_true {e p s : UInt8} {l : List Sg} (h1 : goodB e p s = true) (h2 : l.length ≤ 4096) (h3 : ∀ g ∈ l, segOk e p s g = true) : wrOk e p s l = true := by
  simp only [wrOk, Bool.and_eq_true, decide_eq_true_eq, List.all_eq_true]
  exact ⟨⟨h1, h2⟩, h3⟩
theorem heap_set {w : World} {b : Nat} {cs : Array Value} {t : TypeId} (h : w.heap[b]? = some (.cells cs t (0, 0))) (j : Nat) (u : Value) : (w.setCell ⟨b, j, none⟩ u).heap[b]? = some (.cells (cs.setIfInBounds j u) t (0, 0)) := by
  simp [World.setCell, Array.getElem?_modify, h]
theorem hi9 : (Tryz.prog.info? 9).map (fun i => (i.zero, i.size, i.bytes)) = some (some (.string ByteArray.empty), 1, 16) := by kernel_rfl
/-- A full row of texts. -/
theorem tx_full {w : World} {b : Nat} (xs : List Tx) (h : w.heap[b]? = some (.cells (Lib.cellsOf (xs.map mk) xs.length) 9 (0, 0))) (hl : xs.length ≤ maxLen) : TxAt All w (.slice (some ⟨b, 0, none⟩) xs.length xs.length) xs := by
  refine ⟨_, _, rfl, Nat.le_refl _, hl, Or.inr ⟨b, 0, rfl, trivial, (Array.getElem?_eq_some_iff.1 h).1, fun j x hj => ⟨_, ?_, rfl⟩⟩⟩
  rw [Nat.zero_add, cell_of_row w b j _ 9 (0, 0) h]
  simp [Lib.cellsOf, hj]

set_option maxHeartbeats 1000000 in
theorem write_any (e p s : UInt8) (v : Value) (l : List Sg) (w : World) (h : SgAt All w v l) (hn : ln l ≤ 100000) :
    Calls Tryz.prog 47 #[dv e p s, v] w fun x w' => x = .returned (.tuple #[.string (mk (wrV e p s l)), .int .i64 (wrE e p s l)]) ∧ Below w.heap.size w w' := by
  have hv := h
  obtain ⟨a, c, rfl, h1, h2, -⟩ := h
  unfold maxLen at h2
  have HV : Hid (SgAt All w (.slice a l.length c) l) := hv
  have HGD := Lib.hid (good_any e p s)
  have HNL := Lib.hid hn
  clear hv hn
  cases hg : goodB e p s
  · rw [hg] at HGD
    have HO : Hid (wrOk e p s l = false) := by show wrOk e p s l = false; simp [wrOk, hg]
    clear hg
    go_enter Tryz.func47, Tryz.ntmps47
    go_wp2_with (go_at_call 45; refine (HGD.out _).mono ?_; rintro x w1 ⟨rfl, hb⟩; have HB1 := Lib.hid (below_trans (below_alloc w _) hb); clear hb)
    go_ret2
    exact ⟨by rw [(wr_bad HO.out).1, (wr_bad HO.out).2]; rfl, HB1.out⟩
  rw [hg] at HGD
  have HG := Lib.hid hg
  clear hg
  by_cases hl : l.length ≤ 4096
  case neg =>
    have hl' : (4096 : Int) < (l.length : Int) := by omega
    have HO : Hid (wrOk e p s l = false) := by show wrOk e p s l = false; simp [wrOk, hl]
    clear hl
    go_enter Tryz.func47, Tryz.ntmps47
    go_wp2_with (go_at_call 45; refine (HGD.out _).mono ?_; rintro x w1 ⟨rfl, hb⟩; have HB1 := Lib.hid (below_trans (below_alloc w _) hb); clear hb)
    go_ret2
    exact ⟨by rw [(wr_bad HO.out).1, (wr_bad HO.out).2]; rfl, HB1.out⟩
  have HL := Lib.hid hl
  have hl' : ¬ (4096 : Int) < (l.length : Int) := by omega
  go_enter Tryz.func47, Tryz.ntmps47
  go_upto_region 3 with (go_at_call 45; refine (HGD.out _).mono ?_; rintro x w1 ⟨rfl, hb⟩; have HB1 := Lib.hid (below_trans (below_alloc w _) hb); have HD := Lib.hid (DBox.grw (DBox.new w e p s) hb); clear hb)
  go_cut [6, 7] (fun s6 s7 wx => ∃ m1 m2, s6 = .func (.func 114) #[] #[.pointer (some ⟨m1, 0, none⟩)] ∧ s7 = .func (.func 114) #[] #[.pointer (some ⟨m2, 0, none⟩)] ∧ Hid (Below w1.heap.size w1 wx) ∧ Hid (Mark wx m1 e) ∧ Hid (Mark wx m2 p))
  case first =>
    obtain ⟨hd, d0, d1, d2⟩ := HD.out
    go_region_held3 (fun w' => w'.cell? ⟨w.heap.size, 0, none⟩ = some (.int .u8 e.toNat) ∧ w'.cell? ⟨w.heap.size, 1, none⟩ = some (.int .u8 p.toNat)) (go_keep) (first | (go_at_call 81; refine (joiner_any _ _).mono ?_; rintro x w' ⟨rfl, rfl⟩))
    all_goals
      go_wp2_with fail
      go_meet
      exact ⟨_, _, rfl, rfl, below_trans ((Below.refl _ w1).drew) (below_trans (below_mark e _) (below_mark p _)), Mark.grw (Mark.new w1.drew e) (below_mark p _), by have h := Mark.new (markW e w1.drew) p; rw [show (markW e w1.drew).heap.size = w1.heap.size + 1 + 1 from by simp] at h; exact h⟩
  case rest =>
    obtain ⟨m1, m2, rfl, rfl, HB2, HM1, HM2⟩ := hcut
    have HB3 := Lib.hid (below_trans HB1.out HB2.out)
    have HD2 := Lib.hid (DBox.grw HD.out HB2.out)
    clear HB1 HB2 HD HGD
    have hW : w.heap.size ≤ wc.heap.size := HB3.out.size
    have HS0 : Hid (SgAt (fun b => b < wc.heap.size) wc (.slice a l.length c) l) := SgAt.move HV.out ⟨HB3.out.size, fun b hb _ => ⟨Nat.lt_of_lt_of_le hb hW, HB3.out.block b hb⟩⟩
    clear HV
    have hd1 := HD2.out.1
    have hm1 := HM1.out.1
    have hm2 := HM2.out.1
    generalize hB : wc.heap.size = B at *
    have HBW := Lib.hid hB
    go_wp2
    clear hB
    go_loopg [30] (l.length) (fun gg i wr => ∃ k : Nat, k ≤ l.length ∧ gg = l.length - k ∧ i = .int .i64 k ∧ Hid (Lib.IsBuilder 109 5 B B (Lib.byteCells (wrT e p s (l.take k))) wr) ∧ Hid (∀ g ∈ l.take k, segOk e p s g = true) ∧ Hid (Below w.heap.size w wr) ∧ Hid (SgAt (fun b => b < B) wr (.slice a l.length c) l) ∧ Hid (DBox wr w.heap.size e p s) ∧ Hid (Mark wr m1 e) ∧ Hid (Mark wr m2 p))
    case atStart =>
      have hfr := Lib.fresh_isBuilder 109 5 wc
      rw [HBW.out] at hfr
      have hal := below_alloc wc (.cells #[.pointer none, .slice none 0 0] 109)
      exact ⟨0, Nat.zero_le _, rfl, rfl, hfr, fun g hg => by simp at hg, below_trans HB3.out hal, SgAt.move HS0.out ⟨hal.size, fun b hb hk => ⟨hk, hal.block b hb⟩⟩, DBox.grw HD2.out hal, Mark.grw HM1.out hal, Mark.grw HM2.out hal⟩
    case round =>
      clear HB3 HS0 HD2 HM1 HM2 HBW
      obtain ⟨k, hk, hgk, rfl, HBu, HOk, HBw, HSg, HD, HM1, HM2⟩ := hrel
      by_cases hlt : k < l.length
      · obtain ⟨b, o, u, rfl, hx, hu, hr⟩ := RowAt.get HSg.out k hlt
        have hmem : l[k] ∈ l := List.getElem_mem _
        have HE : Hid (ElAt All wr u l[k]) := ElAt.move hr (moves_weak wr fun _ _ _ => trivial)
        have HWS := Lib.hid (wr_snoc e p s l k _ hx)
        have HLT : Hid (ln (l.take (k + 1)) ≤ 100000) := Nat.le_trans (ln_take l (k + 1)) HNL.out
        have HTK : Hid (l.take (k + 1) = l.take k ++ [l[k]]) := by show _ = _; rw [List.take_add_one, hx]; rfl
        have hgn : gn l[k] ≤ 100000 := Nat.le_trans (gn_le hmem) HNL.out
        have HBAD : Hid (segOk e p s l[k] = false → wrOk e p s l = false) := ok_false hmem
        clear hx hmem
        obtain ⟨au, cu, rfl, hu1, hu2, -⟩ := hr
        unfold maxLen at hu2
        generalize l[k] = g at *
        have HGN := Lib.hid hgn
        have HNm := Lib.hid fun W h => named_any (.slice au g.length cu) g W h
        have HPt := Lib.hid fun W h => parts_any e p s (.slice au g.length cu) g W h (fun ps hps x hx => by have := xn_le hx; have := pn_le hps; have := HGN.out; simp only [maxLen]; omega)
        clear hgn
        have HST : Hid (∀ W, Below (wr.alloc (.cells #[.slice au g.length cu] 50)).heap.size (wr.alloc (.cells #[.slice au g.length cu] 50)) W → ElAt All W (.slice au g.length cu) g ∧ DBox W w.heap.size e p s ∧ W.cell? ⟨wr.heap.size, 0, none⟩ = some (.slice au g.length cu)) := fun W hW => by
          have hW2 := below_trans (below_alloc wr _) hW
          refine ⟨ElAt.move HE.out (Below.moves hW2), DBox.grw HD.out hW2, ?_⟩
          rw [hW.cell (p := ⟨wr.heap.size, 0, none⟩) (by simp)]
          simp
        have hBr : B < wr.heap.size := builder_lt HBu.out
        have HS1 : Hid (Below (wr.alloc (.cells #[.slice au g.length cu] 50)).heap.size (wr.alloc (.cells #[.slice au g.length cu] 50)) (wr.alloc (.cells #[.slice au g.length cu] 50))) := Below.refl _ _
        have HNE : Hid (∀ W, Below (wr.alloc (.cells #[.slice au g.length cu] 50)).heap.size (wr.alloc (.cells #[.slice au g.length cu] 50)) W → ∀ o, (W.alloc o).cell? ⟨wr.heap.size, 0, none⟩ = some (.slice au g.length cu)) := fun W h o => by
          rw [World.cell?_alloc_old]
          · exact (HST.out W h).2.2
          · have := h.size; simp at this; show wr.heap.size ≠ W.heap.size; omega
        cases hnm : namedB g
        · have HO := Lib.hid (HBAD.out (by simp [segOk, hnm]))
          rw [hnm] at HNm
          clear hnm
          go_wp2_with (go_at_call 82; refine (HNm.out _ (HST.out _ HS1.out).1).mono ?_; rintro x w2 ⟨rfl, hb⟩; have HB2 := Lib.hid hb; clear hb)
          go_ret2
          exact ⟨by rw [(wr_bad HO.out).1, (wr_bad HO.out).2]; rfl, below_trans HBw.out (below_trans (below_alloc wr _) HB2.out)⟩
        cases hpt : partsB e p s g
        · have HO := Lib.hid (HBAD.out (by simp [segOk, hpt]))
          rw [hnm] at HNm
          rw [hpt] at HPt
          clear hnm hpt
          go_wp2_with (first | (go_at_call 82; refine (HNm.out _ (HST.out _ HS1.out).1).mono ?_; rintro x w2 ⟨rfl, hb⟩; obtain ⟨-, ⟨-, d0, d1, d2⟩, hc2⟩ := HST.out _ hb; have HB2 := Lib.hid hb; clear hb) | (go_at_call 83; refine (HPt.out _ (HST.out _ HB2.out).1).mono ?_; rintro x w3 ⟨rfl, hb⟩; have HB3 := Lib.hid (below_trans HB2.out hb); clear hb))
          go_ret2
          exact ⟨by rw [(wr_bad HO.out).1, (wr_bad HO.out).2]; rfl, below_trans HBw.out (below_trans (below_alloc wr _) HB3.out)⟩
        have HSK : Hid (segOk e p s g = true) := by show segOk e p s g = true; simp [segOk, hnm, hpt]
        have hgl : g.length ≤ 100000 := Nat.le_trans (g_short hpt) HGN.out
        have hmk := run_make_row' (P := Tryz.prog) 45 9 (.string ByteArray.empty) 16 Tryz.underlying45 hi9 rfl .i64 .i64 g.length (by omega) (by omega)
        have HPM := Lib.hid (parts_mem hpt)
        have HGE := Lib.hid (named_ne hnm)
        have HSL := Lib.hid (segT_len hpt (named_ne hnm))
        rw [hnm] at HNm
        rw [hpt] at HPt
        clear hnm hpt
        go_wp2_with (first | (go_at_call 82; refine (HNm.out _ (HST.out _ HS1.out).1).mono ?_; rintro x w2 ⟨rfl, hb⟩; obtain ⟨-, ⟨-, d0, d1, d2⟩, hc2⟩ := HST.out _ hb; have HB2 := Lib.hid hb; clear hb) | (go_at_call 83; refine (HPt.out _ (HST.out _ HB2.out).1).mono ?_; rintro x w3 ⟨rfl, hb⟩; have HB3 := Lib.hid (below_trans HB2.out hb); clear hb; obtain ⟨-, -, hc3⟩ := HST.out _ HB3.out; have hn3 := HNE.out _ HB3.out))
        clear hmk
        have HEg := Lib.hid (HST.out _ HB3.out).1
        have HB4 := Lib.hid (below_trans (below_alloc wr _) HB3.out)
        clear HB2 HB3 HST HNm HPt HS1
        have hw3 : wr.heap.size ≤ w3.heap.size := HB4.out.size
        go_loopg [50] (g.length) (fun gg i wq => ∃ j : Nat, j ≤ g.length ∧ gg = g.length - j ∧ i = .int .i64 j ∧ Hid (wq.heap[w3.heap.size]? = some (.cells (Lib.cellsOf (((g.take j).map (joinC p)).map mk) g.length) 9 (0, 0))) ∧ Hid (Below w3.heap.size w3 wq))
        case atStart => exact ⟨0, Nat.zero_le _, rfl, rfl, by show _ = _; rw [List.take_zero, List.map_nil, List.map_nil, Lib.cellsOf_nil]; exact heap_alloc_new w3 _, below_alloc w3 _⟩
        case round =>
          obtain ⟨j, hj, hgj, rfl, HC, HBq⟩ := hrel
          have hszq : w3.heap.size < wr.heap.size := (Array.getElem?_eq_some_iff.1 HC.out).1
          have HEq : Hid (ElAt All wr (.slice au g.length cu) g) := ElAt.move HEg.out (Below.moves HBq.out)
          by_cases hltj : j < g.length
          · obtain ⟨bu, ou, ux, rfl, hxj, huj, hrj⟩ := RowAt.get HEq.out j hltj
            have hmk2 := Mark.grw (Mark.grw HM2.out HB4.out) HBq.out
            have HJ := Lib.hid (join_any ux g[j] p m2 wr hrj hmk2.2 (by have := join_short p g[j]; have := pn_le (List.getElem_mem hltj : g[j] ∈ g); have := HGN.out; omega))
            have hdl : (((g.take j).map (joinC p)).map mk).length = j := by simp; omega
            have HSET := Lib.hid (Lib.cellsOf_set (done := ((g.take j).map (joinC p)).map mk) (N := g.length) (by rw [hdl]; exact hltj) (mk (joinC p g[j])))
            have HNX := Lib.hid (Lib.cellsOf_next (done := ((g.take j).map (joinC p)).map mk) (N := g.length) (by rw [hdl]; exact hltj))
            rw [hdl] at HSET HNX
            have HTJ : Hid (((g.take (j + 1)).map (joinC p)).map mk = ((g.take j).map (joinC p)).map mk ++ [mk (joinC p g[j])]) := by show _ = _; rw [List.take_add_one, hxj, List.map_append, List.map_append]; rfl
            obtain ⟨aj, cj, rfl, hj1, hj2, -⟩ := hrj
            unfold maxLen at hj2
            clear hmk2 hdl hxj
            generalize mk (joinC p g[j]) = X at *
            generalize g[j] = ps at *
            go_wp2_with (go_at_call 114; refine HJ.out.mono ?_; rintro x w4 ⟨rfl, hb⟩; have HC4 := Lib.hid ((hb.block w3.heap.size hszq).trans HC.out); have hc4 := (cell_of_row w4 w3.heap.size j _ 9 (0, 0) HC4.out).trans HNX.out; have hf4 := Lib.frozen_of_heap HC4.out j; have HB5 := Lib.hid (HBq.out.trans (hb.mono (Nat.le_of_lt hszq))); clear hb)
            go_roundg (g.length - (j + 1))
            case rel => exact ⟨j + 1, by omega, rfl, by go_num, by show _ = _; rw [HTJ.out, ← HSET.out]; exact heap_set HC4.out j _, HB5.out.setCell (p := ⟨w3.heap.size, j, none⟩) (Nat.le_refl _) _⟩
            case measure => omega
          · have hall : g.take j = g := List.take_of_length_le (by omega)
            rw [hall] at HC
            clear hall
            have hml : ((g.map (joinC p)).map mk).length = g.length := by simp
            have htx : TxAt All wr (.slice (some ⟨w3.heap.size, 0, none⟩) g.length g.length) (g.map (joinC p)) := by
              have := tx_full (w := wr) (b := w3.heap.size) (g.map (joinC p)) (by rw [List.length_map]; exact HC.out) (by rw [List.length_map]; simp only [maxLen]; omega)
              rwa [List.length_map] at this
            have hmk1 := Mark.grw (Mark.grw HM1.out HB4.out) HBq.out
            have hsl : (segT e p g).length ≤ 100000 := by have := HSL.out; have := HGN.out; simp only [gn] at this; omega
            have HJ := Lib.hid (join_any _ (g.map (joinC p)) e m1 wr htx hmk1.2 (by show (segT e p g).length ≤ _; omega))
            have HJ2 : Hid (Calls Tryz.prog 114 #[.slice (some ⟨w3.heap.size, 0, none⟩) g.length g.length, .pointer (some ⟨m1, 0, none⟩)] wr fun x w' => x = .returned (.string (mk (segT e p g))) ∧ Below wr.heap.size wr w') := HJ.out
            have hBw3 : B < w3.heap.size := by omega
            have HX : Hid (∀ W, Below wr.heap.size wr W → Lib.IsBuilder 109 5 B B (Lib.byteCells (wrT e p s (l.take k))) W ∧ B ≤ W.heap.size) := fun W hW => by
              have h1 := builder_grw HBu.out (below_trans HB4.out (below_trans HBq.out hW))
              exact ⟨h1, Nat.le_of_lt (builder_lt h1)⟩
            have hok : ∀ g' ∈ l.take (k + 1), segOk e p s g' = true := fun g' hg' => by
              rw [HTK.out] at hg'
              rcases List.mem_append.1 hg' with h | h
              · exact HOk.out g' h
              · rw [List.mem_singleton.1 h]; exact HSK.out
            have HOk2 := Lib.hid hok
            have hlen := wrT_len (e := e) (p := p) (s := s) (l.take (k + 1)) hok
            have hlt2 := HLT.out
            rw [HWS.out] at hlen
            simp only [List.length_append, List.length_cons, List.length_nil] at hlen
            have HWSt := Lib.hid fun W h hb => writeString_b B B (Lib.byteCells (wrT e p s (l.take k))) (mk (segT e p g)) W h (by rw [Lib.byteCells_length, mk_size]; omega) hb
            have HWBt := Lib.hid fun W h hb => writeByte_b B B (Lib.byteCells (wrT e p s (l.take k)) ++ Lib.strCells (mk (segT e p g))) s.toNat W h (by rw [List.length_append, Lib.byteCells_length, Lib.strCells_length, mk_size]; omega) hb
            have HEND : Hid (Lib.byteCells (wrT e p s (l.take k)) ++ Lib.strCells (mk (segT e p g)) ++ [.int .u8 s.toNat] = Lib.byteCells (wrT e p s (l.take (k + 1)))) := by
              show _ = _
              rw [HWS.out, Lib.byteCells_append, Lib.byteCells_append, Lib.strCells_eq, mk_list, List.append_assoc]
              rfl
            have HDw : Hid (∀ W, Below B wr W → DBox W w.heap.size e p s) := fun W hW => DBox.below (DBox.grw (DBox.grw HD.out HB4.out) HBq.out) hW hd1
            have HALL : Hid (∀ W, Below B wr W → Below w.heap.size w W ∧ SgAt (fun b => b < B) W (.slice (some ⟨b, o, none⟩) l.length c) l ∧ Mark W m1 e ∧ Mark W m2 p) := fun W hW => by
              have hA := (below_trans HB4.out HBq.out).mono (Nat.le_of_lt hBr)
              have hA2 := hA.trans hW
              exact ⟨HBw.out.trans (hA2.mono (Nat.le_of_lt hd1)), SgAt.move HSg.out (Below.moves_lo hA2), HM1.out.below hA2 hm1, HM2.out.below hA2 hm2⟩
            generalize mk (segT e p g) = X at *
            clear HJ htx hmk1 hsl hok hlen hlt2 hml
            have hBq : B ≤ wr.heap.size := by omega
            go_wp2_with (first | (go_at_call 114; refine HJ2.out.mono ?_; rintro x w5 ⟨rfl, hb⟩; have HB5 := Lib.hid hb; clear hb) | (go_at_call 84; refine (HWSt.out _ (HX.out _ HB5.out).1 (HX.out _ HB5.out).2).mono ?_; rintro x w6 ⟨rfl, hb6, hbb⟩; have HU6 := Lib.hid hb6; have HB6 := Lib.hid ((HB5.out.mono hBq).trans hbb); clear hb6 hbb; obtain ⟨-, d0, d1, d2⟩ := HDw.out _ HB6.out) | (go_at_call 85; refine (HWBt.out _ (Or.inr HU6.out) (Nat.le_of_lt HU6.out.lt)).mono ?_; rintro x w7 ⟨rfl, hb7, hbb⟩; have HU7 := Lib.hid hb7; have HB7 := Lib.hid (HB6.out.trans hbb); clear hb7 hbb))
            go_roundg (l.length - (k + 1))
            case rel =>
              obtain ⟨q1, q2, q3, q4⟩ := HALL.out _ HB7.out
              exact ⟨k + 1, by omega, rfl, by go_num, Or.inr (by rw [← HEND.out]; exact HU7.out), HOk2, q1, q2, HDw.out _ HB7.out, q3, q4⟩
            case measure => omega
      · have hall : l.take k = l := List.take_of_length_le (by omega)
        rw [hall] at HBu HOk
        clear hall
        have HO := Lib.hid (ok_true HG.out HL.out HOk.out)
        have hsz : B < wr.heap.size := builder_lt HBu.out
        have HStr := Lib.hid (Tryz.Builder_String_any B B (wrT e p s l) wr HBu.out (by omega))
        generalize hm : (⟨(wrT e p s l).toArray⟩ : ByteArray) = T at HStr
        have HM := Lib.hid hm
        clear hm
        go_wp2_with (go_at_call 86; refine HStr.out.mono ?_; rintro x w' ⟨rfl, hb⟩; have HB9 := Lib.hid hb; clear hb)
        go_ret2
        exact ⟨by rw [(wr_good HO.out).1, (wr_good HO.out).2, mk, HM.out]; rfl, HBw.out.trans (HB9.out.mono (by omega))⟩
end Go.Proofs.YtpmnepihaljamaaGreatDoor
end
