/-
  Texts put together (merge.py): QRead, QSplit.
-/
import Derived.Test.YtpmnepihaljamaaGreatDoorM10
/-
  What seg.readSegs answers, as a contract: segment by segment.
-/
section
set_option linter.unusedSimpArgs false
namespace Go.Proofs.YtpmnepihaljamaaGreatDoor
open Go.RowKit
attribute [local go_sem ↓] Go.wp_at_zero Go.wp_at_succ

/-- A row of the call's own that holds these texts' segments. -/
def DoneAt (B : Nat) (gs : List Sg) (lv : Value) (w : World) : Prop := ∃ cs : List Value, w.ownsRow B 50 1 lv gs.length cs ∧ ∀ (i : Nat) g, gs[i]? = some g → ∃ u, cs[i]? = some u ∧ ElAt (fun b => lv.ownBlock ≠ some b) w u g
theorem DoneAt.grw {B : Nat} {gs : List Sg} {lv : Value} {w w' : World} (h : DoneAt B gs lv w) (hb : Below w.heap.size w w') : DoneAt B gs lv w' := by
  have hg : w.grownBy w' none := ⟨hb.os, hb.tape, hb.output, hb.size, fun k hk _ => hb.block k hk⟩
  obtain ⟨cs, h1, h2⟩ := h
  refine ⟨cs, h1.kept hg (by cases hv : lv.ownBlock <;> simp), fun i g hi => ?_⟩
  obtain ⟨u, hu, he⟩ := h2 i g hi
  exact ⟨u, hu, ElAt.move he ⟨hb.size, fun b hb' hk => ⟨hk, hb.block b hb'⟩⟩⟩
theorem DoneAt.segs {B : Nat} {gs : List Sg} {lv : Value} {w : World} (h : DoneAt B gs lv w) : SgAt All w lv gs := by
  obtain ⟨cs, h1, h2⟩ := h
  refine row_of_own h1 (fun _ _ => trivial) fun j u y hu hy => ?_
  obtain ⟨u', hu', he⟩ := h2 j y hy
  rw [hu] at hu'
  obtain rfl := Option.some.inj hu'
  exact ElAt.move he (moves_weak w fun _ _ _ => trivial)
theorem DoneAt.snoc {B : Nat} {gs : List Sg} {g : Sg} {lv v' u : Value} {w w' : World} {cs : List Value} (h1 : w.ownsRow B 50 1 lv gs.length cs) (h2 : ∀ (i : Nat) g, gs[i]? = some g → ∃ u, cs[i]? = some u ∧ ElAt (fun b => lv.ownBlock ≠ some b) w u g)
    (hu : ElAt (fun b => lv.ownBlock ≠ some b) w u g) (ho : w'.ownsRow B 50 1 v' (gs.length + 1) (cs ++ [u])) (hg : w.grownBy w' lv.ownBlock) (hat : v'.ownBlock = lv.ownBlock ∨ v'.ownBlock = some w.heap.size) : DoneAt B (gs ++ [g]) v' w' := by
  have hm : Moves (fun b => lv.ownBlock ≠ some b) (fun b => v'.ownBlock ≠ some b) w w' := moves_grown hg fun b hb hk => ⟨by
    rcases hat with e | e
    · rw [e]; exact hk
    · rw [e]; intro e2; have := Option.some.inj e2; omega, Ne.symm hk⟩
  have hl : cs.length = gs.length := by have := h1.1; omega
  refine ⟨cs ++ [u], by rw [List.length_append]; exact ho, fun i x hi => ?_⟩
  rcases Nat.lt_or_ge i gs.length with hlt | hge
  · rw [List.getElem?_append_left hlt] at hi
    obtain ⟨u', hu', he⟩ := h2 i x hi
    exact ⟨u', by rw [List.getElem?_append_left (by omega)]; exact hu', ElAt.move he hm⟩
  · rw [List.getElem?_append_right hge] at hi
    have h0 : i = gs.length := by
      have := (List.getElem?_eq_some_iff.1 hi).1
      simp at this; omega
    subst h0
    simp at hi
    subst hi
    exact ⟨u, by rw [List.getElem?_append_right (by omega), hl]; simp, ElAt.move hu hm⟩

/-- A row of rows of texts that is being filled. -/
def FillAt (be : Nat) (es : List (List Tx)) (n : Nat) (w : World) : Prop := ∃ us : List Value, us.length = es.length ∧ w.heap[be]? = some (.cells (us ++ List.replicate (n - es.length) (Value.slice none 0 0)).toArray 45 (0, 0)) ∧ ∀ (i : Nat) x, es[i]? = some x → ∃ u, us[i]? = some u ∧ TxAt (fun b => be < b) w u x
theorem FillAt.full {be : Nat} {es : List (List Tx)} {w : World} (h : FillAt be es es.length w) (hl : es.length ≤ maxLen) : ElAt (fun b => be ≤ b) w (.slice (some ⟨be, 0, none⟩) es.length es.length) es := by
  obtain ⟨us, h1, h2, h3⟩ := h
  refine ⟨_, _, rfl, Nat.le_refl _, hl, Or.inr ⟨be, 0, rfl, Nat.le_refl _, (Array.getElem?_eq_some_iff.1 h2).1, fun j x hj => ?_⟩⟩
  obtain ⟨u, hu, ht⟩ := h3 j x hj
  refine ⟨u, ?_, TxAt.move ht (moves_weak w fun _ _ h => Nat.le_of_lt h)⟩
  rw [Nat.zero_add, cell_of_row w be j _ 45 (0, 0) h2]
  simp [hu]
theorem FillAt.next {be : Nat} {es : List (List Tx)} {n : Nat} {w : World} (h : FillAt be es n w) (hl : es.length < n) : w.cell? ⟨be, es.length, none⟩ = some (.slice none 0 0) ∧ w.frozen? ⟨be, es.length, none⟩ = false := by
  obtain ⟨us, h1, h2, h3⟩ := h
  refine ⟨?_, Lib.frozen_of_heap h2 _⟩
  rw [cell_of_row w be _ _ 45 (0, 0) h2, ← h1, List.getElem?_toArray, List.getElem?_append_right (Nat.le_refl _), Nat.sub_self, List.getElem?_replicate, if_pos (by omega)]
theorem FillAt.grw {be : Nat} {es : List (List Tx)} {n : Nat} {w w' : World} (h : FillAt be es n w) (hb : Below w.heap.size w w') : FillAt be es n w' := by
  obtain ⟨us, h1, h2, h3⟩ := h
  refine ⟨us, h1, by rw [hb.block be (Array.getElem?_eq_some_iff.1 h2).1]; exact h2, fun i x hi => ?_⟩
  obtain ⟨u, hu, ht⟩ := h3 i x hi
  exact ⟨u, hu, TxAt.move ht ⟨hb.size, fun b hb' hk => ⟨hk, hb.block b hb'⟩⟩⟩
theorem FillAt.put {be : Nat} {es : List (List Tx)} {n : Nat} {w : World} (h : FillAt be es n w) (hl : es.length < n) {u : Value} {x : List Tx} (hu : TxAt (fun b => be < b) w u x) : FillAt be (es ++ [x]) n (w.setCell ⟨be, es.length, none⟩ u) := by
  obtain ⟨us, h1, h2, h3⟩ := h
  have hm : Moves (fun b => be < b) (fun b => be < b) w (w.setCell ⟨be, es.length, none⟩ u) := ⟨by simp [World.setCell], fun b hb hk => ⟨hk, Below.heap_setCell _ _ _ _ (by show b ≠ be; omega)⟩⟩
  refine ⟨us ++ [u], by simp [h1], ?_, fun i y hi => ?_⟩
  · rw [heap_set h2]
    congr 2
    obtain ⟨m, hmm⟩ : ∃ m, n - es.length = m + 1 := ⟨n - es.length - 1, by omega⟩
    have hm2 : n - (es ++ [x]).length = m := by simp; omega
    rw [hmm, hm2, ← h1, List.replicate_succ]
    apply Array.ext'
    simp [List.set_append]
  · rcases Nat.lt_or_ge i es.length with hlt | hge
    · rw [List.getElem?_append_left hlt] at hi
      obtain ⟨u', hu', he⟩ := h3 i y hi
      exact ⟨u', by rw [List.getElem?_append_left (by omega)]; exact hu', TxAt.move he hm⟩
    · rw [List.getElem?_append_right hge] at hi
      have h0 : i = es.length := by
        have := (List.getElem?_eq_some_iff.1 hi).1
        simp at this; omega
      subst h0
      simp at hi
      subst hi
      exact ⟨u, by rw [List.getElem?_append_right (by omega), h1]; simp, TxAt.move hu hm⟩
theorem FillAt.new (w : World) (n : Nat) : FillAt w.heap.size [] n (w.alloc (.cells (madeCells #[Value.slice none 0 0] n) 45)) := by
  refine ⟨[], rfl, ?_, fun i x hi => by simp at hi⟩
  have : madeCells #[Value.slice none 0 0] n = (([] : List Value) ++ List.replicate (n - 0) (Value.slice none 0 0)).toArray := by
    apply Array.ext'
    simp [madeCells]
    apply List.ext_getElem
    · simp
    · intro i h1 h2; simp [Nat.mod_one]
  rw [this]
  exact heap_alloc_new w _
theorem hi48 : (Tryz.prog.info? 45).map (fun i => (i.zero, i.size, i.bytes)) = some (some (.slice none 0 0), 1, 24) := by kernel_rfl
theorem info47 : ∃ i, Tryz.prog.info? 50 = some i ∧ i.zero = some (.agg #[.slice none 0 0]) ∧ i.size = 1 ∧ i.bytes = 24 := by
  have hi : (Tryz.prog.info? 50).map (fun i => (i.zero, i.size, i.bytes)) = some (some (.agg #[.slice none 0 0]), 1, 24) := by kernel_rfl
  cases hq : Tryz.prog.info? 50 with
  | none => rw [hq] at hi; cases hi
  | some i =>
    rw [hq] at hi
    simp only [Option.map_some, Option.some.injEq, Prod.mk.injEq] at hi
    exact ⟨i, rfl, hi⟩
theorem rd_at {e p : UInt8} {ts : List Tx} {k : Nat} {t : Tx} (hx : ts[k]? = some t) (h : rdE e p 0 (ts.take k) = 0) : rdE e p 0 ts = (if k = 4096 then 10 else if printB t = false then 4 else if namedB (parse e p t) = false then 4 else rdE e p (k + 1) (ts.drop (k + 1))) ∧ (k ≠ 4096 → printB t = true → namedB (parse e p t) = true → rdE e p 0 (ts.take (k + 1)) = 0) := by
  have hk := (List.getElem?_eq_some_iff.1 hx).1
  have hl : (ts.take k).length = k := by rw [List.length_take]; omega
  have hd : ts.drop k = t :: ts.drop (k + 1) := by
    rw [List.drop_eq_getElem_cons hk]
    congr 1
    exact Option.some.inj ((List.getElem?_eq_getElem hk).symm.trans hx)
  constructor
  · conv => lhs; rw [← List.take_append_drop k ts]
    rw [rd_append e p _ _ 0 h, hl, hd, Nat.zero_add, rdE]
  · intro h1 h2 h3
    rw [List.take_add_one, hx]
    rw [rd_append e p _ _ 0 h, hl, Nat.zero_add]
    show rdE e p k [t] = 0
    rw [rdE, if_neg h1, h2, h3]
    rfl

def rdV (e p : UInt8) (ts : List Tx) : List Sg := if rdE e p 0 ts = 0 then ts.map (parse e p) else []
theorem rdV_ok {e p : UInt8} {ts : List Tx} (h : rdE e p 0 ts = 0) : rdV e p ts = ts.map (parse e p) := by unfold rdV; rw [if_pos h]
theorem rdV_bad {e p : UInt8} {ts : List Tx} (h : rdE e p 0 ts ≠ 0) : rdV e p ts = [] := by unfold rdV; rw [if_neg h]
set_option maxHeartbeats 1000000 in
theorem read_any (e p s : UInt8) (v : Value) (ts : List Tx) (w : World) (h : TxAt All w v ts) (hT : Tab w) (hn : ts.length ≤ 65537) (hz : ∀ t ∈ ts, t.length ≤ 65536) :
    Calls Tryz.prog 93 #[dv e p s, v] w fun x w' => (∃ u, x = .returned (.tuple #[u, .int .i64 (rdE e p 0 ts)]) ∧ SgAt All w' u (rdV e p ts)) ∧ Below w.heap.size w w' := by
  have hv := h
  obtain ⟨a, c, rfl, h1, h2, -⟩ := h
  unfold maxLen at h2
  have HV : Hid (TxAt All w (.slice a ts.length c) ts) := hv
  have HZ := Lib.hid hz
  have HTb := Lib.hid hT
  clear hv hz hT
  obtain ⟨i47, q1, q2, q3, q4⟩ := info47
  obtain ⟨cp, hcp⟩ : ∃ cp : Nat, min (ts.length : Int) 4096 = (cp : Int) := ⟨min ts.length 4096, by omega⟩
  have hcp2 : cp ≤ 4096 := by omega
  have hmk : ∀ w : World, (Instr.makeSlice 53 (.int .i64 0) (.int .i64 (cp : Int))).run Tryz.prog w = .ok (.slice (some ⟨w.heap.size, 0, none⟩) 0 cp) (w.alloc (.cells (madeCells (Value.agg #[.slice none 0 0]).cells cp) 50)) := fun w => by
    have := run_make (P := Tryz.prog) w 53 50 i47 _ Tryz.underlying53 q1 q2 .i64 .i64 0 cp (by omega) (by omega) (by rw [q4]; omega) (by omega)
    rw [q3, Nat.mul_one] at this
    simpa using this
  go_enter Tryz.func93, Tryz.ntmps93
  go_upto_region 1 with fail
  go_cut [6, 7] (fun s6 s7 wx => ∃ m1 m2, s6 = .func (.func 122) #[] #[.pointer (some ⟨m1, 0, none⟩)] ∧ s7 = .func (.func 122) #[] #[.pointer (some ⟨m2, 0, none⟩)] ∧ Hid (Below w.heap.size w wx) ∧ Hid (Mark wx m1 e) ∧ Hid (Mark wx m2 p))
  case first =>
    go_region_held3 (fun w' => w'.cell? ⟨w.heap.size, 0, none⟩ = some (.int .u8 e.toNat) ∧ w'.cell? ⟨w.heap.size, 1, none⟩ = some (.int .u8 p.toNat)) (go_keep) (first | (go_at_call 94; refine (cutter_any _ _).mono ?_; rintro x w' ⟨rfl, rfl⟩))
    all_goals
      go_wp2_with fail
      go_meet
      have hbx := Below.drew (below_alloc w (.cells #[.int .u8 e.toNat, .int .u8 p.toNat, .int .u8 s.toNat] 23))
      refine ⟨_, _, rfl, rfl, below_trans hbx (below_trans (below_mark e _) (below_mark p _)), ?_, ?_⟩
      · have h := Mark.grw (Mark.new (w.alloc (.cells #[.int .u8 e.toNat, .int .u8 p.toNat, .int .u8 s.toNat] 23)).drew e) (below_mark p _)
        rw [show (w.alloc (.cells #[.int .u8 e.toNat, .int .u8 p.toNat, .int .u8 s.toNat] 23)).drew.heap.size = w.heap.size + 1 from by simp] at h
        exact h
      · have h := Mark.new (markW e (w.alloc (.cells #[.int .u8 e.toNat, .int .u8 p.toNat, .int .u8 s.toNat] 23)).drew) p
        rw [show (markW e (w.alloc (.cells #[.int .u8 e.toNat, .int .u8 p.toNat, .int .u8 s.toNat] 23)).drew).heap.size = w.heap.size + 1 + 1 + 1 from by simp] at h
        exact h
  case rest =>
    obtain ⟨m1, m2, rfl, rfl, HB1, HM1, HM2⟩ := hcut
    have HBC := HB1
    have hm1 := HM1.out.1
    have hm2 := HM2.out.1
    have h0c : Low wc.heap.size := HTb.out.1.le HB1.out.size
    have hBc : Hid (∀ o, Below w.heap.size w (wc.alloc o)) := fun o => below_trans HB1.out (below_alloc wc o)
    go_wp2
    go_loopg [8, 27] (ts.length) (fun gg lv i wr => ∃ k : Nat, k ≤ ts.length ∧ gg = ts.length - k ∧ i = .int .i64 k ∧ wc.heap.size ≤ wr.heap.size ∧ Hid (DoneAt wc.heap.size ((ts.take k).map (parse e p)) lv wr) ∧ Hid (rdE e p 0 (ts.take k) = 0) ∧ Hid (Below w.heap.size w wr) ∧ Hid (TxAt (fun b => b < wc.heap.size) wr (.slice a ts.length c) ts) ∧ Hid (Mark wr m1 e) ∧ Hid (Mark wr m2 p) ∧ Hid (Tab wr))
    case atStart =>
      have hal := below_alloc wc (.cells (madeCells (Value.agg #[.slice none 0 0]).cells cp) 50)
      refine ⟨0, Nat.zero_le _, rfl, rfl, by simp, ⟨[], World.ownsRow_made wc _ cp (Nat.le_refl _) (by simp only [maxLen]; omega) (by rw [size_madeCells, Nat.mul_one]), fun i g hi => by simp at hi⟩, rfl, hBc.out _, TxAt.move HV.out ⟨(hBc.out _).size, fun b hb _ => ⟨Nat.lt_of_lt_of_le hb HBC.out.size, (hBc.out _).block b hb⟩⟩, Mark.grw HM1.out hal, Mark.grw HM2.out hal, tab_grw HTb.out (hBc.out _)⟩
    case round =>
      clear HB1 HM1 HM2 hBc HV HTb hmk
      obtain ⟨k, hk, hgk, rfl, hbase, HDn, HRd, HBw, HTx, HM1, HM2, HTb⟩ := hrel
      by_cases hlt : k < ts.length
      · obtain ⟨b, o, u, rfl, hx, hu, rfl⟩ := RowAt.get HTx.out k hlt
        have hzt := HZ.out _ (List.mem_of_getElem? hx)
        obtain ⟨r1, r2⟩ := rd_at hx HRd.out
        have HTK : Hid ((ts.take (k + 1)).map (parse e p) = (ts.take k).map (parse e p) ++ [parse e p ts[k]]) := by show _ = _; rw [List.take_add_one, hx, List.map_append]; rfl
        have HR1 := Lib.hid r1
        have HR2 := Lib.hid r2
        clear r1 r2 hx
        generalize ts[k] = t at *
        have HPr := Lib.hid (print_any (mk t) wr (by rw [mk_size]; simp only [maxLen]; omega))
        rw [mk_list] at HPr
        have HCt := Lib.hid (cut_any (mk t) e m1 wr HM1.out.2 HTb.out (by rw [mk_size]; exact hzt))
        rw [mk_list] at HCt
        by_cases h4 : k = 4096
        · have hkb : ((k : Int) == 4096) = true := by rw [beq_iff_eq]; omega
          have HV4 : Hid (rdE e p 0 ts = 10) := by show _ = _; rw [HR1.out, if_pos h4]
          clear h4
          go_wp2
          go_ret2
          exact ⟨⟨_, by rw [HV4.out]; rfl, by rw [rdV_bad (by rw [HV4.out]; decide)]; exact SgAt.nil _ _⟩, HBw.out⟩
        have hkb : ((k : Int) == 4096) = false := by rw [beq_eq_false_iff_ne]; omega
        cases hp : printB t
        · have HV4 : Hid (rdE e p 0 ts = 4) := by show _ = _; rw [HR1.out, if_neg h4, if_pos hp]
          rw [hp] at HPr
          clear h4 hp
          go_wp2_with (go_at_call 121; refine HPr.out.mono ?_; rintro x w' ⟨rfl, hw⟩; rw [hw]; clear hw w')
          go_ret2
          exact ⟨⟨_, by rw [HV4.out]; rfl, by rw [rdV_bad (by rw [HV4.out]; decide)]; exact SgAt.nil _ _⟩, HBw.out⟩
        rw [hp] at HPr
        have H4 := Lib.hid h4
        have HP := Lib.hid hp
        clear h4 hp
        have hel := split_len e t
        have HEZ : Hid (∀ x ∈ splitC e t, x.length ≤ 65536) := fun x hx => Nat.le_trans (split_each e t x hx) hzt
        have HPE : Hid (parse e p t = (splitC e t).map (splitC p)) := rfl
        generalize hE : splitC e t = E at *
        clear hE
        have hmk := run_make_row' (P := Tryz.prog) 48 45 (.slice none 0 0) 24 Tryz.underlying48 hi48 rfl .i64 .i64 E.length (by omega) (by omega)
        generalize mk t = X at *
        go_wp2_with (first | (go_at_call 121; refine HPr.out.mono ?_; rintro x w' ⟨rfl, hw⟩; rw [hw]; clear hw w') | (go_at_call 122; refine HCt.out.mono ?_; rintro x w1 ⟨v1, rfl, ht1, hb1⟩; have HX1 := Lib.hid ht1; have HB1 := Lib.hid hb1; clear hb1; obtain ⟨a1, c1, rfl, hl1, hl2, -⟩ := ht1))
        clear hmk
        have hw1 : wr.heap.size ≤ w1.heap.size := HB1.out.size
        have HM2' := Lib.hid (Mark.grw HM2.out HB1.out)
        have HTb' := Lib.hid (tab_grw HTb.out HB1.out)
        go_loopg [46] (E.length) (fun gg i wq => ∃ j : Nat, j ≤ E.length ∧ gg = E.length - j ∧ i = .int .i64 j ∧ Hid (FillAt w1.heap.size ((E.take j).map (splitC p)) E.length wq) ∧ Hid (Below w1.heap.size w1 wq) ∧ Hid (wq.cell? ⟨w1.heap.size + 1, 0, none⟩ = some (.slice (some ⟨w1.heap.size, 0, none⟩) E.length E.length)) ∧ w1.heap.size + 1 < wq.heap.size)
        case atStart =>
          refine ⟨0, Nat.zero_le _, rfl, rfl, FillAt.grw (FillAt.new w1 E.length) (below_alloc _ _), below_trans (below_alloc w1 _) (below_alloc _ _), ?_, by simp⟩
          show _ = _
          simp
        case round =>
          obtain ⟨j, hj, hgj, rfl, HF, HBq, HBx, hszq⟩ := hrel
          have HTq : Hid (TxAt All wr (.slice a1 E.length c1) E) := TxAt.move HX1.out ⟨HBq.out.size, fun b hb _ => ⟨trivial, HBq.out.block b hb⟩⟩
          have hbx := HBx.out
          by_cases hltj : j < E.length
          · obtain ⟨b1, o1, u1, rfl, hxj, huj, rfl⟩ := RowAt.get HTq.out j hltj
            have hzj := HEZ.out _ (List.mem_of_getElem? hxj)
            have HTJ : Hid ((E.take (j + 1)).map (splitC p) = (E.take j).map (splitC p) ++ [splitC p E[j]]) := by show _ = _; rw [List.take_add_one, hxj, List.map_append]; rfl
            have hfl : ((E.take j).map (splitC p)).length = j := by simp; omega
            have hC2 := fun W (hW : Below wr.heap.size wr W) => cut_any (mk E[j]) p m2 W (Mark.grw (Mark.grw HM2'.out HBq.out) hW).2 (tab_grw (tab_grw HTb'.out HBq.out) hW) (by rw [mk_size]; exact hzj)
            rw [mk_list] at hC2
            have HC2 := Lib.hid hC2
            have HNX : Hid (∀ W, Below wr.heap.size wr W → W.cell? ⟨w1.heap.size, j, none⟩ = some (.slice none 0 0) ∧ W.frozen? ⟨w1.heap.size, j, none⟩ = false ∧ W.cell? ⟨w1.heap.size + 1, 0, none⟩ = some (.slice (some ⟨w1.heap.size, 0, none⟩) E.length E.length)) := fun W hW => by
              have h := FillAt.next (FillAt.grw HF.out hW) (by rw [hfl]; exact hltj)
              rw [hfl] at h
              exact ⟨h.1, h.2, by rw [hW.cell (p := ⟨w1.heap.size + 1, 0, none⟩) hszq]; exact HBx.out⟩
            have HPUT : Hid (∀ W u, Below wr.heap.size wr W → TxAt (fun b => wr.heap.size ≤ b) W u (splitC p E[j]) → FillAt w1.heap.size ((E.take (j + 1)).map (splitC p)) E.length (W.setCell ⟨w1.heap.size, j, none⟩ u)) := fun W u hW hu => by
              have h := FillAt.put (FillAt.grw HF.out hW) (by rw [hfl]; exact hltj) (TxAt.move hu (moves_weak W (K' := fun b => w1.heap.size < b) fun b _ hb => by omega))
              rw [hfl] at h
              rw [HTJ.out]
              exact h
            clear hC2 hxj hfl hzj
            generalize splitC p E[j] = ps at *
            generalize mk E[j] = Y at *
            go_wp2_with fail
            go_region_held3 (fun w' => w'.cell? ⟨w1.heap.size + 1, 0, none⟩ = some (.slice (some ⟨w1.heap.size, 0, none⟩) E.length E.length)) (go_keep) (first | (go_at_call 122; refine (HC2.out _ (Below.drew (Below.refl _ _))).mono ?_; rintro x w4 ⟨v4, rfl, ht4, hb4⟩; have HX4 := Lib.hid ht4; have HB4 := Lib.hid (below_trans (Below.drew (Below.refl _ wr)) hb4); clear hb4; obtain ⟨n1, n2, n3⟩ := HNX.out _ HB4.out; obtain ⟨a4, c4, rfl, hl41, hl42, -⟩ := ht4))
            all_goals
              go_wp2_with fail
              go_roundg (E.length - (j + 1))
              case rel => exact ⟨j + 1, by omega, rfl, by go_num, HPUT.out _ _ HB4.out HX4.out, (HBq.out.trans (HB4.out.mono (by omega))).setCell (p := ⟨w1.heap.size, j, none⟩) (Nat.le_refl _) _, (World.cell?_of_block (w := w4) (a := ⟨w1.heap.size + 1, 0, none⟩) (Below.heap_setCell _ _ _ _ (by show w1.heap.size + 1 ≠ w1.heap.size; omega))).trans n3, by have := HB4.out.size; simp only [World.setCell, Array.size_modify]; omega⟩
              case measure => omega
          · have hall : E.take j = E := List.take_of_length_le (by omega)
            rw [hall] at HF
            clear hall
            have hfl : (E.map (splitC p)).length = E.length := List.length_map ..
            have hfu : ElAt (fun b => w1.heap.size ≤ b) wr (.slice (some ⟨w1.heap.size, 0, none⟩) E.length E.length) (parse e p t) := by
              have h := FillAt.full (be := w1.heap.size) (es := E.map (splitC p)) (w := wr) (by rw [hfl]; exact HF.out) (by rw [hfl]; simp only [maxLen]; omega)
              rw [hfl] at h
              rw [HPE.out]
              exact h
            have HFU := Lib.hid hfu
            have HNm := Lib.hid (named_any (.slice (some ⟨w1.heap.size, 0, none⟩) E.length E.length) (parse e p t) wr (ElAt.move hfu (moves_weak wr fun _ _ _ => trivial)))
            have hBz := HB1.out.size
            have HBWQ := Lib.hid (below_trans HB1.out HBq.out)
            have HBWA := Lib.hid (below_trans HBw.out HBWQ.out)
            clear hfu hfl
            cases hnm : namedB (parse e p t)
            · have HV4 : Hid (rdE e p 0 ts = 4) := by show _ = _; rw [HR1.out, if_neg H4.out, if_neg (by rw [HP.out]; decide), if_pos hnm]
              rw [hnm] at HNm
              clear hnm
              go_wp2_with (go_at_call 82; refine HNm.out.mono ?_; rintro x w5 ⟨rfl, hb⟩; have HB5 := Lib.hid hb; clear hb)
              go_ret2
              exact ⟨⟨_, by rw [HV4.out]; rfl, by rw [rdV_bad (by rw [HV4.out]; decide)]; exact SgAt.nil _ _⟩, below_trans HBWA.out HB5.out⟩
            have HRn := Lib.hid (HR2.out H4.out HP.out hnm)
            rw [hnm] at HNm
            clear hnm
            have HAP : Hid (∀ W, Below wr.heap.size wr W → W.cell? ⟨w1.heap.size + 1, 0, none⟩ = some (.slice (some ⟨w1.heap.size, 0, none⟩) E.length E.length) ∧ ∃ cs : List Value, (W.alloc (.cells #[.slice (some ⟨w1.heap.size, 0, none⟩) E.length E.length] 50)).ownsRow wc.heap.size 50 1 u8 k cs ∧ (∀ (i : Nat) g, ((ts.take k).map (parse e p))[i]? = some g → ∃ u, cs[i]? = some u ∧ ElAt (fun b => u8.ownBlock ≠ some b) (W.alloc (.cells #[.slice (some ⟨w1.heap.size, 0, none⟩) E.length E.length] 50)) u g) ∧ ElAt (fun b => u8.ownBlock ≠ some b) (W.alloc (.cells #[.slice (some ⟨w1.heap.size, 0, none⟩) E.length E.length] 50)) (.slice (some ⟨w1.heap.size, 0, none⟩) E.length E.length) (parse e p t)) := fun W hW => by
              refine ⟨by rw [hW.cell (p := ⟨w1.heap.size + 1, 0, none⟩) hszq]; exact HBx.out, ?_⟩
              have hlt0 : ∀ g, u8.ownBlock = some g → g < w1.heap.size := fun g hg => by
                obtain ⟨cs, h1, -⟩ := HDn.out
                have := (h1.lt g hg).2
                omega
              have hd := DoneAt.grw HDn.out (below_trans HBWQ.out (below_trans hW (below_alloc W (.cells #[.slice (some ⟨w1.heap.size, 0, none⟩) E.length E.length] 50))))
              obtain ⟨cs, h1, h2⟩ := hd
              have hkl : ((ts.take k).map (parse e p)).length = k := by simp; omega
              rw [hkl] at h1
              refine ⟨cs, h1, h2, ElAt.move HFU.out (Moves.trans (K' := fun b => u8.ownBlock ≠ some b) (moves_weak wr fun b _ hb e0 => by have := hlt0 b e0; omega) ?_)⟩
              have hbb := below_trans hW (below_alloc W (.cells #[.slice (some ⟨w1.heap.size, 0, none⟩) E.length E.length] 50))
              exact ⟨hbb.size, fun b hb hk => ⟨hk, hbb.block b hb⟩⟩
            go_wp2_with (first | (go_at_call 82; refine HNm.out.mono ?_; rintro x w5 ⟨rfl, hb⟩; have HB5 := Lib.hid hb; obtain ⟨hb5, cs, ho, hel, hnw⟩ := HAP.out _ hb; have HO := Lib.hid ho; have HEL := Lib.hid hel; have HNW := Lib.hid hnw; clear hb ho hel hnw) | (at_builtin; refine wpList_append_own_at _ (by rfl) _ _ 53 (by rfl) wc.heap.size 50 i47 (.agg #[.slice none 0 0]) 1 24 Tryz.underlying53 q1 q2 q3 q4 (by rfl) (by omega) u8 k cs (by rfl) HO.out ⟨w5.heap.size, 0, none⟩ 1 1 [.slice (some ⟨w1.heap.size, 0, none⟩) E.length E.length] (by rfl) (by rfl) (cell_one_new w5 _ 50) ?c2 ?c3 ?c4 ?c5 ?_))
            case c2 => intro u hu; simp at hu; subst hu; rfl
            case c3 => simp only [maxLen]; omega
            case c4 => omega
            case c5 => have := HB5.out.size; simp; omega
            intro v' w7 hown hgrow hnil hat
            have HD7 : Hid (DoneAt wc.heap.size ((ts.take (k + 1)).map (parse e p)) v' w7) := by
              show DoneAt _ _ _ _
              rw [HTK.out]
              have hkl : ((ts.take k).map (parse e p)).length = k := by simp; omega
              refine DoneAt.snoc (by rw [hkl]; exact HO.out) HEL.out HNW.out (by rw [hkl]; exact hown) hgrow (by simpa using hat)
            have hrow : ∀ g, u8.ownBlock = some g → wc.heap.size ≤ g := fun g hg => (HO.out.lt g hg).1
            have hB7 : Below wc.heap.size wr w7 := ((HB5.out.mono (by omega)).alloc (by have := HB5.out.size; omega) _).grown hgrow (by have := HB5.out.size; simp; omega) hrow
            have hcw := HBC.out.size
            have HB7 := Lib.hid hB7
            have HEND : Hid (wc.heap.size ≤ w7.heap.size ∧ Below w.heap.size w w7 ∧ TxAt (fun b => b < wc.heap.size) w7 (.slice (some ⟨b, o, none⟩) ts.length c) ts ∧ Mark w7 m1 e ∧ Mark w7 m2 p ∧ Tab w7) := by
              have hO7 := (HBWQ.out.mono hbase).trans hB7
              exact ⟨Nat.le_trans hbase hO7.size, HBw.out.trans (hO7.mono hcw), TxAt.move HTx.out (Below.moves_lo hO7), HM1.out.below hO7 hm1, HM2.out.below hO7 hm2, tab_below HTb.out hO7 h0c⟩
            clear hown hgrow hnil hat hrow hB7
            go_wp2
            go_roundg (ts.length - (k + 1))
            case rel =>
              obtain ⟨z1, z2, z3, z4, z5, z6⟩ := HEND.out
              exact ⟨k + 1, by omega, rfl, by go_num, z1, HD7, HRn, z2, z3, z4, z5, z6⟩
            case measure => omega
      · have hall : ts.take k = ts := List.take_of_length_le (by omega)
        rw [hall] at HDn HRd
        clear hall
        go_wp2
        go_ret2
        exact ⟨⟨_, by rw [HRd.out]; rfl, by rw [rdV_ok HRd.out]; exact HDn.out.segs⟩, HBw.out⟩
end Go.Proofs.YtpmnepihaljamaaGreatDoor
end

/-
  What seg.Split answers, as a contract: for every text and whatever signs.
-/
section
set_option linter.unusedSimpArgs false
namespace Go.Proofs.YtpmnepihaljamaaGreatDoor
open Go.RowKit
attribute [local go_sem ↓] Go.wp_at_zero Go.wp_at_succ

theorem spE_arg {e p s : UInt8} {l : Tx} (h : goodB e p s = false) : spE e p s l = 1 := by simp [spE, h]
theorem spE_long {e p s : UInt8} {l : Tx} (h : goodB e p s = true) (h2 : 65536 < l.length) : spE e p s l = 10 := by simp [spE, h, h2]
theorem spE_none {e p s : UInt8} (h : goodB e p s = true) : spE e p s [] = 0 ∧ spV e p s [] = [] := by
  have : spE e p s [] = 0 := by simp [spE, h]
  exact ⟨this, by simp [spV, this, ini_nil]⟩
theorem spE_end {e p s : UInt8} {l : Tx} (h : goodB e p s = true) (h2 : l.length ≤ 65536) (h3 : l ≠ []) (h4 : l.getLast? ≠ some s) : spE e p s l = 4 := by
  unfold spE
  rw [h]
  simp only [Bool.true_eq_false, if_false, if_neg (show ¬ 65536 < l.length by omega), if_neg h3, if_pos h4]
theorem spE_go {e p s : UInt8} {l : Tx} (h : goodB e p s = true) (h2 : l.length ≤ 65536) (h3 : l ≠ []) (h4 : l.getLast? = some s) : spE e p s l = rdE e p 0 (ini s l) ∧ spV e p s l = rdV e p (ini s l) := by
  have : spE e p s l = rdE e p 0 (ini s l) := by
    unfold spE
    rw [h]
    simp only [Bool.true_eq_false, if_false, if_neg (show ¬ 65536 < l.length by omega), if_neg h3]
    rw [if_neg (by simp [h4])]
  exact ⟨this, by unfold spV rdV; rw [this]⟩
theorem last_at (t : ByteArray) (n : Nat) (hlt : n < t.size) (h : t.size = n + 1) : t.data.toList.getLast? = some (t[n]'hlt) := by
  have hl : t.data.toList.length = n + 1 := by rw [← Lib.size_eq]; exact h
  rw [List.getLast?_eq_getElem?, hl, Nat.add_sub_cancel, List.getElem?_eq_getElem (by omega)]
  rfl
theorem init_at (t : ByteArray) (n : Nat) (hlt : n < t.size) (h : t.size = n + 1) (s : UInt8) (hs : t[n]'hlt = s) : splitC s (t.extract 0 n).data.toList = ini s t.data.toList := by
  obtain ⟨a, e1, e2⟩ := ini_last s t.data.toList (by rw [last_at t n hlt h, hs])
  rw [e2, Lib.extract_data, List.drop_zero, Nat.sub_zero, e1]
  have hl : t.data.toList.length = n + 1 := by rw [← Lib.size_eq]; exact h
  rw [e1, List.length_append] at hl
  simp only [List.length_singleton] at hl
  rw [List.take_append_of_le_length (by omega), List.take_of_length_le (by omega)]

set_option maxHeartbeats 1000000 in
theorem split_any (e p s : UInt8) (t : ByteArray) (w : World) (hT : Tab w) (hs : t.size ≤ maxLen) :
    Calls Tryz.prog 61 #[dv e p s, .string t] w fun x w' => (∃ u, x = .returned (.tuple #[u, .int .i64 (spE e p s t.data.toList)]) ∧ SgAt All w' u (spV e p s t.data.toList)) ∧ Below w.heap.size w w' := by
  unfold maxLen at hs
  have HTb := Lib.hid hT
  have HGD := Lib.hid (good_any e p s)
  have HL : Hid (t.data.toList.length = t.size) := (Lib.size_eq t).symm
  clear hT
  cases hg : goodB e p s
  · rw [hg] at HGD
    have HE := Lib.hid (spE_arg (l := t.data.toList) hg)
    have HVv := Lib.hid (sp_bad (l := t.data.toList) (by rw [spE_arg hg]; decide))
    clear hg
    go_enter Tryz.func61, Tryz.ntmps61
    go_wp2_with (go_at_call 45; refine (HGD.out _).mono ?_; rintro x w1 ⟨rfl, hb⟩; have HB1 := Lib.hid (below_trans (below_alloc w _) hb); clear hb)
    go_ret2
    exact ⟨⟨_, by rw [HE.out]; rfl, by rw [HVv.out]; exact SgAt.nil _ _⟩, HB1.out⟩
  rw [hg] at HGD
  have HG := Lib.hid hg
  clear hg
  by_cases hl : 65536 < t.size
  · have hl' : (65536 : Int) < (t.size : Int) := by omega
    have hE := spE_long (l := t.data.toList) HG.out (by rw [HL.out]; exact hl)
    have HE := Lib.hid hE
    have HVv := Lib.hid (sp_bad (l := t.data.toList) (by rw [hE]; decide))
    clear hl hE
    go_enter Tryz.func61, Tryz.ntmps61
    go_wp2_with (go_at_call 45; refine (HGD.out _).mono ?_; rintro x w1 ⟨rfl, hb⟩; have HB1 := Lib.hid (below_trans (below_alloc w _) hb); clear hb)
    go_ret2
    exact ⟨⟨_, by rw [HE.out]; rfl, by rw [HVv.out]; exact SgAt.nil _ _⟩, HB1.out⟩
  have hl' : ¬ (65536 : Int) < (t.size : Int) := by omega
  have HTL : Hid (t.toList = t.data.toList) := Lib.toList_data t
  by_cases h0 : t.size = 0
  · have hn : t.data.toList = [] := List.length_eq_zero_iff.1 (by rw [HL.out]; exact h0)
    have ht : t.toList = [] := by rw [HTL.out]; exact hn
    have HN := Lib.hid hn
    have hemp : t.toList.isEmpty = true := by rw [ht]; rfl
    clear hn h0 hl
    go_enter Tryz.func61, Tryz.ntmps61
    go_wp2_with (go_at_call 45; refine (HGD.out _).mono ?_; rintro x w1 ⟨rfl, hb⟩; have HB1 := Lib.hid (below_trans (below_alloc w _) hb); clear hb)
    go_ret2
    exact ⟨⟨_, by rw [HN.out, (spE_none HG.out).1]; rfl, by rw [HN.out, (spE_none HG.out).2]; exact SgAt.nil _ _⟩, HB1.out⟩
  obtain ⟨n, hn⟩ : ∃ n, t.size = n + 1 := ⟨t.size - 1, by omega⟩
  have hne : t.data.toList ≠ [] := fun e => h0 (by rw [← HL.out, e]; rfl)
  have ht : ¬ t.toList = [] := by rw [HTL.out]; exact hne
  have hemp : t.toList.isEmpty = false := by cases e : t.toList with
    | nil => exact absurd e ht
    | cons a b => rfl
  have HNE := Lib.hid hne
  have hlt : n < t.size := by omega
  have HLA := Lib.hid (last_at t n hlt hn)
  have hst : Hid (∀ o w1, Below (w.alloc o).heap.size (w.alloc o) w1 → Below w.heap.size w w1) := fun o w1 h => below_trans (below_alloc w o) h
  have h65 : n ≤ 65535 := by omega
  have hn1 : (t.size : Int) - 1 = (n : Int) := by omega
  have HNn := Lib.hid hn
  clear hne h0 hl
  cases hq : (t[n] == s)
  · have hb : ((t[n].toNat : Int) != (s.toNat : Int)) = true := by rw [u8_ne, bne, hq]; rfl
    have HE := Lib.hid (spE_end HG.out (l := t.data.toList) (by rw [HL.out]; omega) HNE.out (by rw [HLA.out]; intro e; have e2 := Option.some.inj e; rw [e2] at hq; simp at hq))
    have HVv := Lib.hid (sp_bad (l := t.data.toList) (by rw [HE.out]; decide))
    clear hq hn
    go_enter Tryz.func61, Tryz.ntmps61
    go_wp2_with (go_at_call 45; refine (HGD.out _).mono ?_; rintro x w1 ⟨rfl, hb⟩; have HB1 := Lib.hid (below_trans (below_alloc w _) hb); obtain ⟨-, d0, d1, d2⟩ := DBox.grw (DBox.new w e p s) hb; clear hb)
    go_quiet (fail)
    go_wp2
    go_ret2
    exact ⟨⟨_, by rw [HE.out]; rfl, by rw [HVv.out]; exact SgAt.nil _ _⟩, below_drewN HB1.out _⟩
  have hs0 : t[n] = s := by simpa using hq
  have hb : ((t[n].toNat : Int) != (s.toNat : Int)) = false := by rw [u8_ne, bne, hq]; rfl
  obtain ⟨g1, g2⟩ := spE_go HG.out (l := t.data.toList) (by rw [HL.out]; omega) HNE.out (by rw [HLA.out, hs0])
  have HI := Lib.hid (init_at t n hlt hn s hs0)
  have HG1 := Lib.hid g1
  have HG2 := Lib.hid g2
  have hxs : (t.extract 0 n).size = n := by rw [ByteArray.size_extract]; omega
  have hxl : (t.extract 0 n).data.toList.length = n := by rw [← Lib.size_eq]; exact hxs
  have hts1 := split_len s (t.extract 0 n).data.toList
  have hts2 := split_each s (t.extract 0 n).data.toList
  rw [HI.out] at hts1 hts2
  rw [hxl] at hts1 hts2
  have HC := Lib.hid fun W m hm hT => cut_any (t.extract 0 n) s m W hm hT (by rw [hxs]; omega)
  rw [HI.out] at HC
  have HR := Lib.hid fun W v hv hT => read_any e p s v (ini s t.data.toList) W hv hT (by omega) (fun x hx => Nat.le_trans (hts2 x hx) (by omega))
  clear hq hs0 g1 g2 hxs hxl hts1 hts2 hn
  have hi1 : (n : Int) ≤ (t.size : Int) := by omega
  have hi2 : (0 : Int) ≤ (n : Int) := by omega
  rw [HG1.out, HG2.out]
  generalize ini s t.data.toList = ts at *
  go_enter Tryz.func61, Tryz.ntmps61
  go_wp2_with (go_at_call 45; refine (HGD.out _).mono ?_; rintro x w1 ⟨rfl, hb⟩; have HB1 := Lib.hid (below_trans (below_alloc w _) hb); have HD := Lib.hid (DBox.grw (DBox.new w e p s) hb); obtain ⟨-, d0, d1, d2⟩ := HD.out; clear hb)
  go_quiet (fail)
  go_wp2_with fail
  have HBX : Hid (Below w.heap.size w (markW s (w1.drewN nq).drew)) := below_trans (below_drewN HB1.out nq).drew (below_mark s _)
  have HC1 := Lib.hid (HC.out (markW s (w1.drewN nq).drew) (w1.heap.size + 1) (Mark.new (w1.drewN nq).drew s).2 (tab_grw HTb.out HBX.out))
  have HDX : Hid (∀ W, Below (markW s (w1.drewN nq).drew).heap.size (markW s (w1.drewN nq).drew) W → DBox W w.heap.size e p s ∧ Below w.heap.size w W ∧ Tab W) := fun W hW => by
    have h1 : DBox (w1.drewN nq).drew w.heap.size e p s := HD.out
    exact ⟨DBox.grw (DBox.grw h1 (below_mark s _)) hW, below_trans HBX.out hW, tab_grw (tab_grw HTb.out HBX.out) hW⟩
  clear HC
  go_region_held3 (fun w' => w'.cell? ⟨w.heap.size, 0, none⟩ = some (.int .u8 e.toNat) ∧ w'.cell? ⟨w.heap.size, 1, none⟩ = some (.int .u8 p.toNat) ∧ w'.cell? ⟨w.heap.size, 2, none⟩ = some (.int .u8 s.toNat)) (go_keep) (first | (go_at_call 94; refine (cutter_any _ _).mono ?_; rintro x w' ⟨rfl, rfl⟩) | (go_at_call 122; refine HC1.out.mono ?_; rintro x w2 ⟨v2, rfl, ht2, hb2⟩; have HX2 := Lib.hid ht2; have HB2 := Lib.hid hb2; obtain ⟨⟨-, d02, d12, d22⟩, -, -⟩ := HDX.out _ hb2; clear hb2 ht2) | (go_at_call 93; refine (HR.out _ _ (TxAt.move HX2.out (moves_weak _ fun _ _ _ => trivial)) (HDX.out _ HB2.out).2.2).mono ?_; rintro x w3 ⟨⟨u, rfl, hsg⟩, hb3⟩; have HSG := Lib.hid hsg; obtain ⟨⟨-, d03, d13, d23⟩, -, -⟩ := HDX.out _ (below_trans HB2.out hb3); have HB3 := Lib.hid (below_trans (HDX.out _ HB2.out).2.1 hb3); clear hsg hb3))
  all_goals
    go_wp2
    go_ret2
    exact ⟨⟨u, rfl, HSG.out⟩, HB3.out⟩
end Go.Proofs.YtpmnepihaljamaaGreatDoor
end
