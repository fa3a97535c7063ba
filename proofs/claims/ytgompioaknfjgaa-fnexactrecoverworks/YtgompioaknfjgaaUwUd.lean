/- The model's l14Undo. -/
import Derived.Test.YtgompioaknfjgaaUwK
import Derived.Test.YtgompioaknfjgaaUwV
import Derived.Deep.RegionHeldLaw
namespace Go.Proofs.Ytgompioaknfjgaa
set_option maxRecDepth 100000
open Go Go.ChangeShapes Go.WideShapes Go.ChangeAt Go.RowKit
theorem step_append_runU {P : Program} {ops : Array Oper} {o : Oper} {a : Act} {w : World} {K : Act → World → Prop} {Q : Exit → Act → World → Prop} {E : Prop}
    (hg : o.guard = none) (s x : Operand) (t : TypeId) (hop : o.op = Op.call { callee := Callee.builtin Builtin.append, args := #[s, x], argTypes := #[t, t] })
    (v y : Value) (hs : a.eval s = v) (hx : a.eval x = y) (v' : Value) (w' : World) (hrun : ∀ ty, (Builtin.append_ #[t, t] ty #[v, y]).run P w = .ok v' w') (hK : K (a.put o.dst v') w') :
    if Region.wanted o (yielded ops a.tmps) = true then Oper.wp P o a w K Q else E := by
  have hw : Region.wanted o (yielded ops a.tmps) = true := by simp [Region.wanted, hg]
  rw [if_pos hw]
  unfold Oper.wp
  simp [execOp, hop, resolve, invoke, builtin, hs, hx, hrun, Result.andThen]
  exact hK
/-- what one has set since it began, undone: the cells, and what is noted -/
def undC (l : List Nt) (who : Int) (cs : List Int) : Nat → List Int × List Nt
  | 0 => (cs, [])
  | k + 1 => match l[k]? with
    | none => (cs, [])
    | some n => if n.wh = who then (if n.kd = 1 then (cs, []) else ((undC l who (cs.set n.cl.toNat n.ws) k).1, (⟨2, who, n.cl, cs.getD n.cl.toNat 0, n.ws⟩ : Nt) :: (undC l who (cs.set n.cl.toNat n.ws) k).2)) else undC l who cs k
theorem undC_step (l : List Nt) (who : Int) (cs : List Int) (k : Nat) (h : k < l.length) : undC l who cs (k + 1) = if l[k].wh = who then (if l[k].kd = 1 then (cs, []) else ((undC l who (cs.set l[k].cl.toNat l[k].ws) k).1, (⟨2, who, l[k].cl, cs.getD l[k].cl.toNat 0, l[k].ws⟩ : Nt) :: (undC l who (cs.set l[k].cl.toNat l[k].ws) k).2)) else undC l who cs k := by
  show (match l[k]? with | none => (cs, []) | some n => if n.wh = who then (if n.kd = 1 then (cs, []) else ((undC l who (cs.set n.cl.toNat n.ws) k).1, (⟨2, who, n.cl, cs.getD n.cl.toNat 0, n.ws⟩ : Nt) :: (undC l who (cs.set n.cl.toNat n.ws) k).2)) else undC l who cs k) = _
  rw [List.getElem?_eq_getElem h]
theorem noteB_low {n : Nt} (h : noteB n = true) : 0 ≤ n.cl ∧ n.cl ≤ 5 := by
  by_cases h2 : n.kd = 2
  · exact noteB_cell h h2
  · unfold noteB at h
    rw [Bool.and_eq_true, if_neg h2, Bool.and_eq_true, Bool.and_eq_true] at h
    have := of_decide_eq_true h.2.2.1
    omega
/-- the log as it was may be read, wherever what was appended lies -/
theorem push_keeps {lo g cap : Nat} {b : Nat} {l acc : List Nt} {w : World} (h : AN lo (.slice (some ⟨g, 0, none⟩) (l ++ acc).length cap) (l ++ acc) w) (hl : Nts w.heap.size (some ⟨b, 0, none⟩) l w) (h0 : 0 < l.length) (n : Nt) (hm : (l ++ acc).length + 1 ≤ 10000) {v' : Value} {w' : World}
    (hrun : ∀ ty, (Builtin.append_ #[23, 23] ty #[.slice (some ⟨g, 0, none⟩) (l ++ acc).length cap, .slice (some ⟨w.heap.size, 0, none⟩) 1 1]).run Try.prog (w.alloc (.cells #[.int .i64 n.kd, .int .i64 n.wh, .int .i64 n.cl, .int .i64 n.ws, .int .i64 n.is] 67)) = .ok v' w')
    (hown : AN lo v' ((l ++ acc) ++ [n]) w') (hg : (w.alloc (.cells #[.int .i64 n.kd, .int .i64 n.wh, .int .i64 n.cl, .int .i64 n.ws, .int .i64 n.is] 67)).grownBy w' (some g)) : Nts w'.heap.size (some ⟨b, 0, none⟩) l w' := by
  by_cases e : g = b
  · subst e
    exact nts_pre (AN.push_old h n hm hrun hown)
  · have hb := boxB w (.cells #[.int .i64 n.kd, .int .i64 n.wh, .int .i64 n.cl, .int .i64 n.ws, .int .i64 n.is] 67)
    obtain ⟨b', off, e1, hlt, hc⟩ := GSl.cell hl (by simpa using h0)
    injection e1 with e1
    injection e1 with e1 e2 _
    subst e1; subst e2
    have hsz := hb.size
    refine ⟨fun _ => ⟨b, 0, rfl, Nat.lt_of_lt_of_le hlt (Nat.le_trans hsz hg.size), fun i hi j hj => ?_⟩⟩
    rw [World.cell?_of_block (a := ⟨b, 0 + i * 5 + j, none⟩) (hg.block b (Nat.lt_of_lt_of_le hlt hsz) (fun h => e (by injection h with h; exact h.symm))), hb.cell (p := ⟨b, 0 + i * 5 + j, none⟩) hlt]
    exact hc i hi j hj
theorem al_at {lo R c n : Nat} {l : List Int} {w : World} (h : AL lo (.slice (some ⟨R, 0, none⟩) n c) l w) (k : Nat) (hk : k < l.length) : w.cell? ⟨R, k, none⟩ = some (.int .i64 (l.getD k 0)) := by
  obtain ⟨R', c', e, hR, hrow, -⟩ := own_irow h (by omega)
  injection e with e1 _ _
  injection e1 with e1
  injection e1 with e1 _ _
  subst e1
  rw [hrow.cell k hk, List.getD_eq_getElem?_getD, List.getElem?_eq_getElem hk]
  rfl
theorem nts_same {B b : Nat} {l : List Nt} {w w' : World} (h : Nts B (some ⟨b, 0, none⟩) l w) (hs : B ≤ w'.heap.size) (hb : w'.heap[b]? = w.heap[b]?) : Nts w'.heap.size (some ⟨b, 0, none⟩) l w' := by
  refine ⟨fun h0 => ?_⟩
  obtain ⟨b', off, e1, hlt, hc⟩ := GSl.cell h h0
  injection e1 with e1
  injection e1 with e1 e2 _
  subst e1; subst e2
  refine ⟨b, 0, rfl, Nat.lt_of_lt_of_le hlt hs, fun i hi j hj => ?_⟩
  rw [World.cell?_of_block (a := ⟨b, 0 + i * 5 + j, none⟩) hb]
  exact hc i hi j hj
/-- what l14Undo keeps while it goes -/
structure Ud (w : World) (loC lo R c b : Nat) (l : List Nt) (g : Value) (cs : List Int) (acc : List Nt) (wr : World) : Prop where
  bel : Below loC w wr
  cells : AL loC (.slice (some ⟨R, 0, none⟩) 6 c) cs wr
  six : cs.length = 6
  low : R < lo
  far : lo ≤ b
  le : lo ≤ wr.heap.size
  log : AN lo g (l ++ acc) wr
  old : Nts wr.heap.size (some ⟨b, 0, none⟩) l wr
theorem Ud.on {w : World} {loC lo R c b : Nat} {l : List Nt} {g : Value} {cs : List Int} {acc : List Nt} {wr w' : World} (h : Ud w loC lo R c b l g cs acc wr) (q : Below wr.heap.size wr w') : Ud w loC lo R c b l g cs acc w' := by
  have h1 := (al_cell h.cells).2.1
  have h2 := (al_cell h.cells).1
  exact ⟨h.bel.trans (q.mono (by omega)), h.cells.below q, h.six, h.low, h.far, Nat.le_trans h.le q.size, h.log.below q, GSl.mono (GSl.below h.old q) q.size⟩
set_option maxHeartbeats 8000000 in
theorem sundo_any (loC lo R c b ka kg : Nat) (l : List Nt) (who : Int) (cs : List Int) (w : World) (h0 : 0 < l.length) (h60 : l.length ≤ 60) (hN : l.all noteB = true) (hU : Ud w loC lo R c b l (.slice (some ⟨b, 0, none⟩) l.length kg) cs [] w) :
    Calls Try.prog 73 #[.slice (some ⟨R, 0, none⟩) 6 c, .slice (some ⟨b, 0, none⟩) l.length ka, .int .i64 who, .slice (some ⟨b, 0, none⟩) l.length kg] w fun e w' => ∃ g, e = .returned g ∧ Ud w loC lo R c b l g (undC l who cs l.length).1 (undC l who cs l.length).2 w' := by
  have HU := hid hU
  have HNT := hid hN
  have HLN := hid h60
  have HL0 := hid h0
  have n2 : l.length ≤ 1048576 := by omega
  clear hU hN h0 h60
  go_enter Try.func73, Try.ntmps73
  go_wp2_with fail
  go_loopw [3, 9] (fun g i wr => ∃ (k : Nat) (cs' : List Int) (acc : List Nt), k ≤ l.length ∧ i = .int .i64 ((k : Int) - 1) ∧ Ud w loC lo R c b l g cs' acc wr ∧ acc.length + k ≤ l.length ∧ (undC l who cs' k).1 = (undC l who cs l.length).1 ∧ acc ++ (undC l who cs' k).2 = (undC l who cs l.length).2) (fun _ i _ => (intOf i + 1).toNat)
  case atStart => exact ⟨l.length, cs, [], Nat.le_refl _, by first | rfl | (congr 1; unfold wrap64; omega), HU.out, by simp, rfl, rfl⟩
  case round =>
    obtain ⟨k, cs', acc, hk, rfl, hu, hln, hF, hS⟩ := hrel
    have HV := hid hu
    have HF := hid hF
    have HS := hid hS
    have HLA := hid hln
    clear hu hF hS hln
    cases k with
    | zero =>
      have d1 : decide ((0 : Int) ≤ ((0 : Nat) : Int) - 1) = false := by decide
      have e1 : Hid (cs' = (undC l who cs l.length).1) := HF.out
      have e2 : Hid (acc = (undC l who cs l.length).2) := by show acc = _; rw [← HS.out]; exact (List.append_nil _).symm
      clear HF HS
      go_wp2_with fail
      go_ret
      exact ⟨_, rfl, by rw [← e1.out, ← e2.out]; exact HV.out⟩
    | succ j =>
      have hj : j < l.length := hk
      have ej : (((j + 1 : Nat) : Int) - 1) = (j : Int) := by omega
      have d1 : decide ((0 : Int) ≤ (j : Int)) = true := decide_eq_true (by omega)
      obtain ⟨b', off, eb, hb, hc⟩ := HV.out.old.cell (by omega)
      injection eb with eb
      injection eb with eb eo _
      obtain ⟨y0, y1, y2, y3, y4⟩ := hc j hj
      rw [← eb, ← eo] at y0 y1 y2 y3 y4
      simp only [Nat.zero_add] at y0 y1 y2 y3 y4
      have hnb := all_at HNT.out j hj
      have HCL := hid (noteB_low hnb)
      have HF2 : Hid ((if l[j].wh = who then (if l[j].kd = 1 then (cs', []) else ((undC l who (cs'.set l[j].cl.toNat l[j].ws) j).1, (⟨2, who, l[j].cl, cs'.getD l[j].cl.toNat 0, l[j].ws⟩ : Nt) :: (undC l who (cs'.set l[j].cl.toNat l[j].ws) j).2)) else undC l who cs' j).1 = (undC l who cs l.length).1) := by
        show Prod.fst _ = _
        rw [← undC_step l who cs' j hj]; exact HF.out
      have HS2 : Hid (acc ++ (if l[j].wh = who then (if l[j].kd = 1 then (cs', []) else ((undC l who (cs'.set l[j].cl.toNat l[j].ws) j).1, (⟨2, who, l[j].cl, cs'.getD l[j].cl.toNat 0, l[j].ws⟩ : Nt) :: (undC l who (cs'.set l[j].cl.toNat l[j].ws) j).2)) else undC l who cs' j).2 = (undC l who cs l.length).2) := by
        show acc ++ Prod.snd _ = _
        rw [← undC_step l who cs' j hj]; exact HS.out
      rw [ej]
      clear hc hnb HF HS eb eo hb
      generalize l[j].kd = p0 at *
      generalize l[j].wh = p1 at *
      generalize l[j].cl = p2 at *
      generalize l[j].ws = p3 at *
      generalize l[j].is = p4 at *
      have HV2 := hid (HV.out.on (boxB wr (.cells #[.int .i64 p0, .int .i64 p1, .int .i64 p2, .int .i64 p3, .int .i64 p4] 67)))
      have HL2 := hid (heap_last wr (.cells #[.int .i64 p0, .int .i64 p1, .int .i64 p2, .int .i64 p3, .int .i64 p4] 67))
      have HVO := hid (World.ownsRow.lt HV.out.log)
      obtain ⟨Z, hZ⟩ : ∃ Z, Z = wr.heap.size := ⟨_, rfl⟩
      go_upto_region 5 with fail
      rw [← hZ] at HL2 HVO ⊢
      clear hZ
      generalize wr.alloc (.cells #[.int .i64 p0, .int .i64 p1, .int .i64 p2, .int .i64 p3, .int .i64 p4] 67) = W2 at *
      have z0 := box_cell HL2.out 0
      have z1 := box_cell HL2.out 1
      clear y0 y1 y2 y3 y4 HV
      by_cases hw : p1 = who
      case neg =>
        have e1 : (p1 == who) = false := beq_eq_false_iff_ne.2 hw
        have e2 : (p1 != who) = true := bne_iff_ne.2 hw
        have e3 : decide (p1 = who) = false := decide_eq_false hw
        have HF3 : Hid ((undC l who cs' j).1 = (undC l who cs l.length).1) := by show Prod.fst _ = _; rw [← HF2.out, if_neg hw]
        have HS3 : Hid (acc ++ (undC l who cs' j).2 = (undC l who cs l.length).2) := by show acc ++ Prod.snd _ = _; rw [← HS2.out, if_neg hw]
        clear hw HF2 HS2
        go_wp2_with fail
        go_roundw
        case rel => exact ⟨j, cs', acc, by omega, by first | rfl | (congr 1; unfold wrap64; omega), HV2.out, by have := HLA.out; omega, HF3.out, HS3.out⟩
        case measure => simp [intOf]; try omega
      have e1 : (p1 == who) = true := beq_iff_eq.2 hw
      have e2 : (p1 != who) = false := by rw [bne, e1]; rfl
      have e3 : decide (p1 = who) = true := decide_eq_true hw
      rw [if_pos hw] at HF2 HS2
      clear hw
      by_cases q1 : p0 = 1
      · have g1 : (p0 == 1) = true := beq_iff_eq.2 q1
        have g2 : decide (p0 = 1) = true := decide_eq_true q1
        rw [if_pos q1] at HF2 HS2
        have e9 : Hid (cs' = (undC l who cs l.length).1) := HF2.out
        have e8 : Hid (acc = (undC l who cs l.length).2) := by show acc = _; rw [← HS2.out]; exact (List.append_nil _).symm
        clear q1 HF2 HS2
        go_wp2_with fail
        go_ret
        exact ⟨_, rfl, by rw [← e9.out, ← e8.out]; exact HV2.out⟩
      have g1 : (p0 == 1) = false := beq_eq_false_iff_ne.2 q1
      have g2 : decide (p0 = 1) = false := decide_eq_false q1
      rw [if_neg q1] at HF2 HS2
      clear q1
      obtain ⟨c0, c5⟩ := HCL.out
      obtain ⟨m, rfl⟩ : ∃ m : Nat, p2 = (m : Int) := ⟨p2.toNat, by omega⟩
      have hm : m < 6 := by omega
      have d5 : decide ((m : Int) < 6) = true := decide_eq_true (by omega)
      have hll : (l ++ acc).length + 1 ≤ 10000 := by have := HLA.out; have := HLN.out; rw [List.length_append]; omega
      obtain ⟨G, kG, rfl, -, -, -⟩ := HV2.out.log.row (by have := HL0.out; rw [List.length_append]; omega)
      have HVD := hid (HV2.out.on ((Below.refl _ W2).drew))
      have hZD : W2.drew.heap[Z]? = _ := HL2.out
      have hx := al_at HVD.out.cells m (by rw [HVD.out.six]; exact hm)
      rw [Int.toNat_natCast] at HF2 HS2
      generalize hxx : cs'.getD m 0 = x at *
      obtain ⟨v', w', r1, o1, gb1, gb⟩ := HVD.out.log.push HVD.out.le ⟨2, who, (m : Int), x, p3⟩ hll
      have hk := push_keeps HVD.out.log HVD.out.old HL0.out ⟨2, who, (m : Int), x, p3⟩ hll r1 o1 gb
      have hGZ : G < Z := (HVO.out G rfl).2
      have hbx := boxB W2.drew (.cells #[.int .i64 2, .int .i64 who, .int .i64 (m : Int), .int .i64 x, .int .i64 p3] 67)
      have hw0 : w'.heap[Z]? = W2.drew.heap[Z]? := (gb.block Z (Nat.lt_of_lt_of_le (kbox hZD) hbx.size) (fun e => by
        have e9 : some Z = some G := e
        injection e9 with e9
        omega)).trans (Below.heap_alloc _ _ _ (kbox hZD))
      have hRl := HVD.out.low
      have hR9 := (al_cell HVD.out.cells).1
      have hC : AL loC (.slice (some ⟨R, 0, none⟩) 6 c) cs' w' := rw_keep HVD.out.cells (fun k hk => by
        have e9 : some R = some k := hk
        injection e9 with e9
        subst e9
        exact gb1.block _ hRl)
      have hx2 : w'.cell? ⟨R, m, none⟩ = some (.int .i64 x) := by rw [al_at hC m (by rw [HVD.out.six]; exact hm), hxx]
      have hfr := (al_cell hC).2.2.2 m
      have S0 : W2.drew.cell? ⟨Z, 2, none⟩ = some (.int .i64 (m : Int)) ∧ W2.drew.cell? ⟨Z, 3, none⟩ = some (.int .i64 p3) ∧ W2.drew.cell? ⟨R, m, none⟩ = some (.int .i64 x) := ⟨box_cell hZD 2, box_cell hZD 3, hx⟩
      have S1 : (W2.alloc (.cells #[.int .i64 2, .int .i64 who, .int .i64 (m : Int), .int .i64 x, .int .i64 p3] 67)).drew.cell? ⟨Z, 2, none⟩ = some (.int .i64 (m : Int)) ∧ (W2.alloc (.cells #[.int .i64 2, .int .i64 who, .int .i64 (m : Int), .int .i64 x, .int .i64 p3] 67)).drew.cell? ⟨Z, 3, none⟩ = some (.int .i64 p3) ∧ (W2.alloc (.cells #[.int .i64 2, .int .i64 who, .int .i64 (m : Int), .int .i64 x, .int .i64 p3] 67)).drew.cell? ⟨R, m, none⟩ = some (.int .i64 x) := ⟨(hbx.cell (p := ⟨Z, 2, none⟩) (kbox hZD)).trans S0.1, (hbx.cell (p := ⟨Z, 3, none⟩) (kbox hZD)).trans S0.2.1, (hbx.cell (p := ⟨R, m, none⟩) hR9).trans S0.2.2⟩
      have S2 : w'.cell? ⟨Z, 2, none⟩ = some (.int .i64 (m : Int)) ∧ w'.cell? ⟨Z, 3, none⟩ = some (.int .i64 p3) ∧ w'.cell? ⟨R, m, none⟩ = some (.int .i64 x) := ⟨box_cell (hw0.trans hZD) 2, box_cell (hw0.trans hZD) 3, hx2⟩
      have hlo := (al_cell HVD.out.cells).2.1
      have HVE : Hid (Ud w loC lo R c b l v' (cs'.set m p3) (acc ++ [⟨2, who, (m : Int), x, p3⟩]) (w'.setCell ⟨R, m, none⟩ (.int .i64 p3))) := by
        refine ⟨setB (HVD.out.bel.trans (gb1.mono (by omega))) _ _ hlo _, setI hC m p3, by rw [List.length_set]; exact HVD.out.six, hRl, HVD.out.far, Nat.le_trans (Nat.le_trans HVD.out.le gb1.size) (setB (Below.refl R w') R m (Nat.le_refl _) _).size, ?_, nts_same hk (setB (Below.refl R w') R m (Nat.le_refl _) _).size (keepB _ _ _ _ _ (by have := HVD.out.far; omega))⟩
        rw [← List.append_assoc]
        refine rw_keep o1 (fun k hk => keepB _ _ _ _ _ ?_)
        have := (World.ownsRow.lt o1 k hk).1
        omega
      have r1 : ∀ ty, (Builtin.append_ #[23, 23] ty #[.slice (some ⟨G, 0, none⟩) (l ++ acc).length kG, .slice (some ⟨W2.heap.size, 0, none⟩) 1 1]).run Try.prog (W2.alloc (.cells #[.int .i64 2, .int .i64 who, .int .i64 (m : Int), .int .i64 x, .int .i64 p3] 67)).drew = .ok v' w' := r1
      obtain ⟨b9, c9, rfl, -⟩ := o1.own
      have hlen : (l ++ acc ++ [(⟨2, who, (m : Int), x, p3⟩ : Nt)]).length = l.length + (acc.length + 1) := by simp only [List.length_append, List.length_singleton]; omega
      rw [hlen] at HVE r1
      rw [List.length_append] at r1
      clear hlen
      clear o1 gb1 gb hk hbx hw0 hC hRl hR9 hlo hZD c0 c5 hGZ hxx
      go_upto_region 8 with fail
      go_region_held_law (fun v => v.cell? ⟨Z, 2, none⟩ = some (.int .i64 (m : Int)) ∧ v.cell? ⟨Z, 3, none⟩ = some (.int .i64 p3) ∧ v.cell? ⟨R, m, none⟩ = some (.int .i64 x)) (first | assumption) (first | (refine step_append_runU rfl _ _ 23 rfl _ _ rfl rfl _ _ r1 ?_))
      obtain ⟨s0, s1, s2⟩ := S2
      clear r1 S0 S1
      go_wp2_with fail
      go_roundw
      case rel => exact ⟨j, cs'.set m p3, acc ++ [⟨2, who, (m : Int), x, p3⟩], by omega, by first | rfl | (congr 1; unfold wrap64; omega), HVE.out, by have := HLA.out; rw [List.length_append, List.length_singleton]; omega, HF2.out, by rw [List.append_assoc]; exact HS2.out⟩
      case measure => simp [intOf]; try omega
end Go.Proofs.Ytgompioaknfjgaa
