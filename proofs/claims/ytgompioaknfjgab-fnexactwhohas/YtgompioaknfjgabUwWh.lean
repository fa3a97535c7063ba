/- Who has set a cell: the program's hasSet, openWithSet. -/
import Derived.Test.YtgompioaknfjgabUwGi
import Derived.Test.YtgompioaknfjgabUwH
import Derived.Test.YtgompioaknfjgabUwRp
namespace Go.Proofs.Ytgompioaknfjgab
set_option maxRecDepth 100000
open Go Go.ChangeShapes Go.WideShapes Go.ChangeAt Go.RowKit
def setB2 (who cell : Int) (n : Nt) : Bool := decide (n.kd = 2) && (decide (n.wh = who) && decide (n.cl = cell))
set_option maxHeartbeats 2000000 in
theorem hasSet1_any (B C : Nat) (who cell : Int) (p0 p1 p2 p3 p4 : Int) (w : World) (hB : B < w.heap.size) (hC : C < w.heap.size) (h1 : w.cell? ⟨B, 0, none⟩ = some (.int .i64 who)) (h2 : w.cell? ⟨C, 0, none⟩ = some (.int .i64 cell)) :
    Calls Try.prog 38 #[.agg #[.int .i64 p0, .int .i64 p1, .int .i64 p2, .int .i64 p3, .int .i64 p4], .pointer (some ⟨B, 0, none⟩), .pointer (some ⟨C, 0, none⟩)] w fun e w' => e = .returned (.bool (setB2 who cell ⟨p0, p1, p2, p3, p4⟩)) ∧ Below w.heap.size w w' := by
  have HB := hid (boxB w (.cells #[.int .i64 p0, .int .i64 p1, .int .i64 p2, .int .i64 p3, .int .i64 p4] 47))
  have HK := hid (heap_last w (.cells #[.int .i64 p0, .int .i64 p1, .int .i64 p2, .int .i64 p3, .int .i64 p4] 47))
  have y1 : (w.alloc (.cells #[.int .i64 p0, .int .i64 p1, .int .i64 p2, .int .i64 p3, .int .i64 p4] 47)).cell? ⟨B, 0, none⟩ = some (.int .i64 who) := (HB.out.cell (p := ⟨B, 0, none⟩) hB).trans h1
  have y2 : (w.alloc (.cells #[.int .i64 p0, .int .i64 p1, .int .i64 p2, .int .i64 p3, .int .i64 p4] 47)).cell? ⟨C, 0, none⟩ = some (.int .i64 cell) := (HB.out.cell (p := ⟨C, 0, none⟩) hC).trans h2
  have E : Hid (setB2 who cell ⟨p0, p1, p2, p3, p4⟩ = (decide (p0 = 2) && (decide (p1 = who) && decide (p2 = cell)))) := rfl
  generalize setB2 who cell ⟨p0, p1, p2, p3, p4⟩ = rr at *
  clear h1 h2 hB hC
  go_enter Try.func38, Try.ntmps38
  go_upto_region 1 with fail
  generalize w.alloc (.cells #[.int .i64 p0, .int .i64 p1, .int .i64 p2, .int .i64 p3, .int .i64 p4] 47) = W at *
  have x0 := box_cell HK.out 0
  have x1 := box_cell HK.out 1
  have x2 := box_cell HK.out 2
  by_cases k0 : p0 = 2
  case neg =>
    have e1 : (p0 == 2) = false := beq_eq_false_iff_ne.2 k0
    have E1 : Hid (rr = false) := by show rr = false; rw [E.out, decide_eq_false k0]; rfl
    clear k0 E
    go_wp2_with fail
    go_ret
    exact ⟨by rw [E1.out]; rfl, HB.out⟩
  have e1 : (p0 == 2) = true := beq_iff_eq.2 k0
  by_cases k1 : p1 = who
  case neg =>
    have e2 : (p1 == who) = false := beq_eq_false_iff_ne.2 k1
    have E1 : Hid (rr = false) := by show rr = false; rw [E.out, decide_eq_false k1]; simp
    clear k0 k1 E
    go_wp2_with fail
    go_ret
    exact ⟨by rw [E1.out]; rfl, HB.out⟩
  have e2 : (p1 == who) = true := beq_iff_eq.2 k1
  by_cases k2 : p2 = cell
  case neg =>
    have e3 : (p2 == cell) = false := beq_eq_false_iff_ne.2 k2
    have E1 : Hid (rr = false) := by show rr = false; rw [E.out, decide_eq_false k2]; simp
    clear k0 k1 k2 E
    go_wp2_with fail
    go_ret
    exact ⟨by rw [E1.out]; rfl, HB.out⟩
  have e3 : (p2 == cell) = true := beq_iff_eq.2 k2
  have E1 : Hid (rr = true) := by show rr = true; rw [E.out, decide_eq_true k0, decide_eq_true k1, decide_eq_true k2]; rfl
  clear k0 k1 k2 E
  go_wp2_with fail
  go_ret
  exact ⟨by rw [E1.out]; rfl, HB.out⟩
set_option maxHeartbeats 4000000 in
theorem indexN_any (B C : Nat) (a : Option Addr) (cap : Nat) (S : List Nt) (who cell : Int) (W : World) (hn : S.length ≤ 1048576) (hB : B < W.heap.size) (hC : C < W.heap.size) (h1 : W.cell? ⟨B, 0, none⟩ = some (.int .i64 who)) (h2 : W.cell? ⟨C, 0, none⟩ = some (.int .i64 cell)) (hG : Nts W.heap.size a S W) :
    Calls Try.prog 41 #[.slice a S.length cap, .func (.func 38) #[] #[.pointer (some ⟨B, 0, none⟩), .pointer (some ⟨C, 0, none⟩)]] W fun e w' => ∃ r : Int, e = .returned (.int .i64 r) ∧ decide (0 ≤ r) = S.any (setB2 who cell) ∧ Below W.heap.size W w' := by
  have HG := hid hG
  have HC : Hid (∀ v (p0 p1 p2 p3 p4 : Int), Below W.heap.size W v → Calls Try.prog 38 #[.agg #[.int .i64 p0, .int .i64 p1, .int .i64 p2, .int .i64 p3, .int .i64 p4], .pointer (some ⟨B, 0, none⟩), .pointer (some ⟨C, 0, none⟩)] v fun e w' => e = .returned (.bool (setB2 who cell ⟨p0, p1, p2, p3, p4⟩)) ∧ Below v.heap.size v w') := fun v p0 p1 p2 p3 p4 g => hasSet1_any B C who cell p0 p1 p2 p3 p4 v (Nat.lt_of_lt_of_le hB g.size) (Nat.lt_of_lt_of_le hC g.size) ((g.cell (p := ⟨B, 0, none⟩) hB).trans h1) ((g.cell (p := ⟨C, 0, none⟩) hC).trans h2)
  have HY : Hid (∀ k (h : k < S.length), setB2 who cell S[k] = true → decide (0 ≤ (k : Int)) = S.any (setB2 who cell)) := fun k h e => by
    rw [decide_eq_true (by omega)]
    exact (List.any_eq_true.2 ⟨S[k], List.getElem_mem h, e⟩).symm
  have HN : Hid ((∀ j (h : j < S.length), setB2 who cell S[j] = false) → decide (0 ≤ (-1 : Int)) = S.any (setB2 who cell)) := fun h => by
    have e : S.any (setB2 who cell) = false := by
      rw [List.any_eq_false]
      intro x hx
      obtain ⟨j, hj, rfl⟩ := List.getElem_of_mem hx
      rw [h j hj]; decide
    rw [e]; rfl
  clear hG h1 h2 hB hC
  generalize S.any (setB2 who cell) = rr at *
  go_enter Try.func41, Try.ntmps41
  go_wp2_with fail
  go_loopw [8] (fun i wr => ∃ k : Nat, k ≤ S.length ∧ i = .int .i64 k ∧ (∀ j (h : j < S.length), j < k → setB2 who cell S[j] = false) ∧ Below W.heap.size W wr) (fun i _ => S.length - (intOf i).toNat)
  case atStart => exact ⟨0, Nat.zero_le _, rfl, (fun _ _ h => absurd h (Nat.not_lt_zero _)), Below.refl _ _⟩
  case round =>
    obtain ⟨k, hk, rfl, hall, hbel⟩ := hrel
    have HALL := hid hall
    have HBEL := hid hbel
    clear hall
    by_cases hlt : k < S.length
    · obtain ⟨b, off, rfl, hb, hcl⟩ := (HG.out.below hbel).cell (by omega)
      obtain ⟨y0, y1, y2, y3, y4⟩ := hcl k hlt
      have HYk := hid (HY.out k hlt)
      have HGO : Hid (setB2 who cell S[k] = false → ∀ j (hj : j < S.length), j < k + 1 → setB2 who cell S[j] = false) := fun h j hj hjk => by
        by_cases e : j = k
        · subst e; exact h
        · exact HALL.out j hj (by omega)
      have HES : Hid (setB2 who cell S[k] = setB2 who cell ⟨S[k].kd, S[k].wh, S[k].cl, S[k].ws, S[k].is⟩) := rfl
      rw [HES.out] at HYk HGO
      clear hcl hbel HES
      generalize S[k].kd = p0 at *
      generalize S[k].wh = p1 at *
      generalize S[k].cl = p2 at *
      generalize S[k].ws = p3 at *
      generalize S[k].is = p4 at *
      have HCk := hid (HC.out wr p0 p1 p2 p3 p4 HBEL.out)
      generalize setB2 who cell ⟨p0, p1, p2, p3, p4⟩ = r at *
      go_wp2_with fail
      refine HCk.out.mono ?_
      rintro e w2 ⟨rfl, g2⟩
      have HB2 : Hid (Below W.heap.size W w2) := HBEL.out.trans (g2.mono HBEL.out.size)
      clear g2 HCk y0 y1 y2 y3 y4
      cases r
      · have HG2 := hid (HGO.out rfl)
        clear HGO HYk
        go_wp2_with fail
        go_roundw
        case rel => exact ⟨k + 1, by omega, by go_num, HG2.out, HB2.out⟩
        case measure => simp [intOf]; omega
      · have HE := hid (HYk.out rfl)
        clear HGO HYk
        go_wp2_with fail
        go_ret
        exact ⟨_, rfl, HE.out, HB2.out⟩
    obtain rfl : k = S.length := by omega
    have HE := hid (HN.out (fun j hj => HALL.out j hj hj))
    go_wp2_with fail
    go_ret
    exact ⟨_, rfl, HE.out, HBEL.out⟩
theorem containsN_any (B C : Nat) (a : Option Addr) (cap : Nat) (S : List Nt) (who cell : Int) (W : World) (hn : S.length ≤ 1048576) (hB : B < W.heap.size) (hC : C < W.heap.size) (h1 : W.cell? ⟨B, 0, none⟩ = some (.int .i64 who)) (h2 : W.cell? ⟨C, 0, none⟩ = some (.int .i64 cell)) (hG : Nts W.heap.size a S W) :
    Calls Try.prog 37 #[.slice a S.length cap, .func (.func 38) #[] #[.pointer (some ⟨B, 0, none⟩), .pointer (some ⟨C, 0, none⟩)]] W fun e w' => e = .returned (.bool (S.any (setB2 who cell))) ∧ Below W.heap.size W w' := by
  have HI := hid (indexN_any B C a cap S who cell W hn hB hC h1 h2 hG)
  clear hG h1 h2 hB hC
  go_enter Try.func37, Try.ntmps37
  go_wp2_with fail
  refine HI.out.mono ?_
  rintro e w2 ⟨r, rfl, h1, h2⟩
  have H1 := hid h1
  have H2 := hid h2
  clear h1 h2 HI
  go_wp2_with fail
  go_ret
  exact ⟨val_b H1.out |> congrArg Ending.returned, H2.out⟩
theorem Nts.drop {B b off : Nat} {l : List Nt} {w : World} (h : Nts B (some ⟨b, off, none⟩) l w) (k : Nat) : Nts B (some ⟨b, off + k * 5, none⟩) (l.drop k) w := by
  refine ⟨fun h0 => ?_⟩
  have hk : k < l.length := by simp at h0; omega
  obtain ⟨b', off', e, hb, hc⟩ := GSl.cell h (by simp; omega)
  injection e with e
  injection e with e1 e2 _
  subst e1 e2
  refine ⟨b, off + k * 5, rfl, hb, fun i hi j hj => ?_⟩
  have hi' : i < (l.drop k).length := by simpa using hi
  have hki : k + i < l.length := by rw [List.length_drop] at hi'; omega
  have hki2 : k + i < (l.map ntc).length := by simpa using hki
  have hh := hc (k + i) hki2 j hj
  have e3 : (l.map ntc)[k + i] = ((l.drop k).map ntc)[i] := by simp
  have e4 : off + (k + i) * 5 + j = off + k * 5 + i * 5 + j := by omega
  rw [e4] at hh
  rw [hh]
  simp
/-- one that is open has set a cell since the last beginning -/
def hasBB (l : List Nt) (who cell : Int) : Bool := (l.drop (fromI l who)).any (setB2 who cell)
theorem has_run (l : List Nt) (who cell : Int) (i : Nat) (hi : i < l.length) (hw : l[i].wh = who) (hk : l[i].kd = 1) (hq : ∀ j (h : j < l.length), i < j → l[j].wh = who → l[j].kd = 2) : ∀ d, i + 1 + d ≤ l.length → hasN l who cell (i + 1 + d) = ((l.drop (i + 1)).take d).any (setB2 who cell)
  | 0, _ => by
    show hasN l who cell (i + 1) = _
    rw [hasN_step l who cell i hi, if_pos hw, if_pos hk]; rfl
  | d + 1, h => by
    have hl : i + 1 + d < l.length := h
    have ih := has_run l who cell i hi hw hk hq d (by omega)
    show hasN l who cell (i + 1 + d + 1) = _
    rw [hasN_step l who cell (i + 1 + d) hl, ih, List.take_succ_eq_append_getElem (by rw [List.length_drop]; omega), List.any_append]
    have e : (l.drop (i + 1))[d]'(by rw [List.length_drop]; omega) = l[i + 1 + d] := by simp
    rw [e]
    have hs : [l[i + 1 + d]].any (setB2 who cell) = setB2 who cell l[i + 1 + d] := by simp
    rw [hs]
    unfold setB2
    by_cases q1 : l[i + 1 + d].wh = who
    · have q2 := hq (i + 1 + d) hl (by omega) q1
      rw [if_pos q1, if_neg (by omega), decide_eq_true q2, decide_eq_true q1]
      by_cases q3 : l[i + 1 + d].cl = cell
      · rw [if_pos ⟨q2, q3⟩, decide_eq_true q3]; simp
      · rw [if_neg (fun h => q3 h.2), decide_eq_false q3]; simp
    · rw [if_neg q1, decide_eq_false q1]; simp
theorem has_eq {l : List Nt} {who : Int} (cell : Int) (h : isO l who = true) : hasBB l who cell = hasL l who cell := by
  obtain ⟨h1, h2, h3, h4⟩ := open_from h
  rw [getD_in l _ zeroNt h1] at h2 h3
  have hr := has_run l who cell (fromI l who) h1 h3 h2 (fun j hj hij hw => by have := h4 j hij hj (by rw [getD_in l j zeroNt hj]; exact hw); rw [getD_in l j zeroNt hj] at this; exact this) (l.length - (fromI l who + 1)) (by omega)
  have e1 : fromI l who + 1 + (l.length - (fromI l who + 1)) = l.length := by omega
  rw [e1] at hr
  show _ = hasN l who cell l.length
  rw [hr, List.take_of_length_le (by rw [List.length_drop]; omega)]
  unfold hasBB
  rw [List.drop_eq_getElem_cons h1, List.any_cons]
  have e2 : setB2 who cell l[fromI l who] = false := by unfold setB2; rw [decide_eq_false (p := l[fromI l who].kd = 2) (by omega)]; rfl
  rw [e2]; rfl
set_option maxHeartbeats 4000000 in
theorem hasSet_any (a : Option Addr) (cap : Nat) (l : List Nt) (who cell : Int) (w : World) (hn : l.length ≤ 1048576) (hcap : l.length ≤ cap) (ho : isO l who = true) (hZ : Nts w.heap.size a l w) :
    Calls Try.prog 31 #[.slice a l.length cap, .int .i64 who, .int .i64 cell] w fun e w' => e = .returned (.bool (hasBB l who cell)) ∧ Below w.heap.size w w' := by
  obtain ⟨hf, -, -, -⟩ := open_from ho
  obtain ⟨b, off, rfl, -, -⟩ := hZ.cell (by omega)
  have hb : Below w.heap.size w ((w.alloc (.cells #[.int .i64 who] 3)).alloc (.cells #[.int .i64 cell] 3)) := ((Below.refl _ w).alloc (Nat.le_refl _) _).alloc (by simp) _
  have hc1 : ((w.alloc (.cells #[.int .i64 who] 3)).alloc (.cells #[.int .i64 cell] 3)).heap[w.heap.size]? = some (.cells #[.int .i64 who] 3) := heap_mid2 _ _ _
  have hc2 : ((w.alloc (.cells #[.int .i64 who] 3)).alloc (.cells #[.int .i64 cell] 3)).heap[w.heap.size + 1]? = some (.cells #[.int .i64 cell] 3) := heap_last2 _ _ _
  have HZ : Hid (∀ v, Below w.heap.size w v → Nts v.heap.size (some ⟨b, off, none⟩) l v) := fun v g => (hZ.below g).mono g.size
  have HOF : Hid (∀ v, Below w.heap.size w v → Calls Try.prog 36 #[.slice (some ⟨b, off, none⟩) l.length cap, .int .i64 who] v fun e W' => e = .returned (.tuple #[.int .i64 (fromI l who : Int), .bool true]) ∧ Below v.heap.size v W') := fun v g => by
    have := openFrom_any (some ⟨b, off, none⟩) cap l who v hn (HZ.out v g)
    rw [ho] at this
    exact this
  have E : Hid (hasBB l who cell = (l.drop (fromI l who)).any (setB2 who cell)) := rfl
  have HB := hid hb
  have HC1 := hid hc1
  have HC2 := hid hc2
  have x1 := box_cell hc1 0
  generalize hasBB l who cell = rr at *
  generalize fromI l who = m at *
  clear hb hc1 hc2 hZ ho
  go_enter Try.func31, Try.ntmps31
  go_upto_region 1 with fail
  generalize (w.alloc (.cells #[.int .i64 who] 3)).alloc (.cells #[.int .i64 cell] 3) = W at *
  go_wp2_with fail
  refine (HOF.out W HB.out).mono ?_
  rintro e w2 ⟨rfl, b2⟩
  have HB2 := hid (HB.out.trans (b2.mono HB.out.size))
  have HD1 := hid ((b2.block _ (kbox HC1.out)).trans HC1.out)
  have HD2 := hid ((b2.block _ (kbox HC2.out)).trans HC2.out)
  have e3 : l.length - m = (l.drop m).length := by simp
  have HCN := hid (containsN_any w.heap.size (w.heap.size + 1) (some ⟨b, off + m * 5, none⟩) (cap - m) (l.drop m) who cell w2 (by rw [← e3]; omega) (kbox HD1.out) (kbox HD2.out) (box_cell HD1.out 0) (box_cell HD2.out 0) ((HZ.out w2 HB2.out).drop m))
  rw [← e3] at HCN
  clear b2 HOF x1 e3
  go_wp2_with fail
  refine HCN.out.mono ?_
  rintro e w3 ⟨rfl, b3⟩
  have HB3 := hid (HB2.out.trans (b3.mono HB2.out.size))
  clear b3 HCN
  go_wp2_with fail
  go_ret
  exact ⟨by rw [E.out]; rfl, HB3.out⟩
/-- the first of the open ones, but for one, that has set a cell -/
def owF (l : List Nt) (cell but : Int) : List Int → Int × Bool
  | [] => (0, false)
  | who :: r => if who ≠ but ∧ hasBB l who cell = true then (who, true) else owF l cell but r
theorem owF_step (l : List Nt) (cell but : Int) (o : List Int) (k : Nat) (h : k < o.length) : owF l cell but (o.drop k) = if o[k] ≠ but ∧ hasBB l o[k] cell = true then (o[k], true) else owF l cell but (o.drop (k + 1)) := by
  rw [List.drop_eq_getElem_cons h]; rfl
theorem owF_who (l : List Nt) (cell : Int) : ∀ o : List Int, (∀ who ∈ o, 1 ≤ who ∧ isO l who = true) → owF l cell 0 o = (whoF l cell o, decide (whoF l cell o ≠ 0))
  | [], _ => rfl
  | who :: r, h => by
    obtain ⟨h1, h2⟩ := h who (List.mem_cons_self ..)
    have ih := owF_who l cell r (fun x hx => h x (List.mem_cons_of_mem _ hx))
    show (if who ≠ 0 ∧ hasBB l who cell = true then (who, true) else owF l cell 0 r) = (if hasL l who cell then who else whoF l cell r, decide ((if hasL l who cell then who else whoF l cell r) ≠ 0))
    rw [has_eq cell h2]
    cases hasL l who cell
    · rw [if_neg (fun h => by cases h.2)]; exact ih
    · rw [if_pos ⟨by omega, rfl⟩]
      show (who, true) = (who, decide (who ≠ 0))
      rw [decide_eq_true (by omega)]
set_option maxHeartbeats 4000000 in
theorem iow_any (A : UwA) (X : Uw) (cell but : Int) (w : World) (hf : UwFit X) (hcap : X.lg.length ≤ A.kl) (hop : ∀ who ∈ X.op, isO X.lg who = true) (h : UwR w.heap.size A X w) :
    Calls Try.prog 18 #[.agg #[.slice A.c X.cl.length A.kc, .slice A.d X.dk.length A.kd, .slice A.l X.lg.length A.kl, .int .i64 X.sr, .slice A.o X.op.length A.ko], .int .i64 cell, .int .i64 but] w fun e w' => e = .returned (.tuple #[.int .i64 (owF X.lg cell but X.op).1, .bool (owF X.lg cell but X.op).2]) ∧ Below w.heap.size w w' := by
  have HB0 := hid (boxB w (.cells #[.slice A.c X.cl.length A.kc, .slice A.d X.dk.length A.kd, .slice A.l X.lg.length A.kl, .int .i64 X.sr, .slice A.o X.op.length A.ko] 31))
  have HK0 := hid (heap_last w (.cells #[.slice A.c X.cl.length A.kc, .slice A.d X.dk.length A.kd, .slice A.l X.lg.length A.kl, .int .i64 X.sr, .slice A.o X.op.length A.ko] 31))
  have HZ : Hid (∀ v, Below w.heap.size w v → UwR v.heap.size A X v) := fun v g => h.up g g.size
  have n2 := hf.l
  have n3 := hf.o
  have HHS : Hid (∀ k (hk : k < X.op.length) v, Below w.heap.size w v → Calls Try.prog 31 #[.slice A.l X.lg.length A.kl, .int .i64 X.op[k], .int .i64 cell] v fun e w' => e = .returned (.bool (hasBB X.lg X.op[k] cell)) ∧ Below v.heap.size v w') := fun k hk v g => hasSet_any A.l A.kl X.lg X.op[k] cell v n2 hcap (hop _ (List.getElem_mem hk)) (HZ.out v g).l
  have HF0 : Hid (owF X.lg cell but X.op = owF X.lg cell but (X.op.drop 0)) := rfl
  obtain ⟨rv, hrv⟩ : ∃ r : Int, r = (owF X.lg cell but X.op).1 := ⟨_, rfl⟩
  obtain ⟨rb, hrb⟩ : ∃ r : Bool, r = (owF X.lg cell but X.op).2 := ⟨_, rfl⟩
  rw [← hrv, ← hrb]
  have HR : Hid (owF X.lg cell but X.op = (rv, rb)) := by show _ = (rv, rb); rw [hrv, hrb]
  clear h hf hcap hop hrv hrb
  go_enter Try.func18, Try.ntmps18
  go_upto_region 1 with fail
  generalize w.alloc (.cells #[.slice A.c X.cl.length A.kc, .slice A.d X.dk.length A.kd, .slice A.l X.lg.length A.kl, .int .i64 X.sr, .slice A.o X.op.length A.ko] 31) = W at *
  have x4 : W.cell? ⟨w.heap.size, 4, none⟩ = some (.slice A.o X.op.length A.ko) := box_cell HK0.out 4
  go_wp2_with fail
  go_loopw [13] (fun i wr => ∃ k : Nat, k ≤ X.op.length ∧ i = .int .i64 k ∧ owF X.lg cell but (X.op.drop k) = (rv, rb) ∧ Below W.heap.size W wr) (fun i _ => X.op.length - (intOf i).toNat)
  case atStart => exact ⟨0, Nat.zero_le _, rfl, HR.out, Below.refl _ _⟩
  case round =>
    obtain ⟨k, hk, rfl, hre, hbel⟩ := hrel
    have HE := hid hre
    have HBE := hid hbel
    have HB := hid (HB0.out.trans (hbel.mono HB0.out.size))
    have HK := hid ((hbel.block _ (kbox HK0.out)).trans HK0.out)
    clear hre x4 hbel
    by_cases hlt : k < X.op.length
    · obtain ⟨b, off, eb, hb, hc⟩ := (HZ.out wr HB.out).o.cell (by omega)
      have y0 := hc k hlt
      have HH := hid (HHS.out k hlt wr HB.out)
      have HS : Hid ((if X.op[k] ≠ but ∧ hasBB X.lg X.op[k] cell = true then (X.op[k], true) else owF X.lg cell but (X.op.drop (k + 1))) = (rv, rb)) := (owF_step X.lg cell but X.op k hlt).symm.trans HE.out
      have x2 : wr.cell? ⟨w.heap.size, 2, none⟩ = some (.slice A.l X.lg.length A.kl) := box_cell HK.out 2
      rw [eb]
      clear hc eb HE
      generalize X.op[k] = who at *
      generalize hasBB X.lg who cell = hb2 at *
      by_cases hwb : who = but
      · have e1 : (who != but) = false := by rw [hwb]; simp
        have HS2 : Hid (owF X.lg cell but (X.op.drop (k + 1)) = (rv, rb)) := by show _ = _; rw [← HS.out, if_neg (fun h => h.1 hwb)]
        clear hwb HS HH
        go_wp2_with fail
        go_roundw
        case rel => exact ⟨k + 1, by omega, by go_num, HS2.out, HBE.out⟩
        case measure => simp [intOf]; omega
      have e1 : (who != but) = true := bne_iff_ne.2 hwb
      go_wp2_with fail
      refine HH.out.mono ?_
      rintro e w2 ⟨rfl, b2⟩
      have HB2 := hid (HBE.out.trans (b2.mono HBE.out.size))
      have HBW := hid (HB.out.trans (b2.mono HB.out.size))
      clear b2 HH x2 y0
      cases hb2
      · have HS2 : Hid (owF X.lg cell but (X.op.drop (k + 1)) = (rv, rb)) := by show _ = _; rw [← HS.out, if_neg (fun h => by cases h.2)]
        clear hwb HS
        go_wp2_with fail
        go_roundw
        case rel => exact ⟨k + 1, by omega, by go_num, HS2.out, HB2.out⟩
        case measure => simp [intOf]; omega
      · have HS2 : Hid ((who, true) = (rv, rb)) := by show (who, true) = (rv, rb); rw [← HS.out, if_pos ⟨hwb, rfl⟩]
        clear hwb HS
        go_wp2_with fail
        go_ret2
        have e2 := HS2.out
        injection e2 with e3 e4
        exact ⟨by rw [← e3, ← e4]; rfl, HBW.out⟩
    obtain rfl : k = X.op.length := by omega
    have HS2 : Hid ((0, false) = (rv, rb)) := by
      show (0, false) = (rv, rb)
      rw [← HE.out, List.drop_length]; rfl
    clear HE
    go_wp2_with fail
    go_ret2
    have e2 := HS2.out
    injection e2 with e3 e4
    exact ⟨by rw [← e3, ← e4]; rfl, HB.out⟩
def whoV (X : Uw) (z : Int) : Int := if goodU X && inB 0 5 z then whoF X.lg z X.op else 0
def whoOk (X : Uw) (z : Int) : Bool := decide (whoV X z ≠ 0)
end Go.Proofs.Ytgompioaknfjgab
