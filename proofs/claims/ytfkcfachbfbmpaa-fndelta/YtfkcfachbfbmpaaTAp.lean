/- ApplyDelta of both sides. -/
import Derived.Test.YtfkcfachbfbmpaaTGi
import Derived.Test.YtfkcfachbfbmpaaAApp
import Derived.Lib.AppendStr
import Derived.Laws.BytesArg
namespace Go.Proofs.Ytfkcfachbfbmpaa
set_option maxRecDepth 100000
open Go Go.ChangeShapes Go.WideShapes Go.ChangeAt Go.RowKit
open Go.Lib (strCells strCells_length run_append_own_string)
/-- what a part stands for -/
def pieceP (s : ByteArray) (p : Pt) : ByteArray := if p.tx.size = 0 then s.extract p.fr.toNat (p.fr.toNat + p.lg.toNat) else p.tx
def applyL (s : ByteArray) : List Pt → ByteArray
  | [] => ByteArray.empty
  | p :: l => pieceP s p ++ applyL s l
theorem applyL_snoc (s : ByteArray) (l : List Pt) (p : Pt) : applyL s (l ++ [p]) = applyL s l ++ pieceP s p := by
  induction l with
  | nil => simp [applyL]
  | cons q l ih => simp only [List.cons_append, applyL, ih, ByteArray.append_assoc]
theorem pieceP_size {s : ByteArray} {p : Pt} (h : partOk s.size p = true) : ((pieceP s p).size : Int) = p.lg + p.tx.size := by
  unfold partOk at h
  unfold pieceP
  by_cases hz : p.tx.size = 0
  · rw [decide_eq_true hz] at h
    have := of_decide_eq_true h
    rw [if_pos hz, ext_size _ _ _ (by omega) (by omega)]
    omega
  · rw [decide_eq_false hz] at h
    have := of_decide_eq_true h
    rw [if_neg hz]
    omega
theorem applyL_size {s : ByteArray} (l : List Pt) (h : ∀ p ∈ l, partOk s.size p = true) : ((applyL s l).size : Int) = lenD l := by
  induction l with
  | nil => rfl
  | cons p l ih =>
    have h1 := ih (fun x hx => h x (List.mem_cons_of_mem _ hx))
    have h2 := pieceP_size (h p (List.mem_cons_self ..))
    simp only [applyL, lenD, ByteArray.size_append]
    omega
/-- what a good delta is -/
theorem goodD_parts {s : ByteArray} {l : List Pt} (h : goodD s l = true) : s.size ≤ 120 ∧ l.length ≤ 60 ∧ (∀ p ∈ l, partOk s.size p = true) ∧ lenD l ≤ 120 := by
  unfold goodD at h
  rw [Bool.and_eq_true, Bool.and_eq_true, Bool.and_eq_true, List.all_eq_true] at h
  exact ⟨of_decide_eq_true h.1, of_decide_eq_true h.2.1, h.2.2.1, of_decide_eq_true h.2.2.2⟩
theorem lenD_app (l m : List Pt) : lenD (l ++ m) = lenD l + lenD m := by
  induction l with
  | nil => simp [lenD]
  | cons q l ih => simp only [List.cons_append, lenD, ih]; omega
theorem apply_take {s : ByteArray} {l : List Pt} (h : goodD s l = true) (k : Nat) : (applyL s (l.take k)).size ≤ 120 := by
  obtain ⟨h1, _, h3, h4⟩ := goodD_parts h
  have e := applyL_size (s := s) (l.take k) (fun p hp => h3 p (List.mem_of_mem_take hp))
  have e2 : lenD l = lenD (l.take k) + lenD (l.drop k) := by rw [← lenD_app, List.take_append_drop]
  have e3 := (lenD_le s.size (l.drop k) (by omega) (fun p hp => h3 p (List.mem_of_mem_drop hp))).1
  omega
/-- what ApplyDelta tells -/
def applyV (s : ByteArray) (l : List Pt) : ByteArray := cond (goodD s l) (applyL s l) ByteArray.empty
theorem ret_ss {a b : ByteArray} (h : a = b) : Ending.returned (.string a) = .returned (.string b) := by rw [h]
/-- a good part, either way -/
theorem part_two {n : Nat} {p : Pt} (h : partOk n p = true) : (p.tx = ByteArray.empty ∧ ∃ f g : Nat, p.fr = f ∧ p.lg = g ∧ f + g ≤ n) ∨ (p.tx.size ≠ 0 ∧ p.fr = 0 ∧ p.lg = 0 ∧ p.tx.size ≤ 120) := by
  unfold partOk at h
  by_cases hz : p.tx.size = 0
  · rw [decide_eq_true hz] at h
    have := of_decide_eq_true h
    exact Or.inl ⟨ba_zero hz, p.fr.toNat, p.lg.toNat, by omega, by omega, by omega⟩
  · rw [decide_eq_false hz] at h
    have := of_decide_eq_true h
    exact Or.inr ⟨hz, this.1, this.2.1, this.2.2⟩
set_option maxHeartbeats 1000000 in
theorem sApply_any (s : ByteArray) (a : Option Addr) (cap : Nat) (l : List Pt) (w : World) (h : goodD s l = true) (hZ : Pts w.heap.size a l w) :
    Calls Try.prog 41 #[.string s, .slice a l.length cap] w fun e w' => e = .returned (.string (applyL s l)) ∧ Below w.heap.size w w' := by
  have HZ := hid hZ
  have HT := hid (apply_take h)
  have HP := hid (goodD_parts h)
  have hs := HP.out.1
  have hn := HP.out.2.1
  have HV : Hid (applyL s l = applyL s (l.take l.length)) := by show _ = _; rw [List.take_length]
  generalize applyL s l = R at *
  clear hZ h
  go_enter Try.func41, Try.ntmps41
  go_wp2_with fail
  go_loopw [5, 10] (fun t i wr => ∃ (k : Nat) (X : ByteArray), k ≤ l.length ∧ i = .int .i64 k ∧ t = .string X ∧ X = applyL s (l.take k) ∧ Below w.heap.size w wr) (fun _ i _ => l.length - (intOf i).toNat)
  case atStart => exact ⟨0, _, Nat.zero_le _, rfl, rfl, rfl, Below.refl _ _⟩
  case round =>
    obtain ⟨k, X, hk, rfl, rfl, hX, hbel⟩ := hrel
    have HBEL := hid hbel
    have HX := hid hX
    have hxs := HT.out k
    rw [← hX] at hxs
    clear hbel hX
    by_cases hlt : k < l.length
    · obtain ⟨b, off, rfl, hb, hcells⟩ := HZ.out.cell (by omega)
      obtain ⟨c0, c1, c2⟩ := hcells k hlt
      have hb' : ∀ o, wr.cell? ⟨b, o, none⟩ = w.cell? ⟨b, o, none⟩ := fun o => HBEL.out.cell (p := ⟨b, o, none⟩) hb
      rw [← hb'] at c0 c1 c2
      clear hcells hb'
      have HTK : Hid (applyL s (l.take (k + 1)) = X ++ pieceP s l[k]) := by
        show _ = _
        rw [List.take_succ_eq_append_getElem hlt, applyL_snoc, ← HX.out]
      have HG := hid (fun cs => boxB wr (.cells cs 63))
      have hp := HP.out.2.2.1 _ (List.getElem_mem hlt)
      rcases part_two hp with ⟨e0, f, g, e1, e2, e3⟩ | ⟨e0, e1, e2, e3⟩
      · have HC : Hid (pieceP s l[k] = s.extract f (f + g)) := by
          show _ = _
          unfold pieceP
          rw [e0, e1, e2, if_pos (show ByteArray.empty.size = 0 from rfl), Int.toNat_natCast, Int.toNat_natCast]
        have hcut := cut_at s f (f + g) (f : Int) ((f : Int) + (g : Int)) rfl (by omega) (by omega) e3
        rw [e0] at c2
        rw [e1] at c0
        rw [e2] at c1
        have hes : (s.extract f (f + g)).size ≤ 120 := by rw [ext_size _ _ _ (by omega) e3]; omega
        clear e0 e1 e2 hp
        generalize s.extract f (f + g) = E at *
        have hf2 : f ≤ 120 := by omega
        have hg2 : g ≤ 120 := by omega
        clear e3
        go_wp2_with fail
        go_roundw
        case rel => exact ⟨k + 1, X ++ E, by omega, by go_num, rfl, by rw [HTK.out, HC.out], HBEL.out.trans ((HG.out _).mono HBEL.out.size)⟩
        case measure => simp [intOf]; omega
      · have HC : Hid (pieceP s l[k] = l[k].tx) := by
          show _ = _
          unfold pieceP
          rw [if_neg e0]
        have hne := ba_some e0
        clear hp e1 e2
        generalize hfr : l[k].fr = fr at *
        generalize hlg : l[k].lg = lg at *
        generalize hDD : l[k].tx = D at *
        clear hfr hlg hDD
        go_wp2_with fail
        go_roundw
        case rel => exact ⟨k + 1, X ++ D, by omega, by go_num, rfl, by rw [HTK.out, HC.out], HBEL.out.trans ((HG.out _).mono HBEL.out.size)⟩
        case measure => simp [intOf]; omega
    · obtain rfl : k = l.length := by omega
      go_wp2_with fail
      go_ret
      exact ⟨ret_ss (by rw [HV.out, HX.out]), HBEL.out⟩
theorem infoB : (Try.prog.info? 5).map (fun i => (i.zero, i.size, i.bytes)) = some (some (.int .u8 0), 1, 1) := by kernel_rfl
/-- bytes of one's own that may grow -/
def BL (lo : Nat) (v : Value) (X : ByteArray) (w : World) : Prop := w.ownsRow lo 5 1 v X.size (strCells X)
theorem BL.nil (lo : Nat) (w : World) : BL lo (.slice none 0 0) ByteArray.empty w := World.ownsRow_nil _ _ _ _
theorem BL.below {lo : Nat} {v : Value} {X : ByteArray} {w w' : World} (h : BL lo v X w) (g : Below w.heap.size w w') : BL lo v X w' := rw_below h g
theorem strCells_app (X D : ByteArray) : strCells (X ++ D) = strCells X ++ strCells D := by
  unfold strCells
  rw [ByteArray.data_append, Array.toList_append, List.map_append]
theorem BL.app {lo : Nat} {v : Value} {X : ByteArray} {w : World} (h : BL lo v X w) (hlo : lo ≤ w.heap.size) (D : ByteArray) (hm : X.size + D.size ≤ 1000000) :
    ∃ v' w', (∀ ty, (Builtin.append_ #[22, 9] ty #[v, .string D]).run Try.prog w = .ok v' w') ∧ BL lo v' (X ++ D) w' ∧ Below lo w w' ∧ w.grownBy w' v.ownBlock := by
  have h9 : w.ownsRow lo 5 1 v X.size (strCells X) := h
  obtain ⟨i0, hi, hz0, hz1, hz2⟩ := info_parts infoB
  obtain ⟨v', w', hr, h2, h3, _⟩ := run_append_own_string w lo 22 9 22 5 i0 Try.underlying22 Try.underlying9 hi hz0 hz1 hz2 v X.size (strCells X) h9 D (by unfold maxLen; omega) (by omega) hlo
  refine ⟨v', w', fun ty => hr, ?_, below_of_grown h3 hlo (fun k hk => (World.ownsRow.lt h9 k hk).1), h3⟩
  unfold BL
  rw [ByteArray.size_append, strCells_app]
  exact h2
theorem BL.back {lo : Nat} {v : Value} {X : ByteArray} {w : World} (h : BL lo v X w) : Sem.run Try.prog (convert 22 9 v) w = .ok (.string X) w := by
  have h9 : w.ownsRow lo 5 1 v X.size (strCells X) := h
  have hc := fun g (e : v.ownBlock = some g) => h9.cells (g := g) e
  obtain ⟨_, ⟨rfl, h0⟩ | ⟨g, cap, cur, rfl, _⟩⟩ := h9
  · obtain rfl := ba_zero h0
    simp [convert, run_underlying Try.underlying22, run_underlying Try.underlying5, run_underlying Try.underlying9, Conv.bytesToString, go_sem]
  · have := run_convert_bytes_back w 22 9 5 ⟨g, 0, none⟩ cap X.data.toList Try.underlying22 Try.underlying5 Try.underlying9 (fun j hj => hc g rfl j _ (by show (X.data.toList.map _)[j]? = _; rw [List.getElem?_map, List.getElem?_eq_getElem hj]; rfl))
    rw [bytes_size] at this
    exact this
theorem wpList_append_run2 {P : Program} {ops : Array Oper} {rest : List Oper} {o : Oper} {a : Act} {w : World} {Q : Exit → Act → World → Prop}
    (hg : o.guard = none) (s x : Operand) (t u : TypeId) (hop : o.op = Op.call { callee := Callee.builtin Builtin.append, args := #[s, x], argTypes := #[t, u] })
    (v y : Value) (hs : a.eval s = v) (hx : a.eval x = y) (v' : Value) (w' : World) (hrun : ∀ ty, (Builtin.append_ #[t, u] ty #[v, y]).run P w = .ok v' w') (h : wpList P ops Q rest (a.put o.dst v') w') :
    wpList P ops Q (o :: rest) a w :=
  wpList_plain hg fun _ hK => by
    unfold Oper.wp
    simp [execOp, hop, resolve, invoke, builtin, hs, hx, hrun, Result.andThen]
    exact hK _ _ h
theorem app_none_ba (X : ByteArray) : X ++ ByteArray.empty = X := ByteArray.append_empty
set_option maxHeartbeats 2000000 in
theorem iApply_yes (s : ByteArray) (a : Option Addr) (cap : Nat) (l : List Pt) (w : World) (h : goodD s l = true) (hf : ∀ r ∈ l, fit r.fr ∧ fit r.lg) (hz : ∀ r ∈ l, r.tx.size ≤ 9223372036854775807) (hZ : Pts w.heap.size a l w) :
    Calls Try.prog 9 #[.string s, .slice a l.length cap] w fun e w' => e = .returned (.tuple #[.string (applyL s l), .bool true]) ∧ Below w.heap.size w w' := by
  have HGo := hid (iGood_any s a cap l w hf hz hZ)
  rw [h] at HGo
  have HZ := hid hZ
  have HT := hid (apply_take h)
  have HP := hid (goodD_parts h)
  have hs := HP.out.1
  have hn := HP.out.2.1
  have HV : Hid (applyL s l = applyL s (l.take l.length)) := by show _ = _; rw [List.take_length]
  generalize applyL s l = R at *
  clear hZ h hf hz
  go_enter Try.func9, Try.ntmps9
  go_wp2_with fail
  refine HGo.out.mono ?_
  rintro e w0 ⟨rfl, b0⟩
  have HB0 := hid b0
  clear b0 HGo
  go_wp2_with fail
  go_loopw [6, 15] (fun t i wr => ∃ (k : Nat) (X : ByteArray) (o1 : Value), k ≤ l.length ∧ i = .int .i64 k ∧ t = o1 ∧ BL w.heap.size o1 X wr ∧ X = applyL s (l.take k) ∧ Below w.heap.size w wr) (fun _ i _ => l.length - (intOf i).toNat)
  case atStart => exact ⟨0, _, _, Nat.zero_le _, rfl, rfl, BL.nil _ _, rfl, HB0.out⟩
  case round =>
    obtain ⟨k, X, o1, hk, rfl, rfl, hown, hX, hbel⟩ := hrel
    have HBEL := hid hbel
    have HOWN := hid hown
    have HX := hid hX
    have hxs := HT.out k
    rw [← hX] at hxs
    clear hbel hX hown
    by_cases hlt : k < l.length
    · obtain ⟨b, off, rfl, hb, hcells⟩ := HZ.out.cell (by omega)
      obtain ⟨c0, c1, c2⟩ := hcells k hlt
      have hb' : ∀ o, wr.cell? ⟨b, o, none⟩ = w.cell? ⟨b, o, none⟩ := fun o => HBEL.out.cell (p := ⟨b, o, none⟩) hb
      rw [← hb'] at c0 c1 c2
      clear hcells hb'
      have HTK : Hid (applyL s (l.take (k + 1)) = X ++ pieceP s l[k]) := by
        show _ = _
        rw [List.take_succ_eq_append_getElem hlt, applyL_snoc, ← HX.out]
      have hp := HP.out.2.2.1 _ (List.getElem_mem hlt)
      have hq : ∃ (f g : Nat) (D : ByteArray), l[k].fr = f ∧ l[k].lg = g ∧ l[k].tx = D ∧ f + g ≤ s.size ∧ D.size ≤ 120 ∧ X ++ s.extract f (f + g) ++ D = X ++ pieceP s l[k] := by
        rcases part_two hp with ⟨e0, f, g, e1, e2, e3⟩ | ⟨e0, e1, e2, e3⟩
        · refine ⟨f, g, _, e1, e2, rfl, e3, by rw [e0]; decide, ?_⟩
          rw [e0, app_none_ba]
          unfold pieceP
          rw [e0, e1, e2, if_pos (show ByteArray.empty.size = 0 from rfl), Int.toNat_natCast, Int.toNat_natCast]
        · refine ⟨0, 0, _, e1, e2, rfl, Nat.zero_le _, e3, ?_⟩
          unfold pieceP
          rw [if_neg e0]
          have : s.extract 0 (0 + 0) = ByteArray.empty := ba_zero (by rw [ext_size _ _ _ (by omega) (by omega)])
          rw [this, app_none_ba]
      obtain ⟨f, g, D, e1, e2, e3, e4, e5, e6⟩ := hq
      have HC : Hid (applyL s (l.take (k + 1)) = X ++ s.extract f (f + g) ++ D) := by show _ = _; rw [HTK.out, e6]
      have hcut := cut_at s f (f + g) (f : Int) ((f : Int) + (g : Int)) rfl (by omega) (by omega) e4
      have hes : (s.extract f (f + g)).size ≤ 120 := by rw [ext_size _ _ _ (by omega) e4]; omega
      rw [e3] at c2
      rw [e1] at c0
      rw [e2] at c1
      clear e1 e2 e3 e6 hp HTK
      generalize s.extract f (f + g) = E at *
      have hf2 : f ≤ 120 := by omega
      have hg2 : g ≤ 120 := by omega
      clear e4
      have gA := boxB wr (.cells #[.int .i64 f, .int .i64 g, .string D] 63)
      have kA := heap_last wr (.cells #[.int .i64 f, .int .i64 g, .string D] 63)
      generalize hW : wr.alloc (.cells #[.int .i64 f, .int .i64 g, .string D] 63) = wa at *
      have z0 := box_cell kA 0
      have z1 := box_cell kA 1
      have z2 := box_cell kA 2
      simp only [List.getElem?_toArray, List.getElem?_cons_zero, List.getElem?_cons_succ] at z0 z1 z2
      obtain ⟨v1, w1, r1, o1, g1, q1⟩ := (HOWN.out.below gA).app (Nat.le_trans HBEL.out.size gA.size) E (by omega)
      have HBa := hid (HBEL.out.trans (gA.mono HBEL.out.size))
      have HB1 := hid (HBa.out.trans g1)
      have K1 : w1.cell? ⟨wr.heap.size, 2, none⟩ = some (.string D) := by
        have hb := q1.block wr.heap.size (kbox kA) (fun e => by have := (World.ownsRow.lt HOWN.out _ e.symm).2; omega)
        exact box_cell (hb.trans kA) 2
      obtain ⟨v2, w2, r2, o2, g2, -⟩ := o1.app HB1.out.size D (by rw [ByteArray.size_append]; omega)
      have HO2 := hid o2
      have HB2 := hid (HB1.out.trans g2)
      clear o1 g1 o2 g2 q1 gA kA
      go_wp2_with (at_builtin; first | refine wpList_append_run2 rfl (.tmp 19) (.tmp 28) 22 9 rfl _ _ rfl rfl _ _ r1 ?_ | refine wpList_append_run2 rfl (.tmp 30) (.tmp 32) 22 9 rfl _ _ rfl rfl _ _ r2 ?_)
      go_roundw
      case rel => exact ⟨k + 1, _, _, by omega, by go_num, rfl, HO2.out, HC.out.symm, HB2.out⟩
      case measure => simp [intOf]; omega
    · obtain rfl : k = l.length := by omega
      have hcv := HOWN.out.back
      go_wp2_with fail
      go_ret2
      exact ⟨by rw [HV.out, ← HX.out]; rfl, HBEL.out⟩
theorem applyV_yes {s : ByteArray} {l : List Pt} (h : goodD s l = true) : applyV s l = applyL s l := by unfold applyV; rw [h]; rfl
theorem applyV_no {s : ByteArray} {l : List Pt} (h : goodD s l = false) : applyV s l = ByteArray.empty := by unfold applyV; rw [h]; rfl
set_option maxHeartbeats 1000000 in
theorem iApply_any (s : ByteArray) (a : Option Addr) (cap : Nat) (l : List Pt) (w : World) (hf : ∀ r ∈ l, fit r.fr ∧ fit r.lg) (hz : ∀ r ∈ l, r.tx.size ≤ 9223372036854775807) (hZ : Pts w.heap.size a l w) :
    Calls Try.prog 9 #[.string s, .slice a l.length cap] w fun e w' => e = .returned (.tuple #[.string (applyV s l), .bool (goodD s l)]) ∧ Below w.heap.size w w' := by
  cases h : goodD s l
  · have HGo := hid (iGood_any s a cap l w hf hz hZ)
    rw [h] at HGo
    rw [applyV_no h]
    clear h hf hz hZ
    go_enter Try.func9, Try.ntmps9
    go_wp2_with fail
    refine HGo.out.mono ?_
    rintro e w0 ⟨rfl, b0⟩
    have HB0 := hid b0
    clear b0 HGo
    go_wp2_with fail
    go_ret2
    exact ⟨rfl, HB0.out⟩
  · rw [applyV_yes h]
    exact iApply_yes s a cap l w h hf hz hZ
set_option maxHeartbeats 1000000 in
theorem sApplyD_any (s : ByteArray) (a : Option Addr) (cap : Nat) (l : List Pt) (w : World) (hs : s.size ≤ 1048576) (hn : l.length ≤ 1048576) (hf : ∀ r ∈ l, fit r.fr ∧ fit r.lg) (hz : ∀ r ∈ l, r.tx.size ≤ 9223372036854775807) (hZ : Pts w.heap.size a l w) :
    Calls Try.prog 16 #[.string s, .slice a l.length cap] w fun e w' => e = .returned (.tuple #[.string (applyV s l), .bool (goodD s l)]) ∧ Below w.heap.size w w' := by
  have HGo := hid (sGood_any s a cap l w hs hn hf hz hZ)
  cases h : goodD s l
  · rw [h] at HGo
    rw [applyV_no h]
    clear h hf hz hZ
    go_enter Try.func16, Try.ntmps16
    go_wp2_with fail
    refine HGo.out.mono ?_
    rintro e w0 ⟨rfl, b0⟩
    have HB0 := hid b0
    clear b0 HGo
    go_wp2_with fail
    go_ret2
    exact ⟨rfl, HB0.out⟩
  · rw [h] at HGo
    rw [applyV_yes h]
    have HA := hid (fun v (g : Below w.heap.size w v) => sApply_any s a cap l v h ((hZ.below g).mono g.size))
    generalize applyL s l = R at *
    clear h hf hz hZ
    go_enter Try.func16, Try.ntmps16
    go_wp2_with fail
    refine HGo.out.mono ?_
    rintro e w0 ⟨rfl, b0⟩
    have HB0 := hid b0
    clear b0 HGo
    go_wp2_with fail
    refine (HA.out _ HB0.out).mono ?_
    rintro e w1 ⟨rfl, b1⟩
    have HB1 := hid (HB0.out.trans (b1.mono HB0.out.size))
    clear b1
    go_wp2_with fail
    go_ret2
    exact ⟨rfl, HB1.out⟩
end Go.Proofs.Ytfkcfachbfbmpaa
