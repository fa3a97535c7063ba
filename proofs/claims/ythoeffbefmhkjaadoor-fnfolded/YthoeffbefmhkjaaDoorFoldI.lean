/- Walks of the program's FoldRecords. -/
import Derived.Test.YthoeffbefmhkjaaDoorFoldS
import Derived.Test.YthoeffbefmhkjaaDoorQA
import Derived.Test.YthoeffbefmhkjaaDoorAsserts
import Derived.Test.YthoeffbefmhkjaaDoorIJoin
import Derived.Laws.MakeOwn
import Derived.Deep.RegionHeld
namespace Go.Proofs.YthoeffbefmhkjaaDoor
set_option maxRecDepth 100000
open Go.ChangeShapes Go.WideShapes Go.ChangeAt Go.RowKit G00541
theorem SRow.made (w : World) (n : Nat) : SRow w.heap.size (List.replicate n ⟨#[]⟩) (w.alloc (.cells (madeCells (Value.string ⟨#[]⟩).cells n) 9)) := by
  have := GRow.made w 9 n #[.string ⟨#[]⟩]
  unfold SRow
  rw [List.map_replicate]
  have e : n * (#[Value.string ⟨#[]⟩] : Array Value).size = n := Nat.mul_one n
  rw [e] at this
  exact this
theorem blankT_at (j : Nat) (h : j < blankT.length) : blankT[j] = zz := List.getElem_replicate h
theorem make_strs (W : World) : (Instr.makeSlice 41 (.int .i64 16) (.int .i64 16)).run Tryd.prog W =
    .ok (.slice (some ⟨W.heap.size, 0, none⟩) 16 16) (W.alloc (.cells (madeCells (Value.string ⟨#[]⟩).cells 16) 9)) := by
  obtain ⟨i0, hi, hz0, hz1, hz2⟩ := info_parts infoStr
  have h := run_make (P := Tryd.prog) W 41 9 i0 _ Tryd.underlying41 hi hz0 .i64 .i64 16 16 (by omega) (by omega) (by rw [hz2]; omega) (by omega)
  rw [hz1] at h
  simpa using h
set_option maxHeartbeats 1000000 in
theorem empty_any (w : World) :
    Calls Tryd.prog 43 #[] w fun e w' => e = .returned (.slice (some ⟨w.heap.size, 0, none⟩) 16 16) ∧ SRow w.heap.size blankT w' ∧ Below w.heap.size w w' := by
  have hmk := make_strs
  have hr0 := SRow.made w 16
  generalize madeCells (Value.string ⟨#[]⟩).cells 16 = M at *
  have HR : Hid (SRow w.heap.size (List.replicate 16 ⟨#[]⟩) (w.alloc (.cells M 9))) := hr0
  clear hr0
  have hbl : blankT.length = 16 := by simp [blankT]
  go_enter Tryd.func43, Tryd.ntmps43
  go_wp2
  go_loopw [6] (fun i wr => ∃ (j : Nat) (ys : List ByteArray), j ≤ 16 ∧ i = .int .i64 j ∧ ys.length = 16 ∧ ys.take j = blankT.take j ∧ SRow w.heap.size ys wr ∧ Below w.heap.size w wr) (fun i _ => 16 - (intOf i).toNat)
  case atStart => exact ⟨0, List.replicate 16 ⟨#[]⟩, by omega, rfl, by simp, rfl, HR.out, (Below.refl _ _).alloc (Nat.le_refl _) _⟩
  case round =>
    obtain ⟨j, ys, hj, rfl, hy, htk, hrow, hbel⟩ := hrel
    have HROW : Hid (SRow w.heap.size ys wr) := hrow
    have HBEL : Hid (Below w.heap.size w wr) := hbel
    have HTK : Hid (ys.take j = blankT.take j) := htk
    by_cases hlt : j < 16
    · have y0 := hrow.cell j (by omega)
      have f0 := hrow.free j (by omega)
      clear hrow hbel htk
      generalize ys[j] = yd at *
      go_wp2
      go_roundw
      case rel =>
        refine ⟨j + 1, ys.set j zz, by omega, by go_num, by simpa using hy, ?_, HROW.out.set j (by omega) zz, HBEL.out.setCell (Nat.le_refl _) _⟩
        have hjm : j < blankT.length := by omega
        rw [take_snoc _ j (by simp; omega), take_snoc _ j hjm, List.take_set_of_le (Nat.le_refl _), HTK.out, List.getElem_set_self, blankT_at]
      case measure => simp [intOf]; omega
    · obtain rfl : j = 16 := by omega
      rw [List.take_of_length_le (by omega), List.take_of_length_le (by omega)] at htk
      subst htk
      clear hrow hbel
      go_wp2
      go_ret
      exact ⟨rfl, HROW.out, HBEL.out⟩
/-- block B holds the three cells of a write -/
structure WrAt (B : Nat) (p n : Int) (D : ByteArray) (v : World) : Prop where
  c0 : v.cell? ⟨B, 0, none⟩ = some (.int .i64 p)
  c1 : v.cell? ⟨B, 1, none⟩ = some (.int .i64 n)
  c2 : v.cell? ⟨B, 2, none⟩ = some (.string D)
  lt : B < v.heap.size
theorem WrAt.below {B : Nat} {p n : Int} {D : ByteArray} {v v' : World} (h : WrAt B p n D v) (g : Below v.heap.size v v') : WrAt B p n D v' := by
  have hc : ∀ i, v'.cell? ⟨B, i, none⟩ = v.cell? ⟨B, i, none⟩ := fun i => g.cell (p := ⟨B, i, none⟩) h.lt
  exact ⟨(hc 0).trans h.c0, (hc 1).trans h.c1, (hc 2).trans h.c2, Nat.lt_of_lt_of_le h.lt g.size⟩
theorem WrAt.but {B R : Nat} {p n : Int} {D : ByteArray} {v v' : World} (h : WrAt B p n D v) (g : But R v v') (hB : B ≠ R) : WrAt B p n D v' := by
  have hc : ∀ i, v'.cell? ⟨B, i, none⟩ = v.cell? ⟨B, i, none⟩ := fun i => g.cell B i h.lt hB
  exact ⟨(hc 0).trans h.c0, (hc 1).trans h.c1, (hc 2).trans h.c2, Nat.lt_of_lt_of_le h.lt g.size⟩
theorem WrAt.drew {B : Nat} {p n : Int} {D : ByteArray} {v : World} (h : WrAt B p n D v) : WrAt B p n D v.drew := ⟨h.c0, h.c1, h.c2, h.lt⟩
set_option maxHeartbeats 2000000 in
theorem dow_any (R cap : Nat) (ts : List ByteArray) (p n : Nat) (D : ByteArray) (w : World) (hts : ts.length = 16) (hpn : 0 < n → p + n ≤ 16) (hp : p ≤ 200) (hn : n ≤ 4) (hD : D.size = 2 * n) (hR : SRow R ts w) :
    Calls Tryd.prog 45 #[.slice (some ⟨R, 0, none⟩) 16 cap, .iface 87 (.agg #[.int .i64 (p : Int), .int .i64 (n : Int), .string D])] w fun e w' => e = .returned (.tuple #[]) ∧ SRow R (doK ts 1 p D n) w' ∧ But R w w' := by
  have h1 := ta_ww
  have HR : Hid (SRow R ts (w.alloc (.cells #[.int .i64 (p : Int), .int .i64 (n : Int), .string D] 87))) := hR.below ((Below.refl _ _).alloc (Nat.le_refl _) _)
  have hRw : R < w.heap.size := hR.lt
  have HC0 : Hid (WrAt w.heap.size p n D (w.alloc (.cells #[.int .i64 (p : Int), .int .i64 (n : Int), .string D] 87))) := ⟨by go_simp, by go_simp, by go_simp, by simp⟩
  clear hR
  go_enter Tryd.func45, Tryd.ntmps45
  go_wp2
  go_loopw [14] (fun i wr => ∃ (j : Nat), j ≤ n ∧ i = .int .i64 j ∧ SRow R (doK ts 1 p D j) wr ∧ WrAt w.heap.size p n D wr ∧ But R w wr) (fun i _ => n - (intOf i).toNat)
  case atStart => exact ⟨0, Nat.zero_le _, rfl, HR.out, HC0.out, (But.refl R w).alloc _⟩
  case round =>
    obtain ⟨j, hj, rfl, hrow, hrec, hbut⟩ := hrel
    have HROW : Hid (SRow R (doK ts 1 p D j) wr) := hrow
    have HREC : Hid (WrAt w.heap.size p n D wr) := hrec
    have HBUT : Hid (But R w wr) := hbut
    obtain ⟨c0, c1, c2, hlw⟩ := hrec
    have hlen := doK_len ts 1 p D j
    by_cases hlt : j < n
    · have hpj : p + j < 16 := by have := hpn (by omega); omega
      have y0 := hrow.cell (p + j) (by omega)
      have f0 := hrow.free (p + j) (by omega)
      have hlr := hrow.lt
      have hx : (0 : Int) ≤ (p : Int) + (j : Int) := by omega
      have hx2 : (p : Int) + (j : Int) < 16 := by omega
      have hx3 : ((p : Int) + (j : Int)).toNat = p + j := by omega
      clear hbut hrow
      generalize (doK ts 1 p D j)[p + j] = yd at *
      have hcut := fun v => cut_at D (2 * j) (2 * j + 2) (2 * (j : Int)) (2 * ((j : Int) + 1)) (by omega) (by omega) (by omega) (by omega) v
      have HN : Hid (doK ts 1 p D (j + 1) = (doK ts 1 p D j).set (p + j) (D.extract (2 * j) (2 * j + 2))) := rfl
      have HJ : Hid (∀ v, Calls Tryd.prog 35 #[.string (D.extract (2 * j) (2 * j + 2)), .string ⟨#[]⟩] v fun e w' => e = .returned (.string (D.extract (2 * j) (2 * j + 2))) ∧ Below v.heap.size v w') := fun v => by
        have := join_any (D.extract (2 * j) (2 * j + 2)) ⟨#[]⟩ v (by rw [ByteArray.size_extract]; omega) (by decide)
        rw [show D.extract (2 * j) (2 * j + 2) ++ (⟨#[]⟩ : ByteArray) = D.extract (2 * j) (2 * j + 2) from ByteArray.append_empty] at this
        exact this
      have hw1 : IntKind.i64.wrap ((p : Int) + (j : Int)) = (p : Int) + (j : Int) := by simp [IntKind.wrap, IntKind.bits, IntKind.signed]; omega
      have hw2 : IntKind.i64.wrap (2 * (j : Int)) = 2 * (j : Int) := by simp [IntKind.wrap, IntKind.bits, IntKind.signed]; omega
      have hw3 : IntKind.i64.wrap ((j : Int) + 1) = (j : Int) + 1 := by simp [IntKind.wrap, IntKind.bits, IntKind.signed]; omega
      have hw4 : IntKind.i64.wrap (2 * ((j : Int) + 1)) = 2 * ((j : Int) + 1) := by simp [IntKind.wrap, IntKind.bits, IntKind.signed]; omega
      have hRn : R ≠ w.heap.size := by omega
      have hRn2 : w.heap.size ≠ R := by omega
      generalize hX : D.extract (2 * j) (2 * j + 2) = X at *
      clear hX
      go_wp2_with fail
      go_region_held (fun v => v.cell? ⟨w.heap.size, 0, none⟩ = some (.int .i64 (p : Int)) ∧ v.cell? ⟨w.heap.size, 2, none⟩ = some (.string D)) (go_keep) (first | (go_at_call 35; refine (HJ.out _).mono ?_; rintro e w9 ⟨rfl, b9⟩; obtain ⟨d0, d1, d2, _⟩ := HREC.out.drew.below b9; have z0 := (b9.cell (p := ⟨R, p + j, none⟩) hlr).trans y0; have z1 := (b9.frozen (p := ⟨R, p + j, none⟩) hlr).trans f0))
      all_goals
        have HB9 : Hid (But R w w9) := HBUT.out.trans (But.ofBelow (show Below wr.heap.size wr w9 from ⟨b9.os, b9.tape, b9.output, b9.size, b9.block⟩))
        have HROW9 : Hid (SRow R (doK ts 1 p D j) w9) := HROW.out.below (show Below wr.heap.size wr w9 from ⟨b9.os, b9.tape, b9.output, b9.size, b9.block⟩)
        have HREC9 : Hid (WrAt w.heap.size p n D w9) := HREC.out.below (show Below wr.heap.size wr w9 from ⟨b9.os, b9.tape, b9.output, b9.size, b9.block⟩)
        clear b9
        go_wp2
        go_roundw
        · exact ⟨j + 1, by omega, by go_num, by rw [HN.out]; exact HROW9.out.set (p + j) (by omega) X, HREC9.out.but ((But.refl R w9).setCell _ _) (by omega), HB9.out.setCell _ _⟩
        · simp [intOf]; omega
    · obtain rfl : j = n := by omega
      clear hrow hbut
      go_wp2
      go_end0
      exact ⟨rfl, HROW.out, HBUT.out⟩
theorem doK_two (ts : List ByteArray) (p : Nat) (D E : ByteArray) : ∀ j, doK ts 2 p D j = doK ts 2 p E j
  | 0 => rfl
  | j + 1 => by
    show (doK ts 2 p D j).set (p + j) (pieceT 2 D j) = (doK ts 2 p E j).set (p + j) (pieceT 2 E j)
    rw [doK_two ts p D E j]; rfl
set_option maxHeartbeats 1000000 in
theorem dot_any (R cap : Nat) (ts : List ByteArray) (p n : Nat) (D : ByteArray) (w : World) (hts : ts.length = 16) (hpn : 0 < n → p + n ≤ 16) (hp : p ≤ 200) (hn : n ≤ 4) (hR : SRow R ts w) :
    Calls Tryd.prog 45 #[.slice (some ⟨R, 0, none⟩) 16 cap, .iface 89 (.agg #[.int .i64 (p : Int), .int .i64 (n : Int)])] w fun e w' => e = .returned (.tuple #[]) ∧ SRow R (doK ts 2 p D n) w' ∧ But R w w' := by
  have h1 := ta_wt
  have h2 := ta_tt
  have HR : Hid (SRow R ts (w.alloc (.cells #[.int .i64 (p : Int), .int .i64 (n : Int)] 89))) := hR.below ((Below.refl _ _).alloc (Nat.le_refl _) _)
  have hRw : R < w.heap.size := hR.lt
  have q0 : (w.alloc (.cells #[.int .i64 (p : Int), .int .i64 (n : Int)] 89)).cell? ⟨w.heap.size, 0, none⟩ = some (.int .i64 (p : Int)) := by go_simp
  have q1 : w.heap.size < (w.alloc (.cells #[.int .i64 (p : Int), .int .i64 (n : Int)] 89)).heap.size := by simp
  have HQ : Hid ((w.alloc (.cells #[.int .i64 (p : Int), .int .i64 (n : Int)] 89)).cell? ⟨w.heap.size, 0, none⟩ = some (.int .i64 (p : Int)) ∧ w.heap.size < (w.alloc (.cells #[.int .i64 (p : Int), .int .i64 (n : Int)] 89)).heap.size) := ⟨q0, q1⟩
  clear hR q0 q1
  go_enter Tryd.func45, Tryd.ntmps45
  go_wp2
  go_loopw [38] (fun i wr => ∃ (j : Nat), j ≤ n ∧ i = .int .i64 j ∧ SRow R (doK ts 2 p D j) wr ∧ wr.cell? ⟨w.heap.size, 0, none⟩ = some (.int .i64 (p : Int)) ∧ w.heap.size < wr.heap.size ∧ But R w wr) (fun i _ => n - (intOf i).toNat)
  case atStart => exact ⟨0, Nat.zero_le _, rfl, HR.out, HQ.out.1, HQ.out.2, (But.refl R w).alloc _⟩
  case round =>
    obtain ⟨j, hj, rfl, hrow, c0, hlw, hbut⟩ := hrel
    have HROW : Hid (SRow R (doK ts 2 p D j) wr) := hrow
    have HBUT : Hid (But R w wr) := hbut
    have HC0 : Hid (wr.cell? ⟨w.heap.size, 0, none⟩ = some (.int .i64 (p : Int))) := c0
    have hlen := doK_len ts 2 p D j
    by_cases hlt : j < n
    · have hpj : p + j < 16 := by have := hpn (by omega); omega
      have y0 := hrow.cell (p + j) (by omega)
      have f0 := hrow.free (p + j) (by omega)
      have hx : (0 : Int) ≤ (p : Int) + (j : Int) := by omega
      have hx2 : (p : Int) + (j : Int) < 16 := by omega
      have hx3 : ((p : Int) + (j : Int)).toNat = p + j := by omega
      have HN : Hid (doK ts 2 p D (j + 1) = (doK ts 2 p D j).set (p + j) zz) := rfl
      clear hbut hrow
      generalize (doK ts 2 p D j)[p + j] = yd at *
      go_wp2
      go_roundw
      case rel =>
        refine ⟨j + 1, by omega, by go_num, by rw [HN.out]; exact HROW.out.set (p + j) (by omega) zz, ?_, by simpa [World.setCell] using hlw, HBUT.out.setCell _ _⟩
        exact (((But.refl R wr).setCell _ _).cell w.heap.size 0 hlw (by omega)).trans HC0.out
      case measure => simp [intOf]; omega
    · obtain rfl : j = n := by omega
      clear hrow hbut
      go_wp2
      go_end0
      exact ⟨rfl, HROW.out, HBUT.out⟩
set_option maxHeartbeats 400000 in
theorem dom_any (R cap : Nat) (p : Int) (w : World) :
    Calls Tryd.prog 45 #[.slice (some ⟨R, 0, none⟩) 16 cap, .iface 91 (.agg #[.int .i64 p])] w fun e w' => e = .returned (.tuple #[]) ∧ w' = w := by
  have h1 := ta_wm
  have h2 := ta_tm
  go_enter Tryd.func45, Tryd.ntmps45
  go_wp2
  go_end0
  exact ⟨rfl, rfl⟩
theorem do_rec (R cap : Nat) (ts : List ByteArray) (r : Rc) (w : World) (hts : ts.length = 16) (hg : goodR r = true) (hR : SRow R ts w) :
    Calls Tryd.prog 45 #[.slice (some ⟨R, 0, none⟩) 16 cap, chgV r.kind r.place r.long (str r.data)] w fun e w' => e = .returned (.tuple #[]) ∧ SRow R (doR ts r) w' ∧ But R w w' := by
  obtain ⟨p, n, e1, e2, h1, h2, h3, h4⟩ := good_do hg
  have hc := good_cases hg
  unfold doR
  rw [e1, e2, Int.toNat_natCast, Int.toNat_natCast]
  rcases hc.1 with hk | hk | hk
  · rw [hk]
    exact dow_any R cap ts p n (str r.data) w hts h1 h2 h3 (h4 hk) hR
  · rw [hk]
    exact dot_any R cap ts p n (str r.data) w hts h1 h2 h3 hR
  · rw [hk]
    have h0 : r.long = 0 := hc.2.2.2.2.2.2.2.2.1 hk
    obtain rfl : n = 0 := by omega
    refine (dom_any R cap p w).mono ?_
    rintro e w' ⟨rfl, rfl⟩
    exact ⟨rfl, hR, But.refl _ _⟩
theorem foldOk_bad (l : List Rc) (k : Nat) (h : k < l.length) (hb : goodR l[k] = false) : foldOk l = false := by
  unfold foldOk; rw [goodL_bad l k h hb, Bool.false_and]
set_option maxHeartbeats 400000 in
theorem ifold_long (a : Option Addr) (cap : Nat) (l : List Rc) (w : World) (hn : l.length ≤ 1048576) (h : 60 < l.length) :
    Calls Tryd.prog 21 #[.slice a l.length cap] w fun e w' => e = .returned (.tuple #[.slice none 0 0, .bool false]) ∧ Below w.heap.size w w' := by
  have hd : decide ((60 : Int) < (l.length : Int)) = true := by simp; omega
  go_enter Tryd.func21, Tryd.ntmps21
  go_wp2
  go_ret2
  exact ⟨rfl, Below.refl _ _⟩
/-- what FoldRecords tells -/
def FoldTells (l : List Rc) (w : World) (e : Ending) (w' : World) : Prop :=
  (foldOk l = true ∧ ∃ R c, w.heap.size ≤ R ∧ e = .returned (.tuple #[.slice (some ⟨R, 0, none⟩) 16 c, .bool true]) ∧ SRow R (foldR l) w') ∨ (foldOk l = false ∧ e = .returned (.tuple #[.slice none 0 0, .bool false]))
set_option maxHeartbeats 1000000 in
theorem ifold_any (a : Option Addr) (cap : Nat) (l : List Rc) (w : World) (hn : l.length ≤ 60) (hZ : Rs w.heap.size a l w) :
    Calls Tryd.prog 21 #[.slice a l.length cap] w fun e w' => FoldTells l w e w' ∧ Below w.heap.size w w' := by
  have HZ : Hid (Rs w.heap.size a l w) := hZ
  have hd : decide ((60 : Int) < (l.length : Int)) = false := by simp; omega
  clear hZ
  go_enter Tryd.func21, Tryd.ntmps21
  go_wp2_with fail
  refine (empty_any _).mono ?_
  rintro e w1 ⟨rfl, hrow, b1⟩
  have HROW1 : Hid (SRow w.heap.size blankT w1) := hrow
  have HB1 : Hid (Below w.heap.size w w1) := b1
  clear hrow b1
  go_wp2
  go_loopw [15] (fun i wr => ∃ k : Nat, k ≤ l.length ∧ i = .int .i64 k ∧ (∀ j (hj : j < l.length), j < k → goodR l[j] = true) ∧ SRow w.heap.size (foldR (l.take k)) wr ∧ Below w.heap.size w wr) (fun i _ => l.length - (intOf i).toNat)
  case atStart => exact ⟨0, Nat.zero_le _, rfl, fun _ _ h => absurd h (Nat.not_lt_zero _), HROW1.out, HB1.out⟩
  case round =>
    obtain ⟨k, hk, rfl, hall, hrow, hbel⟩ := hrel
    have HALL : Hid (∀ j (hj : j < l.length), j < k → goodR l[j] = true) := hall
    have HROW : Hid (SRow w.heap.size (foldR (l.take k)) wr) := hrow
    have HBEL : Hid (Below w.heap.size w wr) := hbel
    have hszr := hbel.size
    have hlr := hrow.lt
    clear hrow hbel hall
    by_cases hlt : k < l.length
    · obtain ⟨b, off, rfl, hb, hcells⟩ := HZ.out.cell (by omega)
      obtain ⟨c0, c1, c2, c3⟩ := hcells k hlt
      have hb' : ∀ o, wr.cell? ⟨b, o, none⟩ = w.cell? ⟨b, o, none⟩ := fun o => HBEL.out.cell (p := ⟨b, o, none⟩) hb
      rw [← hb'] at c0 c1 c2 c3
      clear hcells hb'
      have HC : Hid (∀ v, Calls Tryd.prog 44 #[.agg #[.int .i64 l[k].kind, .int .i64 l[k].place, .int .i64 l[k].long, .string (str l[k].data)]] v fun e w' => e = .returned (.tuple #[chgV l[k].kind l[k].place l[k].long (str l[k].data), .bool (goodR l[k])]) ∧ Below v.heap.size v w') := fun v => by
        have := change_any l[k].kind l[k].place l[k].long (str l[k].data) v
        rw [str_list] at this
        exact this
      cases hg : goodR l[k]
      · have HS : Hid (foldOk l = false) := foldOk_bad l k hlt hg
        rw [hg] at HC
        clear hg
        generalize chgV l[k].kind l[k].place l[k].long (str l[k].data) = cv at *
        generalize l[k].kind = rk at *
        generalize l[k].place = rp at *
        generalize l[k].long = rn at *
        generalize str l[k].data = rd at *
        go_wp2_with fail
        refine (HC.out _).mono ?_
        rintro e w8 ⟨rfl, b8⟩
        have HB8 : Hid (Below w.heap.size w w8) := (HBEL.out.alloc hszr _).trans (b8.mono (by simp; omega))
        clear b8
        go_wp2
        go_ret2
        exact ⟨Or.inr ⟨HS.out, rfl⟩, HB8.out⟩
      · have HL : Hid (∀ j (hj : j < l.length), j < k + 1 → goodR l[j] = true) := fun j hj hjk => by
          by_cases e : j = k
          · subst e; exact hg
          · exact HALL.out j hj (by omega)
        have HD : Hid (∀ v, SRow w.heap.size (foldR (l.take k)) v → Calls Tryd.prog 45 #[.slice (some ⟨w.heap.size, 0, none⟩) 16 16, chgV l[k].kind l[k].place l[k].long (str l[k].data)] v fun e w' => e = .returned (.tuple #[]) ∧ SRow w.heap.size (foldR (l.take (k + 1))) w' ∧ But w.heap.size v w') := fun v hv => by
          rw [take_snoc l k hlt, foldR_snoc]
          exact do_rec w.heap.size 16 _ l[k] v (foldR_len _) hg hv
        rw [hg] at HC
        clear hg
        generalize chgV l[k].kind l[k].place l[k].long (str l[k].data) = cv at *
        generalize l[k].kind = rk at *
        generalize l[k].place = rp at *
        generalize l[k].long = rn at *
        generalize str l[k].data = rd at *
        go_wp2_with fail
        refine (HC.out _).mono ?_
        rintro e w8 ⟨rfl, b8⟩
        have HB8 : Hid (Below w.heap.size w w8) := (HBEL.out.alloc hszr _).trans (b8.mono (by simp; omega))
        have HROW8 : Hid (SRow w.heap.size (foldR (l.take k)) w8) := (HROW.out.below ((Below.refl _ _).alloc (Nat.le_refl _) _)).below b8
        clear b8
        go_wp2_with fail
        refine (HD.out _ HROW8.out).mono ?_
        rintro e w9 ⟨rfl, hrow9, but9⟩
        have HROW9 : Hid (SRow w.heap.size (foldR (l.take (k + 1))) w9) := hrow9
        have HB9 : Hid (Below w.heap.size w w9) := HB8.out.trans (but9.below (Nat.le_refl _) HB8.out.size)
        clear hrow9 but9
        go_wp2
        go_roundw
        case rel => exact ⟨k + 1, by omega, by go_num, HL.out, HROW9.out, HB9.out⟩
        case measure => simp [intOf]; omega
    · obtain rfl : k = l.length := by omega
      have HS : Hid (foldOk l = true) := by
        show foldOk l = true
        unfold foldOk
        rw [decide_eq_true hn, Bool.and_true]
        show l.all goodR = true
        rw [List.all_eq_true]
        intro x hx
        obtain ⟨j, hj, rfl⟩ := List.getElem_of_mem hx
        exact HALL.out j hj hj
      rw [List.take_length] at HROW
      go_wp2
      go_ret2
      exact ⟨Or.inl ⟨HS.out, w.heap.size, 16, Nat.le_refl _, rfl, HROW.out⟩, HBEL.out⟩
end Go.Proofs.YthoeffbefmhkjaaDoor
