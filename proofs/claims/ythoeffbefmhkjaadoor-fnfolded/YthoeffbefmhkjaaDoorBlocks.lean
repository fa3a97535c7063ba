/- Walks of BlocksOf, of the program and of its model. -/
import Derived.Test.YthoeffbefmhkjaaDoorQA
import Derived.Test.YthoeffbefmhkjaaDoorIntR
import Derived.Test.YthoeffbefmhkjaaDoorOwn
import Derived.Laws.AppendOwn
import Derived.RegionTactic
import Derived.Test.YthoeffbefmhkjaaDoorAsserts
namespace Go.Proofs.YthoeffbefmhkjaaDoor
set_option maxRecDepth 100000
open Go.ChangeShapes Go.WideShapes Go.ChangeAt Go.RowKit G00541
/-- the first k blocks from p on -/
def blocksL (p : Int) (k : Nat) : List Int := (List.range k).map fun (i : Nat) => p + (i : Int)
theorem blocksL_len (p : Int) (k : Nat) : (blocksL p k).length = k := by simp [blocksL]
theorem blocksL_snoc (p : Int) (k : Nat) : blocksL p (k + 1) = blocksL p k ++ [p + (k : Int)] := by
  unfold blocksL; rw [List.range_succ, List.map_append]; rfl
def ivals (l : List Int) : List Value := l.map fun n => .int .i64 n
theorem ivals_flat (l : List Int) : (l.map icell).flatten = ivals l := by
  induction l with
  | nil => rfl
  | cons x l ih => rw [List.map_cons, List.flatten_cons, ih]; rfl
theorem own_ints {w w' : World} {v : Value} {l : List Int} (h : w'.ownsRow w.heap.size 3 1 v l.length (ivals l)) : ∃ b c, v = .slice b l.length c ∧ OwnI w.heap.size w'.heap.size b l w' := by
  by_cases hv : v = .slice none 0 0
  · have h0 : l.length = 0 := by
      rcases h.2 with ⟨_, h0⟩ | ⟨g, cap, cur, e, _⟩
      · exact h0
      · rw [hv] at e; cases e
    exact ⟨none, 0, by rw [hv, h0], Or.inl (List.eq_nil_of_length_eq_zero h0)⟩
  · rw [← ivals_flat] at h
    obtain ⟨R, cap, e, hR, hrow⟩ := GRow.ofOwns (rows := l.map icell) (fun i hi => by rw [List.getElem_map]; rfl) h (by simp) hv
    exact ⟨some ⟨R, 0, none⟩, cap, e, Or.inr ⟨R, hR, GRow.lt hrow, rfl, hrow⟩⟩
theorem infoInt : (Tryd.prog.info? 3).map (fun i => (i.zero, i.size, i.bytes)) = some (some (.int .i64 0), 1, 8) := by kernel_rfl
theorem grown_below {wr w8 : World} (b8 : Below wr.heap.size wr w8) : wr.grownBy w8 none :=
  ⟨b8.os, b8.tape, b8.output, b8.size, fun j hj _ => b8.block j hj⟩
set_option maxHeartbeats 400000 in
theorem sblocks_no (k p n : Int) (D : ByteArray) (w : World) (h : goodR ⟨k, p, n, D.data.toList⟩ = false) :
    Calls Tryd.prog 28 #[.agg #[.int .i64 k, .int .i64 p, .int .i64 n, .string D]] w fun e w' => e = .returned (.tuple #[.slice none 0 0, .bool false]) ∧ Below w.heap.size w w' := by
  have HG : Hid (∀ v, Calls Tryd.prog 49 #[.agg #[.int .i64 k, .int .i64 p, .int .i64 n, .string D]] v fun e w' => e = .returned (.bool false) ∧ Below v.heap.size v w') := fun v => by rw [← h]; exact sgood_any k p n D v
  clear h
  go_enter Tryd.func28, Tryd.ntmps28
  go_wp2_with fail
  refine (HG.out _).mono ?_
  rintro e w1 ⟨rfl, b1⟩
  have HB : Hid (Below w.heap.size w w1) := below_in b1
  clear b1
  go_wp2
  go_ret2
  exact ⟨rfl, HB.out⟩
set_option maxHeartbeats 1000000 in
theorem sblocks_yes (k p : Int) (n : Nat) (D : ByteArray) (w : World) (hp : 0 ≤ p) (hp2 : p ≤ 200) (hn : n ≤ 4) (h : goodR ⟨k, p, n, D.data.toList⟩ = true) :
    Calls Tryd.prog 28 #[.agg #[.int .i64 k, .int .i64 p, .int .i64 (n : Int), .string D]] w fun e w' => ∃ v, e = .returned (.tuple #[v, .bool true]) ∧ w'.ownsRow w.heap.size 3 1 v (blocksL p n).length (ivals (blocksL p n)) ∧ Below w.heap.size w w' := by
  obtain ⟨i0, hi, hz0, hz1, hz2⟩ := info_parts infoInt
  have HG : Hid (∀ v, Calls Tryd.prog 49 #[.agg #[.int .i64 k, .int .i64 p, .int .i64 n, .string D]] v fun e w' => e = .returned (.bool true) ∧ Below v.heap.size v w') := fun v => by rw [← h]; exact sgood_any k p n D v
  clear h
  go_enter Tryd.func28, Tryd.ntmps28
  go_wp2_with fail
  refine (HG.out _).mono ?_
  rintro e w1 ⟨rfl, b1⟩
  have HR1 : Hid (RecAt w.heap.size k p n D w1) := (RecAt.start k p n D w 36).below b1
  have HB : Hid (Below w.heap.size w w1) := below_in b1
  clear b1
  go_wp2
  go_loopw [4, 5] (fun o i wr => ∃ (j : Nat) (o1 : Value), j ≤ n ∧ i = .int .i64 j ∧ o = o1 ∧ wr.ownsRow (w.heap.size + 1) 3 1 o1 (blocksL p j).length (ivals (blocksL p j)) ∧ RecAt w.heap.size k p n D wr ∧ Below w.heap.size w wr) (fun _ i _ => n - (intOf i).toNat)
  case atStart => exact ⟨0, _, Nat.zero_le _, rfl, rfl, World.ownsRow_nil _ _ _ _, HR1.out, HB.out⟩
  case round =>
    obtain ⟨j, _, hj, rfl, rfl, hown, hrec, hbel⟩ := hrel
    have HOWN : Hid (wr.ownsRow (w.heap.size + 1) 3 1 u4 (blocksL p j).length (ivals (blocksL p j))) := hown
    have HREC : Hid (RecAt w.heap.size k p n D wr) := hrec
    have HBEL : Hid (Below w.heap.size w wr) := hbel
    obtain ⟨c0, c1, c2, c3, hlt0⟩ := hrec
    have hol := blocksL_len p j
    clear hown hbel c0 c3
    by_cases hlt : j < n
    · go_wp2_with (at_builtin; refine wpList_append_own _ rfl (.tmp 15) (.tmp 20) 45 rfl (w.heap.size + 1) 3 i0 _ 1 8 Tryd.underlying45 hi hz0 hz1 hz2 rfl (by decide) u4 (blocksL p j).length (ivals (blocksL p j)) rfl ?own ⟨wr.heap.size, 0, none⟩ 1 1 [.int .i64 (p + (j : Int))] rfl rfl ?news ?one ?c3 ?c4 ?c5 ?_)
      case own => exact HOWN.out.alloc _
      case news =>
        intro i u hi
        match i, hi with
        | 0, hi => simp at hi; subst hi; go_simp
      case one => intro u hu; simp at hu; subst hu; rfl
      case c3 => unfold maxLen; omega
      case c4 => omega
      case c5 => simp; omega
      intro v' w9 hown9 hgrow hnil
      have HOWN9 : Hid (w9.ownsRow (w.heap.size + 1) 3 1 v' (blocksL p (j + 1)).length (ivals (blocksL p (j + 1)))) := by
        show w9.ownsRow (w.heap.size + 1) 3 1 v' (blocksL p (j + 1)).length (ivals (blocksL p (j + 1)))
        rw [blocksL_snoc, List.length_append]
        have e : ivals (blocksL p j ++ [p + (j : Int)]) = ivals (blocksL p j) ++ [.int .i64 (p + (j : Int))] := by simp [ivals]
        rw [e, blocksL_len]
        exact hown9
      have HB9a : Below (w.heap.size + 1) (wr.alloc (.cells #[.int .i64 (p + (j : Int))] 3)) w9 := (Below.refl _ _).grown hgrow (by simp; omega) (fun i hi => (HOWN.out.lt i hi).1)
      have HB9 : Hid (Below w.heap.size w w9) := (HBEL.out.alloc HBEL.out.size _).trans (HB9a.mono (by omega))
      have HREC9 : Hid (RecAt w.heap.size k p n D w9) := by
        have h1 := HREC.out.below ((Below.refl _ _).alloc (Nat.le_refl _) (.cells #[.int .i64 (p + (j : Int))] 3))
        have hc : ∀ i, w9.cell? ⟨w.heap.size, i, none⟩ = (wr.alloc (.cells #[.int .i64 (p + (j : Int))] 3)).cell? ⟨w.heap.size, i, none⟩ := fun i => HB9a.cell (p := ⟨w.heap.size, i, none⟩) (by show w.heap.size < w.heap.size + 1; omega)
        exact ⟨(hc 0).trans h1.c0, (hc 1).trans h1.c1, (hc 2).trans h1.c2, (hc 3).trans h1.c3, Nat.lt_of_lt_of_le h1.lt HB9a.size⟩
      clear hown9 hgrow hnil HB9a
      go_wp2
      go_roundw
      case rel => exact ⟨j + 1, _, by omega, by go_num, rfl, HOWN9.out, HREC9.out, HB9.out⟩
      case measure => simp [intOf]; omega
    · obtain rfl : j = n := by omega
      have HO : Hid (wr.ownsRow w.heap.size 3 1 u4 (blocksL p j).length (ivals (blocksL p j))) := ⟨HOWN.out.1, by
        rcases HOWN.out.2 with h | ⟨g, cap, cur, e, hb, rest⟩
        · exact Or.inl h
        · exact Or.inr ⟨g, cap, cur, e, by omega, rest⟩⟩
      go_wp2
      go_ret2
      exact ⟨u4, rfl, HO.out, HBEL.out⟩
set_option maxHeartbeats 400000 in
theorem boc_w (p n : Int) (D : ByteArray) (w : World) : Calls Tryd.prog 47 #[.iface 87 (.agg #[.int .i64 p, .int .i64 n, .string D])] w fun e w' => e = .returned (.tuple #[.int .i64 p, .int .i64 n]) ∧ Below w.heap.size w w' := by
  have h1 := ta_ww
  have h2 := ta_wt
  have h3 := ta_wm
  have h4 := ta_tt
  have h5 := ta_tm
  go_enter Tryd.func47, Tryd.ntmps47
  go_wp2_with fail
  go_region
  all_goals
    go_wp2
    go_ret2
    exact ⟨rfl, ((Below.refl _ _).alloc (Nat.le_refl _) _).drew⟩
set_option maxHeartbeats 400000 in
theorem boc_t (p n : Int) (w : World) : Calls Tryd.prog 47 #[.iface 89 (.agg #[.int .i64 p, .int .i64 n])] w fun e w' => e = .returned (.tuple #[.int .i64 p, .int .i64 n]) ∧ Below w.heap.size w w' := by
  have h1 := ta_ww
  have h2 := ta_wt
  have h3 := ta_wm
  have h4 := ta_tt
  have h5 := ta_tm
  go_enter Tryd.func47, Tryd.ntmps47
  go_wp2_with fail
  go_region
  all_goals
    go_wp2
    go_ret2
    exact ⟨rfl, ((Below.refl _ _).alloc (Nat.le_refl _) _).drew⟩
set_option maxHeartbeats 400000 in
theorem boc_m (p : Int) (w : World) : Calls Tryd.prog 47 #[.iface 91 (.agg #[.int .i64 p])] w fun e w' => e = .returned (.tuple #[.int .i64 0, .int .i64 0]) ∧ Below w.heap.size w w' := by
  have h1 := ta_ww
  have h2 := ta_wt
  have h3 := ta_wm
  have h4 := ta_tt
  have h5 := ta_tm
  go_enter Tryd.func47, Tryd.ntmps47
  go_wp2
  go_ret2
  exact ⟨rfl, Below.refl _ _⟩
set_option maxHeartbeats 400000 in
theorem iblocks_no (k p n : Int) (D : ByteArray) (w : World) (h : goodR ⟨k, p, n, D.data.toList⟩ = false) :
    Calls Tryd.prog 24 #[.agg #[.int .i64 k, .int .i64 p, .int .i64 n, .string D]] w fun e w' => e = .returned (.tuple #[.slice none 0 0, .bool false]) ∧ Below w.heap.size w w' := by
  have HG : Hid (∀ v, Calls Tryd.prog 44 #[.agg #[.int .i64 k, .int .i64 p, .int .i64 n, .string D]] v fun e w' => e = .returned (.tuple #[chgV k p n D, .bool false]) ∧ Below v.heap.size v w') := fun v => by rw [← h]; exact change_any k p n D v
  clear h
  generalize chgV k p n D = c at *
  go_enter Tryd.func24, Tryd.ntmps24
  go_wp2_with fail
  refine (HG.out _).mono ?_
  rintro e w1 ⟨rfl, b1⟩
  have HB : Hid (Below w.heap.size w w1) := below_in b1
  clear b1
  go_wp2
  go_ret2
  exact ⟨rfl, HB.out⟩
set_option maxHeartbeats 1000000 in
theorem iblocks_go (k p n : Int) (D : ByteArray) (c : Value) (q : Int) (m : Nat) (w : World) (hq : 0 ≤ q) (hq2 : q ≤ 200) (hm : m ≤ 4)
    (HG : Hid (∀ v, Calls Tryd.prog 44 #[.agg #[.int .i64 k, .int .i64 p, .int .i64 n, .string D]] v fun e w' => e = .returned (.tuple #[c, .bool true]) ∧ Below v.heap.size v w'))
    (HC : Hid (∀ v, Calls Tryd.prog 47 #[c] v fun e w' => e = .returned (.tuple #[.int .i64 q, .int .i64 (m : Int)]) ∧ Below v.heap.size v w')) :
    Calls Tryd.prog 24 #[.agg #[.int .i64 k, .int .i64 p, .int .i64 n, .string D]] w fun e w' => ∃ v, e = .returned (.tuple #[v, .bool true]) ∧ w'.ownsRow w.heap.size 3 1 v (blocksL q m).length (ivals (blocksL q m)) ∧ Below w.heap.size w w' := by
  obtain ⟨i0, hi, hz0, hz1, hz2⟩ := info_parts infoInt
  go_enter Tryd.func24, Tryd.ntmps24
  go_wp2_with fail
  refine (HG.out _).mono ?_
  rintro e w1 ⟨rfl, b1⟩
  have HB1 : Hid (Below w.heap.size w w1) := below_in b1
  clear b1
  go_wp2_with fail
  refine (HC.out _).mono ?_
  rintro e w2 ⟨rfl, b2⟩
  have HB2 : Hid (Below w.heap.size w w2) := HB1.out.trans (b2.mono HB1.out.size)
  clear b2
  go_wp2
  go_loopw [8, 23] (fun o i wr => ∃ (j : Nat) (o1 : Value), j ≤ m ∧ i = .int .i64 j ∧ o = o1 ∧ wr.ownsRow w.heap.size 3 1 o1 (blocksL q j).length (ivals (blocksL q j)) ∧ Below w.heap.size w wr) (fun _ i _ => m - (intOf i).toNat)
  case atStart => exact ⟨0, _, Nat.zero_le _, rfl, rfl, World.ownsRow_nil _ _ _ _, HB2.out⟩
  case round =>
    obtain ⟨j, _, hj, rfl, rfl, hown, hbel⟩ := hrel
    have HOWN : Hid (wr.ownsRow w.heap.size 3 1 u8 (blocksL q j).length (ivals (blocksL q j))) := hown
    have HBEL : Hid (Below w.heap.size w wr) := hbel
    have hszr := hbel.size
    have hol := blocksL_len q j
    clear hown hbel
    by_cases hlt : j < m
    · go_wp2_with (at_builtin; refine wpList_append_own _ rfl (.tmp 26) (.tmp 30) 45 rfl w.heap.size 3 i0 _ 1 8 Tryd.underlying45 hi hz0 hz1 hz2 rfl (by decide) u8 (blocksL q j).length (ivals (blocksL q j)) rfl ?own ⟨wr.heap.size, 0, none⟩ 1 1 [.int .i64 (q + (j : Int))] rfl rfl ?news ?one ?c3 ?c4 ?c5 ?_)
      case own => exact HOWN.out.alloc _
      case news =>
        intro i u hi
        match i, hi with
        | 0, hi => simp at hi; subst hi; go_simp
      case one => intro u hu; simp at hu; subst hu; rfl
      case c3 => unfold maxLen; omega
      case c4 => omega
      case c5 => simp; omega
      intro v' w9 hown9 hgrow hnil
      have HOWN9 : Hid (w9.ownsRow w.heap.size 3 1 v' (blocksL q (j + 1)).length (ivals (blocksL q (j + 1)))) := by
        show w9.ownsRow w.heap.size 3 1 v' (blocksL q (j + 1)).length (ivals (blocksL q (j + 1)))
        rw [blocksL_snoc, List.length_append]
        have e : ivals (blocksL q j ++ [q + (j : Int)]) = ivals (blocksL q j) ++ [.int .i64 (q + (j : Int))] := by simp [ivals]
        rw [e, blocksL_len]
        exact hown9
      have HB9 : Hid (Below w.heap.size w w9) := (HBEL.out.alloc hszr _).grown hgrow (by simp; omega) (fun i hi => (HOWN.out.lt i hi).1)
      clear hown9 hgrow hnil
      go_wp2
      go_roundw
      case rel => exact ⟨j + 1, _, by omega, by go_num, rfl, HOWN9.out, HB9.out⟩
      case measure => simp [intOf]; omega
    · obtain rfl : j = m := by omega
      go_wp2
      go_ret2
      exact ⟨u8, rfl, HOWN.out, HBEL.out⟩
theorem iblocks_yes (k p : Int) (n : Nat) (D : ByteArray) (w : World) (hp : 0 ≤ p) (hp2 : p ≤ 200) (hn : n ≤ 4) (h : goodR ⟨k, p, n, D.data.toList⟩ = true) :
    Calls Tryd.prog 24 #[.agg #[.int .i64 k, .int .i64 p, .int .i64 (n : Int), .string D]] w fun e w' => ∃ v, e = .returned (.tuple #[v, .bool true]) ∧ w'.ownsRow w.heap.size 3 1 v (blocksL p n).length (ivals (blocksL p n)) ∧ Below w.heap.size w w' := by
  have HG : ∀ v, Calls Tryd.prog 44 #[.agg #[.int .i64 k, .int .i64 p, .int .i64 n, .string D]] v fun e w' => e = .returned (.tuple #[chgV k p n D, .bool true]) ∧ Below v.heap.size v w' := fun v => by rw [← h]; exact change_any k p n D v
  have hc := good_cases h
  rcases hc.1 with hk | hk | hk
  · have hk' : k = 1 := hk
    subst hk'
    exact iblocks_go 1 p n D _ p n w hp hp2 hn HG (fun v => boc_w p n D v)
  · have hk' : k = 2 := hk
    subst hk'
    exact iblocks_go 2 p n D _ p n w hp hp2 hn HG (fun v => boc_t p n v)
  · have hk' : k = 3 := hk
    subst hk'
    have h0 : (n : Int) = 0 := hc.2.2.2.2.2.2.2.2.1 rfl
    obtain rfl : n = 0 := by omega
    have e : blocksL p 0 = blocksL 0 0 := rfl
    rw [e]
    exact iblocks_go 3 p 0 D _ 0 0 w (by omega) (by omega) (by omega) HG (fun v => boc_m p v)
end Go.Proofs.YthoeffbefmhkjaaDoor
