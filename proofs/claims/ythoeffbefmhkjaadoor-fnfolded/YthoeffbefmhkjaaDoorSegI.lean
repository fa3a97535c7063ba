/- Walks of SegmentText, of the program and of its model. -/
import Derived.Test.YthoeffbefmhkjaaDoorSegS
import Derived.Test.YthoeffbefmhkjaaDoorQA
import Derived.Lib.AppendStr
namespace Go.Proofs.YthoeffbefmhkjaaDoor
set_option maxRecDepth 100000
open Go.ChangeShapes Go.WideShapes Go.ChangeAt Go.RowKit G00541
open Go.Lib (strCells wpList_append_own_string)
def segOk (l : List Rc) : Bool := goodL l && decide ((segL l).length ≤ 300)
/-- what SegmentText tells -/
def segV (l : List Rc) : ByteArray := if segOk l = true then str (segL l) else ⟨#[]⟩
theorem segV_yes {l : List Rc} (h : segOk l = true) : segV l = str (segL l) := by unfold segV; rw [if_pos h]
theorem segV_no {l : List Rc} (h : segOk l = false) : segV l = ⟨#[]⟩ := by unfold segV; rw [if_neg (by rw [h]; decide)]
theorem segL_app (l m : List Rc) : segL (l ++ m) = segL l ++ segL m := by
  induction l with
  | nil => rfl
  | cons x l ih => show textL x ++ segL (l ++ m) = textL x ++ segL l ++ segL m; rw [ih, List.append_assoc]
theorem segL_take (l : List Rc) (k : Nat) : (segL (l.take k)).length ≤ (segL l).length := by
  conv => rhs; rw [← List.take_append_drop k l, segL_app, List.length_append]
  omega
theorem segOk_bad (l : List Rc) (k : Nat) (h : k < l.length) (hb : goodR l[k] = false) : segOk l = false := by
  unfold segOk; rw [goodL_bad l k h hb, Bool.false_and]
theorem segOk_long (l : List Rc) (k : Nat) (hb : 300 < (segL (l.take k)).length) : segOk l = false := by
  unfold segOk
  have := segL_take l k
  rw [decide_eq_false (by omega), Bool.and_false]
theorem strCells_str (l : List UInt8) : strCells (str l) = l.map fun b => Value.int .u8 (b.toNat : Int) := rfl
theorem conv_own {w : World} {base : Nat} {v : Value} (l : List UInt8) (h : w.ownsRow base 5 1 v l.length (strCells (str l))) :
    Sem.run Tryd.prog (convert 22 9 v) w = .ok (.string (str l)) w := by
  have hc := fun g (e : v.ownBlock = some g) => h.cells (g := g) e
  obtain ⟨_, ⟨rfl, h0⟩ | ⟨g, cap, cur, rfl, _⟩⟩ := h
  · obtain rfl : l = [] := List.eq_nil_of_length_eq_zero h0
    simp [convert, run_underlying Tryd.underlying22, run_underlying Tryd.underlying5, run_underlying Tryd.underlying9, Conv.bytesToString, str, go_sem]
    rfl
  · refine run_convert_bytes_back w 22 9 5 ⟨g, 0, none⟩ cap l Tryd.underlying22 Tryd.underlying5 Tryd.underlying9 (fun j hj => ?_)
    exact hc g rfl j _ (by rw [strCells_str, List.getElem?_map, List.getElem?_eq_getElem hj]; rfl)
theorem own_form {w : World} {base n : Nat} {e : TypeId} {v : Value} {xs : List Value} (h : w.ownsRow base e 1 v n xs) : ∃ a c, v = .slice a n c := by
  obtain ⟨_, ⟨rfl, h0⟩ | ⟨g, cap, cur, rfl, _⟩⟩ := h
  · exact ⟨none, 0, by rw [h0]⟩
  · exact ⟨_, _, rfl⟩
set_option maxHeartbeats 400000 in
theorem sseg_any (a : Option Addr) (cap : Nat) (l : List Rc) (w : World) (hn : l.length ≤ 1048576) (hZ : Rs w.heap.size a l w) :
    Calls Tryd.prog 7 #[.slice a l.length cap] w fun e w' => e = .returned (.tuple #[.string (segV l), .bool (segOk l)]) ∧ Below w.heap.size w w' := by
  have HZ : Hid (∀ v, Below w.heap.size w v → Rs v.heap.size a l v) := fun v g => (hZ.below g).mono g.size
  cases hg : goodL l
  · have hs : segOk l = false := by unfold segOk; rw [hg]; rfl
    rw [segV_no hs, hs]
    have HC : Hid (Calls Tryd.prog 33 #[.slice a l.length cap] w fun e w' => e = .returned (.bool false) ∧ Below w.heap.size w w') := by rw [← hg]; exact l3good_any a cap l w hn hZ
    clear hZ hg hs
    go_enter Tryd.func7, Tryd.ntmps7
    go_wp2_with fail
    refine (HC.out).mono ?_
    rintro e w1 ⟨rfl, b1⟩
    have HB : Hid (Below w.heap.size w w1) := b1
    clear b1
    go_wp2
    go_ret2
    exact ⟨rfl, HB.out⟩
  · have HC : Hid (Calls Tryd.prog 33 #[.slice a l.length cap] w fun e w' => e = .returned (.bool true) ∧ Below w.heap.size w w') := by rw [← hg]; exact l3good_any a cap l w hn hZ
    have HS : Hid (∀ v, Below w.heap.size w v → Calls Tryd.prog 34 #[.slice a l.length cap] v fun e w' => e = .returned (.string (str (segL l))) ∧ Below v.heap.size v w') := fun v g => l3seg_any a cap l v hn (HZ.out v g) hg
    have hsz := str_size (segL l)
    have hle := segL_len l hg
    by_cases h3 : (segL l).length ≤ 300
    · have hs : segOk l = true := by unfold segOk; rw [hg, decide_eq_true h3]; rfl
      rw [segV_yes hs, hs]
      have hz3 : (str (segL l)).size ≤ 300 := by omega
      have hd : decide ((300 : Int) < ((str (segL l)).size : Int)) = false := by simp; omega
      clear hZ hg hs hsz hle h3 HZ
      generalize str (segL l) = T at *
      go_enter Tryd.func7, Tryd.ntmps7
      go_wp2_with fail
      refine (HC.out).mono ?_
      rintro e w1 ⟨rfl, b1⟩
      have HB : Hid (Below w.heap.size w w1) := b1
      clear b1
      go_wp2_with fail
      refine (HS.out _ HB.out).mono ?_
      rintro e w2 ⟨rfl, b2⟩
      have HB2 : Hid (Below w.heap.size w w2) := HB.out.trans (b2.mono HB.out.size)
      clear b2
      go_wp2
      go_ret2
      exact ⟨rfl, HB2.out⟩
    · have hs : segOk l = false := by unfold segOk; rw [decide_eq_false h3, Bool.and_false]
      rw [segV_no hs, hs]
      have hz3 : (str (segL l)).size ≤ 14680064 := by omega
      have hd : decide ((300 : Int) < ((str (segL l)).size : Int)) = true := by simp; omega
      clear hZ hg hs hsz hle h3 HZ
      generalize str (segL l) = T at *
      go_enter Tryd.func7, Tryd.ntmps7
      go_wp2_with fail
      refine (HC.out).mono ?_
      rintro e w1 ⟨rfl, b1⟩
      have HB : Hid (Below w.heap.size w w1) := b1
      clear b1
      go_wp2_with fail
      refine (HS.out _ HB.out).mono ?_
      rintro e w2 ⟨rfl, b2⟩
      have HB2 : Hid (Below w.heap.size w w2) := HB.out.trans (b2.mono HB.out.size)
      clear b2
      go_wp2
      go_ret2
      exact ⟨rfl, HB2.out⟩
theorem infoB8 : (Tryd.prog.info? 5).map (fun i => (i.zero, i.size, i.bytes)) = some (some (.int .u8 0), 1, 1) := by kernel_rfl
theorem grown_call {wr w8 : World} {o : Obj} (b8 : Below (wr.alloc o).heap.size (wr.alloc o) w8) : wr.grownBy w8 none :=
  ⟨b8.os, b8.tape, b8.output, by have := b8.size; simp at this; omega, fun j hj _ => (b8.block j (by simp; omega)).trans (Below.heap_alloc _ _ _ hj)⟩
set_option maxHeartbeats 2000000 in
theorem iseg_any (a : Option Addr) (cap : Nat) (l : List Rc) (w : World) (hT : Tab w) (hn : l.length ≤ 1048576) (hZ : Rs w.heap.size a l w) :
    Calls Tryd.prog 6 #[.slice a l.length cap] w fun e w' => e = .returned (.tuple #[.string (segV l), .bool (segOk l)]) ∧ Below w.heap.size w w' := by
  obtain ⟨i0, hi, hz0, hz1, hz2⟩ := info_parts infoB8
  have HZ : Hid (Rs w.heap.size a l w) := hZ
  have HT : Hid (∀ v, Below w.heap.size w v → Tab v) := fun v g => hT.below g
  clear hZ hT
  go_enter Tryd.func6, Tryd.ntmps6
  go_wp2
  go_loopw [4, 11] (fun o i wr => ∃ (k : Nat) (o1 : Value), k ≤ l.length ∧ i = .int .i64 k ∧ o = o1 ∧ wr.ownsRow w.heap.size 5 1 o1 (segL (l.take k)).length (strCells (str (segL (l.take k)))) ∧ (∀ j (hj : j < l.length), j < k → goodR l[j] = true) ∧ (segL (l.take k)).length ≤ 300 ∧ Below w.heap.size w wr) (fun _ i _ => l.length - (intOf i).toNat)
  case atStart => exact ⟨0, _, Nat.zero_le _, rfl, rfl, World.ownsRow_nil _ _ _ _, fun _ _ h => absurd h (Nat.not_lt_zero _), by simp [segL], Below.refl _ _⟩
  case round =>
    obtain ⟨k, _, hk, rfl, rfl, hown, hall, h300, hbel⟩ := hrel
    obtain ⟨a4, c4, rfl⟩ := own_form hown
    have HOWN : Hid (wr.ownsRow w.heap.size 5 1 (.slice a4 (segL (l.take k)).length c4) (segL (l.take k)).length (strCells (str (segL (l.take k))))) := hown
    have HALL : Hid (∀ j (hj : j < l.length), j < k → goodR l[j] = true) := hall
    have HBEL : Hid (Below w.heap.size w wr) := hbel
    clear hall
    by_cases hlt : k < l.length
    · obtain ⟨b, off, rfl, hb, hcells⟩ := HZ.out.cell (by omega)
      obtain ⟨c0, c1, c2, c3⟩ := hcells k hlt
      have hb' : ∀ o, wr.cell? ⟨b, o, none⟩ = w.cell? ⟨b, o, none⟩ := fun o => hbel.cell (p := ⟨b, o, none⟩) hb
      rw [← hb'] at c0 c1 c2 c3
      have hszr := hbel.size
      clear hcells hb' hown hbel
      cases hg : goodR l[k]
      · have HS : Hid (segOk l = false) := segOk_bad l k hlt hg
        have HC : Hid (∀ v, Calls Tryd.prog 19 #[.agg #[.int .i64 l[k].kind, .int .i64 l[k].place, .int .i64 l[k].long, .string (str l[k].data)]] v fun e w' => e = .returned (.tuple #[.string ⟨#[]⟩, .bool false]) ∧ Below v.heap.size v w') := fun v => irectext_no _ _ _ _ v (by rw [str_list]; exact hg)
        clear hg
        generalize l[k].kind = rk at *
        generalize l[k].place = rp at *
        generalize l[k].long = rn at *
        generalize str l[k].data = rd at *
        go_wp2_with fail
        refine (HC.out _).mono ?_
        rintro e w8 ⟨rfl, b8⟩
        have HB8 : Hid (Below w.heap.size w w8) := (HBEL.out.alloc hszr _).trans (b8.mono (by simp; omega))
        clear b8
        go_wp2
        go_ret2
        exact ⟨ret_str2 (segV_no HS.out).symm HS.out.symm, HB8.out⟩
      · have HC : Hid (∀ v, Tab v → Calls Tryd.prog 19 #[.agg #[.int .i64 l[k].kind, .int .i64 l[k].place, .int .i64 l[k].long, .string (str l[k].data)]] v fun e w' => e = .returned (.tuple #[.string (str (textL l[k])), .bool true]) ∧ Below v.heap.size v w') := fun v hv => by
          have := irectext_yes l[k].kind l[k].place l[k].long (str l[k].data) v hv (by rw [str_list]; exact hg)
          rw [textB_eq, str_list] at this
          exact this
        have HL : Hid (∀ j (hj : j < l.length), j < k + 1 → goodR l[j] = true) := fun j hj hjk => by
          by_cases e : j = k
          · subst e; exact hg
          · exact HALL.out j hj (by omega)
        have hlen := (good_cases hg).2.2.2.2.2.1
        have HN : Hid (segL (l.take (k + 1)) = segL (l.take k) ++ textL l[k]) := by show segL (l.take (k + 1)) = _; rw [take_snoc l k hlt, segL_snoc]
        have hs2 : (str (textL l[k])).size = (textL l[k]).length := str_size _
        have hs3 : (textL l[k]).length ≤ 14 := by rw [textL_len]; omega
        have HLONG : Hid (300 < (segL (l.take k)).length + (textL l[k]).length → segOk l = false) := fun h => segOk_long l (k + 1) (by rw [HN.out, List.length_append]; exact h)
        clear hg hlen
        generalize l[k].kind = rk at *
        generalize l[k].place = rp at *
        generalize l[k].long = rn at *
        generalize str l[k].data = rd at *
        generalize textL l[k] = X at *
        generalize segL (l.take k) = Y at *
        have hs4 : (str X).size ≤ 14 := by omega
        by_cases h3 : Y.length + X.length ≤ 300
        · have hd : decide ((300 : Int) < (Y.length : Int) + ((str X).size : Int)) = false := by simp; omega
          have HX : Hid ((str X).size = X.length) := hs2
          clear hs2 HLONG
          go_wp2_with fail
          refine (HC.out _ (HT.out _ (HBEL.out.alloc hszr _))).mono ?_
          rintro e w8 ⟨rfl, b8⟩
          have HB8 : Hid (Below w.heap.size w w8) := (HBEL.out.alloc hszr _).trans (b8.mono (by simp; omega))
          have HOWN8 : Hid (w8.ownsRow w.heap.size 5 1 (.slice a4 Y.length c4) Y.length (strCells (str Y))) := HOWN.out.kept (grown_call b8) (by cases (Value.slice a4 Y.length c4).ownBlock <;> simp)
          have hs8 := HB8.out.size
          clear b8
          go_wp2_with (at_builtin; refine wpList_append_own_string _ rfl (.tmp 30) (.tmp 31) 22 9 rfl w.heap.size 5 i0 Tryd.underlying22 Tryd.underlying9 hi hz0 hz1 hz2 (.slice a4 Y.length c4) Y.length (strCells (str Y)) rfl ?own (str X) rfl ?c3 ?c4 ?c5 ?_)
          case own => exact HOWN8.out
          case c3 => unfold maxLen; omega
          case c4 => omega
          case c5 => omega
          intro v' w9 hown9 hgrow hnil
          have HOWN9 : Hid (w9.ownsRow w.heap.size 5 1 v' (Y ++ X).length (strCells (str (Y ++ X)))) := by
            show w9.ownsRow w.heap.size 5 1 v' (Y ++ X).length (strCells (str (Y ++ X)))
            have e : strCells (str (Y ++ X)) = strCells (str Y) ++ strCells (str X) := by rw [strCells_str, strCells_str, strCells_str, List.map_append]
            rw [e, List.length_append, ← HX.out]
            exact hown9
          have HB9 : Hid (Below w.heap.size w w9) := HB8.out.grown hgrow hs8 (fun j hj => (HOWN8.out.lt j hj).1)
          clear hown9 hgrow hnil
          go_wp2
          go_roundw
          case rel => exact ⟨k + 1, _, by omega, by go_num, rfl, by rw [HN.out]; exact HOWN9.out, HL.out, by rw [HN.out, List.length_append]; omega, HB9.out⟩
          case measure => simp [intOf]; omega
        · have hd : decide ((300 : Int) < (Y.length : Int) + ((str X).size : Int)) = true := by simp; omega
          have HS : Hid (segOk l = false) := HLONG.out (by omega)
          clear hs2 HLONG
          go_wp2_with fail
          refine (HC.out _ (HT.out _ (HBEL.out.alloc hszr _))).mono ?_
          rintro e w8 ⟨rfl, b8⟩
          have HB8 : Hid (Below w.heap.size w w8) := (HBEL.out.alloc hszr _).trans (b8.mono (by simp; omega))
          clear b8
          go_wp2
          go_ret2
          exact ⟨ret_str2 (segV_no HS.out).symm HS.out.symm, HB8.out⟩
    · obtain rfl : k = l.length := by omega
      have hcv := conv_own _ hown
      rw [List.take_length] at h300 hcv
      have HS : Hid (segOk l = true) := by
        show segOk l = true
        unfold segOk
        rw [decide_eq_true h300, Bool.and_true]
        show l.all goodR = true
        rw [List.all_eq_true]
        intro x hx
        obtain ⟨j, hj, rfl⟩ := List.getElem_of_mem hx
        exact HALL.out j hj hj
      clear hown hbel
      rw [List.take_length]
      go_wp2
      go_ret2
      exact ⟨ret_str2 (segV_yes HS.out).symm HS.out.symm, HBEL.out⟩
end Go.Proofs.YthoeffbefmhkjaaDoor
