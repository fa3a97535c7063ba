/- The exact law of BlocksOf: its walk. -/
import Derived.Test.YtbbnbkofomaefabBlocks
import Derived.Test.YtbbnbkofomaefabHRec
import Derived.Test.YtbbnbkofomaefabIntSR
namespace Go.Proofs.Ytbbnbkofomaefab
set_option maxRecDepth 100000
open Go.ChangeShapes Go.WideShapes Go.ChangeAt Go.RowKit G00541
theorem RecAt.out {B lo hi : Nat} {k p n : Int} {D : ByteArray} {v v' : World} (h : RecAt B k p n D v) (g : Out lo hi v v') (hB : B < lo ∨ hi ≤ B) : RecAt B k p n D v' := by
  have hb := g.block B h.lt hB
  have hc : ∀ i, v'.cell? ⟨B, i, none⟩ = v.cell? ⟨B, i, none⟩ := fun i => by unfold World.cell?; simp only [hb]
  exact ⟨(hc 0).trans h.c0, (hc 1).trans h.c1, (hc 2).trans h.c2, (hc 3).trans h.c3, Nat.lt_of_lt_of_le h.lt g.size⟩
/-- function f answers the numbers V and ok of a record, in memory of its own -/
def TellsB (f : Nat) (k p n : Int) (D : ByteArray) (V : List Int) (ok : Bool) : Prop := ∀ (w : World),
  Calls Try.prog f #[.agg #[.int .i64 k, .int .i64 p, .int .i64 n, .string D]] w fun e w' => ∃ b c, e = .returned (.tuple #[.slice b V.length c, .bool ok]) ∧ OwnI w.heap.size w'.heap.size b V w' ∧ Below w.heap.size w w'
set_option maxHeartbeats 4000000 in
theorem law_BlocksOf (k p n : Int) (D : ByteArray) (V : List Int) (ok : Bool) (w : World) (hz' : D.size ≤ 9223372036854775807) (hV : V.length ≤ 1048576)
    (H9 : Hid (TellsB 6 k p n D V ok)) (H11 : Hid (TellsB 8 k p n D V ok)) :
    Calls Try.prog 3 #[.agg #[.int .i64 k, .int .i64 p, .int .i64 n, .string D]] w fun e w' => e = .returned (.bool true) ∧ Below w.heap.size w w' := by
  go_enter Try.func3, Try.ntmps3
  go_wp2_with fail
  refine (szRecord_any k p n D _ _ (by omega) (by omega) hz').mono ?_
  rintro e w1 ⟨⟨r, rfl, r1, hr⟩, b1⟩
  have HR1 : Hid (RecAt w.heap.size k p n D w1) := (RecAt.start k p n D w 23).below b1
  have HB1 : Hid (Below w.heap.size w w1) := below_in b1
  clear b1 hr
  by_cases r0 : 0 ≤ r
  case neg =>
    have hd1 : decide (r < 0) = true := by simp; omega
    go_wp2
    go_ret
    exact ⟨rfl, HB1.out⟩
  have hd1 : decide (r < 0) = false := by simp; omega
  obtain ⟨c0, c1, c2, c3, hl1⟩ := HR1.out
  go_wp2_with fail
  refine (toRecord_any k p n D _).mono ?_
  rintro e w2 ⟨rfl, b2⟩
  have HR2 : Hid (RecAt w.heap.size k p n D w2) := HR1.out.below b2
  have HB2 : Hid (Below w.heap.size w w2) := HB1.out.trans (b2.mono HB1.out.size)
  clear b2 c0 c1 c2 c3 HB1 HR1
  go_wp2_with fail
  refine (H9.out _).mono ?_
  rintro e w3 ⟨b3, d3, rfl, o3, g3⟩
  have s3 := g3.size
  have HR3 : Hid (RecAt w.heap.size k p n D w3) := HR2.out.below g3
  have HB3 : Hid (Below w.heap.size w w3) := HB2.out.trans (g3.mono HB2.out.size)
  have s2 := HB2.out.size
  have l2 := HR2.out.lt
  have HW3 : Hid (OwnI w2.heap.size w3.heap.size b3 V w3) := o3
  clear o3 g3 HB2 HR2 H9
  obtain ⟨c0, c1, c2, c3, hl3⟩ := HR3.out
  go_wp2_with fail
  refine (toRecord_any k p n D _).mono ?_
  rintro e w4 ⟨rfl, g4⟩
  have s4 := g4.size
  have HR4 : Hid (RecAt w.heap.size k p n D w4) := HR3.out.below g4
  have HB4 : Hid (Below w.heap.size w w4) := HB3.out.trans (g4.mono HB3.out.size)
  have HW4 : Hid (OwnI w2.heap.size w3.heap.size b3 V w4) := HW3.out.below g4
  clear g4 c0 c1 c2 c3 HB3 HW3 HR3
  go_wp2_with fail
  refine (H11.out _).mono ?_
  rintro e w5 ⟨b5, d5, rfl, o5, g5⟩
  have s5 := g5.size
  have HR5 : Hid (RecAt w.heap.size k p n D w5) := HR4.out.below g5
  have HB5 : Hid (Below w.heap.size w w5) := HB4.out.trans (g5.mono HB4.out.size)
  have HW5 : Hid (OwnI w2.heap.size w3.heap.size b3 V w5) := HW4.out.below g5
  have HG5 : Hid (OwnI w4.heap.size w5.heap.size b5 V w5) := o5
  clear o5 g5 HB4 HW4 HR4
  go_wp2_with fail
  refine (eqIntS_same b5 b3 d5 d3 V _ hV HG5.out.is HW5.out.is).mono ?_
  rintro e w6 ⟨rfl, g6⟩
  have s6 := g6.size
  have HR6 : Hid (RecAt w.heap.size k p n D w6) := HR5.out.below g6
  have HB6 : Hid (Below w.heap.size w w6) := HB5.out.trans (g6.mono HB5.out.size)
  have HW6 : Hid (OwnI w2.heap.size w3.heap.size b3 V w6) := HW5.out.below g6
  have HG6 : Hid (OwnI w4.heap.size w5.heap.size b5 V w6) := HG5.out.below g6
  clear g6 HB5 HW5 HG5 HR5
  go_wp2_with fail
  refine (mark_ownI _ _ b5 d5 V _ hV HG6.out).mono ?_
  rintro e w7 ⟨rfl, o7, t7⟩
  have HB7 : Hid (Below w.heap.size w w7) := HB6.out.trans (t7.below (by omega) HB6.out.size)
  have HW7 : Hid (OwnI w2.heap.size w3.heap.size b3 V w7) := HW6.out.out t7 (by omega)
  have HG7 : Hid (OwnI w4.heap.size w5.heap.size b5 (imarks V.length 1) w7) := o7
  have HR7 : Hid (RecAt w.heap.size k p n D w7) := HR6.out.out t7 (by omega)
  clear o7 t7 HB6 HW6 HG6 HR6
  have hm : decide (((1 + V.length : Nat) : Int) < 0) = false := by simp; omega
  go_wp2_with fail
  refine (held_ownI _ _ b5 d5 V.length _ hV HG7.out).mono ?_
  rintro e w8 ⟨rfl, g8⟩
  have HR8 : Hid (RecAt w.heap.size k p n D w8) := HR7.out.below g8
  have HB8 : Hid (Below w.heap.size w w8) := HB7.out.trans (g8.mono HB7.out.size)
  have HW8 : Hid (OwnI w2.heap.size w3.heap.size b3 V w8) := HW7.out.below g8
  have HG8 : Hid (OwnI w4.heap.size w5.heap.size b5 (imarks V.length 1) w8) := HG7.out.below g8
  clear g8 HB7 HW7 HG7 HR7
  obtain ⟨c0, c1, c2, c3, hl8⟩ := HR8.out
  go_wp2_with fail
  refine (toRecord_any k p n D _).mono ?_
  rintro e w9 ⟨rfl, g9⟩
  have HB9 : Hid (Below w.heap.size w w9) := HB8.out.trans (g9.mono HB8.out.size)
  have HW9 : Hid (OwnI w2.heap.size w3.heap.size b3 V w9) := HW8.out.below g9
  have HG9 : Hid (OwnI w4.heap.size w5.heap.size b5 (imarks V.length 1) w9) := HG8.out.below g9
  clear g9 c0 c1 c2 c3 HB8 HW8 HG8 HR8
  go_wp2_with fail
  refine (H11.out _).mono ?_
  rintro e w10 ⟨b10, d10, rfl, o10, g10⟩
  have HB10 : Hid (Below w.heap.size w w10) := HB9.out.trans (g10.mono HB9.out.size)
  have HW10 : Hid (OwnI w2.heap.size w3.heap.size b3 V w10) := HW9.out.below g10
  have HG10 : Hid (OwnI w4.heap.size w5.heap.size b5 (imarks V.length 1) w10) := HG9.out.below g10
  have HH10 : Hid (OwnI w9.heap.size w10.heap.size b10 V w10) := o10
  clear o10 g10 HB9 HW9 HG9
  go_wp2_with fail
  refine (eqIntS_same b10 b3 d10 d3 V _ hV HH10.out.is HW10.out.is).mono ?_
  rintro e w11 ⟨rfl, g11⟩
  have HB11 : Hid (Below w.heap.size w w11) := HB10.out.trans (g11.mono HB10.out.size)
  have HG11 : Hid (OwnI w4.heap.size w5.heap.size b5 (imarks V.length 1) w11) := HG10.out.below g11
  clear g11 HB10 HW10 HG10 HH10
  go_wp2_with fail
  refine (held_ownI _ _ b5 d5 V.length _ hV HG11.out).mono ?_
  rintro e w12 ⟨rfl, g12⟩
  have HB12 : Hid (Below w.heap.size w w12) := HB11.out.trans (g12.mono HB11.out.size)
  clear g12 HB11 HG11
  go_wp2
  go_ret
  exact ⟨rfl, HB12.out⟩
theorem walk_BlocksOf (r : Rc) (w : World) (hz : r.data.length ≤ 9223372036854775807) :
    Calls Try.prog 3 #[rval r] w fun e w' => e = .returned (.bool true) ∧ Below w.heap.size w w' := by
  obtain ⟨k, p, n, d⟩ := r
  have hz' : (str d).size ≤ 9223372036854775807 := by rw [str_size]; exact hz
  show Calls Try.prog 3 #[.agg #[.int .i64 k, .int .i64 p, .int .i64 n, .string (str d)]] w _
  generalize str d = D at *
  cases h : goodR ⟨k, p, n, D.data.toList⟩
  · refine law_BlocksOf k p n D [] false w hz' (by decide) (fun v => (sblocks_no k p n D v h).mono ?_) (fun v => (iblocks_no k p n D v h).mono ?_)
    all_goals
      rintro e w' ⟨rfl, hb⟩
      exact ⟨none, 0, rfl, Or.inl rfl, hb⟩
  · have hc := good_cases h
    simp only at hc
    obtain ⟨m, rfl⟩ : ∃ m : Nat, n = m := ⟨n.toNat, by omega⟩
    have hl := blocksL_len p m
    refine law_BlocksOf k p m D (blocksL p m) true w hz' (by omega) (fun v => (sblocks_yes k p m D v (by omega) (by omega) (by omega) h).mono ?_) (fun v => (iblocks_yes k p m D v (by omega) (by omega) (by omega) h).mono ?_)
    all_goals
      rintro e w' ⟨x, rfl, hown, hb⟩
      obtain ⟨b, c, rfl, ho⟩ := own_ints hown
      exact ⟨b, c, rfl, ho, hb⟩
end Go.Proofs.Ytbbnbkofomaefab
