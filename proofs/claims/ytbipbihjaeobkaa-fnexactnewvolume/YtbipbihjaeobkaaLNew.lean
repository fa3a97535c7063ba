/- The exact law of NewVolume: its walk. -/
import Derived.Test.YtbipbihjaeobkaaVMark
namespace Go.Proofs.Ytbipbihjaeobkaa
set_option maxRecDepth 100000
open Go.ChangeShapes Go.WideShapes Go.ChangeAt Go.RowKit G00541
theorem blank_len : blankT.length = 16 := List.length_replicate
theorem eq_new (b b' : Option Addr) (c c' : Nat) (w : World) (h : Ss w.heap.size b blankT w) (h' : Ss w.heap.size b' blankT w) : Calls Try.prog 11 #[.agg #[.slice b 16 c, .int .i64 0, .slice none 0 0, .int .i64 0], .agg #[.slice b' 16 c', .int .i64 0, .slice none 0 0, .int .i64 0]] w fun e w' => e = .returned (.bool true) ∧ Below w.heap.size w w' := by
  have := eqVolume_same b none b' none c 0 c' 0 blankT 0 [] 0 w ⟨by decide, by decide⟩ h ⟨fun h0 => absurd h0 (by simp)⟩ h' ⟨fun h0 => absurd h0 (by simp)⟩
  rw [blank_len] at this
  exact this
theorem mark_new (lo hi : Nat) (b : Option Addr) (c : Nat) (w : World) (hi' : hi ≤ w.heap.size) (h : OwnV lo hi b blankT none [] w) : Calls Try.prog 12 #[.agg #[.slice b 16 c, .int .i64 0, .slice none 0 0, .int .i64 0], .int .i64 1] w fun e w' => e = .returned (.int .i64 17) ∧ OwnV lo hi b (smarks 16 1) none [] w' ∧ Out lo hi w w' := by
  have := markVolume_any lo hi b none c 0 blankT 0 [] 0 w ⟨by decide, by decide⟩ hi' h
  rw [blank_len] at this
  exact this
theorem held_new (lo hi : Nat) (b : Option Addr) (c : Nat) (w : World) (h : OwnV lo hi b (smarks 16 1) none [] w) : Calls Try.prog 13 #[.agg #[.slice b 16 c, .int .i64 0, .slice none 0 0, .int .i64 0], .int .i64 1] w fun e w' => e = .returned (.int .i64 17) ∧ Below w.heap.size w w' :=
  heldVolume_any lo hi b none c 0 16 0 0 0 w (by decide) (by decide) h
set_option maxHeartbeats 8000000 in
theorem walk_NewVolume (w : World) : Calls Try.prog 3 #[] w fun e w' => e = .returned (.bool true) ∧ Below w.heap.size w w' := by
  go_enter Try.func3, Try.ntmps3
  go_wp2_with fail
  refine (snew_any _).mono ?_
  rintro e w1 ⟨bw, cw, rfl, o1, g1⟩
  have HW1 := hid (o1.below (boxB w1 (.cells #[.slice bw 16 cw, .int .i64 0, .slice none 0 0, .int .i64 0] 25)))
  have B1 : Hid (Below w.heap.size w (w1.alloc (.cells #[.slice bw 16 cw, .int .i64 0, .slice none 0 0, .int .i64 0] 25))) := g1.trans ((boxB _ _).mono g1.size)
  have K1 : Hid ((w1.alloc (.cells #[.slice bw 16 cw, .int .i64 0, .slice none 0 0, .int .i64 0] 25)).heap[w1.heap.size]? = some (.cells #[.slice bw 16 cw, .int .i64 0, .slice none 0 0, .int .i64 0] 25)) := heap_last _ _
  have hz1 : (w1.alloc (.cells #[.slice bw 16 cw, .int .i64 0, .slice none 0 0, .int .i64 0] 25)).heap.size = w1.heap.size + 1 := heap_size _ _
  have s1 := g1.size
  clear o1 g1
  go_wp2_with fail
  generalize w1.alloc (.cells #[.slice bw 16 cw, .int .i64 0, .slice none 0 0, .int .i64 0] 25) = w2 at *
  refine (inew_any _).mono ?_
  rintro e w3 ⟨bg, cg, rfl, o3, g3⟩
  have s3 := g3.size
  have HW4 := hid ((HW1.out.below g3).below (boxB w3 (.cells #[.slice bg 16 cg, .int .i64 0, .slice none 0 0, .int .i64 0] 25)))
  have HG4 := hid (o3.below (boxB w3 (.cells #[.slice bg 16 cg, .int .i64 0, .slice none 0 0, .int .i64 0] 25)))
  have B3 : Hid (Below w.heap.size w w3) := B1.out.trans (g3.mono B1.out.size)
  have B4 : Hid (Below w.heap.size w (w3.alloc (.cells #[.slice bg 16 cg, .int .i64 0, .slice none 0 0, .int .i64 0] 25))) := B3.out.trans ((boxB _ _).mono B3.out.size)
  have K4 : Hid ((w3.alloc (.cells #[.slice bg 16 cg, .int .i64 0, .slice none 0 0, .int .i64 0] 25)).heap[w1.heap.size]? = some (.cells #[.slice bw 16 cw, .int .i64 0, .slice none 0 0, .int .i64 0] 25)) := ((boxB w3 (.cells #[.slice bg 16 cg, .int .i64 0, .slice none 0 0, .int .i64 0] 25)).block _ (by omega)).trans ((g3.block _ (by omega)).trans K1.out)
  have L4 : Hid ((w3.alloc (.cells #[.slice bg 16 cg, .int .i64 0, .slice none 0 0, .int .i64 0] 25)).heap[w3.heap.size]? = some (.cells #[.slice bg 16 cg, .int .i64 0, .slice none 0 0, .int .i64 0] 25)) := heap_last _ _
  have hz4 : (w3.alloc (.cells #[.slice bg 16 cg, .int .i64 0, .slice none 0 0, .int .i64 0] 25)).heap.size = w3.heap.size + 1 := heap_size _ _
  have x0 : (w3.alloc (.cells #[.slice bg 16 cg, .int .i64 0, .slice none 0 0, .int .i64 0] 25)).cell? ⟨w1.heap.size, 0, none⟩ = some (.slice bw 16 cw) := box_cell K4.out 0
  have x1 : (w3.alloc (.cells #[.slice bg 16 cg, .int .i64 0, .slice none 0 0, .int .i64 0] 25)).cell? ⟨w1.heap.size, 1, none⟩ = some (.int .i64 0) := box_cell K4.out 1
  have x2 : (w3.alloc (.cells #[.slice bg 16 cg, .int .i64 0, .slice none 0 0, .int .i64 0] 25)).cell? ⟨w1.heap.size, 2, none⟩ = some (.slice none 0 0) := box_cell K4.out 2
  have x3 : (w3.alloc (.cells #[.slice bg 16 cg, .int .i64 0, .slice none 0 0, .int .i64 0] 25)).cell? ⟨w1.heap.size, 3, none⟩ = some (.int .i64 0) := box_cell K4.out 3
  have y0 : (w3.alloc (.cells #[.slice bg 16 cg, .int .i64 0, .slice none 0 0, .int .i64 0] 25)).cell? ⟨w3.heap.size, 0, none⟩ = some (.slice bg 16 cg) := box_cell L4.out 0
  clear o3 g3 HW1 B1 K1 B3
  go_wp2_with fail
  generalize w3.alloc (.cells #[.slice bg 16 cg, .int .i64 0, .slice none 0 0, .int .i64 0] 25) = w4 at *
  refine (eq_new bg bw cg cw w4 HG4.out.read.1 HW4.out.read.1).mono ?_
  rintro e w5 ⟨rfl, g5⟩
  have s5 := g5.size
  have HW5 : Hid (OwnV w.heap.size w1.heap.size bw blankT none [] w5) := HW4.out.below g5
  have HG5 : Hid (OwnV w2.heap.size w3.heap.size bg blankT none [] w5) := HG4.out.below g5
  have B5 : Hid (Below w.heap.size w w5) := B4.out.trans (g5.mono B4.out.size)
  have K5 : Hid (w5.heap[w1.heap.size]? = some (.cells #[.slice bw 16 cw, .int .i64 0, .slice none 0 0, .int .i64 0] 25)) := (g5.block _ (by omega)).trans K4.out
  have L5 : Hid (w5.heap[w3.heap.size]? = some (.cells #[.slice bg 16 cg, .int .i64 0, .slice none 0 0, .int .i64 0] 25)) := (g5.block _ (by omega)).trans L4.out
  clear g5 HW4 HG4 B4 K4 L4 x0 x1 x2 x3 y0
  have y0 : w5.cell? ⟨w3.heap.size, 0, none⟩ = some (.slice bg 16 cg) := box_cell L5.out 0
  have y1 : w5.cell? ⟨w3.heap.size, 1, none⟩ = some (.int .i64 0) := box_cell L5.out 1
  have y2 : w5.cell? ⟨w3.heap.size, 2, none⟩ = some (.slice none 0 0) := box_cell L5.out 2
  have y3 : w5.cell? ⟨w3.heap.size, 3, none⟩ = some (.int .i64 0) := box_cell L5.out 3
  go_wp2_with fail
  refine (mark_new w2.heap.size w3.heap.size bg cg w5 (by omega) HG5.out).mono ?_
  rintro e w6 ⟨rfl, o6, t6⟩
  have s6 := t6.size
  have HG6 := hid o6
  have HW6 : Hid (OwnV w.heap.size w1.heap.size bw blankT none [] w6) := HW5.out.out t6 (by omega)
  have B6 : Hid (Below w.heap.size w w6) := B5.out.trans (t6.below (by omega) B5.out.size)
  have K6 : Hid (w6.heap[w1.heap.size]? = some (.cells #[.slice bw 16 cw, .int .i64 0, .slice none 0 0, .int .i64 0] 25)) := (t6.block _ (by omega) (by omega)).trans K5.out
  have L6 : Hid (w6.heap[w3.heap.size]? = some (.cells #[.slice bg 16 cg, .int .i64 0, .slice none 0 0, .int .i64 0] 25)) := (t6.block _ (by omega) (by omega)).trans L5.out
  clear o6 t6 HW5 HG5 B5 K5 L5 y0 y1 y2 y3
  have y0 : w6.cell? ⟨w3.heap.size, 0, none⟩ = some (.slice bg 16 cg) := box_cell L6.out 0
  have y1 : w6.cell? ⟨w3.heap.size, 1, none⟩ = some (.int .i64 0) := box_cell L6.out 1
  have y2 : w6.cell? ⟨w3.heap.size, 2, none⟩ = some (.slice none 0 0) := box_cell L6.out 2
  have y3 : w6.cell? ⟨w3.heap.size, 3, none⟩ = some (.int .i64 0) := box_cell L6.out 3
  go_wp2_with fail
  refine (held_new w2.heap.size w3.heap.size bg cg w6 HG6.out).mono ?_
  rintro e w7 ⟨rfl, g7⟩
  have s7 := g7.size
  have HG7 := hid (HG6.out.below g7)
  have HW7 := hid (HW6.out.below g7)
  have B7 : Hid (Below w.heap.size w w7) := B6.out.trans (g7.mono B6.out.size)
  have K7 : Hid (w7.heap[w1.heap.size]? = some (.cells #[.slice bw 16 cw, .int .i64 0, .slice none 0 0, .int .i64 0] 25)) := (g7.block _ (by omega)).trans K6.out
  have L7 : Hid (w7.heap[w3.heap.size]? = some (.cells #[.slice bg 16 cg, .int .i64 0, .slice none 0 0, .int .i64 0] 25)) := (g7.block _ (by omega)).trans L6.out
  clear g7 HW6 HG6 B6 K6 L6 y0 y1 y2 y3
  go_wp2_with fail
  refine (inew_any _).mono ?_
  rintro e w8 ⟨bh, ch, rfl, o8, g8⟩
  have s8 := g8.size
  have b9 := boxB w8 (.cells #[.slice bh 16 ch, .int .i64 0, .slice none 0 0, .int .i64 0] 25)
  have HH9 := hid (o8.below b9)
  have HW9 := hid ((HW7.out.below g8).below b9)
  have HG9 := hid ((HG7.out.below g8).below b9)
  have B8 : Hid (Below w.heap.size w w8) := B7.out.trans (g8.mono B7.out.size)
  have B9 : Hid (Below w.heap.size w (w8.alloc (.cells #[.slice bh 16 ch, .int .i64 0, .slice none 0 0, .int .i64 0] 25))) := B8.out.trans (b9.mono B8.out.size)
  have K9 : Hid ((w8.alloc (.cells #[.slice bh 16 ch, .int .i64 0, .slice none 0 0, .int .i64 0] 25)).heap[w1.heap.size]? = some (.cells #[.slice bw 16 cw, .int .i64 0, .slice none 0 0, .int .i64 0] 25)) := (b9.block _ (by omega)).trans ((g8.block _ (by omega)).trans K7.out)
  have L9 : Hid ((w8.alloc (.cells #[.slice bh 16 ch, .int .i64 0, .slice none 0 0, .int .i64 0] 25)).heap[w3.heap.size]? = some (.cells #[.slice bg 16 cg, .int .i64 0, .slice none 0 0, .int .i64 0] 25)) := (b9.block _ (by omega)).trans ((g8.block _ (by omega)).trans L7.out)
  have hz9 : (w8.alloc (.cells #[.slice bh 16 ch, .int .i64 0, .slice none 0 0, .int .i64 0] 25)).heap.size = w8.heap.size + 1 := heap_size _ _
  have x0 : (w8.alloc (.cells #[.slice bh 16 ch, .int .i64 0, .slice none 0 0, .int .i64 0] 25)).cell? ⟨w1.heap.size, 0, none⟩ = some (.slice bw 16 cw) := box_cell K9.out 0
  have x1 : (w8.alloc (.cells #[.slice bh 16 ch, .int .i64 0, .slice none 0 0, .int .i64 0] 25)).cell? ⟨w1.heap.size, 1, none⟩ = some (.int .i64 0) := box_cell K9.out 1
  have x2 : (w8.alloc (.cells #[.slice bh 16 ch, .int .i64 0, .slice none 0 0, .int .i64 0] 25)).cell? ⟨w1.heap.size, 2, none⟩ = some (.slice none 0 0) := box_cell K9.out 2
  have x3 : (w8.alloc (.cells #[.slice bh 16 ch, .int .i64 0, .slice none 0 0, .int .i64 0] 25)).cell? ⟨w1.heap.size, 3, none⟩ = some (.int .i64 0) := box_cell K9.out 3
  clear o8 g8 b9 HW7 HG7 B7 K7 L7 B8
  go_wp2_with fail
  generalize w8.alloc (.cells #[.slice bh 16 ch, .int .i64 0, .slice none 0 0, .int .i64 0] 25) = w9 at *
  refine (eq_new bh bw ch cw w9 HH9.out.read.1 HW9.out.read.1).mono ?_
  rintro e w10 ⟨rfl, g10⟩
  have s10 := g10.size
  have HG10 := hid (HG9.out.below g10)
  have B10 : Hid (Below w.heap.size w w10) := B9.out.trans (g10.mono B9.out.size)
  have L10 : Hid (w10.heap[w3.heap.size]? = some (.cells #[.slice bg 16 cg, .int .i64 0, .slice none 0 0, .int .i64 0] 25)) := (g10.block _ (by omega)).trans L9.out
  clear g10 HW9 HG9 HH9 B9 K9 L9 x0 x1 x2 x3
  have y0 : w10.cell? ⟨w3.heap.size, 0, none⟩ = some (.slice bg 16 cg) := box_cell L10.out 0
  have y1 : w10.cell? ⟨w3.heap.size, 1, none⟩ = some (.int .i64 0) := box_cell L10.out 1
  have y2 : w10.cell? ⟨w3.heap.size, 2, none⟩ = some (.slice none 0 0) := box_cell L10.out 2
  have y3 : w10.cell? ⟨w3.heap.size, 3, none⟩ = some (.int .i64 0) := box_cell L10.out 3
  go_wp2_with fail
  refine (held_new w2.heap.size w3.heap.size bg cg w10 HG10.out).mono ?_
  rintro e w11 ⟨rfl, g11⟩
  have B11 : Hid (Below w.heap.size w w11) := B10.out.trans (g11.mono B10.out.size)
  clear g11 HG10 B10 L10
  go_wp2
  go_ret
  exact ⟨rfl, B11.out⟩
end Go.Proofs.Ytbipbihjaeobkaa
