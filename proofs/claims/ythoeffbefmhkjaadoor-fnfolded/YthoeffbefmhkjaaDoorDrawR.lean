/- Walks of the cursor's record. -/
import Derived.Test.YthoeffbefmhkjaaDoorCurR
import Derived.Test.YthoeffbefmhkjaaDoorR
import Derived.Test.YthoeffbefmhkjaaDoorTwo
import Derived.Laws.BytesArg
import Derived.Deep.RegionHeld
namespace Go.Proofs.YthoeffbefmhkjaaDoor
set_option maxRecDepth 100000
open Go.ChangeShapes Go.WideShapes Go.ChangeAt Go.RowKit G00541
/-- while a record is drawn: the cursor at B; the answer's place at X, all zero; the record at Y -/
structure Dr (w : World) (B N X Y len cap : Nat) (a : Option Addr) (k p n : Int) (D : ByteArray) (v : World) : Prop where
  cur : Cur B N (.slice a len cap) v
  code : Code B len cap a v
  z0 : v.cell? ⟨X, 0, none⟩ = some (.int .i64 0)
  z1 : v.cell? ⟨X, 1, none⟩ = some (.int .i64 0)
  z2 : v.cell? ⟨X, 2, none⟩ = some (.int .i64 0)
  z3 : v.cell? ⟨X, 3, none⟩ = some (.string ⟨#[]⟩)
  f0 : v.frozen? ⟨X, 0, none⟩ = false
  f1 : v.frozen? ⟨X, 1, none⟩ = false
  f2 : v.frozen? ⟨X, 2, none⟩ = false
  f3 : v.frozen? ⟨X, 3, none⟩ = false
  c0 : v.cell? ⟨Y, 0, none⟩ = some (.int .i64 k)
  c1 : v.cell? ⟨Y, 1, none⟩ = some (.int .i64 p)
  c2 : v.cell? ⟨Y, 2, none⟩ = some (.int .i64 n)
  c3 : v.cell? ⟨Y, 3, none⟩ = some (.string D)
  g0 : v.frozen? ⟨Y, 0, none⟩ = false
  g1 : v.frozen? ⟨Y, 1, none⟩ = false
  g2 : v.frozen? ⟨Y, 2, none⟩ = false
  g3 : v.frozen? ⟨Y, 3, none⟩ = false
  but : But B w v
  bx : w.heap.size ≤ X
  bY : w.heap.size ≤ Y
  ne : X ≠ Y
  bB : B < w.heap.size
  lx : X < v.heap.size
  ly : Y < v.heap.size
section
variable {w : World} {B N X Y len cap : Nat} {a : Option Addr} {k p n : Int} {D : ByteArray} {v : World}
theorem Dr.step {v' : World} {N' : Nat} (h : Dr w B N X Y len cap a k p n D v) (hC : Cur B N' (.slice a len cap) v') (g : But B v v') : Dr w B N' X Y len cap a k p n D v' := by
  have hX : X ≠ B := by have := h.bx; have := h.bB; omega
  have hY : Y ≠ B := by have := h.bY; have := h.bB; omega
  have x := fun i => g.cell X i h.lx hX
  have y := fun i => g.cell Y i h.ly hY
  have fx := fun i => g.frozen X i h.lx hX
  have fy := fun i => g.frozen Y i h.ly hY
  exact ⟨hC, h.code.but g (Nat.le_refl _) (by have := h.bx; have := h.bB; have := h.lx; omega), (x 0).trans h.z0, (x 1).trans h.z1, (x 2).trans h.z2, (x 3).trans h.z3, (fx 0).trans h.f0, (fx 1).trans h.f1, (fx 2).trans h.f2, (fx 3).trans h.f3,
    (y 0).trans h.c0, (y 1).trans h.c1, (y 2).trans h.c2, (y 3).trans h.c3, (fy 0).trans h.g0, (fy 1).trans h.g1, (fy 2).trans h.g2, (fy 3).trans h.g3, h.but.trans g, h.bx, h.bY, h.ne, h.bB, Nat.lt_of_lt_of_le h.lx g.size, Nat.lt_of_lt_of_le h.ly g.size⟩
theorem Dr.alloc (h : Dr w B N X Y len cap a k p n D v) (o : Obj) : Dr w B N X Y len cap a k p n D (v.alloc o) := h.step (h.cur.alloc o) ((But.refl B v).alloc o)
theorem Dr.drew (h : Dr w B N X Y len cap a k p n D v) : Dr w B N X Y len cap a k p n D v.drew := h.step h.cur.drew (But.refl B v).drew
theorem Dr.setY (h : Dr w B N X Y len cap a k p n D v) (i : Nat) (u : Value) {k' p' n' : Int} {D' : ByteArray}
    (h0 : (v.setCell ⟨Y, i, none⟩ u).cell? ⟨Y, 0, none⟩ = some (.int .i64 k')) (h1 : (v.setCell ⟨Y, i, none⟩ u).cell? ⟨Y, 1, none⟩ = some (.int .i64 p')) (h2 : (v.setCell ⟨Y, i, none⟩ u).cell? ⟨Y, 2, none⟩ = some (.int .i64 n')) (h3 : (v.setCell ⟨Y, i, none⟩ u).cell? ⟨Y, 3, none⟩ = some (.string D')) :
    Dr w B N X Y len cap a k' p' n' D' (v.setCell ⟨Y, i, none⟩ u) := by
  have g : But Y v (v.setCell ⟨Y, i, none⟩ u) := (But.refl Y v).setCell i u
  have hY : Y ≠ B := by have := h.bY; have := h.bB; omega
  have x := fun j => g.cell X j h.lx h.ne
  have fx := fun j => g.frozen X j h.lx h.ne
  have fy : ∀ j, (v.setCell ⟨Y, i, none⟩ u).frozen? ⟨Y, j, none⟩ = v.frozen? ⟨Y, j, none⟩ := fun j => World.frozen?_setCell ..
  exact ⟨h.cur.setOther hY i u, h.code.but g (by have := h.bY; have := h.bB; omega) (by have := h.bx; have := h.bB; have := h.lx; omega), (x 0).trans h.z0, (x 1).trans h.z1, (x 2).trans h.z2, (x 3).trans h.z3, (fx 0).trans h.f0, (fx 1).trans h.f1, (fx 2).trans h.f2, (fx 3).trans h.f3,
    h0, h1, h2, h3, (fy 0).trans h.g0, (fy 1).trans h.g1, (fy 2).trans h.g2, (fy 3).trans h.g3, h.but.setNew h.bY i u, h.bx, h.bY, h.ne, h.bB, Nat.lt_of_lt_of_le h.lx g.size, Nat.lt_of_lt_of_le h.ly g.size⟩
theorem ne_off {Y i j : Nat} (h : i ≠ j) : (⟨Y, i, none⟩ : Addr) ≠ ⟨Y, j, none⟩ := fun e => h (congrArg Addr.off e)
theorem Dr.setK (h : Dr w B N X Y len cap a k p n D v) (k' : Int) : Dr w B N X Y len cap a k' p n D (v.setCell ⟨Y, 0, none⟩ (.int .i64 k')) :=
  h.setY 0 _ (World.cell?_setCell_same _ _ _ h.c0) ((World.cell?_setCell_other _ _ _ _ (ne_off (by decide))).trans h.c1) ((World.cell?_setCell_other _ _ _ _ (ne_off (by decide))).trans h.c2) ((World.cell?_setCell_other _ _ _ _ (ne_off (by decide))).trans h.c3)
theorem Dr.setP (h : Dr w B N X Y len cap a k p n D v) (p' : Int) : Dr w B N X Y len cap a k p' n D (v.setCell ⟨Y, 1, none⟩ (.int .i64 p')) :=
  h.setY 1 _ ((World.cell?_setCell_other _ _ _ _ (ne_off (by decide))).trans h.c0) (World.cell?_setCell_same _ _ _ h.c1) ((World.cell?_setCell_other _ _ _ _ (ne_off (by decide))).trans h.c2) ((World.cell?_setCell_other _ _ _ _ (ne_off (by decide))).trans h.c3)
theorem Dr.setN (h : Dr w B N X Y len cap a k p n D v) (n' : Int) : Dr w B N X Y len cap a k p n' D (v.setCell ⟨Y, 2, none⟩ (.int .i64 n')) :=
  h.setY 2 _ ((World.cell?_setCell_other _ _ _ _ (ne_off (by decide))).trans h.c0) ((World.cell?_setCell_other _ _ _ _ (ne_off (by decide))).trans h.c1) (World.cell?_setCell_same _ _ _ h.c2) ((World.cell?_setCell_other _ _ _ _ (ne_off (by decide))).trans h.c3)
theorem Dr.setD (h : Dr w B N X Y len cap a k p n D v) (D' : ByteArray) : Dr w B N X Y len cap a k p n D' (v.setCell ⟨Y, 3, none⟩ (.string D')) :=
  h.setY 3 _ ((World.cell?_setCell_other _ _ _ _ (ne_off (by decide))).trans h.c0) ((World.cell?_setCell_other _ _ _ _ (ne_off (by decide))).trans h.c1) ((World.cell?_setCell_other _ _ _ _ (ne_off (by decide))).trans h.c2) (World.cell?_setCell_same _ _ _ h.c3)
theorem Dr.cast {N' : Nat} (e : N = N') (h : Dr w B N X Y len cap a k p n D v) : Dr w B N' X Y len cap a k p n D v := e ▸ h
/-- the answer is laid into its place -/
theorem Dr.fin (h : Dr w B N X Y len cap a k p n D v) {u0 u1 u2 u3 : Value} :
    Cur B N (.slice a len cap) ((((v.setCell ⟨X, 0, none⟩ u0).setCell ⟨X, 1, none⟩ u1).setCell ⟨X, 2, none⟩ u2).setCell ⟨X, 3, none⟩ u3) ∧ But B w ((((v.setCell ⟨X, 0, none⟩ u0).setCell ⟨X, 1, none⟩ u1).setCell ⟨X, 2, none⟩ u2).setCell ⟨X, 3, none⟩ u3) := by
  have hX : X ≠ B := by have := h.bx; have := h.bB; omega
  exact ⟨(((h.cur.setOther hX _ _).setOther hX _ _).setOther hX _ _).setOther hX _ _, (((h.but.setNew h.bx _ _).setNew h.bx _ _).setNew h.bx _ _).setNew h.bx _ _⟩
end
theorem bytes_two (w : World) (x y : Int) : Sem.run Tryd.prog (convert 22 9 (.slice (some ⟨w.heap.size, 0, none⟩) 2 2)) (w.alloc (.cells #[.int .u8 x, .int .u8 y] 5)) =
    .ok (.string (strOfNums [x, y])) (w.alloc (.cells #[.int .u8 x, .int .u8 y] 5)) :=
  run_convert_bytes_arg (w.alloc (.cells #[.int .u8 x, .int .u8 y] 5)) 22 5 Tryd.underlying22 Tryd.underlying5 w.heap.size 0 2 2 [x, y] rfl (fun i hi => by
    rcases (by omega : i = 0 ∨ i = 1) with rfl | rfl
    · go_simp
    · go_simp) 9 Tryd.underlying9
theorem size_two (x y : Int) : (strOfNums [x, y]).size = 2 := strOfNums_size _
theorem rv_eq (k p n : Int) (D : ByteArray) : Value.agg #[.int .i64 k, .int .i64 p, .int .i64 n, .string D] = rval ⟨k, p, n, D.data.toList⟩ := by unfold rval; rw [str_back]
theorem len_le {D : ByteArray} (h : D.size ≤ 8) : D.data.toList.length ≤ 9 := by rw [bytes_size]; omega
theorem len_le1 {D : ByteArray} (h : D.size ≤ 8) : (D ++ ⟨#[120]⟩ : ByteArray).data.toList.length ≤ 9 := by
  rw [bytes_size, ByteArray.size_append]
  show D.size + 1 ≤ 9
  omega
set_option maxHeartbeats 4000000 in
theorem record_any (B N len cap : Nat) (a : Option Addr) (w : World) (hN : N ≤ 900000) (hC : Cur B N (.slice a len cap) w) (hK : Code B len cap a w) :
    Calls Tryd.prog 51 #[.pointer (some ⟨B, 0, none⟩)] w fun e w' => ∃ r : Rc, e = .returned (rval r) ∧ r.data.length ≤ 9 ∧ Cur B (N + 40) (.slice a len cap) w' ∧ But B w w' := by
  have hlt := hC.lt
  have HC : Hid (∀ o1 o2, Cur B N (.slice a len cap) ((w.alloc o1).alloc o2)) := fun o1 o2 => (hC.alloc o1).alloc o2
  have HK : Hid (∀ o1 o2, Code B len cap a ((w.alloc o1).alloc o2)) := fun o1 o2 => hK.but (((But.refl B w).alloc o1).alloc o2) (Nat.le_refl _) (Nat.le_of_lt hC.lt)
  clear hC hK
  go_enter Tryd.func51, Tryd.ntmps51
  go_wp2_with fail
  refine (among_any [1, 1, 1, 2, 3] 5 (w.heap.size + 1) B N len cap 5 a _ rfl (by decide) (by decide) (by simp) (by omega) (fun i hi => by have := lits_at [1, 1, 1, 2, 3] (w.alloc (.cells #[.int .i64 0, .int .i64 0, .int .i64 0, .string ⟨#[]⟩] 36)) i hi; rw [heap_size] at this; exact this) (by omega) (HC.out _ _) (HK.out _ _)).mono ?_
  rintro e w1 ⟨i, hi, rfl, hC1, hB1⟩
  generalize ([1, 1, 1, 2, 3] : List Int).getD i 0 = rk at *
  have hs1 := hB1.size
  rw [heap_size, heap_size] at hs1
  have HC1 : Hid (Cur B (N + 2) (.slice a len cap) w1) := hC1
  have HB1 : Hid (But B (w.alloc (.cells #[.int .i64 0, .int .i64 0, .int .i64 0, .string ⟨#[]⟩] 36)) w1) := ((But.refl B _).alloc _).trans hB1
  have HK1 : Hid (Code B len cap a w1) := (HK.out _ _).but hB1 (Nat.le_refl _) (by rw [heap_size, heap_size]; omega)
  clear hC1 hB1 HC HK hi
  go_wp2_with fail
  refine (pick_any _ B _ len cap a _ (by omega) (by omega) (by omega) HC1.out HK1.out).mono ?_
  rintro e w2 ⟨rp, rfl, p0, p1, hC2, hB2⟩
  have hs2 := hB2.size
  have HC2 : Hid (Cur B (N + 2 + 2) (.slice a len cap) w2) := hC2
  have HB2 : Hid (But B (w.alloc (.cells #[.int .i64 0, .int .i64 0, .int .i64 0, .string ⟨#[]⟩] 36)) w2) := HB1.out.trans hB2
  have HK2 : Hid (Code B len cap a w2) := HK1.out.but hB2 (Nat.le_refl _) (by omega)
  clear hC2 hB2 HC1 HB1 HK1
  go_wp2_with fail
  refine (pick_any _ B _ len cap a _ (by omega) (by omega) (by omega) HC2.out HK2.out).mono ?_
  rintro e w3 ⟨m, rfl, m0, m1, hC3, hB3⟩
  have hs3 := hB3.size
  obtain ⟨n, rfl⟩ : ∃ n : Nat, m = (n : Int) := ⟨m.toNat, by omega⟩
  have hn4 : n ≤ 3 := by omega
  have HDA : Hid (∀ k' n' : Int, Dr w B (N + 2 + 2 + 2) w.heap.size w3.heap.size len cap a k' rp n' ⟨#[]⟩ (w3.alloc (.cells #[.int .i64 k', .int .i64 rp, .int .i64 n', .string ⟨#[]⟩] 36))) := by
    intro k' n'
    have hb := HB2.out.trans hB3
    have x := fun i => hb.cell w.heap.size i (by simp) (by omega)
    have fx := fun i => hb.frozen w.heap.size i (by simp) (by omega)
    have bb : But B w w3 := ((But.refl B w).alloc _).trans hb
    have go : ∀ j, (w3.alloc (.cells #[.int .i64 k', .int .i64 rp, .int .i64 n', .string ⟨#[]⟩] 36)).cell? ⟨w.heap.size, j, none⟩ = w3.cell? ⟨w.heap.size, j, none⟩ := fun j => World.cell?_alloc_lt _ _ _ (by show w.heap.size < w3.heap.size; omega)
    have gf : ∀ j, (w3.alloc (.cells #[.int .i64 k', .int .i64 rp, .int .i64 n', .string ⟨#[]⟩] 36)).frozen? ⟨w.heap.size, j, none⟩ = w3.frozen? ⟨w.heap.size, j, none⟩ := fun j => ((But.refl B w3).alloc _).frozen _ _ (by omega) (by omega)
    refine ⟨hC3.alloc _, (HK2.out.but hB3 (Nat.le_refl _) (by omega)).but ((But.refl B _).alloc _) (Nat.le_refl _) (by omega), ((go 0).trans (x 0)).trans (by go_simp), ((go 1).trans (x 1)).trans (by go_simp), ((go 2).trans (x 2)).trans (by go_simp), ((go 3).trans (x 3)).trans (by go_simp), ((gf 0).trans (fx 0)).trans (by go_simp), ((gf 1).trans (fx 1)).trans (by go_simp), ((gf 2).trans (fx 2)).trans (by go_simp), ((gf 3).trans (fx 3)).trans (by go_simp), by go_simp, by go_simp, by go_simp, by go_simp, by go_simp, by go_simp, by go_simp, by go_simp, bb.alloc _, Nat.le_refl _, by omega, by omega, hlt, by rw [heap_size]; omega, by rw [heap_size]; omega⟩
  have HD0 : Hid (Dr w B (N + 2 + 2 + 2) w.heap.size w3.heap.size len cap a rk rp (1 + (n : Int)) ⟨#[]⟩ (w3.alloc (.cells #[.int .i64 rk, .int .i64 rp, .int .i64 (1 + (n : Int)), .string ⟨#[]⟩] 36))) := HDA.out rk _
  have HD3 : Hid (Dr w B (N + 2 + 2 + 2) w.heap.size w3.heap.size len cap a 3 rp 0 ⟨#[]⟩ (w3.alloc (.cells #[.int .i64 3, .int .i64 rp, .int .i64 0, .string ⟨#[]⟩] 36))) := HDA.out 3 0
  clear HDA
  clear hC3 hB3 HC2 HB2 HK2
  by_cases k1 : rk = 1
  · subst k1
    go_wp2_with fail
    go_loopw [4] (fun i wr => ∃ (j : Nat) (D : ByteArray), j ≤ 1 + n ∧ i = .int .i64 j ∧ D.size = 2 * j ∧ Dr w B (N + 6 + 4 * j) w.heap.size w3.heap.size len cap a 1 rp (1 + (n : Int)) D wr) (fun i _ => 1 + n - (intOf i).toNat)
    case atStart => exact ⟨0, ⟨#[]⟩, by omega, rfl, rfl, HD0.out⟩
    case round =>
      obtain ⟨j, D, hj, rfl, hDs, hd⟩ := hrel
      have HD : Hid (Dr w B (N + 6 + 4 * j) w.heap.size w3.heap.size len cap a 1 rp (1 + (n : Int)) D wr) := hd
      obtain ⟨_, _, _, _, _, _, _, _, _, _, c0, c1, c2, c3, g0, g1, g2, g3, _, _, _, _, _, _, hly⟩ := hd
      have hDs' : D.size ≤ 8 := by omega
      have HDS : Hid (D.size = 2 * j) := hDs
      clear hDs
      by_cases hlt2 : j < 1 + n
      · have hdl : decide ((j : Int) < 1 + (n : Int)) = true := by simp; omega
        have hcv := bytes_two
        have hsz := size_two
        go_wp2_with fail
        go_region_with (first
          | (go_at_call 38
             refine (pick_any _ B _ len cap a _ (by omega) (by omega) (by omega) HD8.out.cur HD8.out.code).mono ?_
             rintro e w9 ⟨v9, rfl, va9, vb9, hC9, hB9⟩
             have HD9 : Hid (Dr w B (N + 6 + 4 * j + 2 + 2) w.heap.size w3.heap.size len cap a 1 rp (1 + (n : Int)) D w9) := HD8.out.step hC9 hB9
             have x9 := HD9.out.c3
             have y9 := HD9.out.g3
             have l9 := HD9.out.ly
             clear hC9 hB9)
          | (go_at_call 38
             refine (pick_any _ B _ len cap a _ (by omega) (by omega) (by omega) HD.out.drew.cur HD.out.drew.code).mono ?_
             rintro e w8 ⟨v8, rfl, va8, vb8, hC8, hB8⟩
             have HD8 : Hid (Dr w B (N + 6 + 4 * j + 2) w.heap.size w3.heap.size len cap a 1 rp (1 + (n : Int)) D w8) := HD.out.drew.step hC8 hB8
             have x8 := HD8.out.c3
             have y8 := HD8.out.g3
             clear hC8 hB8))
        all_goals
          go_wp2_with fail
          go_roundw
          · refine ⟨j + 1, _, by omega, by go_num, ?_, Dr.cast (N := N + 6 + 4 * j + 2 + 2) (by omega) (by first | exact (HD9.out.alloc _).setD _ | exact (HD9.out.setD _).alloc _)⟩
            rw [ByteArray.size_append, size_two, HDS.out]; omega
          · simp [intOf]; omega
      · have hdl : decide ((j : Int) < 1 + (n : Int)) = false := by simp; omega
        have hNj : N + 6 + 4 * j ≤ N + 22 := by omega
        clear c0 c1 c3 g0 g1 g2 g3
        go_wp2_with fail
        refine (pick_any _ B (N + 6 + 4 * j) len cap a _ (by omega) (by omega) (by omega) HD.out.cur HD.out.code).mono ?_
        rintro e w7 ⟨q, rfl, q0, q1, hC7, hB7⟩
        have HD7 : Hid (Dr w B ((N + 6 + 4 * j) + 2) w.heap.size w3.heap.size len cap a 1 rp (1 + (n : Int)) D w7) := HD.out.step hC7 hB7
        clear hC7 hB7 HD
        by_cases e0 : q = 0
        · subst e0
          go_wp2_with fail
          refine (among_any [-1, 15, 200, 201] 4 w7.heap.size B _ len cap 4 a _ rfl (by decide) (by decide) (by simp) (by have := HD7.out.lx; have := HD7.out.bx; have := HD7.out.bB; omega) (fun i hi => lits_at [-1, 15, 200, 201] w7 i hi) (by omega) (HD7.out.alloc _).cur (HD7.out.alloc _).code).mono ?_
          rintro e w8 ⟨i, hi, rfl, hC8, hB8⟩
          generalize ([-1, 15, 200, 201] : List Int).getD i 0 = m at *
          have HD8 : Hid (Dr w B ((N + 6 + 4 * j) + 2 + 2) w.heap.size w3.heap.size len cap a 1 rp (1 + (n : Int)) D w8) := (HD7.out.alloc _).step hC8 hB8
          clear hC8 hB8 HD7
          obtain ⟨_, _, z0, z1, z2, z3, f0, f1, f2, f3, c0, c1, c2, c3, g0, g1, g2, g3, _, hbx, hby, hne, hbB, hlx, hly⟩ := HD8.out
          have hne2 : w3.heap.size ≠ w.heap.size := fun h => hne h.symm
          go_wp2
          refine bodyPost_ret (v := .agg #[.int .i64 1, .int .i64 m, .int .i64 (1 + (n : Int)), .string D]) (by simp [results, Tryd.results51, go_sem, z0, z1, z2, z3]) rfl ⟨⟨1, m, (1 + (n : Int)), D.data.toList⟩, congrArg Ending.returned (rv_eq _ _ _ _), len_le hDs', (HD8.out.setP m).fin.1.mono (by omega), (HD8.out.setP m).fin.2⟩
        by_cases e1 : q = 1
        · subst e1
          go_wp2_with fail
          refine (pick_any _ B _ len cap a _ (by omega) (by omega) (by omega) HD7.out.cur HD7.out.code).mono ?_
          rintro e w8 ⟨m, rfl, m0, m1, hC8, hB8⟩
          have HD8 : Hid (Dr w B ((N + 6 + 4 * j) + 2 + 2) w.heap.size w3.heap.size len cap a 1 rp (1 + (n : Int)) D w8) := HD7.out.step hC8 hB8
          clear hC8 hB8 HD7
          obtain ⟨_, _, z0, z1, z2, z3, f0, f1, f2, f3, c0, c1, c2, c3, g0, g1, g2, g3, _, hbx, hby, hne, hbB, hlx, hly⟩ := HD8.out
          have hne2 : w3.heap.size ≠ w.heap.size := fun h => hne h.symm
          go_wp2
          refine bodyPost_ret (v := .agg #[.int .i64 m, .int .i64 rp, .int .i64 (1 + (n : Int)), .string D]) (by simp [results, Tryd.results51, go_sem, z0, z1, z2, z3]) rfl ⟨⟨m, rp, (1 + (n : Int)), D.data.toList⟩, congrArg Ending.returned (rv_eq _ _ _ _), len_le hDs', (HD8.out.setK m).fin.1.mono (by omega), (HD8.out.setK m).fin.2⟩
        have d0 : (q == 0) = false := by rw [beq_eq_false_iff_ne]; exact e0
        have d1 : (q == 1) = false := by rw [beq_eq_false_iff_ne]; exact e1
        obtain ⟨_, _, z0, z1, z2, z3, f0, f1, f2, f3, c0, c1, c2, c3, g0, g1, g2, g3, _, hbx, hby, hne, hbB, hlx, hly⟩ := HD7.out
        have hne2 : w3.heap.size ≠ w.heap.size := fun h => hne h.symm
        by_cases e2 : q = 2
        · subst e2
          have hxs : (⟨#[120]⟩ : ByteArray).size = 1 := rfl
          go_wp2
          refine bodyPost_ret (v := .agg #[.int .i64 1, .int .i64 rp, .int .i64 (1 + (n : Int)), .string (D ++ ⟨#[120]⟩)]) (by simp [results, Tryd.results51, go_sem, z0, z1, z2, z3]) rfl ⟨⟨1, rp, (1 + (n : Int)), (D ++ ⟨#[120]⟩ : ByteArray).data.toList⟩, congrArg Ending.returned (rv_eq _ _ _ _), len_le1 hDs', (HD7.out.setD _).fin.1.mono (by omega), (HD7.out.setD _).fin.2⟩
        · have d2 : (q == 2) = false := by rw [beq_eq_false_iff_ne]; exact e2
          go_wp2
          refine bodyPost_ret (v := .agg #[.int .i64 1, .int .i64 rp, .int .i64 (1 + (n : Int)), .string D]) (by simp [results, Tryd.results51, go_sem, z0, z1, z2, z3]) rfl ⟨⟨1, rp, (1 + (n : Int)), D.data.toList⟩, congrArg Ending.returned (rv_eq _ _ _ _), len_le hDs', HD7.out.fin.1.mono (by omega), HD7.out.fin.2⟩
  by_cases k3 : rk = 3
  · subst k3
    have HD : Hid (Dr w B (N + 2 + 2 + 2) w.heap.size w3.heap.size len cap a 3 rp 0 ⟨#[]⟩ (w3.alloc (.cells #[.int .i64 3, .int .i64 rp, .int .i64 0, .string ⟨#[]⟩] 36))) := HD3
    have hDs' : (⟨#[]⟩ : ByteArray).size ≤ 8 := by decide
    clear HD0 HD3
    go_wp2_with fail
    refine (pick_any _ B (N + 2 + 2 + 2) len cap a _ (by omega) (by omega) (by omega) HD.out.cur HD.out.code).mono ?_
    rintro e w7 ⟨q, rfl, q0, q1, hC7, hB7⟩
    have HD7 : Hid (Dr w B ((N + 2 + 2 + 2) + 2) w.heap.size w3.heap.size len cap a 3 rp 0 (⟨#[]⟩ : ByteArray) w7) := HD.out.step hC7 hB7
    clear hC7 hB7 HD
    by_cases e0 : q = 0
    · subst e0
      go_wp2_with fail
      refine (among_any [-1, 15, 200, 201] 4 w7.heap.size B _ len cap 4 a _ rfl (by decide) (by decide) (by simp) (by have := HD7.out.lx; have := HD7.out.bx; have := HD7.out.bB; omega) (fun i hi => lits_at [-1, 15, 200, 201] w7 i hi) (by omega) (HD7.out.alloc _).cur (HD7.out.alloc _).code).mono ?_
      rintro e w8 ⟨i, hi, rfl, hC8, hB8⟩
      generalize ([-1, 15, 200, 201] : List Int).getD i 0 = m at *
      have HD8 : Hid (Dr w B ((N + 2 + 2 + 2) + 2 + 2) w.heap.size w3.heap.size len cap a 3 rp 0 (⟨#[]⟩ : ByteArray) w8) := (HD7.out.alloc _).step hC8 hB8
      clear hC8 hB8 HD7
      obtain ⟨_, _, z0, z1, z2, z3, f0, f1, f2, f3, c0, c1, c2, c3, g0, g1, g2, g3, _, hbx, hby, hne, hbB, hlx, hly⟩ := HD8.out
      have hne2 : w3.heap.size ≠ w.heap.size := fun h => hne h.symm
      go_wp2
      refine bodyPost_ret (v := .agg #[.int .i64 3, .int .i64 m, .int .i64 0, .string (⟨#[]⟩ : ByteArray)]) (by simp [results, Tryd.results51, go_sem, z0, z1, z2, z3]) rfl ⟨⟨3, m, 0, (⟨#[]⟩ : ByteArray).data.toList⟩, congrArg Ending.returned (rv_eq _ _ _ _), len_le hDs', (HD8.out.setP m).fin.1.mono (by omega), (HD8.out.setP m).fin.2⟩
    by_cases e1 : q = 1
    · subst e1
      go_wp2_with fail
      refine (pick_any _ B _ len cap a _ (by omega) (by omega) (by omega) HD7.out.cur HD7.out.code).mono ?_
      rintro e w8 ⟨m, rfl, m0, m1, hC8, hB8⟩
      have HD8 : Hid (Dr w B ((N + 2 + 2 + 2) + 2 + 2) w.heap.size w3.heap.size len cap a 3 rp 0 (⟨#[]⟩ : ByteArray) w8) := HD7.out.step hC8 hB8
      clear hC8 hB8 HD7
      obtain ⟨_, _, z0, z1, z2, z3, f0, f1, f2, f3, c0, c1, c2, c3, g0, g1, g2, g3, _, hbx, hby, hne, hbB, hlx, hly⟩ := HD8.out
      have hne2 : w3.heap.size ≠ w.heap.size := fun h => hne h.symm
      go_wp2
      refine bodyPost_ret (v := .agg #[.int .i64 m, .int .i64 rp, .int .i64 0, .string (⟨#[]⟩ : ByteArray)]) (by simp [results, Tryd.results51, go_sem, z0, z1, z2, z3]) rfl ⟨⟨m, rp, 0, (⟨#[]⟩ : ByteArray).data.toList⟩, congrArg Ending.returned (rv_eq _ _ _ _), len_le hDs', (HD8.out.setK m).fin.1.mono (by omega), (HD8.out.setK m).fin.2⟩
    have d0 : (q == 0) = false := by rw [beq_eq_false_iff_ne]; exact e0
    have d1 : (q == 1) = false := by rw [beq_eq_false_iff_ne]; exact e1
    obtain ⟨_, _, z0, z1, z2, z3, f0, f1, f2, f3, c0, c1, c2, c3, g0, g1, g2, g3, _, hbx, hby, hne, hbB, hlx, hly⟩ := HD7.out
    have hne2 : w3.heap.size ≠ w.heap.size := fun h => hne h.symm
    by_cases e2 : q = 2
    · subst e2
      have hxs : (⟨#[120]⟩ : ByteArray).size = 1 := rfl
      go_wp2
      refine bodyPost_ret (v := .agg #[.int .i64 3, .int .i64 rp, .int .i64 0, .string ((⟨#[]⟩ : ByteArray) ++ ⟨#[120]⟩)]) (by simp [results, Tryd.results51, go_sem, z0, z1, z2, z3]) rfl ⟨⟨3, rp, 0, ((⟨#[]⟩ : ByteArray) ++ ⟨#[120]⟩ : ByteArray).data.toList⟩, congrArg Ending.returned (rv_eq _ _ _ _), len_le1 hDs', (HD7.out.setD _).fin.1.mono (by omega), (HD7.out.setD _).fin.2⟩
    · have d2 : (q == 2) = false := by rw [beq_eq_false_iff_ne]; exact e2
      go_wp2
      refine bodyPost_ret (v := .agg #[.int .i64 3, .int .i64 rp, .int .i64 0, .string (⟨#[]⟩ : ByteArray)]) (by simp [results, Tryd.results51, go_sem, z0, z1, z2, z3]) rfl ⟨⟨3, rp, 0, (⟨#[]⟩ : ByteArray).data.toList⟩, congrArg Ending.returned (rv_eq _ _ _ _), len_le hDs', HD7.out.fin.1.mono (by omega), HD7.out.fin.2⟩
  · have d1 : (rk == 1) = false := by rw [beq_eq_false_iff_ne]; exact k1
    have d3 : (rk == 3) = false := by rw [beq_eq_false_iff_ne]; exact k3
    have HD : Hid (Dr w B (N + 2 + 2 + 2) w.heap.size w3.heap.size len cap a rk rp (1 + (n : Int)) ⟨#[]⟩ (w3.alloc (.cells #[.int .i64 rk, .int .i64 rp, .int .i64 (1 + (n : Int)), .string ⟨#[]⟩] 36))) := HD0
    have hDs' : (⟨#[]⟩ : ByteArray).size ≤ 8 := by decide
    go_wp2_with fail
    refine (pick_any _ B (N + 2 + 2 + 2) len cap a _ (by omega) (by omega) (by omega) HD.out.cur HD.out.code).mono ?_
    rintro e w7 ⟨q, rfl, q0, q1, hC7, hB7⟩
    have HD7 : Hid (Dr w B ((N + 2 + 2 + 2) + 2) w.heap.size w3.heap.size len cap a rk rp (1 + (n : Int)) (⟨#[]⟩ : ByteArray) w7) := HD.out.step hC7 hB7
    clear hC7 hB7 HD
    by_cases e0 : q = 0
    · subst e0
      go_wp2_with fail
      refine (among_any [-1, 15, 200, 201] 4 w7.heap.size B _ len cap 4 a _ rfl (by decide) (by decide) (by simp) (by have := HD7.out.lx; have := HD7.out.bx; have := HD7.out.bB; omega) (fun i hi => lits_at [-1, 15, 200, 201] w7 i hi) (by omega) (HD7.out.alloc _).cur (HD7.out.alloc _).code).mono ?_
      rintro e w8 ⟨i, hi, rfl, hC8, hB8⟩
      generalize ([-1, 15, 200, 201] : List Int).getD i 0 = m at *
      have HD8 : Hid (Dr w B ((N + 2 + 2 + 2) + 2 + 2) w.heap.size w3.heap.size len cap a rk rp (1 + (n : Int)) (⟨#[]⟩ : ByteArray) w8) := (HD7.out.alloc _).step hC8 hB8
      clear hC8 hB8 HD7
      obtain ⟨_, _, z0, z1, z2, z3, f0, f1, f2, f3, c0, c1, c2, c3, g0, g1, g2, g3, _, hbx, hby, hne, hbB, hlx, hly⟩ := HD8.out
      have hne2 : w3.heap.size ≠ w.heap.size := fun h => hne h.symm
      go_wp2
      refine bodyPost_ret (v := .agg #[.int .i64 rk, .int .i64 m, .int .i64 (1 + (n : Int)), .string (⟨#[]⟩ : ByteArray)]) (by simp [results, Tryd.results51, go_sem, z0, z1, z2, z3]) rfl ⟨⟨rk, m, (1 + (n : Int)), (⟨#[]⟩ : ByteArray).data.toList⟩, congrArg Ending.returned (rv_eq _ _ _ _), len_le hDs', (HD8.out.setP m).fin.1.mono (by omega), (HD8.out.setP m).fin.2⟩
    by_cases e1 : q = 1
    · subst e1
      go_wp2_with fail
      refine (pick_any _ B _ len cap a _ (by omega) (by omega) (by omega) HD7.out.cur HD7.out.code).mono ?_
      rintro e w8 ⟨m, rfl, m0, m1, hC8, hB8⟩
      have HD8 : Hid (Dr w B ((N + 2 + 2 + 2) + 2 + 2) w.heap.size w3.heap.size len cap a rk rp (1 + (n : Int)) (⟨#[]⟩ : ByteArray) w8) := HD7.out.step hC8 hB8
      clear hC8 hB8 HD7
      obtain ⟨_, _, z0, z1, z2, z3, f0, f1, f2, f3, c0, c1, c2, c3, g0, g1, g2, g3, _, hbx, hby, hne, hbB, hlx, hly⟩ := HD8.out
      have hne2 : w3.heap.size ≠ w.heap.size := fun h => hne h.symm
      go_wp2
      refine bodyPost_ret (v := .agg #[.int .i64 m, .int .i64 rp, .int .i64 (1 + (n : Int)), .string (⟨#[]⟩ : ByteArray)]) (by simp [results, Tryd.results51, go_sem, z0, z1, z2, z3]) rfl ⟨⟨m, rp, (1 + (n : Int)), (⟨#[]⟩ : ByteArray).data.toList⟩, congrArg Ending.returned (rv_eq _ _ _ _), len_le hDs', (HD8.out.setK m).fin.1.mono (by omega), (HD8.out.setK m).fin.2⟩
    have d0 : (q == 0) = false := by rw [beq_eq_false_iff_ne]; exact e0
    have d1 : (q == 1) = false := by rw [beq_eq_false_iff_ne]; exact e1
    obtain ⟨_, _, z0, z1, z2, z3, f0, f1, f2, f3, c0, c1, c2, c3, g0, g1, g2, g3, _, hbx, hby, hne, hbB, hlx, hly⟩ := HD7.out
    have hne2 : w3.heap.size ≠ w.heap.size := fun h => hne h.symm
    by_cases e2 : q = 2
    · subst e2
      have hxs : (⟨#[120]⟩ : ByteArray).size = 1 := rfl
      go_wp2
      refine bodyPost_ret (v := .agg #[.int .i64 rk, .int .i64 rp, .int .i64 (1 + (n : Int)), .string ((⟨#[]⟩ : ByteArray) ++ ⟨#[120]⟩)]) (by simp [results, Tryd.results51, go_sem, z0, z1, z2, z3]) rfl ⟨⟨rk, rp, (1 + (n : Int)), ((⟨#[]⟩ : ByteArray) ++ ⟨#[120]⟩ : ByteArray).data.toList⟩, congrArg Ending.returned (rv_eq _ _ _ _), len_le1 hDs', (HD7.out.setD _).fin.1.mono (by omega), (HD7.out.setD _).fin.2⟩
    · have d2 : (q == 2) = false := by rw [beq_eq_false_iff_ne]; exact e2
      go_wp2
      refine bodyPost_ret (v := .agg #[.int .i64 rk, .int .i64 rp, .int .i64 (1 + (n : Int)), .string (⟨#[]⟩ : ByteArray)]) (by simp [results, Tryd.results51, go_sem, z0, z1, z2, z3]) rfl ⟨⟨rk, rp, (1 + (n : Int)), (⟨#[]⟩ : ByteArray).data.toList⟩, congrArg Ending.returned (rv_eq _ _ _ _), len_le hDs', HD7.out.fin.1.mono (by omega), HD7.out.fin.2⟩
end Go.Proofs.YthoeffbefmhkjaaDoor
