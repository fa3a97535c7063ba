/- Walk of the model's l5Better. -/
import Derived.Test.YtohkhcjdjjlfbaaHFree
namespace Go.Proofs.Ytohkhcjdjjlfbaa
set_option maxRecDepth 100000
open Go.ChangeShapes Go.WideShapes Go.ChangeAt Go.RowKit G00541
theorem mul_bd {a b A B : Int} (a0 : 0 ≤ a) (a1 : a ≤ A) (b0 : 0 ≤ b) (b1 : b ≤ B) : 0 ≤ a * b ∧ a * b ≤ A * B :=
  ⟨Int.mul_nonneg a0 b0, Int.mul_le_mul a1 b1 b0 (by omega)⟩
/-- one full segment ahead of another one -/
def betH (how x y ax ay : Int) : Bool := if how = 1 then decide (x < y) else decide ((6 - y) * (ay + 1) * (x + 6) < (6 - x) * (ax + 1) * (y + 6))
set_option maxHeartbeats 2000000 in
theorem l5Better_any (aS aL : Option Addr) (kS kL : Nat) (S : List Sg) (L : List (List Bool)) (i j : Nat) (how : Int) (w : World) (hm : S.length ≤ 1048576) (hl : L.length = S.length) (hi : i < S.length) (hj : j < S.length)
    (vi : (L[i]'(by omega)).length ≤ 6) (vj : (L[j]'(by omega)).length ≤ 6) (gi : 0 ≤ S[i].age ∧ S[i].age ≤ 1000) (gj : 0 ≤ S[j].age ∧ S[j].age ≤ 1000) (hG : Gs w.heap.size aS S w) (hV : Vs w.heap.size aL L w) :
    Calls Try.prog 55 #[.agg #[.slice aS S.length kS, .slice aL L.length kL], .int .i64 i, .int .i64 j, .int .i64 how] w fun e w' => e = .returned (.bool (betH how ((L[i]'(by omega)).countP id : Nat) ((L[j]'(by omega)).countP id : Nat) S[i].age S[j].age)) ∧ Below w.heap.size w w' := by
  have HB := hid (Bx.start w (.cells #[.slice aS S.length kS, .slice aL L.length kL] 26))
  have y0 := box_cell HB.out.box 0
  have y1 := box_cell HB.out.box 1
  have HL1 : Hid (∀ v, Bx w (.cells #[.slice aS S.length kS, .slice aL L.length kL] 26) v → Calls Try.prog 39 #[.agg #[.slice aS S.length kS, .slice aL L.length kL], .int .i64 i] v fun e w' => e = .returned (.int .i64 (((L[i]'(by omega)).countP id : Nat) : Int)) ∧ Below v.heap.size v w') := fun v hb =>
    l5Live_any aS aL kS kL S.length L i v (by omega) (by omega) (by omega) ((hV.below hb.below).mono hb.below.size)
  have HL2 : Hid (∀ v, Bx w (.cells #[.slice aS S.length kS, .slice aL L.length kL] 26) v → Calls Try.prog 39 #[.agg #[.slice aS S.length kS, .slice aL L.length kL], .int .i64 j] v fun e w' => e = .returned (.int .i64 (((L[j]'(by omega)).countP id : Nat) : Int)) ∧ Below v.heap.size v w') := fun v hb =>
    l5Live_any aS aL kS kL S.length L j v (by omega) (by omega) (by omega) ((hV.below hb.below).mono hb.below.size)
  obtain ⟨b, off, rfl, hb, hcl⟩ := hG (by omega)
  obtain ⟨_, _, _, ci, _⟩ := hcl i hi
  obtain ⟨_, _, _, cj, _⟩ := hcl j hj
  have CI := hid ci
  have CJ := hid cj
  have xi : (L[i]'(by omega)).countP id ≤ 6 := Nat.le_trans List.countP_le_length vi
  have xj : (L[j]'(by omega)).countP id ≤ 6 := Nat.le_trans List.countP_le_length vj
  clear hG hV hcl ci cj vi vj
  generalize (L[i]'(by omega)).countP id = x at *
  generalize (L[j]'(by omega)).countP id = y at *
  generalize S[i].age = ax at *
  generalize S[j].age = ay at *
  clear hl
  generalize L.length = nl at *
  have m1 := mul_bd (a := 6 - (x : Int)) (b := ax + 1) (A := 6) (B := 1001) (by omega) (by omega) (by omega) (by omega)
  have m2 := mul_bd (a := 6 - (y : Int)) (b := ay + 1) (A := 6) (B := 1001) (by omega) (by omega) (by omega) (by omega)
  have m3 := mul_bd (a := (6 - (x : Int)) * (ax + 1)) (b := (y : Int) + 6) (A := 6006) (B := 12) (by omega) (by omega) (by omega) (by omega)
  have m4 := mul_bd (a := (6 - (y : Int)) * (ay + 1)) (b := (x : Int) + 6) (A := 6006) (B := 12) (by omega) (by omega) (by omega) (by omega)
  have HBET : Hid (betH how x y ax ay = if how = 1 then decide ((x : Int) < y) else decide ((6 - (y : Int)) * (ay + 1) * (x + 6) < (6 - (x : Int)) * (ax + 1) * (y + 6))) := rfl
  generalize hW : w.alloc (.cells #[.slice (some ⟨b, off, none⟩) S.length kS, .slice aL nl kL] 26) = W at *
  go_enter Try.func55, Try.ntmps55
  go_wp2_with fail
  refine (HL1.out _ HB.out).mono ?_
  rintro e w2 ⟨rfl, hb2⟩
  have HB2 := hid (HB.out.on hb2)
  clear hb2 hW y0 y1 HB HL1
  have y0 := box_cell HB2.out.box 0
  have y1 := box_cell HB2.out.box 1
  go_wp2_with fail
  refine (HL2.out _ HB2.out).mono ?_
  rintro e w3 ⟨rfl, hb3⟩
  have HB3 := hid (HB2.out.on hb3)
  clear hb3 y0 y1 HB2 HL2
  by_cases h1 : how = 1
  · have hd : (how == 1) = true := beq_iff_eq.2 h1
    rw [if_pos h1] at HBET
    clear h1
    go_wp2_with fail
    go_ret
    exact ⟨ret_b2 (by rw [HBET.out]; first | rfl | simp), HB3.out.below⟩
  · have hd : (how == 1) = false := beq_eq_false_iff_ne.2 h1
    rw [if_neg h1] at HBET
    have y0 := box_cell HB3.out.box 0
    have ci : w3.cell? ⟨b, off + i * 2 + 1, none⟩ = some (.int .i64 ax) := (HB3.out.below.cell (p := ⟨b, off + i * 2 + 1, none⟩) hb).trans CI.out
    have cj : w3.cell? ⟨b, off + j * 2 + 1, none⟩ = some (.int .i64 ay) := (HB3.out.below.cell (p := ⟨b, off + j * 2 + 1, none⟩) hb).trans CJ.out
    clear h1 CI CJ
    go_wp2_with fail
    go_quiet (fail)
    all_goals
      have HB4 := hid (HB3.out.on (belowN w3 nq))
      generalize hW1 : w3.drewN nq = w4 at *
      clear hW1 y0 ci cj HB3
      go_wp2
      go_ret
      exact ⟨ret_b2 (by rw [HBET.out]), HB4.out.below⟩
end Go.Proofs.Ytohkhcjdjjlfbaa
