/- Walks of both sides' MarkOf. -/
import Derived.Test.YtbipbihjaeobkabIGv
namespace Go.Proofs.Ytbipbihjaeobkab
set_option maxRecDepth 100000
open Go.ChangeShapes Go.WideShapes Go.ChangeAt Go.RowKit G00541
def markV (B : List ByteArray) (F : Int) (L : List Rc) (s : Int) : Int := if goodV B F L s = true then markF F L else 0
theorem markV_yes {B : List ByteArray} {F : Int} {L : List Rc} {s : Int} (h : goodV B F L s = true) : markV B F L s = markF F L := by unfold markV; rw [if_pos h]
theorem markV_no {B : List ByteArray} {F : Int} {L : List Rc} {s : Int} (h : goodV B F L s = false) : markV B F L s = 0 := by unfold markV; rw [if_neg (by rw [h]; decide)]
set_option maxHeartbeats 1000000 in
theorem smark_any (aB aL : Option Addr) (kB kL : Nat) (B : List ByteArray) (F : Int) (L : List Rc) (s : Int) (w : World) (hf : B.length ≤ 1048576 ∧ L.length ≤ 1048576) (hB : Ss w.heap.size aB B w) (hL : Rs w.heap.size aL L w) :
    Calls Try.prog 6 #[.agg #[.slice aB B.length kB, .int .i64 F, .slice aL L.length kL, .int .i64 s]] w fun e w' => e = .returned (.tuple #[.int .i64 (markV B F L s), .bool (goodV B F L s)]) ∧ Below w.heap.size w w' := by
  have HB := hid (boxB w (.cells #[.slice aB B.length kB, .int .i64 F, .slice aL L.length kL, .int .i64 s] 31))
  have HC1 : Hid (∀ v, Below w.heap.size w v → Calls Try.prog 17 #[.agg #[.slice aB B.length kB, .int .i64 F, .slice aL L.length kL, .int .i64 s]] v fun e w' => e = .returned (.bool (goodV B F L s)) ∧ Below v.heap.size v w') := fun v g => sgoodV_any aB aL kB kL B F L s v hf ((hB.below g).mono g.size) ((hL.below g).mono g.size)
  have HC2 : Hid (∀ v, Below w.heap.size w v → Calls Try.prog 18 #[.agg #[.slice aB B.length kB, .int .i64 F, .slice aL L.length kL, .int .i64 s]] v fun e w' => e = .returned (.int .i64 (markF F L)) ∧ Below v.heap.size v w') := fun v g => l6Mark_any aB aL kB kL B F L s v hf.2 ((hL.below g).mono g.size)
  have y0 : (w.alloc (.cells #[.slice aB B.length kB, .int .i64 F, .slice aL L.length kL, .int .i64 s] 31)).cell? ⟨w.heap.size, 0, none⟩ = some (.slice aB B.length kB) := by go_simp
  have y1 : (w.alloc (.cells #[.slice aB B.length kB, .int .i64 F, .slice aL L.length kL, .int .i64 s] 31)).cell? ⟨w.heap.size, 1, none⟩ = some (.int .i64 F) := by go_simp
  have y2 : (w.alloc (.cells #[.slice aB B.length kB, .int .i64 F, .slice aL L.length kL, .int .i64 s] 31)).cell? ⟨w.heap.size, 2, none⟩ = some (.slice aL L.length kL) := by go_simp
  have y3 : (w.alloc (.cells #[.slice aB B.length kB, .int .i64 F, .slice aL L.length kL, .int .i64 s] 31)).cell? ⟨w.heap.size, 3, none⟩ = some (.int .i64 s) := by go_simp
  have hlt : w.heap.size < (w.alloc (.cells #[.slice aB B.length kB, .int .i64 F, .slice aL L.length kL, .int .i64 s] 31)).heap.size := by simp
  clear hB hL hf
  have HY := hid (@markV_yes B F L s)
  have HN := hid (@markV_no B F L s)
  cases hg : goodV B F L s
  · rw [HN.out hg]
    rw [hg] at HC1
    clear hg HY HN
    go_enter Try.func6, Try.ntmps6
    go_wp2_with fail
    refine (HC1.out _ HB.out).mono ?_
    rintro e w2 ⟨rfl, b2⟩
    have HB2 := hid (HB.out.trans (b2.mono HB.out.size))
    clear b2
    go_wp2_with fail
    go_ret2
    exact ⟨rfl, HB2.out⟩
  · rw [HY.out hg]
    rw [hg] at HC1
    clear hg HY HN
    go_enter Try.func6, Try.ntmps6
    go_wp2_with fail
    generalize w.alloc (.cells #[.slice aB B.length kB, .int .i64 F, .slice aL L.length kL, .int .i64 s] 31) = W at *
    refine (HC1.out _ HB.out).mono ?_
    rintro e w2 ⟨rfl, b2⟩
    have HB2 := hid (HB.out.trans (b2.mono HB.out.size))
    rw [← b2.cell (p := ⟨w.heap.size, 0, none⟩) hlt] at y0
    rw [← b2.cell (p := ⟨w.heap.size, 1, none⟩) hlt] at y1
    rw [← b2.cell (p := ⟨w.heap.size, 2, none⟩) hlt] at y2
    rw [← b2.cell (p := ⟨w.heap.size, 3, none⟩) hlt] at y3
    clear b2
    go_wp2_with fail
    refine (HC2.out _ HB2.out).mono ?_
    rintro e w3 ⟨rfl, b3⟩
    have HB3 := hid (HB2.out.trans (b3.mono HB2.out.size))
    clear b3
    go_wp2_with fail
    go_ret2
    exact ⟨rfl, HB3.out⟩
set_option maxHeartbeats 1000000 in
theorem imark_any (aB aL : Option Addr) (kB kL : Nat) (B : List ByteArray) (F : Int) (L : List Rc) (s : Int) (w : World) (hf : B.length ≤ 1048576 ∧ L.length ≤ 1048576) (hB : Ss w.heap.size aB B w) (hL : Rs w.heap.size aL L w) :
    Calls Try.prog 8 #[.agg #[.slice aB B.length kB, .int .i64 F, .slice aL L.length kL, .int .i64 s]] w fun e w' => e = .returned (.tuple #[.int .i64 (markV B F L s), .bool (goodV B F L s)]) ∧ Below w.heap.size w w' := by
  have HB := hid (boxB w (.cells #[.slice aB B.length kB, .int .i64 F, .slice aL L.length kL, .int .i64 s] 31))
  have HC1 : Hid (∀ v, Below w.heap.size w v → Calls Try.prog 21 #[.agg #[.slice aB B.length kB, .int .i64 F, .slice aL L.length kL, .int .i64 s]] v fun e w' => e = .returned (.bool (goodV B F L s)) ∧ Below v.heap.size v w') := fun v g => igoodV_any aB aL kB kL B F L s v hf ((hB.below g).mono g.size) ((hL.below g).mono g.size)
  have HC2 : Hid (∀ v, Below w.heap.size w v → Calls Try.prog 22 #[.int .i64 F, .slice aL L.length kL] v fun e w' => e = .returned (.int .i64 (markF F L)) ∧ Below v.heap.size v w') := fun v g => markBehind_any aL kL F L v hf.2 ((hL.below g).mono g.size)
  have y1 : (w.alloc (.cells #[.slice aB B.length kB, .int .i64 F, .slice aL L.length kL, .int .i64 s] 31)).cell? ⟨w.heap.size, 1, none⟩ = some (.int .i64 F) := by go_simp
  have y2 : (w.alloc (.cells #[.slice aB B.length kB, .int .i64 F, .slice aL L.length kL, .int .i64 s] 31)).cell? ⟨w.heap.size, 2, none⟩ = some (.slice aL L.length kL) := by go_simp
  have hlt : w.heap.size < (w.alloc (.cells #[.slice aB B.length kB, .int .i64 F, .slice aL L.length kL, .int .i64 s] 31)).heap.size := by simp
  clear hB hL hf
  have HY := hid (@markV_yes B F L s)
  have HN := hid (@markV_no B F L s)
  cases hg : goodV B F L s
  · rw [HN.out hg]
    rw [hg] at HC1
    clear hg HY HN
    go_enter Try.func8, Try.ntmps8
    go_wp2_with fail
    refine (HC1.out _ HB.out).mono ?_
    rintro e w2 ⟨rfl, b2⟩
    have HB2 := hid (HB.out.trans (b2.mono HB.out.size))
    clear b2
    go_wp2_with fail
    go_ret2
    exact ⟨rfl, HB2.out⟩
  · rw [HY.out hg]
    rw [hg] at HC1
    clear hg HY HN
    go_enter Try.func8, Try.ntmps8
    go_wp2_with fail
    refine (HC1.out _ HB.out).mono ?_
    rintro e w2 ⟨rfl, b2⟩
    have HB2 := hid (HB.out.trans (b2.mono HB.out.size))
    rw [← b2.cell (p := ⟨w.heap.size, 1, none⟩) hlt] at y1
    rw [← b2.cell (p := ⟨w.heap.size, 2, none⟩) hlt] at y2
    clear b2
    go_wp2_with fail
    refine (HC2.out _ HB2.out).mono ?_
    rintro e w3 ⟨rfl, b3⟩
    have HB3 := hid (HB2.out.trans (b3.mono HB2.out.size))
    clear b3
    go_wp2_with fail
    go_ret2
    exact ⟨rfl, HB3.out⟩
end Go.Proofs.Ytbipbihjaeobkab
