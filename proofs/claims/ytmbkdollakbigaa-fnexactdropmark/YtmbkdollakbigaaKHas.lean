/- Walks of the program's layerWith and hasMark. -/
import Derived.Test.YtmbkdollakbigaaKFind
namespace Go.Proofs.Ytmbkdollakbigaa
set_option maxRecDepth 100000
open Go Go.ChangeShapes Go.WideShapes Go.ChangeAt Go.RowKit
theorem isMark_any (B : Nat) (x m : Int) (p q : Option Addr) (n c k d : Nat) (w : World) (hB : B < w.heap.size) (h : w.cell? ⟨B, 0, none⟩ = some (.int .i64 x)) :
    Calls Try.prog 54 #[.agg #[.int .i64 m, .slice p n c, .slice q k d], .pointer (some ⟨B, 0, none⟩)] w fun e w' => e = .returned (.bool (decide (m = x))) ∧ Below w.heap.size w w' := by
  have hbx := boxB w (.cells #[.int .i64 m, .slice p n c, .slice q k d] 64)
  have y0 : (w.alloc (.cells #[.int .i64 m, .slice p n c, .slice q k d] 64)).cell? ⟨w.heap.size, 0, none⟩ = some (.int .i64 m) := box_cell (heap_last _ _) 0
  have y1 : (w.alloc (.cells #[.int .i64 m, .slice p n c, .slice q k d] 64)).cell? ⟨B, 0, none⟩ = some (.int .i64 x) := (hbx.cell (p := ⟨B, 0, none⟩) hB).trans h
  have HB := hid hbx
  clear hbx
  by_cases e : m = x
  · have d1 : (m == x) = true := beq_iff_eq.2 e
    have d2 : decide (m = x) = true := decide_eq_true e
    rw [d2]
    clear e
    go_enter Try.func54, Try.ntmps54
    go_wp2_with fail
    go_ret
    exact ⟨rfl, HB.out⟩
  · have d1 : (m == x) = false := beq_eq_false_iff_ne.2 e
    have d2 : decide (m = x) = false := decide_eq_false e
    rw [d2]
    clear e
    go_enter Try.func54, Try.ntmps54
    go_wp2_with fail
    go_ret
    exact ⟨rfl, HB.out⟩
set_option maxHeartbeats 4000000 in
theorem indexL_any (B : Nat) (a : Option Addr) (cap : Nat) (S : List Ly) (x : Int) (W : World) (hn : S.length ≤ 1048576) (hB : B < W.heap.size) (hx0 : W.cell? ⟨B, 0, none⟩ = some (.int .i64 x)) (hG : Ys W.heap.size a S W) :
    Calls Try.prog 53 #[.slice a S.length cap, .func (.func 54) #[] #[.pointer (some ⟨B, 0, none⟩)]] W fun e w' => e = .returned (.int .i64 (fk S x)) ∧ Below W.heap.size W w' := by
  have HG := hid hG
  have HX : Hid (∀ v, Below W.heap.size W v → v.cell? ⟨B, 0, none⟩ = some (.int .i64 x)) := fun v g => (g.cell (p := ⟨B, 0, none⟩) hB).trans hx0
  have HC : Hid (∀ v (m : Int) (p q : Option Addr) (n c k d : Nat), Below W.heap.size W v → Calls Try.prog 54 #[.agg #[.int .i64 m, .slice p n c, .slice q k d], .pointer (some ⟨B, 0, none⟩)] v fun e w' => e = .returned (.bool (decide (m = x))) ∧ Below v.heap.size v w') := fun v m p q n c k d g => isMark_any B x m p q n c k d v (Nat.lt_of_lt_of_le hB g.size) (HX.out v g)
  clear hG hx0 hB HX
  go_enter Try.func53, Try.ntmps53
  go_wp2_with fail
  go_loopw [8] (fun i wr => ∃ k : Nat, k ≤ S.length ∧ i = .int .i64 k ∧ (∀ j (h : j < S.length), j < k → S[j].mark ≠ x) ∧ Below W.heap.size W wr) (fun i _ => S.length - (intOf i).toNat)
  case atStart => exact ⟨0, Nat.zero_le _, rfl, (fun _ _ h => absurd h (Nat.not_lt_zero _)), Below.refl _ _⟩
  case round =>
    obtain ⟨k, hk, rfl, hall, hbel⟩ := hrel
    have HALL := hid hall
    have HBEL := hid hbel
    clear hall
    by_cases hlt : k < S.length
    · obtain ⟨b, off, rfl, hb, hcl⟩ := HG.out (by omega)
      obtain ⟨p, c, q, d, c0, c1, c2, _, _⟩ := hcl k hlt
      have kc : ∀ o, wr.cell? ⟨b, o, none⟩ = W.cell? ⟨b, o, none⟩ := fun o => hbel.cell (p := ⟨b, o, none⟩) hb
      rw [← kc] at c0 c1 c2
      have HY : Hid (S[k].mark = x → fndK S x = k) := fun g => fndK_at hlt g HALL.out
      have HN : Hid (S[k].mark ≠ x → ∀ j (h : j < S.length), j < k + 1 → S[j].mark ≠ x) := fun g j hj hjk => by
        by_cases e : j = k
        · subst e; exact g
        · exact HALL.out j hj (by omega)
      clear hcl kc hbel HALL
      generalize hs : S[k] = s at *
      obtain ⟨m, bl, dt⟩ := s
      simp only at c0 c1 c2 HN HY
      have HCk := hid (HC.out wr m p q bl.length c dt.length d HBEL.out)
      clear hs
      go_wp2_with fail
      refine HCk.out.mono ?_
      rintro e w2 ⟨rfl, g2⟩
      have HB2 : Hid (Below W.heap.size W w2) := HBEL.out.trans (g2.mono HBEL.out.size)
      clear g2 HCk
      by_cases hx : m = x
      · have HE := hid (HY.out hx)
        rw [decide_eq_true hx]
        clear HY HN hx
        go_wp2_with fail
        go_ret
        exact ⟨fk_yes hlt HE.out, HB2.out⟩
      · have HE := hid (HN.out hx)
        rw [decide_eq_false hx]
        clear HY HN hx
        go_wp2_with fail
        go_roundw
        case rel => exact ⟨k + 1, by omega, by go_num, HE.out, HB2.out⟩
        case measure => simp [intOf]; omega
    · have HE : Hid (fndK S x = S.length) := fndK_none fun j hj => HALL.out j hj (by omega)
      clear hbel
      go_wp2_with fail
      go_ret
      exact ⟨fk_no HE.out, HBEL.out⟩
set_option maxHeartbeats 2000000 in
theorem layerWith_any (a : Option Addr) (cap : Nat) (S : List Ly) (x : Int) (w : World) (hn : S.length ≤ 1048576) (hG : Ys w.heap.size a S w) :
    Calls Try.prog 36 #[.agg #[.slice a S.length cap], .int .i64 x] w fun e w' => e = .returned (.int .i64 (fk S x)) ∧ Below w.heap.size w w' := by
  obtain ⟨W1, hW1⟩ : ∃ W1, W1 = w.alloc (.cells #[.slice a S.length cap] 31) := ⟨_, rfl⟩
  obtain ⟨W2, hW2⟩ : ∃ W2, W2 = W1.alloc (.cells #[.int .i64 x] 3) := ⟨_, rfl⟩
  have hs1 : W1.heap.size = w.heap.size + 1 := by rw [hW1]; exact heap_size _ _
  have hs2 : W2.heap.size = w.heap.size + 2 := by rw [hW2, heap_size, hs1]
  have g1 : Below w.heap.size w W1 := by rw [hW1]; exact boxB _ _
  have g2 : Below W1.heap.size W1 W2 := by rw [hW2]; exact boxB _ _
  have HB : Hid (Below w.heap.size w W2) := g1.trans (g2.mono g1.size)
  have x0 : W2.cell? ⟨w.heap.size, 0, none⟩ = some (.slice a S.length cap) := by
    rw [g2.cell (p := ⟨w.heap.size, 0, none⟩) (by show w.heap.size < W1.heap.size; omega), hW1]; exact box_cell (heap_last _ _) 0
  have x1 : W2.cell? ⟨w.heap.size + 1, 0, none⟩ = some (.int .i64 x) := by
    rw [← hs1, hW2]; exact box_cell (heap_last _ _) 0
  have HC := hid (indexL_any (w.heap.size + 1) a cap S x W2 hn (by omega) x1 ((hG.below HB.out).mono HB.out.size))
  have HW : Hid ((w.alloc (.cells #[.slice a S.length cap] 31)).alloc (.cells #[.int .i64 x] 3) = W2) := by show _ = W2; rw [hW2, hW1]
  clear hG g1 g2 hs2 hW1 hW2 hs1
  go_enter Try.func36, Try.ntmps36
  go_wp2_with fail
  rw [HW.out]
  refine HC.out.mono ?_
  rintro e w3 ⟨rfl, g3⟩
  have HB3 : Hid (Below w.heap.size w w3) := HB.out.trans (g3.mono HB.out.size)
  clear g3 HC HW
  go_wp2_with fail
  go_ret
  exact ⟨rfl, HB3.out⟩
theorem fk_bd (S : List Ly) (x : Int) : decide (0 ≤ fk S x) = decide (fndK S x < S.length) := by
  by_cases h : fndK S x < S.length
  · rw [fk_at h, decide_eq_true h]; exact decide_eq_true (by omega)
  · rw [fk_none h, decide_eq_false h]; rfl
theorem hasMark_any (a : Option Addr) (cap : Nat) (S : List Ly) (x : Int) (w : World) (hn : S.length ≤ 1048576) (hG : Ys w.heap.size a S w) :
    Calls Try.prog 23 #[.agg #[.slice a S.length cap], .int .i64 x] w fun e w' => e = .returned (.bool (decide (fndK S x < S.length))) ∧ Below w.heap.size w w' := by
  have HB := hid (Bx.start w (.cells #[.slice a S.length cap] 31))
  have HC := hid (layerWith_any a cap S x (w.alloc (.cells #[.slice a S.length cap] 31)) hn ((hG.below HB.out.below).mono HB.out.below.size))
  clear hG
  generalize hW : w.alloc (.cells #[.slice a S.length cap] 31) = W at *
  have x0 : W.cell? ⟨w.heap.size, 0, none⟩ = some (.slice a S.length cap) := box_cell HB.out.box 0
  have HE := hid (fk_bd S x)
  rw [← HE.out]
  clear HE
  go_enter Try.func23, Try.ntmps23
  go_wp2_with fail
  clear hW
  refine HC.out.mono ?_
  rintro e w3 ⟨rfl, g3⟩
  have HB3 : Hid (Below w.heap.size w w3) := HB.out.below.trans (g3.mono HB.out.below.size)
  clear g3 HC
  go_wp2_with fail
  go_ret
  exact ⟨ret_bd (by first | rfl | simp), HB3.out⟩
end Go.Proofs.Ytmbkdollakbigaa
