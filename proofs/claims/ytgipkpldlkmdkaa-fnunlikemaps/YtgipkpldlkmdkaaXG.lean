/- Walks of what tells a good stretch: the model's l4Stretch, the program's withinBlocks, goodStretch, isPlace, goesOn. -/
import Derived.Test.YtgipkpldlkmdkaaIn
import Derived.Test.YtgipkpldlkmdkaaX
import Derived.Deep.RegionWith
namespace Go.Proofs.Ytgipkpldlkmdkaa
set_option maxRecDepth 100000
open Go.ChangeShapes Go.WideShapes Go.ChangeAt Go.RowKit G00541
/-- each number fits an int -/
def fit (n : Int) : Prop := -9223372036854775808 ≤ n ∧ n ≤ 9223372036854775807
set_option maxHeartbeats 400000 in
theorem within_any (p n : Int) (w : World) (hp : fit p) (hn : fit n) :
    Calls Try.prog 49 #[.int .i64 p, .int .i64 n] w fun e w' => e = .returned (.bool (decide (1 ≤ n ∧ 0 ≤ p ∧ p ≤ 16 - n))) ∧ w' = w := by
  obtain ⟨p0, p1⟩ := hp
  obtain ⟨n0, n1⟩ := hn
  by_cases h1 : 1 ≤ n
  · by_cases h2 : 0 ≤ p
    · by_cases h3 : p ≤ 16 - n
      · have hv : decide (1 ≤ n ∧ 0 ≤ p ∧ p ≤ 16 - n) = true := decide_eq_true ⟨h1, h2, h3⟩
        rw [hv]; clear hv
        go_enter Try.func49, Try.ntmps49
        go_wp2
        go_ret
        exact ⟨rfl, rfl⟩
      · have hv : decide (1 ≤ n ∧ 0 ≤ p ∧ p ≤ 16 - n) = false := decide_eq_false (by omega)
        rw [hv]; clear hv
        have hd : decide (p ≤ 16 - n) = false := decide_eq_false h3
        go_enter Try.func49, Try.ntmps49
        go_wp2
        go_ret
        exact ⟨rfl, rfl⟩
    · have hv : decide (1 ≤ n ∧ 0 ≤ p ∧ p ≤ 16 - n) = false := decide_eq_false (by omega)
      rw [hv]; clear hv
      have hd : decide (0 ≤ p) = false := decide_eq_false h2
      go_enter Try.func49, Try.ntmps49
      go_wp2
      go_ret
      exact ⟨rfl, rfl⟩
  · have hv : decide (1 ≤ n ∧ 0 ≤ p ∧ p ≤ 16 - n) = false := decide_eq_false (by omega)
    rw [hv]; clear hv
    have hd : decide (1 ≤ n) = false := decide_eq_false h1
    go_enter Try.func49, Try.ntmps49
    go_wp2
    go_ret
    exact ⟨rfl, rfl⟩
set_option maxHeartbeats 400000 in
theorem isPlace_any (p : Int) (w : World) :
    Calls Try.prog 34 #[.int .i64 p] w fun e w' => e = .returned (.bool (decide (0 ≤ p ∧ p ≤ 10000))) ∧ w' = w := by
  by_cases h1 : 0 ≤ p
  · by_cases h2 : p ≤ 10000
    · have hv : decide (0 ≤ p ∧ p ≤ 10000) = true := decide_eq_true ⟨h1, h2⟩
      rw [hv]; clear hv
      go_enter Try.func34, Try.ntmps34
      go_wp2
      go_ret
      exact ⟨rfl, rfl⟩
    · have hv : decide (0 ≤ p ∧ p ≤ 10000) = false := decide_eq_false (by omega)
      rw [hv]; clear hv
      have hd : decide (p ≤ 10000) = false := decide_eq_false h2
      go_enter Try.func34, Try.ntmps34
      go_wp2
      go_ret
      exact ⟨rfl, rfl⟩
  · have hv : decide (0 ≤ p ∧ p ≤ 10000) = false := decide_eq_false (by omega)
    rw [hv]; clear hv
    have hd : decide (0 ≤ p) = false := decide_eq_false h1
    go_enter Try.func34, Try.ntmps34
    go_wp2
    go_ret
    exact ⟨rfl, rfl⟩
theorem goodX_false (x : Sx) (h : ¬ (1 ≤ x.long ∧ x.long ≤ 16 ∧ 0 ≤ x.at_ ∧ x.at_ ≤ 16 - x.long ∧ 0 ≤ x.place ∧ x.place ≤ 10001 - x.long)) : goodX x = false := by
  unfold goodX; exact decide_eq_false h
theorem goodX_true (x : Sx) (h : 1 ≤ x.long ∧ x.long ≤ 16 ∧ 0 ≤ x.at_ ∧ x.at_ ≤ 16 - x.long ∧ 0 ≤ x.place ∧ x.place ≤ 10001 - x.long) : goodX x = true := by
  unfold goodX; exact decide_eq_true h
set_option maxHeartbeats 1000000 in
theorem goodStretch_any (p n c : Int) (w : World) (hp : fit p) (hn : fit n) :
    Calls Try.prog 42 #[.agg #[.int .i64 p, .int .i64 n, .int .i64 c]] w fun e w' => e = .returned (.bool (goodX ⟨p, n, c⟩)) ∧ Below w.heap.size w w' := by
  have HW : Hid (∀ v, Calls Try.prog 49 #[.int .i64 p, .int .i64 n] v fun e w' => e = .returned (.bool (decide (1 ≤ n ∧ 0 ≤ p ∧ p ≤ 16 - n))) ∧ w' = v) := fun v => within_any p n v hp hn
  by_cases h1 : 1 ≤ n ∧ 0 ≤ p ∧ p ≤ 16 - n
  · rw [decide_eq_true h1] at HW
    obtain ⟨h10, h11, h12⟩ := h1
    by_cases h2 : 0 ≤ c
    · by_cases h3 : c ≤ 10001 - n
      · rw [goodX_true ⟨p, n, c⟩ (by simp only; omega)]
        have hd : decide (c ≤ 10000 - (n - 1)) = true := decide_eq_true (by omega)
        go_enter Try.func42, Try.ntmps42
        go_wp2_with fail
        refine (HW.out _).mono ?_
        rintro e w9 ⟨rfl, rfl⟩
        go_wp2
        go_ret
        exact ⟨rfl, (Below.refl _ _).alloc (Nat.le_refl _) _⟩
      · rw [goodX_false ⟨p, n, c⟩ (by simp only; omega)]
        have hd : decide (c ≤ 10000 - (n - 1)) = false := decide_eq_false (by omega)
        go_enter Try.func42, Try.ntmps42
        go_wp2_with fail
        refine (HW.out _).mono ?_
        rintro e w9 ⟨rfl, rfl⟩
        go_wp2
        go_ret
        exact ⟨rfl, (Below.refl _ _).alloc (Nat.le_refl _) _⟩
    · rw [goodX_false ⟨p, n, c⟩ (by simp only; omega)]
      have hd : decide (0 ≤ c) = false := decide_eq_false h2
      go_enter Try.func42, Try.ntmps42
      go_wp2_with fail
      refine (HW.out _).mono ?_
      rintro e w9 ⟨rfl, rfl⟩
      go_wp2
      go_ret
      exact ⟨rfl, (Below.refl _ _).alloc (Nat.le_refl _) _⟩
  · rw [decide_eq_false h1] at HW
    rw [goodX_false ⟨p, n, c⟩ (by simp only; omega)]
    clear h1
    go_enter Try.func42, Try.ntmps42
    go_wp2_with fail
    refine (HW.out _).mono ?_
    rintro e w9 ⟨rfl, rfl⟩
    go_wp2
    go_ret
    exact ⟨rfl, (Below.refl _ _).alloc (Nat.le_refl _) _⟩
set_option maxHeartbeats 1000000 in
theorem l4Stretch_any (p n c : Int) (w : World) :
    Calls Try.prog 44 #[.agg #[.int .i64 p, .int .i64 n, .int .i64 c]] w fun e w' => e = .returned (.bool (goodX ⟨p, n, c⟩)) ∧ Below w.heap.size w w' := by
  by_cases h1 : 1 ≤ n ∧ n ≤ 16
  · obtain ⟨h10, h11⟩ := h1
    by_cases h2 : 0 ≤ p ∧ p ≤ 16 - n
    · obtain ⟨h20, h21⟩ := h2
      by_cases h3 : 0 ≤ c ∧ c ≤ 10001 - n
      · obtain ⟨h30, h31⟩ := h3
        rw [goodX_true ⟨p, n, c⟩ (by simp only; omega)]
        go_enter Try.func44, Try.ntmps44
        go_wp2_with fail
        refine (l1In_yes _ _ _ _ h10 h11).mono ?_
        rintro e w9 ⟨rfl, rfl⟩
        go_wp2_with fail
        refine (l1In_yes _ _ _ _ h20 h21).mono ?_
        rintro e w9 ⟨rfl, rfl⟩
        go_wp2_with fail
        refine (l1In_yes _ _ _ _ h30 h31).mono ?_
        rintro e w9 ⟨rfl, rfl⟩
        go_wp2
        go_ret
        exact ⟨rfl, (Below.refl _ _).alloc (Nat.le_refl _) _⟩
      · have h3' : c < 0 ∨ 10001 - n < c := by omega
        rw [goodX_false ⟨p, n, c⟩ (by simp only; omega)]
        clear h3
        go_enter Try.func44, Try.ntmps44
        go_wp2_with fail
        refine (l1In_yes _ _ _ _ h10 h11).mono ?_
        rintro e w9 ⟨rfl, rfl⟩
        go_wp2_with fail
        refine (l1In_yes _ _ _ _ h20 h21).mono ?_
        rintro e w9 ⟨rfl, rfl⟩
        go_wp2_with fail
        refine (l1In_no _ _ _ _ h3').mono ?_
        rintro e w9 ⟨rfl, rfl⟩
        go_wp2
        go_ret
        exact ⟨rfl, (Below.refl _ _).alloc (Nat.le_refl _) _⟩
    · have h2' : p < 0 ∨ 16 - n < p := by omega
      rw [goodX_false ⟨p, n, c⟩ (by simp only; omega)]
      clear h2
      go_enter Try.func44, Try.ntmps44
      go_wp2_with fail
      refine (l1In_yes _ _ _ _ h10 h11).mono ?_
      rintro e w9 ⟨rfl, rfl⟩
      go_wp2_with fail
      refine (l1In_no _ _ _ _ h2').mono ?_
      rintro e w9 ⟨rfl, rfl⟩
      go_wp2
      go_ret
      exact ⟨rfl, (Below.refl _ _).alloc (Nat.le_refl _) _⟩
  · have h1' : n < 1 ∨ 16 < n := by omega
    rw [goodX_false ⟨p, n, c⟩ (by simp only; omega)]
    clear h1
    go_enter Try.func44, Try.ntmps44
    go_wp2_with fail
    refine (l1In_no _ _ _ _ h1').mono ?_
    rintro e w9 ⟨rfl, rfl⟩
    go_wp2
    go_ret
    exact ⟨rfl, (Below.refl _ _).alloc (Nat.le_refl _) _⟩
set_option maxHeartbeats 1000000 in
theorem goesOn_any (p n c b q : Int) (w : World) (hp : 0 ≤ p ∧ p ≤ 16) (hn : 0 ≤ n ∧ n ≤ 16) (hc : 0 ≤ c ∧ c ≤ 10000) :
    Calls Try.prog 52 #[.agg #[.int .i64 p, .int .i64 n, .int .i64 c], .int .i64 b, .int .i64 q] w fun e w' => e = .returned (.bool (decide (p + n = b ∧ c + n = q))) ∧ Below w.heap.size w w' := by
  obtain ⟨p0, p1⟩ := hp
  obtain ⟨n0, n1⟩ := hn
  obtain ⟨c0, c1⟩ := hc
  by_cases h1 : b = p + n
  · by_cases h2 : q = c + n
    · have hv : decide (p + n = b ∧ c + n = q) = true := decide_eq_true ⟨h1.symm, h2.symm⟩
      rw [hv]; clear hv
      have hd1 : (b == p + n) = true := beq_iff_eq.2 h1
      have hd2 : (q == c + n) = true := beq_iff_eq.2 h2
      clear h1 h2
      go_enter Try.func52, Try.ntmps52
      go_wp2
      go_ret
      exact ⟨rfl, (Below.refl _ _).alloc (Nat.le_refl _) _⟩
    · have hv : decide (p + n = b ∧ c + n = q) = false := decide_eq_false (by omega)
      rw [hv]; clear hv
      have hd1 : (b == p + n) = true := beq_iff_eq.2 h1
      have hd2 : (q == c + n) = false := beq_eq_false_iff_ne.2 h2
      clear h1 h2
      go_enter Try.func52, Try.ntmps52
      go_wp2
      go_ret
      exact ⟨rfl, (Below.refl _ _).alloc (Nat.le_refl _) _⟩
  · have hv : decide (p + n = b ∧ c + n = q) = false := decide_eq_false (by omega)
    rw [hv]; clear hv
    have hd1 : (b == p + n) = false := beq_eq_false_iff_ne.2 h1
    clear h1
    go_enter Try.func52, Try.ntmps52
    go_wp2
    go_ret
    exact ⟨rfl, (Below.refl _ _).alloc (Nat.le_refl _) _⟩
end Go.Proofs.Ytgipkpldlkmdkaa
