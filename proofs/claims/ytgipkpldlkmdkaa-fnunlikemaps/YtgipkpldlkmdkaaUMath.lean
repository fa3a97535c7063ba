/- Maps that are unlike, trimmed, shifted there and back: plain. -/
import Derived.Test.YtgipkpldlkmdkaaTellsM
namespace Go.Proofs.Ytgipkpldlkmdkaa
set_option maxRecDepth 100000
open Go.ChangeShapes Go.WideShapes Go.ChangeAt Go.RowKit G00541
theorem diffs_sym (f g : Nat → Int) (k : Nat) : diffs g f k = diffs f g k := by
  unfold diffs
  congr 1
  apply List.filter_congr
  intro b _
  by_cases h : f b = g b
  · rw [h]
  · rw [bne_iff_ne.2 h, bne_iff_ne.2 (fun e => h e.symm)]
theorem diffs_mem (f g : Nat → Int) (n : Nat) (k : Nat) (hk : k < n) : decide ((k : Int) ∈ diffs f g n) = (f k != g k) := by
  unfold diffs
  by_cases h : f k = g k
  · have h1 : (f k != g k) = false := by rw [h]; simp
    rw [h1]
    refine decide_eq_false fun hm => ?_
    simp only [List.mem_map, List.mem_filter] at hm
    obtain ⟨b, ⟨_, hb⟩, e⟩ := hm
    obtain rfl : b = k := by omega
    rw [h1] at hb; cases hb
  · have h1 : (f k != g k) = true := bne_iff_ne.2 h
    rw [h1]
    refine decide_eq_true ?_
    simp only [List.mem_map, List.mem_filter, List.mem_range]
    exact ⟨k, ⟨hk, h1⟩, rfl⟩
theorem diffs_nil (f g : Nat → Int) (n : Nat) (h : diffs f g n = []) (b : Nat) (hb : b < n) : f b = g b := by
  have := diffs_mem f g n b hb
  rw [h] at this
  have h1 : (f b != g b) = false := by rw [← this]; rfl
  rcases Classical.em (f b = g b) with h2 | h2
  · exact h2
  · rw [bne_iff_ne.2 h2] at h1; cases h1
theorem diffs_none (l m : List Sx) (hl : goodM l = true) (hm : goodM m = true) : ((diffs (plN l) (plN m) 16).length : Int) == 0 ↔ l = m := by
  constructor
  · intro h
    have h0 : (diffs (plN l) (plN m) 16).length = 0 := by
      have := eq_of_beq h
      omega
    have hd := diffs_nil _ _ 16 (List.eq_nil_of_length_eq_zero h0)
    rw [← map_back l hl, ← map_back m hm]
    exact mapF_ext _ _ 16 hd
  · rintro rfl
    have : diffs (plN l) (plN l) 16 = [] := by
      unfold diffs
      have : (List.range 16).filter (fun b => plN l b != plN l b) = [] := by
        rw [List.filter_eq_nil_iff]
        intro b _
        simp
      rw [this]; rfl
    rw [this]; rfl
theorem diffs_len_beq (l m : List Sx) (hl : goodM l = true) (hm : goodM m = true) : (((diffs (plN l) (plN m) 16).length : Int) == 0) = decide (l = m) := by
  by_cases h : l = m
  · rw [decide_eq_true h]; exact (diffs_none l m hl hm).2 h
  · rw [decide_eq_false h]
    cases e : (((diffs (plN l) (plN m) 16).length : Int) == 0)
    · rfl
    · exact absurd ((diffs_none l m hl hm).1 e) h
theorem trim_again (l : List Sx) (p n : Nat) (hg : goodM l = true) : mapF (cutF (plN (mapF (cutF (plN l) p n) 16)) p n) 16 = mapF (cutF (plN l) p n) 16 := by
  refine mapF_ext _ _ 16 fun b hb => ?_
  have := places_map (cutF (plN l) p n) (cutF_range _ _ _ (plN_range l hg)) b hb
  unfold cutF at this ⊢
  by_cases h : p ≤ b ∧ b < p + n
  · rw [if_pos h, if_pos h]
  · rw [if_neg h] at this
    rw [if_neg h, if_neg h]
    exact this
theorem trim_within (l : List Sx) (p n : Nat) (hg : goodM l = true) (x : Int) (hx : x ∈ diffs (plN l) (plN (mapF (cutF (plN l) p n) 16)) 16) : (p : Int) ≤ x ∧ x < p + n := by
  unfold diffs at hx
  simp only [List.mem_map, List.mem_filter, List.mem_range] at hx
  obtain ⟨b, ⟨hb, hne⟩, rfl⟩ := hx
  have := places_map (cutF (plN l) p n) (cutF_range _ _ _ (plN_range l hg)) b hb
  rw [this] at hne
  unfold cutF at hne
  by_cases h : p ≤ b ∧ b < p + n
  · omega
  · rw [if_neg h] at hne; simp at hne
/-- shifted by d and by -d again: as it was -/
theorem shift_back (l : List Sx) (d : Int) (hg : goodM l = true) (ho : okS (plN l) 0 10000 d = true) :
    okS (plN (mapF (shF (plN l) 0 10000 d 16) 16)) 0 10000 (-d) = true ∧ mapF (shF (plN (mapF (shF (plN l) 0 10000 d 16) 16)) 0 10000 (-d) 16) 16 = l := by
  have hF := plN_range l hg
  have hok : ∀ b, b < 16 → okAt (plN l) 0 10000 d b = true := fun b hb => by
    unfold okS at ho
    rw [List.all_eq_true] at ho
    exact ho b (List.mem_range.2 hb)
  have hr := shF_range (plN l) 0 10000 d hF hok
  have hy : ∀ b, b < 16 → plN (mapF (shF (plN l) 0 10000 d 16) 16) b = shF (plN l) 0 10000 d 16 b := fun b hb => places_map _ hr b hb
  have hpt : ∀ b, b < 16 → (0 ≤ plN l b → plN (mapF (shF (plN l) 0 10000 d 16) 16) b = plN l b + d ∧ 0 ≤ plN l b + d ∧ plN l b + d ≤ 10000) ∧ (plN l b < 0 → plN (mapF (shF (plN l) 0 10000 d 16) 16) b = plN l b) := fun b hb => by
    have h1 := hF b hb
    have h2 := of_decide_eq_true (hok b hb)
    rw [hy b hb]
    unfold shF
    constructor
    · intro h
      rw [if_pos ⟨hb, h, h1.2⟩]
      refine ⟨rfl, ?_⟩
      rcases h2 with h2 | h2
      · exact absurd ⟨h, h1.2⟩ h2
      · exact h2
    · intro h
      rw [if_neg (by omega)]
  constructor
  · refine okS_good _ _ _ _ fun b hb => ?_
    unfold okAt
    refine decide_eq_true ?_
    have h1 := hF b hb
    rcases Classical.em (0 ≤ plN l b) with h | h
    · have := (hpt b hb).1 h
      right; omega
    · have := (hpt b hb).2 (by omega)
      left; omega
  · have e : mapF (shF (plN (mapF (shF (plN l) 0 10000 d 16) 16)) 0 10000 (-d) 16) 16 = mapF (plN l) 16 := mapF_ext _ _ 16 fun b hb => by
      have h1 := hF b hb
      unfold shF
      rcases Classical.em (0 ≤ plN l b) with h | h
      · have := (hpt b hb).1 h
        rw [if_pos (by unfold shF at this; omega)]
        unfold shF at this
        omega
      · have := (hpt b hb).2 (by omega)
        unfold shF at this
        rw [if_neg (by omega)]
        omega
    rw [e]
    exact map_back l hg
end Go.Proofs.Ytgipkpldlkmdkaa
