/- Both sides' NewMarks. -/
import Derived.Test.YtndcnilkibfbpaaKWith
import Derived.Test.YtndcnilkibfbpaaIn
namespace Go.Proofs.Ytndcnilkibfbpaa
set_option maxRecDepth 100000
open Go Go.ChangeShapes Go.WideShapes Go.ChangeAt Go.RowKit
set_option maxHeartbeats 400000 in
theorem copyLayers_nil (a : Option Addr) (cap : Nat) (w : World) : Calls Try.prog 45 #[.slice a 0 cap] w fun e w' => CpK [] w e w' := by
  go_enter Try.func45, Try.ntmps45
  go_wp2
  go_loop [3, 8] (fun t i => t = .slice none 0 0 ∧ i = .int .i64 0) (fun _ _ => 0)
  case atStart => exact ⟨rfl, rfl⟩
  case round =>
    obtain ⟨rfl, rfl⟩ := hrel
    go_wp2
    go_ret
    exact ⟨_, [], rfl, rfl, KG.nil _ _, Below.refl _ _⟩
theorem MOut.owns {o : Option (List Ly)} {w : World} {e : Ending} {w' : World} (h : MOut o w e w') : ∃ b c, e = .returned (.tuple #[.agg #[.slice b (o.getD []).length c], .bool o.isSome]) ∧ OwnK w.heap.size w'.heap.size b (o.getD []) w' ∧ Below w.heap.size w w' := by
  cases o with
  | none => obtain ⟨h1, h2⟩ := h; exact ⟨none, 0, h1, Or.inl rfl, h2⟩
  | some V => obtain ⟨b, c, h1, h2, h3, _⟩ := h; exact ⟨b, c, h1, h2, h3⟩
/-- marks and true that can be read, or nothing and false -/
def MSay (o : Option (List Ly)) (w : World) (e : Ending) (w' : World) : Prop := match o with
  | some V => ∃ b c, e = .returned (.tuple #[.agg #[.slice b V.length c], .bool true]) ∧ Ys w'.heap.size b V w' ∧ Below w.heap.size w w'
  | none => e = .returned (.tuple #[.agg #[.slice none 0 0], .bool false]) ∧ Below w.heap.size w w'
theorem MSay.says {o : Option (List Ly)} {w : World} {e : Ending} {w' : World} (h : MSay o w e w') : ∃ b c, e = .returned (.tuple #[.agg #[.slice b (o.getD []).length c], .bool o.isSome]) ∧ Ys w'.heap.size b (o.getD []) w' ∧ Below w.heap.size w w' := by
  cases o with
  | none => obtain ⟨h1, h2⟩ := h; exact ⟨none, 0, h1, fun h0 => absurd h0 (by simp), h2⟩
  | some V => obtain ⟨b, c, h1, h2, h3⟩ := h; exact ⟨b, c, h1, h2, h3⟩
theorem wt_snoc (S : List Ly) (y : Ly) : wtK (S ++ [y]) = wtK S + wtY y := by unfold wtK; rw [List.map_append, List.sum_append_nat]; simp
theorem wt_le (S : List Ly) (hy : ∀ y ∈ S, wtY y ≤ 33) : wtK S ≤ S.length * 33 := by
  unfold wtK
  induction S with
  | nil => exact Nat.zero_le _
  | cons y l ih =>
    rw [List.map_cons, List.sum_cons, List.length_cons]
    have h1 := hy y (by simp)
    have h2 := ih (fun z hz => hy z (List.mem_cons_of_mem _ hz))
    omega
theorem good_wt {S : List Ly} (h : GoodK S) : wtK S ≤ 400 := by
  obtain ⟨_, h8, hall⟩ := h
  have hy : ∀ y ∈ S, wtY y ≤ 33 := fun y hy => by
    obtain ⟨k, hk, rfl⟩ := List.getElem_of_mem hy
    obtain ⟨_, _, _, hr, hl, _⟩ := hall k hk
    have hb : S[k].bl.length ≤ 16 := by
      have key : ∀ n, n ≤ S[k].bl.length → ∀ (h : n - 1 < S[k].bl.length), 0 < n → (n : Int) - 1 ≤ S[k].bl[n - 1] := by
        intro n
        induction n with
        | zero => intro _ _ h0; exact absurd h0 (Nat.lt_irrefl _)
        | succ n ih =>
          intro hn h _
          rcases Nat.eq_zero_or_pos n with rfl | h0
          · have := (hr 0 (by omega)).2.1
            show ((0 + 1 : Nat) : Int) - 1 ≤ S[k].bl[0]
            omega
          · obtain ⟨i, rfl⟩ : ∃ i, n = i + 1 := ⟨n - 1, by omega⟩
            have h1 := ih (by omega) (by omega) (by omega)
            have h2 := (hr (i + 1) (by omega)).1
            rw [aheadI_at _ _ (by omega)] at h2
            show ((i + 1 + 1 : Nat) : Int) - 1 ≤ S[k].bl[i + 1]
            have h3 : ((i + 1 : Nat) : Int) - 1 ≤ S[k].bl[i] := h1
            omega
      rcases Nat.eq_zero_or_pos S[k].bl.length with h0 | h0
      · omega
      · have h1 := key S[k].bl.length (Nat.le_refl _) (by omega) h0
        have h2 := (hr (S[k].bl.length - 1) (by omega)).2.2
        omega
    unfold wtY
    omega
  have := wt_le S hy
  omega
theorem good_fit {S : List Ly} (h : GoodK S) : FitK S := by have := good_wt h; unfold FitK; omega
theorem withK_fit (S : List Ly) (m : Int) (_h : True) : FitK ((withK S m).getD []) := by
  unfold withK
  split
  · rename_i h; exact good_fit (goodK_iff.1 h)
  · show wtK [] ≤ _; decide
set_option maxHeartbeats 1000000 in
theorem inew_any (m : Int) (w : World) : Calls Try.prog 10 #[.int .i64 m] w fun e w' => MOut (withK [] m) w e w' := by
  have HB0 := hid (Bx.start w (.cells #[.slice none 0 0] 24))
  have hz0 : (w.alloc (.cells #[.slice none 0 0] 24)).heap.size = w.heap.size + 1 := heap_size _ _
  have HC := hid (withLayer_any none 0 [] m (w.alloc (.cells #[.slice none 0 0] 24)) (by decide) (fun k h => absurd h (Nat.not_lt_zero _)) (fun v _ => copyLayers_nil none 0 v))
  generalize withK [] m = o at *
  generalize hW : w.alloc (.cells #[.slice none 0 0] 24) = W at *
  go_enter Try.func10, Try.ntmps10
  go_wp2_with fail
  clear hW
  cases o with
  | none =>
    refine HC.out.mono ?_
    rintro e w2 ⟨rfl, b2⟩
    have HB2 := hid (HB0.out.on b2)
    have z0 : w2.cell? ⟨w.heap.size, 0, none⟩ = some (.slice none 0 0) := box_cell HB2.out.box 0
    have f0 : w2.frozen? ⟨w.heap.size, 0, none⟩ = false := box_free HB2.out.box 0
    have e0 : (w2.setCell ⟨w.heap.size, 0, none⟩ (.slice none 0 0)).cell? ⟨w.heap.size, 0, none⟩ = some (.slice none 0 0) := World.cell?_setCell_same _ _ _ z0
    have HB7 := hid (setB HB2.out.below w.heap.size 0 (Nat.le_refl _) (.slice none 0 0))
    clear b2 HC
    go_wp2_with fail
    generalize w2.setCell ⟨w.heap.size, 0, none⟩ (.slice none 0 0) = XX at *
    refine bodyPost_ret (v := .tuple #[.agg #[.slice none 0 0], .bool false]) (by simp [results, Try.results10, go_sem, e0]) rfl ?_
    exact ⟨rfl, HB7.out⟩
  | some V =>
    refine HC.out.mono ?_
    rintro e w2 ⟨b, c, rfl, o2, b2, k2⟩
    have HB2 := hid (HB0.out.on b2)
    have z0 : w2.cell? ⟨w.heap.size, 0, none⟩ = some (.slice none 0 0) := box_cell HB2.out.box 0
    have f0 : w2.frozen? ⟨w.heap.size, 0, none⟩ = false := box_free HB2.out.box 0
    have e0 : (w2.setCell ⟨w.heap.size, 0, none⟩ (.slice b V.length c)).cell? ⟨w.heap.size, 0, none⟩ = some (.slice b V.length c) := World.cell?_setCell_same _ _ _ z0
    have HB7 := hid (setB HB2.out.below w.heap.size 0 (Nat.le_refl _) (.slice b V.length c))
    have HO7 := hid (o2.set w.heap.size 0 (.slice b V.length c) (Or.inl (by omega)))
    have HZ7 : Hid ((w2.setCell ⟨w.heap.size, 0, none⟩ (.slice b V.length c)).heap.size = w2.heap.size) := by show (w2.setCell ⟨w.heap.size, 0, none⟩ (.slice b V.length c)).heap.size = w2.heap.size; simp [World.setCell]
    have HK2 := hid k2
    clear b2 HC o2 k2
    go_wp2_with fail
    generalize w2.setCell ⟨w.heap.size, 0, none⟩ (.slice b V.length c) = XX at *
    refine bodyPost_ret (v := .tuple #[.agg #[.slice b V.length c], .bool true]) (by simp [results, Try.results10, go_sem, e0]) rfl ?_
    refine ⟨b, c, rfl, ?_, HB7.out, HK2.out⟩
    rw [HZ7.out]
    exact HO7.out.low (by omega)
theorem withK_nil (m : Int) : withK [] m = if 0 ≤ m ∧ m ≤ 200 then some [⟨m, [], []⟩] else none := by
  unfold withK
  by_cases h : 0 ≤ m ∧ m ≤ 200
  · rw [if_pos h, if_pos]
    · rfl
    · refine goodK_iff.2 ⟨Nat.le_refl 1, show 1 ≤ 8 by omega, fun k hk => ?_⟩
      have : k = 0 := by simpa using hk
      subst this
      exact ⟨show (-1 : Int) < m by omega, h.1, h.2, (fun j hj => absurd hj (Nat.not_lt_zero _)), rfl, (fun j hj => absurd hj (Nat.not_lt_zero _))⟩
  · rw [if_neg h, if_neg]
    intro g
    have := (goodK_iff.1 g).2.2 0 (Nat.zero_lt_one)
    exact h ⟨this.2.1, this.2.2.1⟩
set_option maxHeartbeats 1000000 in
theorem snew_any (m : Int) (w : World) : Calls Try.prog 9 #[.int .i64 m] w fun e w' => MSay (withK [] m) w e w' := by
  rw [withK_nil]
  have HB0 := hid (Bx.start w (.cells #[.slice none 0 0] 24))
  have hz0 : (w.alloc (.cells #[.slice none 0 0] 24)).heap.size = w.heap.size + 1 := heap_size _ _
  generalize hW : w.alloc (.cells #[.slice none 0 0] 24) = W at *
  have z0 : W.cell? ⟨w.heap.size, 0, none⟩ = some (.slice none 0 0) := box_cell HB0.out.box 0
  have f0 : W.frozen? ⟨w.heap.size, 0, none⟩ = false := box_free HB0.out.box 0
  by_cases h : 0 ≤ m ∧ m ≤ 200
  · rw [if_pos h]
    have HI := hid (fun v => l1In_yes m 0 200 v h.1 h.2)
    clear h
    go_enter Try.func9, Try.ntmps9
    go_wp2_with fail
    clear hW
    refine (HI.out _).mono ?_
    rintro e w2 ⟨rfl, hw2⟩
    rw [hw2]
    clear hw2
    have b3 := boxB W (.cells #[.int .i64 m, .slice none 0 0, .slice none 0 0] 52)
    have hx3 : (W.alloc (.cells #[.int .i64 m, .slice none 0 0, .slice none 0 0] 52)).heap[W.heap.size]? = some (.cells #[.int .i64 m, .slice none 0 0, .slice none 0 0] 52) := heap_last _ _
    have hB3 := HB0.out.on b3
    have y0 : (W.alloc (.cells #[.int .i64 m, .slice none 0 0, .slice none 0 0] 52)).cell? ⟨w.heap.size, 0, none⟩ = some (.slice none 0 0) := box_cell hB3.box 0
    have g0 : (W.alloc (.cells #[.int .i64 m, .slice none 0 0, .slice none 0 0] 52)).frozen? ⟨w.heap.size, 0, none⟩ = false := box_free hB3.box 0
    have e0 : ((W.alloc (.cells #[.int .i64 m, .slice none 0 0, .slice none 0 0] 52)).setCell ⟨w.heap.size, 0, none⟩ (.slice (some ⟨W.heap.size, 0, none⟩) 1 1)).cell? ⟨w.heap.size, 0, none⟩ = some (.slice (some ⟨W.heap.size, 0, none⟩) 1 1) := World.cell?_setCell_same _ _ _ y0
    have HB7 := hid (setB hB3.below w.heap.size 0 (Nat.le_refl _) (.slice (some ⟨W.heap.size, 0, none⟩) 1 1))
    have hx4 : ((W.alloc (.cells #[.int .i64 m, .slice none 0 0, .slice none 0 0] 52)).setCell ⟨w.heap.size, 0, none⟩ (.slice (some ⟨W.heap.size, 0, none⟩) 1 1)).heap[W.heap.size]? = some (.cells #[.int .i64 m, .slice none 0 0, .slice none 0 0] 52) := (keepB _ _ _ _ _ (by omega)).trans hx3
    have hz4 : ((W.alloc (.cells #[.int .i64 m, .slice none 0 0, .slice none 0 0] 52)).setCell ⟨w.heap.size, 0, none⟩ (.slice (some ⟨W.heap.size, 0, none⟩) 1 1)).heap.size = W.heap.size + 1 := by simp [World.setCell]
    have HY : Hid (Ys ((W.alloc (.cells #[.int .i64 m, .slice none 0 0, .slice none 0 0] 52)).setCell ⟨w.heap.size, 0, none⟩ (.slice (some ⟨W.heap.size, 0, none⟩) 1 1)).heap.size (some ⟨W.heap.size, 0, none⟩) [⟨m, [], []⟩] ((W.alloc (.cells #[.int .i64 m, .slice none 0 0, .slice none 0 0] 52)).setCell ⟨w.heap.size, 0, none⟩ (.slice (some ⟨W.heap.size, 0, none⟩) 1 1))) := fun _ => by
      refine ⟨W.heap.size, 0, rfl, by rw [hz4]; omega, fun i hi => ?_⟩
      have : i = 0 := by simpa using hi
      subst this
      exact ⟨none, 0, none, 0, box_cell hx4 0, box_cell hx4 1, box_cell hx4 2, ⟨fun h0 => absurd h0 (by simp)⟩, ⟨fun h0 => absurd h0 (by simp)⟩⟩
    clear hx3 hx4 hB3 b3 hz4 hz0
    go_wp2_with fail
    generalize (W.alloc (.cells #[.int .i64 m, .slice none 0 0, .slice none 0 0] 52)).setCell ⟨w.heap.size, 0, none⟩ (.slice (some ⟨W.heap.size, 0, none⟩) 1 1) = XX at *
    refine bodyPost_ret (v := .tuple #[.agg #[.slice (some ⟨W.heap.size, 0, none⟩) 1 1], .bool true]) (by simp [results, Try.results9, go_sem, e0]) rfl ?_
    exact ⟨_, _, rfl, HY.out, HB7.out⟩
  · rw [if_neg h]
    have HI := hid (fun v => l1In_no m 0 200 v (by omega))
    clear h
    have e0 : (W.setCell ⟨w.heap.size, 0, none⟩ (.slice none 0 0)).cell? ⟨w.heap.size, 0, none⟩ = some (.slice none 0 0) := World.cell?_setCell_same _ _ _ z0
    have HB7 := hid (setB HB0.out.below w.heap.size 0 (Nat.le_refl _) (.slice none 0 0))
    go_enter Try.func9, Try.ntmps9
    go_wp2_with fail
    clear hW
    refine (HI.out _).mono ?_
    rintro e w2 ⟨rfl, hw2⟩
    rw [hw2]
    clear hw2
    go_wp2_with fail
    generalize W.setCell ⟨w.heap.size, 0, none⟩ (.slice none 0 0) = XX at *
    refine bodyPost_ret (v := .tuple #[.agg #[.slice none 0 0], .bool false]) (by simp [results, Try.results9, go_sem, e0]) rfl ?_
    exact ⟨rfl, HB7.out⟩
end Go.Proofs.Ytndcnilkibfbpaa
