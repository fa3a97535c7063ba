/- Walk of the model's SetMark. -/
import Derived.Test.YtndcnilkibfbpaaKSet
namespace Go.Proofs.Ytndcnilkibfbpaa
set_option maxRecDepth 100000
open Go Go.ChangeShapes Go.WideShapes Go.ChangeAt Go.RowKit
/-- the cell of the last mark -/
theorem last_cell {a : Option Addr} {S : List Ly} {n B : Nat} {v : World} (hn : S.length = n + 1) (h : Ys B a S v) : ∃ b off, a = some ⟨b, off, none⟩ ∧ b < B ∧ v.cell? ⟨b, off + n * 3, none⟩ = some (.int .i64 (lastM S)) := by
  obtain ⟨b, off, e, hb, hcl⟩ := h (by omega)
  obtain ⟨_, _, _, _, c0, _⟩ := hcl n (by omega)
  refine ⟨b, off, e, hb, ?_⟩
  rw [c0]
  have h1 : lastM S = S[n].mark := by
    rw [← aheadM_at S n (by omega)]
    unfold lastM
    rw [← hn]
  rw [h1]
set_option maxHeartbeats 2000000 in
theorem sset_no (a : Option Addr) (cap : Nat) (S : List Ly) (w : World) (hn : S.length ≤ 1048576) (hf : ∀ k (h : k < S.length), S[k].bl.length ≤ 1048576) (hG : Ys w.heap.size a S w) (hS : setK S = none) :
    Calls Try.prog 20 #[.agg #[.slice a S.length cap]] w fun e w' => QOut S none w e w' := by
  have HB := hid (B2.start w (.slice a S.length cap))
  have HCG : Hid (∀ v, Below w.heap.size w v → Calls Try.prog 15 #[.agg #[.slice a S.length cap]] v fun e w' => e = .returned (.bool (goodK S)) ∧ Below v.heap.size v w') := fun v g => sgoodK_any a cap S v hn hf ((hG.below g).mono g.size)
  have HY := hid hG
  clear hG hf
  generalize hW : (w.alloc (.cells #[.slice a S.length cap] 24)).alloc (.cells #[.slice none 0 0] 24) = W at *
  obtain ⟨x0, -, -⟩ := HB.out.cells
  cases hg : goodK S
  · rw [hg] at HCG
    clear hg hS
    go_enter Try.func20, Try.ntmps20
    go_wp2_with fail
    clear hW
    refine (HCG.out _ HB.out.below).mono ?_
    rintro e w2 ⟨rfl, b2⟩
    have HB2 := hid (HB.out.on b2)
    clear b2 x0 HCG
    obtain ⟨x0, z0, f0⟩ := HB2.out.cells
    have e0 : (w2.setCell ⟨w.heap.size + 1, 0, none⟩ (.slice none 0 0)).cell? ⟨w.heap.size + 1, 0, none⟩ = some (.slice none 0 0) := World.cell?_setCell_same _ _ _ z0
    have HB7 := hid (setB HB2.out.below (w.heap.size + 1) 0 (by omega) (.slice none 0 0))
    go_wp2_with fail
    generalize w2.setCell ⟨w.heap.size + 1, 0, none⟩ (.slice none 0 0) = XX at *
    refine bodyPost_ret (v := .tuple #[.agg #[.slice none 0 0], .int .i64 0, .bool false]) (by simp [results, Try.results20, go_sem, e0]) rfl ?_
    exact ⟨rfl, HB7.out⟩
  rw [hg] at HCG
  have hgk := goodK_iff.1 hg
  have hno : S.length = 8 ∨ lastM S = 200 := by
    have h1 : withK S (lastM S + 1) = none := by unfold setK at hS; rw [if_pos hg] at hS; exact hS
    rw [withK_good hgk] at h1
    by_cases hc : S.length ≠ 8 ∧ lastM S ≠ 200
    · rw [if_pos hc] at h1; cases h1
    · by_cases h8 : S.length = 8
      · exact Or.inl h8
      · exact Or.inr (by by_cases h2 : lastM S = 200; exact h2; exact absurd ⟨h8, h2⟩ hc)
  obtain ⟨n, hnn⟩ : ∃ n, S.length = n + 1 := ⟨S.length - 1, by have := hgk.1; omega⟩
  obtain ⟨b, off, rfl, hb, hlc⟩ := last_cell hnn HY.out
  rw [hnn] at HCG HB x0 hW hno ⊢
  have hnb : n ≤ 7 := by have := hgk.2.1; omega
  clear hg hgk hS HY hn hnn
  generalize lastM S = qm at *
  go_enter Try.func20, Try.ntmps20
  go_wp2_with fail
  clear hW
  refine (HCG.out _ HB.out.below).mono ?_
  rintro e w2 ⟨rfl, b2⟩
  have HB2 := hid (HB.out.on b2)
  rw [← HB2.out.below.cell (p := ⟨b, off + n * 3, none⟩) hb] at hlc
  clear b2 x0 HCG
  obtain ⟨x0, z0, f0⟩ := HB2.out.cells
  have e0 : (w2.setCell ⟨w.heap.size + 1, 0, none⟩ (.slice none 0 0)).cell? ⟨w.heap.size + 1, 0, none⟩ = some (.slice none 0 0) := World.cell?_setCell_same _ _ _ z0
  have HB7 := hid (setB HB2.out.below (w.heap.size + 1) 0 (by omega) (.slice none 0 0))
  by_cases h8 : n + 1 = 8
  · have d1 : (((n + 1 : Nat) : Int) == 8) = true := beq_iff_eq.2 (by omega)
    have d2 : decide (((n + 1 : Nat) : Int) = 8) = true := decide_eq_true (by omega)
    have d3 : ((n : Int) + 1 == 8) = true := beq_iff_eq.2 (by omega)
    have d4 : decide (n = 7) = true := decide_eq_true (by omega)
    have d5 : (n == 7) = true := beq_iff_eq.2 (by omega)
    clear hno h8
    go_wp2_with fail
    generalize w2.setCell ⟨w.heap.size + 1, 0, none⟩ (.slice none 0 0) = XX at *
    refine bodyPost_ret (v := .tuple #[.agg #[.slice none 0 0], .int .i64 0, .bool false]) (by simp [results, Try.results20, go_sem, e0]) rfl ?_
    exact ⟨rfl, HB7.out⟩
  · obtain rfl : qm = 200 := by rcases hno with h | h; exact absurd h h8; exact h
    have d1 : (((n + 1 : Nat) : Int) == 8) = false := beq_eq_false_iff_ne.2 (by omega)
    have d2 : decide (((n + 1 : Nat) : Int) = 8) = false := decide_eq_false (by omega)
    have d3 : ((n : Int) + 1 == 8) = false := beq_eq_false_iff_ne.2 (by omega)
    have d4 : decide (n = 7) = false := decide_eq_false (by omega)
    have d5 : (n == 7) = false := beq_eq_false_iff_ne.2 (by omega)
    clear hno h8
    go_wp2_with fail
    generalize w2.setCell ⟨w.heap.size + 1, 0, none⟩ (.slice none 0 0) = XX at *
    refine bodyPost_ret (v := .tuple #[.agg #[.slice none 0 0], .int .i64 0, .bool false]) (by simp [results, Try.results20, go_sem, e0]) rfl ?_
    exact ⟨rfl, HB7.out⟩
theorem is_set {w : World} {Q : Nat} {x : Option Addr} {y z : Nat} {t : TypeId} {b : Option Addr} {l : List Int} (h : Is w.heap.size b l w) (hq : w.heap[Q]? = some (.cells #[.slice x y z] t)) (u : Value) : Is (w.setCell ⟨Q, 0, none⟩ u).heap.size b l (w.setCell ⟨Q, 0, none⟩ u) := by
  have hz : (w.setCell ⟨Q, 0, none⟩ u).heap.size = w.heap.size := by simp [World.setCell]
  refine ⟨fun h0 => ?_⟩
  obtain ⟨R, off, e, hR, hc⟩ := GSl.cell h h0
  have hne : R ≠ Q := fun e2 => by
    subst e2
    have h1 := hc 0 h0 0 (by decide)
    rw [List.getElem_map, box_cell hq] at h1
    rcases (show off = 0 ∨ 1 ≤ off by omega) with r | r
    · subst r; cases h1
    · rw [Array.getElem?_eq_none (by simp; omega)] at h1; cases h1
  refine ⟨R, off, e, by rw [hz]; exact hR, fun i hi j hj => ?_⟩
  have hb := keepB w Q 0 u R hne
  have : ∀ o, (w.setCell ⟨Q, 0, none⟩ u).cell? ⟨R, o, none⟩ = w.cell? ⟨R, o, none⟩ := fun o => by unfold World.cell?; simp only [hb]
  rw [this]
  exact hc i hi j hj
theorem ss_set {w : World} {Q : Nat} {x : Option Addr} {y z : Nat} {t : TypeId} {b : Option Addr} {l : List ByteArray} (h : Ss w.heap.size b l w) (hq : w.heap[Q]? = some (.cells #[.slice x y z] t)) (u : Value) : Ss (w.setCell ⟨Q, 0, none⟩ u).heap.size b l (w.setCell ⟨Q, 0, none⟩ u) := by
  have hz : (w.setCell ⟨Q, 0, none⟩ u).heap.size = w.heap.size := by simp [World.setCell]
  refine ⟨fun h0 => ?_⟩
  obtain ⟨R, off, e, hR, hc⟩ := GSl.cell h h0
  have hne : R ≠ Q := fun e2 => by
    subst e2
    have h1 := hc 0 h0 0 (by decide)
    rw [List.getElem_map, box_cell hq] at h1
    rcases (show off = 0 ∨ 1 ≤ off by omega) with r | r
    · subst r; cases h1
    · rw [Array.getElem?_eq_none (by simp; omega)] at h1; cases h1
  refine ⟨R, off, e, by rw [hz]; exact hR, fun i hi j hj => ?_⟩
  have hb := keepB w Q 0 u R hne
  have : ∀ o, (w.setCell ⟨Q, 0, none⟩ u).cell? ⟨R, o, none⟩ = w.cell? ⟨R, o, none⟩ := fun o => by unfold World.cell?; simp only [hb]
  rw [this]
  exact hc i hi j hj
theorem ys_set {w : World} {Q : Nat} {x : Option Addr} {y z : Nat} {t : TypeId} {b : Option Addr} {V : List Ly} (h : Ys w.heap.size b V w) (hq : w.heap[Q]? = some (.cells #[.slice x y z] t)) (u : Value) : Ys (w.setCell ⟨Q, 0, none⟩ u).heap.size b V (w.setCell ⟨Q, 0, none⟩ u) := fun h0 => by
  have hz : (w.setCell ⟨Q, 0, none⟩ u).heap.size = w.heap.size := by simp [World.setCell]
  obtain ⟨R, off, e, hR, hc⟩ := h h0
  have hne : R ≠ Q := fun e2 => by
    subst e2
    obtain ⟨_, _, _, _, c0, _⟩ := hc 0 h0
    rw [box_cell hq, Nat.zero_mul, Nat.add_zero] at c0
    rcases (show off = 0 ∨ 1 ≤ off by omega) with r | r
    · subst r; cases c0
    · rw [Array.getElem?_eq_none (by simp; omega)] at c0; cases c0
  have hb := keepB w Q 0 u R hne
  have hcc : ∀ o, (w.setCell ⟨Q, 0, none⟩ u).cell? ⟨R, o, none⟩ = w.cell? ⟨R, o, none⟩ := fun o => by unfold World.cell?; simp only [hb]
  refine ⟨R, off, e, by rw [hz]; exact hR, fun i hi => ?_⟩
  obtain ⟨p, c, q, d, c0, c1, c2, h1, h2⟩ := hc i hi
  exact ⟨p, c, q, d, (hcc _).trans c0, (hcc _).trans c1, (hcc _).trans c2, is_set h1 hq u, ss_set h2 hq u⟩
set_option maxHeartbeats 4000000 in
theorem sset_yes (a : Option Addr) (cap : Nat) (S : List Ly) (w : World) (hG : Ys w.heap.size a S w) (hgk : GoodK S) (h8 : S.length ≠ 8) (h200 : lastM S ≠ 200) :
    Calls Try.prog 20 #[.agg #[.slice a S.length cap]] w fun e w' => ∃ b c, e = .returned (.tuple #[.agg #[.slice b (S.length + 1) c], .int .i64 (lastM S), .bool true]) ∧ Ys w'.heap.size b (S ++ [⟨lastM S + 1, [], []⟩]) w' ∧ Below w.heap.size w w' := by
  have hfit := good_fit hgk
  have HB := hid (B2.start w (.slice a S.length cap))
  have HCG : Hid (∀ v, Below w.heap.size w v → Calls Try.prog 15 #[.agg #[.slice a S.length cap]] v fun e w' => e = .returned (.bool true) ∧ Below v.heap.size v w') := fun v g => by
    have := sgoodK_any a cap S v hfit.len hfit.bl ((hG.below g).mono g.size)
    rw [goodK_iff.2 hgk] at this
    exact this
  have HCO : Hid (∀ v, Below w.heap.size w v → Calls Try.prog 40 #[.agg #[.slice a S.length cap]] v fun e w' => CpM S v e w') := fun v g => l7Own_any a cap S v (good_small hgk) ((hG.below g).mono g.size)
  have hq : 0 ≤ lastM S ∧ lastM S ≤ 200 := by
    have h1 := hgk.2.2 (S.length - 1) (by have := hgk.1; omega)
    rw [lastM_at (by have := hgk.1; omega)]
    exact ⟨h1.2.1, h1.2.2.1⟩
  obtain ⟨n, hnn⟩ : ∃ n, S.length = n + 1 := ⟨S.length - 1, by have := hgk.1; omega⟩
  obtain ⟨b, off, rfl, hb, hlc⟩ := last_cell hnn hG
  have hnb : n ≤ 6 := by have := hgk.2.1; omega
  have d1 : (((n + 1 : Nat) : Int) == 8) = false := beq_eq_false_iff_ne.2 (by omega)
  have d2 : decide (((n + 1 : Nat) : Int) = 8) = false := decide_eq_false (by omega)
  have d3 : ((n : Int) + 1 == 8) = false := beq_eq_false_iff_ne.2 (by omega)
  have d4 : decide (n = 7) = false := decide_eq_false (by omega)
  have d5 : (n == 7) = false := beq_eq_false_iff_ne.2 (by omega)
  have d6 : (lastM S == 200) = false := beq_eq_false_iff_ne.2 h200
  have d7 : decide (lastM S = 200) = false := decide_eq_false h200
  have HNN := hid hnn
  rw [hnn] at HCG HB HCO ⊢
  clear hG hgk h8 h200 hnn hfit
  generalize hW : (w.alloc (.cells #[.slice (some ⟨b, off, none⟩) (n + 1) cap] 24)).alloc (.cells #[.slice none 0 0] 24) = W at *
  obtain ⟨x0, -, -⟩ := HB.out.cells
  generalize hqq : lastM S = qm at *
  have HQM := hid hqq
  clear hqq
  have hwr : IntKind.i64.wrap (qm + 1) = qm + 1 := by rw [IntKind.wrap_i64]; omega
  go_enter Try.func20, Try.ntmps20
  go_wp2_with fail
  clear hW
  refine (HCG.out _ HB.out.below).mono ?_
  rintro e w2 ⟨rfl, b2⟩
  have HB2 := hid (HB.out.on b2)
  rw [← HB2.out.below.cell (p := ⟨b, off + n * 3, none⟩) hb] at hlc
  clear b2 x0 HCG
  obtain ⟨x0, -, -⟩ := HB2.out.cells
  go_wp2_with fail
  refine (HCO.out _ HB2.out.below).mono ?_
  rintro e w3 ⟨v, L, rfl, hL, hK, b3⟩
  clear hlc x0 HCO
  have hLn : L.length = n + 1 := by have := congrArg List.length hL; rw [List.length_map, HNN.out] at this; exact this
  have hrow := hK.row
  rw [hLn] at hrow
  obtain ⟨av, cv, rfl⟩ := rw_form hrow
  have hB3 := HB2.out.on b3
  have hs2 := HB2.out.size
  have hs3 := b3.size
  have b4 := boxB w3 (.cells #[.slice av (n + 1) cv] 24)
  have hB4 := hB3.on b4
  have hK4 := hK.on b4
  have hX4 : (w3.alloc (.cells #[.slice av (n + 1) cv] 24)).heap[w3.heap.size]? = some (.cells #[.slice av (n + 1) cv] 24) := heap_last _ _
  have hz4 : (w3.alloc (.cells #[.slice av (n + 1) cv] 24)).heap.size = w3.heap.size + 1 := heap_size _ _
  have hbl : (Value.slice av (n + 1) cv).ownBlock ≠ some w3.heap.size := fun e => by have := (hK.row.lt _ e).2; omega
  generalize hW4 : w3.alloc (.cells #[.slice av (n + 1) cv] 24) = W4 at *
  obtain ⟨a9, c9, e9, hO9, hc9⟩ := hK4.own
  injection e9 with e9 e9b e9c
  clear e9b e9c
  subst e9
  rw [hL] at hO9
  obtain ⟨bo, oo, rfl, hbo, hco⟩ := last_cell HNN.out hO9.ys
  rw [HQM.out] at hco
  have b5 := boxB W4 (.cells #[.int .i64 (qm + 1), .slice none 0 0, .slice none 0 0] 52)
  have hz5 : (W4.alloc (.cells #[.int .i64 (qm + 1), .slice none 0 0, .slice none 0 0] 52)).heap.size = W4.heap.size + 1 := heap_size _ _
  obtain ⟨v6, w6, z6, r6, hG6, gr6, b6⟩ := hK4.grow (w1 := W4.alloc (.cells #[.int .i64 (qm + 1), .slice none 0 0, .slice none 0 0] 52)) (by omega) b5 W4.heap.size 1 (qm + 1) none none [] [] 0 0 (heap_last _ _) ⟨W4.heap.size, Nat.le_refl _, b5.size, Or.inl rfl, Or.inl rfl⟩ (by omega)
  obtain ⟨b7, c7, e7, hO7, hc7⟩ := hG6.own
  have hl7 : (L ++ [((⟨qm + 1, [], []⟩ : Ly), z6)]).length = n + 2 := by simp [hLn]
  have hm7 : (L ++ [((⟨qm + 1, [], []⟩ : Ly), z6)]).map (·.1) = S ++ [⟨qm + 1, [], []⟩] := by rw [List.map_append, hL]; rfl
  rw [hl7] at e7
  subst e7
  rw [hm7] at hO7
  have hB6 : B2 w (.slice (some ⟨b, off, none⟩) (n + 1) cap) w6 :=
    ⟨(hB4.on b5).below.trans (b6.mono (by omega)), (b6.block _ (by omega)).trans (hB4.on b5).x, (b6.block _ (by omega)).trans (hB4.on b5).z⟩
  have hX6 : w6.heap[w3.heap.size]? = some (.cells #[.slice (some ⟨bo, oo, none⟩) (n + 1) cv] 24) := (gr6.block _ (by omega) (fun e => hbl e.symm)).trans ((b5.block _ (by omega)).trans hX4)
  have hy7 := ys_set hO7.ys hX6 (.slice b7 (n + 2) c7)
  have hz7 : (w6.setCell ⟨w3.heap.size, 0, none⟩ (.slice b7 (n + 2) c7)).heap[w.heap.size + 1]? = some (.cells #[.slice none 0 0] 24) := (keepB _ _ _ _ _ (by omega)).trans hB6.z
  have HY8 := hid (ys_set hy7 hz7 (.slice b7 (n + 2) c7))
  have x4 : W4.cell? ⟨w3.heap.size, 0, none⟩ = some (.slice (some ⟨bo, oo, none⟩) (n + 1) cv) := box_cell hX4 0
  have x6 : w6.cell? ⟨w3.heap.size, 0, none⟩ = some (.slice (some ⟨bo, oo, none⟩) (n + 1) cv) := box_cell hX6 0
  have f6 : w6.frozen? ⟨w3.heap.size, 0, none⟩ = false := box_free hX6 0
  have x7 : (w6.setCell ⟨w3.heap.size, 0, none⟩ (.slice b7 (n + 2) c7)).cell? ⟨w3.heap.size, 0, none⟩ = some (.slice b7 (n + 2) c7) := World.cell?_setCell_same _ _ _ x6
  have z7 : (w6.setCell ⟨w3.heap.size, 0, none⟩ (.slice b7 (n + 2) c7)).cell? ⟨w.heap.size + 1, 0, none⟩ = some (.slice none 0 0) := box_cell hz7 0
  have g7 : (w6.setCell ⟨w3.heap.size, 0, none⟩ (.slice b7 (n + 2) c7)).frozen? ⟨w.heap.size + 1, 0, none⟩ = false := box_free hz7 0
  have e0 : ((w6.setCell ⟨w3.heap.size, 0, none⟩ (.slice b7 (n + 2) c7)).setCell ⟨w.heap.size + 1, 0, none⟩ (.slice b7 (n + 2) c7)).cell? ⟨w.heap.size + 1, 0, none⟩ = some (.slice b7 (n + 2) c7) := World.cell?_setCell_same _ _ _ z7
  have HB8 := hid (setB (setB hB6.below w3.heap.size 0 (by omega) (.slice b7 (n + 2) c7)) (w.heap.size + 1) 0 (by omega) (.slice b7 (n + 2) c7))
  have hpw := pred_wrap n (by omega)
  have e8 : n + 2 = n + 1 + 1 := rfl
  clear hO7 hy7 hz7 hB6 hX6 hX4 hB4 hB3 hK4 hK hrow hG6 gr6 b6 b5 b4 b3 hO9 hc9 hc7 hz4 hz5 hl7 hm7 hL hLn hbl e8 hs2 hs3
  go_wp2_with (at_builtin; refine wpList_append_run rfl (.tmp 41) (.tmp 45) 22 rfl _ _ rfl rfl _ _ r6 ?_)
  generalize (w6.setCell ⟨w3.heap.size, 0, none⟩ (.slice b7 (n + 2) c7)).setCell ⟨w.heap.size + 1, 0, none⟩ (.slice b7 (n + 2) c7) = XX at *
  refine bodyPost_ret (v := .tuple #[.agg #[.slice b7 (n + 2) c7], .int .i64 qm, .bool true]) (by simp [results, Try.results20, go_sem, e0]) rfl ?_
  exact ⟨b7, c7, rfl, HY8.out, HB8.out⟩
theorem sset_any (a : Option Addr) (cap : Nat) (S : List Ly) (w : World) (hn : S.length ≤ 1048576) (hf : ∀ k (h : k < S.length), S[k].bl.length ≤ 1048576) (hG : Ys w.heap.size a S w) :
    Calls Try.prog 20 #[.agg #[.slice a S.length cap]] w fun e w' => ∃ b c, e = .returned (.tuple #[.agg #[.slice b ((setK S).getD []).length c], .int .i64 (setQ S), .bool (setK S).isSome]) ∧ Ys w'.heap.size b ((setK S).getD []) w' ∧ Below w.heap.size w w' := by
  cases ho : setK S with
  | none =>
    refine (sset_no a cap S w hn hf hG ho).mono fun e w' h => ?_
    obtain ⟨h1, h2⟩ := h
    refine ⟨none, 0, ?_, fun h0 => absurd h0 (by simp), h2⟩
    rw [h1]
    unfold setQ
    rw [ho]
    rfl
  | some V =>
    have hgs : goodK S = true := by
      cases hg : goodK S
      · unfold setK at ho; rw [if_neg (by rw [hg]; decide)] at ho; cases ho
      · rfl
    have hgk := goodK_iff.1 hgs
    have h1 : withK S (lastM S + 1) = some V := by unfold setK at ho; rw [if_pos hgs] at ho; exact ho
    rw [withK_good hgk] at h1
    by_cases hc : S.length ≠ 8 ∧ lastM S ≠ 200
    · rw [if_pos hc] at h1
      injection h1 with h1
      subst h1
      refine (sset_yes a cap S w hG hgk hc.1 hc.2).mono fun e w' h => ?_
      obtain ⟨b, c, e1, h2, h3⟩ := h
      refine ⟨b, c, ?_, h2, h3⟩
      rw [e1]
      unfold setQ
      rw [ho]
      have hl : (S ++ [(⟨lastM S + 1, [], []⟩ : Ly)]).length = S.length + 1 := by simp
      show _ = Ending.returned (.tuple #[.agg #[.slice b (S ++ [(⟨lastM S + 1, [], []⟩ : Ly)]).length c], .int .i64 (lastM S), .bool true])
      rw [hl]
    · rw [if_neg hc] at h1; cases h1
end Go.Proofs.Ytndcnilkibfbpaa
