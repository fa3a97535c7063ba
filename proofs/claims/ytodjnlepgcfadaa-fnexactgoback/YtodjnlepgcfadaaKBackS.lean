/- The model's GoBack. -/
import Derived.Test.YtodjnlepgcfadaaKBackI
import Derived.Test.YtodjnlepgcfadaaKSetS
import Derived.Test.YtodjnlepgcfadaaKZ
import Derived.Deep.DeepCutAuto
namespace Go.Proofs.Ytodjnlepgcfadaa
set_option maxRecDepth 100000
open Go Go.ChangeShapes Go.WideShapes Go.ChangeAt Go.RowKit
theorem kvals_len (L : List (Ly × LA)) : (kvals L).length = L.length * 3 := by
  induction L with
  | nil => rfl
  | cons z L ih =>
    have : kvals (z :: L) = kcells z ++ kvals L := rfl
    rw [this, List.length_append, ih, List.length_cons]
    show 3 + L.length * 3 = _
    omega
theorem kvals_app (L M : List (Ly × LA)) : kvals (L ++ M) = kvals L ++ kvals M := by simp [kvals]
theorem kvals_take (L : List (Ly × LA)) (j : Nat) (h : j ≤ L.length) : (kvals L).take (j * 3) = kvals (L.take j) := by
  have hl : (L.take j).length = j := by simp; omega
  have e : kvals L = kvals (L.take j) ++ kvals (L.drop j) := by rw [← kvals_app, List.take_append_drop]
  rw [e, List.take_left' (by rw [kvals_len, hl])]
/-- the first layers of a row of one's own -/
theorem KG.take {lo R n c : Nat} {L : List (Ly × LA)} {w : World} (h : KG lo (.slice (some ⟨R, 0, none⟩) n c) L w) (j : Nat) (hj : j ≤ L.length) : KG lo (.slice (some ⟨R, 0, none⟩) j c) (L.take j) w := by
  have hl : (L.take j).length = j := by simp; omega
  have hi : ∀ i, i < (L.take j).length → i < L.length := fun i h => by omega
  have he : ∀ i (g : i < (L.take j).length), (L.take j)[i] = L[i]'(hi i g) := fun i g => by simp
  refine ⟨?_, fun i g => ?_, fun i g => ?_, fun i k g g' => ?_, fun i k g g' => ?_, fun i k g g' => ?_⟩
  · obtain ⟨hx, ⟨h1, _⟩ | ⟨g, cp, cur, h1, h2, h3, h4, h5, h6, h7⟩⟩ := h.row
    · cases h1
    · injection h1 with h1 h1b h1c
      refine ⟨by rw [kvals_len], Or.inr ⟨g, cp, cur, by rw [h1, hl, h1c], h2, h3, by omega, h5, h6, ?_⟩⟩
      rw [hl, ← kvals_take L j hj, ← h7, List.take_take, Nat.min_eq_left (by omega)]
  · rw [he i g]; exact h.ownB i (hi i g)
  · rw [he i g]; exact h.ownD i (hi i g)
  · rw [he i g, he k g']; exact h.bb i k (hi i g) (hi k g')
  · rw [he i g, he k g']; exact h.dd i k (hi i g) (hi k g')
  · rw [he i g, he k g']; exact h.bd i k (hi i g) (hi k g')
set_option maxHeartbeats 1000000 in
theorem sback_no (a : Option Addr) (cap : Nat) (S : List Ly) (m : Int) (w : World) (hn : S.length ≤ 1048576) (hf : ∀ k (h : k < S.length), S[k].bl.length ≤ 1048576) (hG : Ys w.heap.size a S w) (hno : ¬ (goodK S = true ∧ fndK S m < S.length)) :
    Calls Try.prog 5 #[.agg #[.slice a S.length cap], .int .i64 m] w fun e w' => MOut (backK S m) w e w' := by
  rw [backK_no hno]
  have HB := hid (B2.start w (.slice a S.length cap))
  have HCG : Hid (∀ v, Below w.heap.size w v → Calls Try.prog 12 #[.agg #[.slice a S.length cap]] v fun e w' => e = .returned (.bool (goodK S)) ∧ Below v.heap.size v w') := fun v g => sgoodK_any a cap S v hn hf ((hG.below g).mono g.size)
  have HFD : Hid (∀ v, Below w.heap.size w v → Calls Try.prog 13 #[.agg #[.slice a S.length cap], .int .i64 m] v fun e w' => e = .returned (.int .i64 (fk S m)) ∧ Below v.heap.size v w') := fun v g => l7Find_any a cap S m v hn ((hG.below g).mono g.size)
  clear hG hf hn
  generalize hW : (w.alloc (.cells #[.slice a S.length cap] 28)).alloc (.cells #[.slice none 0 0] 28) = W at *
  obtain ⟨x0, -, -⟩ := HB.out.cells
  cases hg : goodK S
  · rw [hg] at HCG
    clear hg hno HFD
    go_enter Try.func5, Try.ntmps5
    go_wp2_with fail
    clear hW
    refine (HCG.out _ HB.out.below).mono ?_
    rintro e w2 ⟨rfl, b2⟩
    have HB2 := hid (HB.out.on b2)
    clear b2 x0 HCG
    obtain ⟨x0, z0, f0⟩ := HB2.out.cells
    have e0 : (w2.setCell ⟨w.heap.size + 1, 0, none⟩ (.slice none 0 0)).cell? ⟨w.heap.size + 1, 0, none⟩ = some (.slice none 0 0) := World.cell?_setCell_same _ _ _ z0
    have HB7 := hid (setB HB2.out.below (w.heap.size + 1) 0 (by omega) (.slice none 0 0))
    go_wp2_with fail
    generalize w2.setCell ⟨w.heap.size + 1, 0, none⟩ (.slice none 0 0) = XX at *
    refine bodyPost_ret (v := .tuple #[.agg #[.slice none 0 0], .bool false]) (by simp [results, Try.results5, go_sem, e0]) rfl ?_
    exact ⟨rfl, HB7.out⟩
  · rw [fk_none (fun h => hno ⟨hg, h⟩)] at HFD
    rw [hg] at HCG
    clear hg hno
    go_enter Try.func5, Try.ntmps5
    go_wp2_with fail
    clear hW
    refine (HCG.out _ HB.out.below).mono ?_
    rintro e w1 ⟨rfl, b1⟩
    have HB1 := hid (HB.out.on b1)
    clear b1 x0 HCG
    obtain ⟨x0, -, -⟩ := HB1.out.cells
    go_wp2_with fail
    refine (HFD.out _ HB1.out.below).mono ?_
    rintro e w2 ⟨rfl, b2⟩
    have HB2 := hid (HB1.out.on b2)
    clear b2 x0 HFD
    obtain ⟨x0, z0, f0⟩ := HB2.out.cells
    have e0 : (w2.setCell ⟨w.heap.size + 1, 0, none⟩ (.slice none 0 0)).cell? ⟨w.heap.size + 1, 0, none⟩ = some (.slice none 0 0) := World.cell?_setCell_same _ _ _ z0
    have HB7 := hid (setB HB2.out.below (w.heap.size + 1) 0 (by omega) (.slice none 0 0))
    go_wp2_with fail
    generalize w2.setCell ⟨w.heap.size + 1, 0, none⟩ (.slice none 0 0) = XX at *
    refine bodyPost_ret (v := .tuple #[.agg #[.slice none 0 0], .bool false]) (by simp [results, Try.results5, go_sem, e0]) rfl ?_
    exact ⟨rfl, HB7.out⟩
set_option maxHeartbeats 3000000 in
theorem sback_yes (a : Option Addr) (cap : Nat) (S : List Ly) (m : Int) (w : World) (hG : Ys w.heap.size a S w) (hg : goodK S = true) (hfd : fndK S m < S.length) :
    Calls Try.prog 5 #[.agg #[.slice a S.length cap], .int .i64 m] w fun e w' => MOut (backK S m) w e w' := by
  have hgk := goodK_iff.1 hg
  have hsm := good_small hgk
  have hfit := good_fit hgk
  rw [backK_yes hg hfd]
  have HB := hid (B2.start w (.slice a S.length cap))
  have HCG : Hid (∀ v, Below w.heap.size w v → Calls Try.prog 12 #[.agg #[.slice a S.length cap]] v fun e w' => e = .returned (.bool true) ∧ Below v.heap.size v w') := fun v g => by
    have := sgoodK_any a cap S v hfit.len hfit.bl ((hG.below g).mono g.size)
    rw [hg] at this
    exact this
  obtain ⟨k, hk⟩ : ∃ k, k = fndK S m := ⟨_, rfl⟩
  have HFD : Hid (∀ v, Below w.heap.size w v → Calls Try.prog 13 #[.agg #[.slice a S.length cap], .int .i64 m] v fun e w' => e = .returned (.int .i64 (k : Int)) ∧ Below v.heap.size v w') := fun v g => by
    have := l7Find_any a cap S m v hfit.len ((hG.below g).mono g.size)
    rw [fk_at hfd, ← hk] at this
    exact this
  have HCO : Hid (∀ v, Below w.heap.size w v → Calls Try.prog 14 #[.agg #[.slice a S.length cap]] v fun e w' => CpM S v e w') := fun v g => l7Own_any a cap S v hsm ((hG.below g).mono g.size)
  rw [← hk] at hfd ⊢
  have hq : 0 ≤ lastM S ∧ lastM S ≤ 200 := by
    have h1 := hgk.2.2 (S.length - 1) (by have := hgk.1; omega)
    rw [lastM_at (by have := hgk.1; omega)]
    exact ⟨h1.2.1, h1.2.2.1⟩
  obtain ⟨n, hnn⟩ : ∃ n, S.length = n + 1 := ⟨S.length - 1, by have := hgk.1; omega⟩
  have hnb : n ≤ 7 := by have := hgk.2.1; omega
  obtain ⟨j, hj⟩ : ∃ j, j = k + 1 := ⟨_, rfl⟩
  have hjn : j ≤ n + 1 := by omega
  have hwk : IntKind.i64.wrap ((k : Int) + 1) = (j : Int) := by rw [IntKind.wrap_i64]; omega
  have hd0 : decide ((k : Int) < 0) = false := decide_eq_false (by omega)
  have HTL : Hid ((S.take j ++ [(⟨lastM S + 1, [], []⟩ : Ly)]).length = j + 1) := by show _ = _; simp; omega
  have HTF : Hid (∀ i (h : i < (S.take j ++ [(⟨lastM S + 1, [], []⟩ : Ly)]).length), (S.take j ++ [(⟨lastM S + 1, [], []⟩ : Ly)])[i].bl.length ≤ 1048576) := fun i hi => by
    rcases snoc_at (S.take j) ⟨lastM S + 1, [], []⟩ i hi with ⟨h', e⟩ | ⟨_, e⟩
    · rw [e]; have := (hsm.take j).bl i h'; omega
    · rw [e]; exact Nat.zero_le _
  have HWK : Hid (withK (S.take (k + 1)) (lastM S + 1) = if goodK (S.take j ++ [⟨lastM S + 1, [], []⟩]) = true then some (S.take j ++ [⟨lastM S + 1, [], []⟩]) else none) := by show _ = _; rw [hj]; rfl
  rw [HWK.out]
  have HNN := hid hnn
  rw [hnn] at HCG HB HCO HFD ⊢
  have HLC := hid (fun (b : Option Addr) (B : Nat) (v : World) => last_cell (a := b) (B := B) (v := v) hnn)
  clear hG hgk hfit hnn hfd hg HWK hk hsm
  generalize hW : (w.alloc (.cells #[.slice a (n + 1) cap] 28)).alloc (.cells #[.slice none 0 0] 28) = W at *
  obtain ⟨x0, -, -⟩ := HB.out.cells
  generalize hqq : lastM S = qm at *
  have HQM := hid hqq
  clear hqq
  have hwr : IntKind.i64.wrap (qm + 1) = qm + 1 := by rw [IntKind.wrap_i64]; omega
  have hpw := pred_wrap n (by omega)
  have hjk : j ≤ 8 := by omega
  obtain ⟨T, hT⟩ : ∃ T, T = S.take j ++ [(⟨qm + 1, [], []⟩ : Ly)] := ⟨_, rfl⟩
  rw [← hT] at HTL HTF ⊢
  have HTT := hid hT
  clear hT
  obtain ⟨o, ho⟩ : ∃ o, o = (if goodK T = true then some T else none) := ⟨_, rfl⟩
  rw [← ho]
  have HOO := hid ho
  clear ho
  clear hq hj
  go_enter Try.func5, Try.ntmps5
  go_wp2_with fail
  clear hW
  refine (HCG.out _ HB.out.below).mono ?_
  rintro e w1 ⟨rfl, b1⟩
  have HB1 := hid (HB.out.on b1)
  clear b1 x0 HCG HB
  obtain ⟨x0, -, -⟩ := HB1.out.cells
  go_wp2_with fail
  refine (HFD.out _ HB1.out.below).mono ?_
  rintro e w2 ⟨rfl, b2⟩
  have HB2 := hid (HB1.out.on b2)
  clear b2 x0 HB1
  obtain ⟨x0, -, -⟩ := HB2.out.cells
  go_wp2_with fail
  refine (HCO.out _ HB2.out.below).mono ?_
  rintro e w3 ⟨v, L, rfl, hL, hK, b3⟩
  clear x0 HCO
  have hLn : L.length = n + 1 := by have := congrArg List.length hL; rw [List.length_map, HNN.out] at this; exact this
  obtain ⟨R, cv, hRv⟩ : ∃ R cv, v = .slice (some ⟨R, 0, none⟩) (n + 1) cv := by
    obtain ⟨_, ⟨_, h1⟩ | ⟨g, cp, cur, h1, _⟩⟩ := hK.row
    · omega
    · exact ⟨g, cp, by rw [h1, hLn]⟩
  subst hRv
  have hcv : n + 1 ≤ cv := by have := (rw_cap hK.row).1; omega
  have hB3 := HB2.out.on b3
  have hs2 := HB2.out.size
  have hs3 := b3.size
  have b4 := boxB w3 (.cells #[.slice (some ⟨R, 0, none⟩) (n + 1) cv] 28)
  have hB4 := hB3.on b4
  have hK4 := hK.on b4
  have hX4 : (w3.alloc (.cells #[.slice (some ⟨R, 0, none⟩) (n + 1) cv] 28)).heap[w3.heap.size]? = some (.cells #[.slice (some ⟨R, 0, none⟩) (n + 1) cv] 28) := heap_last _ _
  have hz4 : (w3.alloc (.cells #[.slice (some ⟨R, 0, none⟩) (n + 1) cv] 28)).heap.size = w3.heap.size + 1 := heap_size _ _
  have hbl : (Value.slice (some ⟨R, 0, none⟩) j cv).ownBlock ≠ some w3.heap.size := fun e => by have := (hK.row.lt _ e).2; omega
  generalize hW4 : w3.alloc (.cells #[.slice (some ⟨R, 0, none⟩) (n + 1) cv] 28) = W4 at *
  obtain ⟨a9, c9, e9, hO9, hc9⟩ := hK4.own
  injection e9 with e9 e9b e9c
  clear e9b e9c
  subst e9
  rw [hL] at hO9
  obtain ⟨bo, oo, eo, hbo, hco⟩ := HLC.out _ _ _ hO9.ys
  injection eo with eo
  injection eo with eo1 eo2 eo3
  subst eo1
  subst eo2
  rw [Nat.zero_add] at hco
  have hKt := hK4.take j (by omega)
  have x4 : W4.cell? ⟨w3.heap.size, 0, none⟩ = some (.slice (some ⟨R, 0, none⟩) (n + 1) cv) := box_cell hX4 0
  have HKT := hid hKt
  have HB4 := hid hB4
  have HX4 := hid hX4
  have HBL := hid hbl
  have HLJ : Hid ((L.take j).length = j) := by show _ = _; simp; omega
  have HMJ : Hid ((L.take j).map (·.1) = S.take j) := by show _ = _; rw [List.map_take, hL]
  have HS4 : Hid (w.heap.size + 3 ≤ W4.heap.size ∧ w3.heap.size < W4.heap.size ∧ w2.heap.size ≤ w3.heap.size ∧ w.heap.size + 2 ≤ w2.heap.size) := ⟨by omega, by omega, by omega, by omega⟩
  clear hKt hK4 hK hB4 hB3 hX4 hbl hO9 hc9 b4 b3 hL HLC HB2
  go_upto_region 5 with fail
  clear hW4
  clear hco x4
  go_cut [] (fun wc => ∃ b7 c7, wc.heap[w3.heap.size]? = some (.cells #[.slice b7 (j + 1) c7] 28) ∧ Ys wc.heap.size b7 T wc ∧ B2 w (.slice a (n + 1) cap) wc)
  case first =>
    have HT : Hid (∀ v : World, v.heap[w3.heap.size]? = some (.cells #[.slice (some ⟨R, 0, none⟩) (n + 1) cv] 28) → B2 w (.slice a (n + 1) cap) v → (v.cell? ⟨w3.heap.size, 0, none⟩ = some (.slice (some ⟨R, 0, none⟩) (n + 1) cv) ∧ v.cell? ⟨w.heap.size, 0, none⟩ = some (.slice a (n + 1) cap))) := fun v h1 h2 => ⟨box_cell h1 0, h2.cells.1⟩
    obtain ⟨hs40, hs41, hs42, hs43⟩ := HS4.out
    have g0 : Below W4.heap.size W4 W4.drew := (Below.refl _ _).drew
    have HDZ : Hid (W4.drew.heap.size = W4.heap.size) := rfl
    have B5 := HB4.out.on g0
    have X5 := (g0.block _ hs41).trans HX4.out
    have K5 := HKT.out.on g0
    have hT0 := HT.out _ X5 B5
    have gB := boxB W4.drew (.cells #[.int .i64 (qm + 1), .slice none 0 0, .slice none 0 0] 41)
    have B5b := B5.on gB
    have X5b : (W4.drew.alloc (.cells #[.int .i64 (qm + 1), .slice none 0 0, .slice none 0 0] 41)).heap[w3.heap.size]? = some (.cells #[.slice (some ⟨R, 0, none⟩) (n + 1) cv] 28) := (gB.block _ hs41).trans X5
    have hT0b := HT.out _ X5b B5b
    have L5b : (W4.drew.alloc (.cells #[.int .i64 (qm + 1), .slice none 0 0, .slice none 0 0] 41)).heap[W4.drew.heap.size]? = some (.cells #[.int .i64 (qm + 1), .slice none 0 0, .slice none 0 0] 41) := heap_last W4.drew _
    refine wp_region_L ((fun v : World => v.cell? ⟨w3.heap.size, 0, none⟩ = some (.slice (some ⟨R, 0, none⟩) (n + 1) cv) ∧ v.cell? ⟨w.heap.size, 0, none⟩ = some (.slice a (n + 1) cap))) 13 (by kernel_rfl) ?_
    generalize W4.drew = Wd at *
    have hHeld := hT0
    refine wpAnyL_take (i := 0) (v := .pointer (some ⟨w3.heap.size, 0, none⟩)) (C := [0, 1, 6, 11, 13]) rfl (by kernel_rfl) (fun _ _ _ h => h) (Or.inl ⟨by rfl, fun _ _ => by go_simp⟩) hHeld ?_
    dsimp only [Act.put]
    refine wpAnyL_take (i := 1) (v := .slice (some ⟨R, 0, none⟩) (n + 1) cv) (C := [1, 6, 11, 13]) rfl (by kernel_rfl) (fun _ _ _ h => h) (Or.inl ⟨by rfl, fun u hu => by obtain ⟨hu1, hu2⟩ := hu; go_simp⟩) hHeld ?_
    dsimp only [Act.put]
    refine wpAnyL_take (i := 2) (v := .agg #[.slice a (n + 1) cap]) (C := [2, 4, 5, 6, 11, 13]) rfl (by kernel_rfl) (fun _ _ _ h => h) (Or.inl ⟨by rfl, fun u hu => by obtain ⟨hu1, hu2⟩ := hu; go_simp⟩) hHeld ?_
    dsimp only [Act.put]
    refine wpAnyL_take (i := 3) (v := .int .i64 m) (C := [3, 4, 5, 6, 11, 13]) rfl (by kernel_rfl) (fun _ _ _ h => h) (Or.inl ⟨by rfl, fun _ _ => by go_simp⟩) hHeld ?_
    dsimp only [Act.put]
    refine wpAnyL_take (i := 7) (v := .int .i64 qm) (C := [7, 8, 9, 10, 11, 13]) rfl (by kernel_rfl) (fun _ _ _ h => h) (Or.inl ⟨by rfl, fun _ _ => by go_simp⟩) hHeld ?_
    dsimp only [Act.put]
    refine wpAnyL_take (i := 8) (v := .int .i64 (qm + 1)) (C := [8, 9, 10, 11, 13]) rfl (by kernel_rfl) (fun _ _ _ h => h) (Or.inl ⟨by rfl, fun _ _ => by go_simp⟩) hHeld ?_
    dsimp only [Act.put]
    refine wpAnyL_take (i := 9) (v := .agg #[.int .i64 (qm + 1), .slice none 0 0, .slice none 0 0]) (C := [9, 10, 11, 13]) rfl (by kernel_rfl) (fun _ _ _ h => h) (Or.inl ⟨by rfl, fun _ _ => by go_simp⟩) hHeld ?_
    dsimp only [Act.put]
    refine wpAnyL_two (i := 4) (j := 10) (by kernel_rfl) rfl rfl (fun K hK => ?_) (fun K hK => ?_)
    · rw [if_pos (by rfl)]
      go_simp
      go_wp2_with (go_at_call 13; refine (HFD.out _ B5.below).mono ?_; rintro e w5 ⟨rfl, g5⟩)
      have B6 := B5.on g5
      have X6 : w5.heap[w3.heap.size]? = some (.cells #[.slice (some ⟨R, 0, none⟩) (n + 1) cv] 28) := (g5.block _ (by have := HDZ.out; omega)).trans X5
      have K6 := K5.on g5
      have s5 : W4.heap.size ≤ w5.heap.size := by have := HDZ.out; have := g5.size; omega
      have hT5 := HT.out _ X6 B6
      refine hK.out _ _ (fun _ => hT5) ?_
      clear hK K hHeld
      have hHeld := hT5
      try dsimp only [Act.put]
      refine wpAnyL_take (i := 5) (v := .int .i64 (j : Int)) (C := [5, 6, 11, 13]) rfl (by kernel_rfl) (fun _ _ _ h => h) (Or.inl ⟨by rfl, fun _ _ => by go_simp⟩) hHeld ?_
      dsimp only [Act.put]
      refine wpAnyL_take (i := 6) (v := .slice (some ⟨R, 0, none⟩) j cv) (C := [6, 11, 13]) rfl (by kernel_rfl) (fun _ _ _ h => h) (Or.inl ⟨by rfl, fun _ _ => by go_simp; intro hq; exact absurd hq (by omega)⟩) hHeld ?_
      dsimp only [Act.put]
      have gL := boxB w5 (.cells #[.int .i64 (qm + 1), .slice none 0 0, .slice none 0 0] 41)
      have B7 := B6.on gL
      have X7 : (w5.alloc (.cells #[.int .i64 (qm + 1), .slice none 0 0, .slice none 0 0] 41)).heap[w3.heap.size]? = some (.cells #[.slice (some ⟨R, 0, none⟩) (n + 1) cv] 28) := (gL.block _ (by omega)).trans X6
      have hT7 := HT.out _ X7 B7
      refine wpAnyL_one (i := 10) (by kernel_rfl) rfl (fun K hK => ?_)
      rw [if_pos (by rfl)]
      go_simp
      refine hK.out _ _ (fun _ => hT7) ?_
      clear hK K hHeld
      have hHeld := hT7
      obtain ⟨v6, w6, z6, r6, hG6, gr6, b6⟩ := K6.grow (w1 := w5.alloc (.cells #[.int .i64 (qm + 1), .slice none 0 0, .slice none 0 0] 41)) (by have := HDZ.out; omega) gL w5.heap.size 1 (qm + 1) none none [] [] 0 0 (heap_last _ _) ⟨(w5.alloc (.cells #[.int .i64 (qm + 1), .slice none 0 0, .slice none 0 0] 41)).heap.size, gL.size, Nat.le_refl _, Or.inl rfl, Or.inl rfl⟩ (by have := HLJ.out; omega)
      obtain ⟨b7, c7, e7, hO7, hc7⟩ := hG6.own
      have hl7 : (L.take j ++ [((⟨qm + 1, [], []⟩ : Ly), z6)]).length = j + 1 := by have := HLJ.out; rw [List.length_append, this]; rfl
      have hm7 : (L.take j ++ [((⟨qm + 1, [], []⟩ : Ly), z6)]).map (·.1) = T := by rw [HTT.out, List.map_append, HMJ.out]; rfl
      rw [hl7] at e7
      subst e7
      rw [hm7] at hO7
      have hB6 : B2 w (.slice a (n + 1) cap) w6 := ⟨B7.below.trans (b6.mono (by omega)), (b6.block _ (by have := B7.size; omega)).trans B7.x, (b6.block _ (by have := B7.size; omega)).trans B7.z⟩
      have hX6 : w6.heap[w3.heap.size]? = some (.cells #[.slice (some ⟨R, 0, none⟩) (n + 1) cv] 28) := (gr6.block _ (Array.getElem?_eq_some_iff.1 X7).1 (fun e => HBL.out e.symm)).trans X7
      have hT6 := HT.out _ hX6 hB6
      have y7 := ys_set hO7.ys hX6 (.slice b7 (j + 1) c7)
      have x6 := hT6.1
      have f6 : w6.frozen? ⟨w3.heap.size, 0, none⟩ = false := box_free hX6 0
      have q7 := box_set hX6 0 (.slice b7 (j + 1) c7)
      have hB7 : B2 w (.slice a (n + 1) cap) (w6.setCell ⟨w3.heap.size, 0, none⟩ (.slice b7 (j + 1) c7)) := ⟨setB hB6.below w3.heap.size 0 (by omega) _, (keepB _ _ _ _ _ (by omega)).trans hB6.x, (keepB _ _ _ _ _ (by omega)).trans hB6.z⟩
      refine wpAnyL_one (i := 11) (by kernel_rfl) rfl (fun K hK => ?_)
      refine step_append_run rfl _ _ 26 rfl _ _ rfl rfl _ _ r6 ?_
      refine hK.out _ _ (fun _ => hT6) ?_
      clear hK K hHeld
      have hHeld := hT6
      dsimp only [Act.put]
      refine wpAnyL_take (i := 12) (v := .pointer (some ⟨w3.heap.size, 0, none⟩)) (C := [12, 13]) rfl (by kernel_rfl) (fun _ _ _ h => h) (Or.inl ⟨by rfl, fun _ _ => by go_simp⟩) hHeld ?_
      dsimp only [Act.put]
      refine wpAnyL_one (i := 13) (by kernel_rfl) rfl (fun K hK => ?_)
      rw [if_pos (by rfl)]
      go_simp
      refine hK.out _ _ (fun h => absurd rfl h) ?_
      clear hK K hHeld
      refine wpAnyL_done (by kernel_rfl) ?_
      clear hT6 hX6 hB6 x6 f6 r6 hG6 gr6 b6
      generalize w6.setCell ⟨w3.heap.size, 0, none⟩ (.slice b7 (j + 1) c7) = W7 at *
      go_wp2_with fail
      go_meet
      case rel => exact ⟨b7, c7, q7, y7, hB7⟩
    · rw [if_pos (by rfl)]
      go_simp
      refine hK.out _ _ (fun _ => hT0b) ?_
      clear hK K hHeld
      have hHeld := hT0b
      refine wpAnyL_one (i := 4) (by kernel_rfl) rfl (fun K hK => ?_)
      rw [if_pos (by rfl)]
      go_simp
      go_wp2_with (go_at_call 13; refine (HFD.out _ B5b.below).mono ?_; rintro e w5 ⟨rfl, g5⟩)
      have hzb : (Wd.alloc (.cells #[.int .i64 (qm + 1), .slice none 0 0, .slice none 0 0] 41)).heap.size = Wd.heap.size + 1 := heap_size Wd _
      have B6 := B5b.on g5
      have X6 : w5.heap[w3.heap.size]? = some (.cells #[.slice (some ⟨R, 0, none⟩) (n + 1) cv] 28) := (g5.block _ (by have := HDZ.out; omega)).trans X5b
      have L6 : w5.heap[Wd.heap.size]? = some (.cells #[.int .i64 (qm + 1), .slice none 0 0, .slice none 0 0] 41) := (g5.block _ (by omega)).trans L5b
      have gg : Below Wd.heap.size Wd w5 := gB.trans (g5.mono gB.size)
      have s5 : W4.heap.size ≤ w5.heap.size := by have := HDZ.out; have := g5.size; omega
      have hT5 := HT.out _ X6 B6
      refine hK.out _ _ (fun _ => hT5) ?_
      clear hK K hHeld
      have hHeld := hT5
      try dsimp only [Act.put]
      refine wpAnyL_take (i := 5) (v := .int .i64 (j : Int)) (C := [5, 6, 11, 13]) rfl (by kernel_rfl) (fun _ _ _ h => h) (Or.inl ⟨by rfl, fun _ _ => by go_simp⟩) hHeld ?_
      dsimp only [Act.put]
      refine wpAnyL_take (i := 6) (v := .slice (some ⟨R, 0, none⟩) j cv) (C := [6, 11, 13]) rfl (by kernel_rfl) (fun _ _ _ h => h) (Or.inl ⟨by rfl, fun _ _ => by go_simp; intro hq; exact absurd hq (by omega)⟩) hHeld ?_
      dsimp only [Act.put]
      obtain ⟨v6, w6, z6, r6, hG6, gr6, b6⟩ := K5.grow (w1 := w5) (by have := HDZ.out; omega) gg Wd.heap.size 1 (qm + 1) none none [] [] 0 0 L6 ⟨(w5).heap.size, gg.size, Nat.le_refl _, Or.inl rfl, Or.inl rfl⟩ (by have := HLJ.out; omega)
      obtain ⟨b7, c7, e7, hO7, hc7⟩ := hG6.own
      have hl7 : (L.take j ++ [((⟨qm + 1, [], []⟩ : Ly), z6)]).length = j + 1 := by have := HLJ.out; rw [List.length_append, this]; rfl
      have hm7 : (L.take j ++ [((⟨qm + 1, [], []⟩ : Ly), z6)]).map (·.1) = T := by rw [HTT.out, List.map_append, HMJ.out]; rfl
      rw [hl7] at e7
      subst e7
      rw [hm7] at hO7
      have hB6 : B2 w (.slice a (n + 1) cap) w6 := ⟨B6.below.trans (b6.mono (by omega)), (b6.block _ (by have := B6.size; omega)).trans B6.x, (b6.block _ (by have := B6.size; omega)).trans B6.z⟩
      have hX6 : w6.heap[w3.heap.size]? = some (.cells #[.slice (some ⟨R, 0, none⟩) (n + 1) cv] 28) := (gr6.block _ (Array.getElem?_eq_some_iff.1 X6).1 (fun e => HBL.out e.symm)).trans X6
      have hT6 := HT.out _ hX6 hB6
      have y7 := ys_set hO7.ys hX6 (.slice b7 (j + 1) c7)
      have x6 := hT6.1
      have f6 : w6.frozen? ⟨w3.heap.size, 0, none⟩ = false := box_free hX6 0
      have q7 := box_set hX6 0 (.slice b7 (j + 1) c7)
      have hB7 : B2 w (.slice a (n + 1) cap) (w6.setCell ⟨w3.heap.size, 0, none⟩ (.slice b7 (j + 1) c7)) := ⟨setB hB6.below w3.heap.size 0 (by omega) _, (keepB _ _ _ _ _ (by omega)).trans hB6.x, (keepB _ _ _ _ _ (by omega)).trans hB6.z⟩
      refine wpAnyL_one (i := 11) (by kernel_rfl) rfl (fun K hK => ?_)
      refine step_append_run rfl _ _ 26 rfl _ _ rfl rfl _ _ r6 ?_
      refine hK.out _ _ (fun _ => hT6) ?_
      clear hK K hHeld
      have hHeld := hT6
      dsimp only [Act.put]
      refine wpAnyL_take (i := 12) (v := .pointer (some ⟨w3.heap.size, 0, none⟩)) (C := [12, 13]) rfl (by kernel_rfl) (fun _ _ _ h => h) (Or.inl ⟨by rfl, fun _ _ => by go_simp⟩) hHeld ?_
      dsimp only [Act.put]
      refine wpAnyL_one (i := 13) (by kernel_rfl) rfl (fun K hK => ?_)
      rw [if_pos (by rfl)]
      go_simp
      refine hK.out _ _ (fun h => absurd rfl h) ?_
      clear hK K hHeld
      refine wpAnyL_done (by kernel_rfl) ?_
      clear hT6 hX6 hB6 x6 f6 r6 hG6 gr6 b6
      generalize w6.setCell ⟨w3.heap.size, 0, none⟩ (.slice b7 (j + 1) c7) = W7 at *
      go_wp2_with fail
      go_meet
      case rel => exact ⟨b7, c7, q7, y7, hB7⟩
  case rest =>
    obtain ⟨b7, c7, hq, hy, hb⟩ := hcut
    have HY := hid hy
    have HBc := hid hb
    have hsc := hb.size
    clear hy hb HKT HB4 HX4 HBL HLJ HMJ HFD
    have HG2 := hid (sgoodK_any b7 c7 T wc (by rw [HTL.out]; omega) HTF.out HY.out)
    have HO2 : Hid (goodK T = true → ∀ v, Below wc.heap.size wc v → Calls Try.prog 14 #[.agg #[.slice b7 T.length c7]] v fun e w' => CpM T v e w') := fun h v g => l7Own_any b7 c7 T v (good_small (goodK_iff.1 h)) ((HY.out.below g).mono g.size)
    rw [HTL.out] at HG2 HO2
    have q0 : wc.cell? ⟨w3.heap.size, 0, none⟩ = some (.slice b7 (j + 1) c7) := box_cell hq 0
    obtain ⟨hs40, hs41, hs42, hs43⟩ := HS4.out
    have hqlt : w3.heap.size < wc.heap.size := (Array.getElem?_eq_some_iff.1 hq).1
    clear HY HTF
    cases hgt : goodK T
    · rw [hgt] at HG2
      have HGT := hid hgt
      clear hgt HO2
      go_wp2_with fail
      refine HG2.out.mono ?_
      rintro e w8 ⟨rfl, b8⟩
      have HB8 := hid (HBc.out.on b8)
      clear b8 q0 HG2
      obtain ⟨x0, z0, f0⟩ := HB8.out.cells
      have e0 : (w8.setCell ⟨w.heap.size + 1, 0, none⟩ (.slice none 0 0)).cell? ⟨w.heap.size + 1, 0, none⟩ = some (.slice none 0 0) := World.cell?_setCell_same _ _ _ z0
      have HB9 := hid (setB HB8.out.below (w.heap.size + 1) 0 (by omega) (.slice none 0 0))
      go_wp2_with fail
      generalize w8.setCell ⟨w.heap.size + 1, 0, none⟩ (.slice none 0 0) = ZZ at *
      refine bodyPost_ret (v := .tuple #[.agg #[.slice none 0 0], .bool false]) (by simp [results, Try.results5, go_sem, e0]) rfl ?_
      rw [HOO.out, if_neg (by rw [HGT.out]; decide)]
      exact ⟨rfl, HB9.out⟩
    · rw [hgt] at HG2
      have HGT := hid hgt
      have HO3 := hid (HO2.out hgt)
      clear hgt HO2
      go_wp2_with fail
      refine HG2.out.mono ?_
      rintro e w8 ⟨rfl, b8⟩
      have HB8 := hid (HBc.out.on b8)
      have HC9 := hid (HO3.out _ b8)
      have q8 : w8.cell? ⟨w3.heap.size, 0, none⟩ = some (.slice b7 (j + 1) c7) := (b8.cell (p := ⟨w3.heap.size, 0, none⟩) hqlt).trans q0
      have hs8 := b8.size
      clear b8 q0 HG2 HO3
      go_wp2_with fail
      refine HC9.out.mono ?_
      rintro e w9 ⟨v9, L9, rfl, hL9, hK9, b9⟩
      have HB9 := hid (HB8.out.on b9)
      obtain ⟨a9, c9, e9, hO9, hc9⟩ := hK9.own
      have hl9 : L9.length = j + 1 := by have := congrArg List.length hL9; rw [List.length_map, HTL.out] at this; exact this
      rw [hL9] at hO9
      rw [hl9] at e9 hc9
      subst e9
      have HO9 := hid (hO9.set (w.heap.size + 1) 0 (.slice a9 (j + 1) c9) (Or.inl (by omega)))
      have HZ9 : Hid ((w9.setCell ⟨w.heap.size + 1, 0, none⟩ (.slice a9 (j + 1) c9)).heap.size = w9.heap.size) := by show (w9.setCell ⟨w.heap.size + 1, 0, none⟩ (.slice a9 (j + 1) c9)).heap.size = w9.heap.size; simp [World.setCell]
      have HC := hid hc9
      clear hK9 hO9 hc9 hL9 hl9 b9 q8 HC9
      obtain ⟨x0, z0, f0⟩ := HB9.out.cells
      have e0 : (w9.setCell ⟨w.heap.size + 1, 0, none⟩ (.slice a9 (j + 1) c9)).cell? ⟨w.heap.size + 1, 0, none⟩ = some (.slice a9 (j + 1) c9) := World.cell?_setCell_same _ _ _ z0
      have HB10 := hid (setB HB9.out.below (w.heap.size + 1) 0 (by omega) (.slice a9 (j + 1) c9))
      go_wp2_with fail
      generalize w9.setCell ⟨w.heap.size + 1, 0, none⟩ (.slice a9 (j + 1) c9) = ZZ at *
      refine bodyPost_ret (v := .tuple #[.agg #[.slice a9 (j + 1) c9], .bool true]) (by simp [results, Try.results5, go_sem, e0]) rfl ?_
      rw [HOO.out, if_pos HGT.out]
      exact ⟨a9, c9, by rw [HTL.out], (HO9.out.low (by omega)).high (by rw [HZ9.out]; exact Nat.le_refl _) (Nat.le_refl _), HB10.out, by rw [HTL.out]; exact HC.out⟩
theorem sback_any (a : Option Addr) (cap : Nat) (S : List Ly) (m : Int) (w : World) (hn : S.length ≤ 1048576) (hf : ∀ k (h : k < S.length), S[k].bl.length ≤ 1048576) (hG : Ys w.heap.size a S w) :
    Calls Try.prog 5 #[.agg #[.slice a S.length cap], .int .i64 m] w fun e w' => MOut (backK S m) w e w' := by
  by_cases h : goodK S = true ∧ fndK S m < S.length
  · exact sback_yes a cap S m w hG h.1 h.2
  · exact sback_no a cap S m w hn hf hG h
end Go.Proofs.Ytodjnlepgcfadaa
