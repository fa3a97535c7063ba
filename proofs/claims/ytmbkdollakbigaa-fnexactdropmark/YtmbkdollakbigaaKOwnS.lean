/- Walk of the model's l7Own. -/
import Derived.Test.YtmbkdollakbigaaKZ
namespace Go.Proofs.Ytmbkdollakbigaa
set_option maxRecDepth 100000
open Go Go.ChangeShapes Go.WideShapes Go.ChangeAt Go.RowKit
/-- three boxes of marks -/
structure O3 (w : World) (X : Value) (v : Value) (wr : World) : Prop where
  below : Below w.heap.size w wr
  x : wr.heap[w.heap.size]? = some (.cells #[X] 31)
  z : wr.heap[w.heap.size + 1]? = some (.cells #[.slice none 0 0] 31)
  y : wr.heap[w.heap.size + 1 + 1]? = some (.cells #[v] 31)
theorem O3.start (w : World) (X : Value) : O3 w X (.slice none 0 0) (((w.alloc (.cells #[X] 31)).alloc (.cells #[.slice none 0 0] 31)).alloc (.cells #[.slice none 0 0] 31)) := by
  refine ⟨(((Below.refl _ _).alloc (Nat.le_refl _) _).alloc (by simp) _).alloc (by simp; omega) _, ?_, heap_mid3 _ _ _ _, heap_last3 _ _ _ _⟩
  rw [Below.heap_alloc _ _ _ (by simp; omega), Below.heap_alloc _ _ _ (by simp)]
  exact heap_last _ _
theorem O3.size {w : World} {X v : Value} {wr : World} (h : O3 w X v wr) : w.heap.size + 3 ≤ wr.heap.size := by
  rcases Nat.lt_or_ge (w.heap.size + 1 + 1) wr.heap.size with h' | h'
  · omega
  · have := h.y
    rw [Array.getElem?_eq_none h'] at this; cases this
theorem O3.step {w : World} {X v : Value} {wr w' : World} (h : O3 w X v wr) (g : Below (w.heap.size + 3) wr w') : O3 w X v w' :=
  ⟨h.below.trans (g.mono (by omega)), (g.block _ (by omega)).trans h.x, (g.block _ (by omega)).trans h.z, (g.block _ (by omega)).trans h.y⟩
theorem O3.on {w : World} {X v : Value} {wr w' : World} (h : O3 w X v wr) (g : Below wr.heap.size wr w') : O3 w X v w' := h.step (g.mono h.size)
theorem O3.set {w : World} {X v : Value} {wr : World} (h : O3 w X v wr) (u : Value) : O3 w X u (wr.setCell ⟨w.heap.size + 1 + 1, 0, none⟩ u) :=
  ⟨setB h.below _ _ (by omega) _, (keepB _ _ _ _ _ (by omega)).trans h.x, (keepB _ _ _ _ _ (by omega)).trans h.z, box_set h.y 0 u⟩
/-- what a copy of marks leaves -/
def CpM (S : List Ly) (w : World) (e : Ending) (w' : World) : Prop := ∃ v L, e = .returned (.agg #[v]) ∧ L.map (·.1) = S ∧ KG w.heap.size v L w' ∧ Below w.heap.size w w'
set_option maxHeartbeats 8000000 in
theorem l7Own_any (a : Option Addr) (cap : Nat) (S : List Ly) (w : World) (hs : SmallK S) (hG : Ys w.heap.size a S w) :
    Calls Try.prog 32 #[.agg #[.slice a S.length cap]] w fun e w' => CpM S w e w' := by
  have HS := hid hs
  have HG := hid hG
  have hn := hs.n
  have HO := hid (O3.start w (.slice a S.length cap))
  clear hs hG
  generalize hW : (((w.alloc (.cells #[.slice a S.length cap] 31)).alloc (.cells #[.slice none 0 0] 31)).alloc (.cells #[.slice none 0 0] 31)) = W at *
  have x0 : W.cell? ⟨w.heap.size, 0, none⟩ = some (.slice a S.length cap) := box_cell HO.out.x 0
  go_enter Try.func32, Try.ntmps32
  go_wp2_with fail
  go_loopw [9] (fun i wr => ∃ (k : Nat) (v : Value) (L : List (Ly × LA)), k ≤ S.length ∧ i = .int .i64 k ∧ L.map (·.1) = S.take k ∧ KG (w.heap.size + 3) v L wr ∧ O3 w (.slice a S.length cap) v wr) (fun i _ => S.length - (intOf i).toNat)
  case atStart => exact ⟨0, _, [], Nat.zero_le _, rfl, rfl, KG.nil _ _, HO.out⟩
  case round =>
    clear HO hW x0
    obtain ⟨k, v, L, hk, rfl, hL, hK, hO⟩ := hrel
    have HK := hid hK
    have HL := hid hL
    have HO := hid hO
    have hbel := hO.below
    have hszr := hO.size
    clear hK hL hO
    by_cases hlt : k < S.length
    · obtain ⟨b, off, rfl, hb, hcl⟩ := HG.out (by omega)
      obtain ⟨p, c, q, d, c0, c1, c2, hI, hS⟩ := hcl k hlt
      have kc : ∀ o, wr.cell? ⟨b, o, none⟩ = w.cell? ⟨b, o, none⟩ := fun o => hbel.cell (p := ⟨b, o, none⟩) hb
      rw [← kc] at c0 c1 c2
      have hm1 := HS.out.bl k hlt
      have hm2 := HS.out.dt k hlt
      have HTK := hid (take_snoc S k hlt)
      have hI' := (hI.below hbel).mono hbel.size
      have hS' := (hS.below hbel).mono hbel.size
      have hlenL : L.length = k := by have := congrArg List.length HL.out; rw [List.length_map, List.length_take] at this; omega
      have HLEN := hid hlenL
      clear hlenL
      clear hcl kc hI hS hbel
      generalize hs : S[k] = s at *
      obtain ⟨m, bl, dt⟩ := s
      simp only at c0 c1 c2 hm1 hm2 hI' hS'
      have b1 := boxB wr (.cells #[.int .i64 m, .slice p bl.length c, .slice q dt.length d] 64)
      have hx1 : (wr.alloc (.cells #[.int .i64 m, .slice p bl.length c, .slice q dt.length d] 64)).heap[wr.heap.size]? = some (.cells #[.int .i64 m, .slice p bl.length c, .slice q dt.length d] 64) := heap_last _ _
      have hz1 : wr.heap.size < (wr.alloc (.cells #[.int .i64 m, .slice p bl.length c, .slice q dt.length d] 64)).heap.size := by simp
      generalize hW1 : wr.alloc (.cells #[.int .i64 m, .slice p bl.length c, .slice q dt.length d] 64) = W1 at *
      have b1d : Below wr.heap.size wr W1.drew := b1.drew
      have hO1 := HO.out.on b1d
      have hx1d : W1.drew.heap[wr.heap.size]? = some (.cells #[.int .i64 m, .slice p bl.length c, .slice q dt.length d] 64) := hx1
      have hz1d : wr.heap.size < W1.drew.heap.size := hz1
      have hId := (hI'.below b1d).mono b1d.size
      have hSd := (hS'.below b1d).mono b1d.size
      go_wp2_with fail
      clear hW1 c0 c1 c2 hI' hS' b1 hx1 hz1
      refine wp_region_L (fun u => u.cell? ⟨w.heap.size + 1 + 1, 0, none⟩ = some v ∧ u.cell? ⟨wr.heap.size, 0, none⟩ = some (.int .i64 m) ∧ u.cell? ⟨wr.heap.size, 1, none⟩ = some (.slice p bl.length c) ∧ u.cell? ⟨wr.heap.size, 2, none⟩ = some (.slice q dt.length d)) 16 (by kernel_rfl) ?_
      generalize hV0 : W1.drew = V at *
      clear hV0
      obtain ⟨T, hT⟩ : ∃ T : World → Prop, T = fun u => u.cell? ⟨w.heap.size + 1 + 1, 0, none⟩ = some v ∧ u.cell? ⟨wr.heap.size, 0, none⟩ = some (.int .i64 m) ∧ u.cell? ⟨wr.heap.size, 1, none⟩ = some (.slice p bl.length c) ∧ u.cell? ⟨wr.heap.size, 2, none⟩ = some (.slice q dt.length d) := ⟨_, rfl⟩
      rw [← hT]
      have HTi : Hid (∀ u, O3 w (.slice (some ⟨b, off, none⟩) S.length cap) v u → u.heap[wr.heap.size]? = some (.cells #[.int .i64 m, .slice p bl.length c, .slice q dt.length d] 64) → T u) := fun u h1 h2 => by rw [hT]; exact ⟨box_cell h1.y 0, box_cell h2 0, box_cell h2 1, box_cell h2 2⟩
      have HTb : Hid (∀ u, Below V.heap.size V u → T u) := fun u g => HTi.out u (hO1.on g) ((g.block _ hz1d).trans hx1d)
      have HTo : Hid (∀ u, T u → u.cell? ⟨w.heap.size + 1 + 1, 0, none⟩ = some v ∧ u.cell? ⟨wr.heap.size, 0, none⟩ = some (.int .i64 m) ∧ u.cell? ⟨wr.heap.size, 1, none⟩ = some (.slice p bl.length c) ∧ u.cell? ⟨wr.heap.size, 2, none⟩ = some (.slice q dt.length d)) := fun u h => by rw [hT] at h; exact h
      have HI2 := hid hId
      have HS2 := hid hSd
      have HO1 := hid hO1
      have HX1 := hid hx1d
      have HB1 := hid b1d
      clear hT hO1 hx1d hId hSd b1d
      have hHeld : T V := HTb.out V (Below.refl _ _)
      refine wpAnyL_take (i := 0) (v := .pointer (some ⟨w.heap.size + 1 + 1, 0, none⟩)) (C := [0, 16]) rfl (by kernel_rfl) (fun _ _ _ h => h) (Or.inl ⟨by rfl, fun _ _ => by first | rfl | go_simp⟩) hHeld ?_
      dsimp only [Act.put]
      refine wpAnyL_take (i := 1) (v := v) (C := [1, 16]) rfl (by kernel_rfl) (fun _ _ _ h => h) (Or.inl ⟨by rfl, fun u hu => by obtain ⟨h1, h2, h3, h4⟩ := HTo.out _ hu; go_simp⟩) hHeld ?_
      dsimp only [Act.put]
      refine wpAnyL_take (i := 2) (v := .pointer (some ⟨wr.heap.size, 0, none⟩)) (C := [2, 16]) rfl (by kernel_rfl) (fun _ _ _ h => h) (Or.inl ⟨by rfl, fun _ _ => by first | rfl | go_simp⟩) hHeld ?_
      dsimp only [Act.put]
      refine wpAnyL_take (i := 3) (v := .int .i64 m) (C := [3, 16]) rfl (by kernel_rfl) (fun _ _ _ h => h) (Or.inl ⟨by rfl, fun u hu => by obtain ⟨h1, h2, h3, h4⟩ := HTo.out _ hu; go_simp⟩) hHeld ?_
      dsimp only [Act.put]
      refine wpAnyL_take (i := 5) (v := .pointer (some ⟨wr.heap.size, 1, none⟩)) (C := [5, 16]) rfl (by kernel_rfl) (fun _ _ _ h => h) (Or.inl ⟨by rfl, fun _ _ => by first | rfl | go_simp⟩) hHeld ?_
      dsimp only [Act.put]
      refine wpAnyL_take (i := 6) (v := .slice p bl.length c) (C := [6, 16]) rfl (by kernel_rfl) (fun _ _ _ h => h) (Or.inl ⟨by rfl, fun u hu => by obtain ⟨h1, h2, h3, h4⟩ := HTo.out _ hu; go_simp⟩) hHeld ?_
      dsimp only [Act.put]
      refine wpAnyL_take (i := 9) (v := .pointer (some ⟨wr.heap.size, 2, none⟩)) (C := [9, 16]) rfl (by kernel_rfl) (fun _ _ _ h => h) (Or.inl ⟨by rfl, fun _ _ => by first | rfl | go_simp⟩) hHeld ?_
      dsimp only [Act.put]
      refine wpAnyL_take (i := 10) (v := .slice q dt.length d) (C := [10, 16]) rfl (by kernel_rfl) (fun _ _ _ h => h) (Or.inl ⟨by rfl, fun u hu => by obtain ⟨h1, h2, h3, h4⟩ := HTo.out _ hu; go_simp⟩) hHeld ?_
      dsimp only [Act.put]
      have bI := boxB V (.cells #[] 3)
      have bT := boxB V (.cells #[] 9)
      have bIT : Below V.heap.size V ((V.alloc (.cells #[] 3)).alloc (.cells #[] 9)) := bI.trans ((boxB _ _).mono bI.size)
      have bTI : Below V.heap.size V ((V.alloc (.cells #[] 9)).alloc (.cells #[] 3)) := bT.trans ((boxB _ _).mono bT.size)
      have zI : (V.alloc (.cells #[] 3)).heap.size = V.heap.size + 1 := heap_size _ _
      have zT : (V.alloc (.cells #[] 9)).heap.size = V.heap.size + 1 := heap_size _ _
      have HZI := hid zI
      have HZT := hid zT
      have hTI := HTb.out _ bI
      have hTT := HTb.out _ bT
      have hTIT := HTb.out _ bIT
      have hTTI := HTb.out _ bTI
      clear zI zT
      refine wpAnyL_two (i := 4) (j := 8) (by kernel_rfl) rfl rfl (fun K hK => ?_) (fun K hK => ?_)
      · rw [if_pos (by rfl)]
        go_simp
        refine hK.out _ _ (fun _ => hTI) ?_
        clear hK K hHeld
        have hHeld := hTI
        refine wpAnyL_two (i := 7) (j := 8) (by kernel_rfl) rfl rfl (fun K hK => ?_) (fun K hK => ?_)
        · obtain ⟨a1, c1, WA, a2, c2, WZ, r1, r2, oz, bA, bZ⟩ := two_late V p q c d bl dt HI2.out HS2.out hm1 hm2
          have hTA := HTb.out WA bA
          have hTAT := HTb.out (WA.alloc (.cells #[] 9)) (bA.trans ((boxB WA _).mono bA.size))
          have hTZ0 := HTb.out WZ bZ
          refine step_append_run rfl _ _ 26 rfl _ _ rfl rfl _ _ r1 ?_
          refine hK.out _ _ (fun _ => hTA) ?_
          clear hK K hHeld
          have hHeld := hTA
          dsimp only [Act.put]
          refine wpAnyL_one (i := 8) (by kernel_rfl) rfl (fun K hK => ?_)
          rw [if_pos (by rfl)]
          go_simp
          refine hK.out _ _ (fun _ => hTAT) ?_
          clear hK K hHeld
          have hHeld := hTAT
          refine wpAnyL_one (i := 11) (by kernel_rfl) rfl (fun K hK => ?_)
          refine step_append_run rfl _ _ 62 rfl _ _ rfl rfl _ _ r2 ?_
          refine hK.out _ _ (fun _ => hTZ0) ?_
          clear hK K hHeld
          have hHeld := hTZ0
          dsimp only [Act.put]
          clear hTA hTAT hTZ0
          have hTZ := HTb.out WZ bZ
          have b4 := boxB WZ (.cells #[.int .i64 m, .slice a1 bl.length c1, .slice a2 dt.length c2] 64)
          have bZ4 := bZ.trans (b4.mono bZ.size)
          have hs4 := b4.size
          have hsZ := bZ.size
          have hV1 := HB1.out.size
          obtain ⟨v5, W5, z5, r5, G5, gr5, b5⟩ := HK.out.growZ (w1 := WZ.alloc (.cells #[.int .i64 m, .slice a1 bl.length c1, .slice a2 dt.length c2] 64)) hszr (HB1.out.trans (bZ4.mono HB1.out.size)) WZ.heap.size 1 m a1 a2 bl dt c1 c2 (heap_last _ _) ((oz.on b4 (Nat.le_refl _)).low hV1) (by have := HLEN.out; omega)
          obtain ⟨av, cv, ev⟩ := rw_form G5.row
          have hl5 : (L ++ [((⟨m, bl, dt⟩ : Ly), z5)]).length = L.length + 1 := by simp
          rw [hl5, HLEN.out] at ev
          subst ev
          clear hl5
          have hO5 := (HO1.out.on bZ4).step b5
          have hx5 : W5.heap[wr.heap.size]? = some (.cells #[.int .i64 m, .slice p bl.length c, .slice q dt.length d] 64) := (gr5.block wr.heap.size (by omega) (fun ee => by have := (HK.out.row.lt _ ee.symm).2; omega)).trans ((bZ4.block _ hz1d).trans HX1.out)
          have hT5 := HTi.out W5 hO5 hx5
          have hT4 := HTb.out _ bZ4
          have y5 := box_cell hO5.y 0
          have f5 := box_free hO5.y 0
          have HG5 := hid (G5.set (w.heap.size + 1 + 1) 0 (.slice av (k + 1) cv) (by omega))
          have HO5 := hid (hO5.set (.slice av (k + 1) cv))
          refine wpAnyL_take (i := 12) (v := .agg #[.int .i64 m, .slice a1 bl.length c1, .slice a2 dt.length c2]) (C := [12, 16]) rfl (by kernel_rfl) (fun _ _ _ h => h) (Or.inl ⟨by rfl, fun _ _ => by first | rfl | go_simp⟩) hHeld ?_
          dsimp only [Act.put]
          refine wpAnyL_one (i := 13) (by kernel_rfl) rfl (fun K hK => ?_)
          rw [if_pos (by rfl)]
          go_simp
          refine hK.out _ _ (fun _ => hT4) ?_
          clear hK K hHeld
          have hHeld := hT4
          refine wpAnyL_one (i := 14) (by kernel_rfl) rfl (fun K hK => ?_)
          refine step_append_run rfl _ _ 29 rfl _ _ rfl rfl _ _ r5 ?_
          refine hK.out _ _ (fun _ => hT5) ?_
          clear hK K hHeld
          have hHeld := hT5
          dsimp only [Act.put]
          refine wpAnyL_take (i := 15) (v := .pointer (some ⟨w.heap.size + 1 + 1, 0, none⟩)) (C := [15, 16]) rfl (by kernel_rfl) (fun _ _ _ h => h) (Or.inl ⟨by rfl, fun _ _ => by first | rfl | go_simp⟩) hHeld ?_
          dsimp only [Act.put]
          have y5' : W5.cell? ⟨w.heap.size + 1 + 1, 0, none⟩ = some v := y5
          refine wpAnyL_one (i := 16) (by kernel_rfl) rfl (fun K hK => ?_)
          rw [if_pos (by rfl)]
          go_simp
          refine hK.out _ _ (fun h => absurd rfl h) ?_
          clear hK K hHeld
          refine wpAnyL_done (by kernel_rfl) ?_
          have HM5 : Hid ((L ++ [((⟨m, bl, dt⟩ : Ly), z5)]).map (·.1) = S.take (k + 1)) := by
            show (L ++ [((⟨m, bl, dt⟩ : Ly), z5)]).map (·.1) = S.take (k + 1)
            rw [List.map_append, HL.out, HTK.out]
            rfl
          clear hT5 hT4 hTZ y5 y5' f5 hO5 hx5 G5 gr5 b5 b4 bZ4 oz bZ bA r1 r2 r5 HTi HTb HTo HI2 HS2 HX1 HB1 HO1
          generalize W5.setCell ⟨w.heap.size + 1 + 1, 0, none⟩ (.slice av (k + 1) cv) = W6 at *
          go_wp2_with fail
          go_roundw
          · exact ⟨k + 1, _, _, by omega, by go_num, HM5.out, HG5.out, HO5.out⟩
          · simp [intOf]; omega
        · have hoI : ((V.alloc (.cells #[] 3)).alloc (.cells #[] 9)).ownsRow V.heap.size 3 1 (.slice (some ⟨V.heap.size, 0, none⟩) 0 0) 0 [] := (World.ownsRow_made V #[] 0 (Nat.le_refl _) (by decide) rfl).alloc (.cells #[] 9)
          have hoT : ((V.alloc (.cells #[] 3)).alloc (.cells #[] 9)).ownsRow V.heap.size 9 1 (.slice (some ⟨(V.alloc (.cells #[] 3)).heap.size, 0, none⟩) 0 0) 0 [] := rw_mono (World.ownsRow_made (V.alloc (.cells #[] 3)) #[] 0 (Nat.le_refl _) (by decide) rfl) (by rw [HZI.out]; omega)
          obtain ⟨a1, c1, WA, a2, c2, WZ, r1, r2, oz, bA, bZ0⟩ := two_apps ((V.alloc (.cells #[] 3)).alloc (.cells #[] 9)) V.heap.size V.heap.size (V.alloc (.cells #[] 3)).heap.size p q c d bl dt hoI hoT (by rw [HZI.out]; omega) ((HI2.out.below bIT).mono bIT.size) (HS2.out.below bIT) hm1 hm2 bIT.size
          simp only [HZI.out] at r2
          have bZ := bIT.trans bZ0
          have hTA := HTb.out WA (bIT.trans bA)
          have hTZ0 := HTb.out WZ bZ
          clear hoI hoT
          rw [if_pos (by rfl)]
          go_simp
          refine hK.out _ _ (fun _ => hTIT) ?_
          clear hK K hHeld
          have hHeld := hTIT
          refine wpAnyL_one (i := 7) (by kernel_rfl) rfl (fun K hK => ?_)
          refine step_append_run rfl _ _ 26 rfl _ _ rfl rfl _ _ r1 ?_
          refine hK.out _ _ (fun _ => hTA) ?_
          clear hK K hHeld
          have hHeld := hTA
          dsimp only [Act.put]
          refine wpAnyL_one (i := 11) (by kernel_rfl) rfl (fun K hK => ?_)
          refine step_append_run rfl _ _ 62 rfl _ _ rfl rfl _ _ r2 ?_
          refine hK.out _ _ (fun _ => hTZ0) ?_
          clear hK K hHeld
          have hHeld := hTZ0
          dsimp only [Act.put]
          clear hTA hTZ0 bZ0
          have hTZ := HTb.out WZ bZ
          have b4 := boxB WZ (.cells #[.int .i64 m, .slice a1 bl.length c1, .slice a2 dt.length c2] 64)
          have bZ4 := bZ.trans (b4.mono bZ.size)
          have hs4 := b4.size
          have hsZ := bZ.size
          have hV1 := HB1.out.size
          obtain ⟨v5, W5, z5, r5, G5, gr5, b5⟩ := HK.out.growZ (w1 := WZ.alloc (.cells #[.int .i64 m, .slice a1 bl.length c1, .slice a2 dt.length c2] 64)) hszr (HB1.out.trans (bZ4.mono HB1.out.size)) WZ.heap.size 1 m a1 a2 bl dt c1 c2 (heap_last _ _) ((oz.on b4 (Nat.le_refl _)).low hV1) (by have := HLEN.out; omega)
          obtain ⟨av, cv, ev⟩ := rw_form G5.row
          have hl5 : (L ++ [((⟨m, bl, dt⟩ : Ly), z5)]).length = L.length + 1 := by simp
          rw [hl5, HLEN.out] at ev
          subst ev
          clear hl5
          have hO5 := (HO1.out.on bZ4).step b5
          have hx5 : W5.heap[wr.heap.size]? = some (.cells #[.int .i64 m, .slice p bl.length c, .slice q dt.length d] 64) := (gr5.block wr.heap.size (by omega) (fun ee => by have := (HK.out.row.lt _ ee.symm).2; omega)).trans ((bZ4.block _ hz1d).trans HX1.out)
          have hT5 := HTi.out W5 hO5 hx5
          have hT4 := HTb.out _ bZ4
          have y5 := box_cell hO5.y 0
          have f5 := box_free hO5.y 0
          have HG5 := hid (G5.set (w.heap.size + 1 + 1) 0 (.slice av (k + 1) cv) (by omega))
          have HO5 := hid (hO5.set (.slice av (k + 1) cv))
          refine wpAnyL_take (i := 12) (v := .agg #[.int .i64 m, .slice a1 bl.length c1, .slice a2 dt.length c2]) (C := [12, 16]) rfl (by kernel_rfl) (fun _ _ _ h => h) (Or.inl ⟨by rfl, fun _ _ => by first | rfl | go_simp⟩) hHeld ?_
          dsimp only [Act.put]
          refine wpAnyL_one (i := 13) (by kernel_rfl) rfl (fun K hK => ?_)
          rw [if_pos (by rfl)]
          go_simp
          refine hK.out _ _ (fun _ => hT4) ?_
          clear hK K hHeld
          have hHeld := hT4
          refine wpAnyL_one (i := 14) (by kernel_rfl) rfl (fun K hK => ?_)
          refine step_append_run rfl _ _ 29 rfl _ _ rfl rfl _ _ r5 ?_
          refine hK.out _ _ (fun _ => hT5) ?_
          clear hK K hHeld
          have hHeld := hT5
          dsimp only [Act.put]
          refine wpAnyL_take (i := 15) (v := .pointer (some ⟨w.heap.size + 1 + 1, 0, none⟩)) (C := [15, 16]) rfl (by kernel_rfl) (fun _ _ _ h => h) (Or.inl ⟨by rfl, fun _ _ => by first | rfl | go_simp⟩) hHeld ?_
          dsimp only [Act.put]
          have y5' : W5.cell? ⟨w.heap.size + 1 + 1, 0, none⟩ = some v := y5
          refine wpAnyL_one (i := 16) (by kernel_rfl) rfl (fun K hK => ?_)
          rw [if_pos (by rfl)]
          go_simp
          refine hK.out _ _ (fun h => absurd rfl h) ?_
          clear hK K hHeld
          refine wpAnyL_done (by kernel_rfl) ?_
          have HM5 : Hid ((L ++ [((⟨m, bl, dt⟩ : Ly), z5)]).map (·.1) = S.take (k + 1)) := by
            show (L ++ [((⟨m, bl, dt⟩ : Ly), z5)]).map (·.1) = S.take (k + 1)
            rw [List.map_append, HL.out, HTK.out]
            rfl
          clear hT5 hT4 hTZ y5 y5' f5 hO5 hx5 G5 gr5 b5 b4 bZ4 oz bZ bA r1 r2 r5 HTi HTb HTo HI2 HS2 HX1 HB1 HO1
          generalize W5.setCell ⟨w.heap.size + 1 + 1, 0, none⟩ (.slice av (k + 1) cv) = W6 at *
          go_wp2_with fail
          go_roundw
          · exact ⟨k + 1, _, _, by omega, by go_num, HM5.out, HG5.out, HO5.out⟩
          · simp [intOf]; omega
      · have hoT : ((V.alloc (.cells #[] 9)).alloc (.cells #[] 3)).ownsRow V.heap.size 9 1 (.slice (some ⟨V.heap.size, 0, none⟩) 0 0) 0 [] := (World.ownsRow_made V #[] 0 (Nat.le_refl _) (by decide) rfl).alloc (.cells #[] 3)
        have hoI : ((V.alloc (.cells #[] 9)).alloc (.cells #[] 3)).ownsRow V.heap.size 3 1 (.slice (some ⟨(V.alloc (.cells #[] 9)).heap.size, 0, none⟩) 0 0) 0 [] := rw_mono (World.ownsRow_made (V.alloc (.cells #[] 9)) #[] 0 (Nat.le_refl _) (by decide) rfl) (by rw [HZT.out]; omega)
        obtain ⟨a1, c1, WA, a2, c2, WZ, r1, r2, oz, bA, bZ0⟩ := two_apps ((V.alloc (.cells #[] 9)).alloc (.cells #[] 3)) V.heap.size (V.alloc (.cells #[] 9)).heap.size V.heap.size p q c d bl dt hoI hoT (by rw [HZT.out]; omega) ((HI2.out.below bTI).mono bTI.size) (HS2.out.below bTI) hm1 hm2 bTI.size
        simp only [HZT.out] at r1
        have bZ := bTI.trans bZ0
        have hTA := HTb.out WA (bTI.trans bA)
        have hTZ0 := HTb.out WZ bZ
        clear hoI hoT
        rw [if_pos (by rfl)]
        go_simp
        refine hK.out _ _ (fun _ => hTT) ?_
        clear hK K hHeld
        have hHeld := hTT
        refine wpAnyL_one (i := 4) (by kernel_rfl) rfl (fun K hK => ?_)
        rw [if_pos (by rfl)]
        go_simp
        refine hK.out _ _ (fun _ => hTTI) ?_
        clear hK K hHeld
        have hHeld := hTTI
        refine wpAnyL_one (i := 7) (by kernel_rfl) rfl (fun K hK => ?_)
        refine step_append_run rfl _ _ 26 rfl _ _ rfl rfl _ _ r1 ?_
        refine hK.out _ _ (fun _ => hTA) ?_
        clear hK K hHeld
        have hHeld := hTA
        dsimp only [Act.put]
        refine wpAnyL_one (i := 11) (by kernel_rfl) rfl (fun K hK => ?_)
        refine step_append_run rfl _ _ 62 rfl _ _ rfl rfl _ _ r2 ?_
        refine hK.out _ _ (fun _ => hTZ0) ?_
        clear hK K hHeld
        have hHeld := hTZ0
        dsimp only [Act.put]
        clear hTA hTZ0 bZ0
        have hTZ := HTb.out WZ bZ
        have b4 := boxB WZ (.cells #[.int .i64 m, .slice a1 bl.length c1, .slice a2 dt.length c2] 64)
        have bZ4 := bZ.trans (b4.mono bZ.size)
        have hs4 := b4.size
        have hsZ := bZ.size
        have hV1 := HB1.out.size
        obtain ⟨v5, W5, z5, r5, G5, gr5, b5⟩ := HK.out.growZ (w1 := WZ.alloc (.cells #[.int .i64 m, .slice a1 bl.length c1, .slice a2 dt.length c2] 64)) hszr (HB1.out.trans (bZ4.mono HB1.out.size)) WZ.heap.size 1 m a1 a2 bl dt c1 c2 (heap_last _ _) ((oz.on b4 (Nat.le_refl _)).low hV1) (by have := HLEN.out; omega)
        obtain ⟨av, cv, ev⟩ := rw_form G5.row
        have hl5 : (L ++ [((⟨m, bl, dt⟩ : Ly), z5)]).length = L.length + 1 := by simp
        rw [hl5, HLEN.out] at ev
        subst ev
        clear hl5
        have hO5 := (HO1.out.on bZ4).step b5
        have hx5 : W5.heap[wr.heap.size]? = some (.cells #[.int .i64 m, .slice p bl.length c, .slice q dt.length d] 64) := (gr5.block wr.heap.size (by omega) (fun ee => by have := (HK.out.row.lt _ ee.symm).2; omega)).trans ((bZ4.block _ hz1d).trans HX1.out)
        have hT5 := HTi.out W5 hO5 hx5
        have hT4 := HTb.out _ bZ4
        have y5 := box_cell hO5.y 0
        have f5 := box_free hO5.y 0
        have HG5 := hid (G5.set (w.heap.size + 1 + 1) 0 (.slice av (k + 1) cv) (by omega))
        have HO5 := hid (hO5.set (.slice av (k + 1) cv))
        refine wpAnyL_take (i := 12) (v := .agg #[.int .i64 m, .slice a1 bl.length c1, .slice a2 dt.length c2]) (C := [12, 16]) rfl (by kernel_rfl) (fun _ _ _ h => h) (Or.inl ⟨by rfl, fun _ _ => by first | rfl | go_simp⟩) hHeld ?_
        dsimp only [Act.put]
        refine wpAnyL_one (i := 13) (by kernel_rfl) rfl (fun K hK => ?_)
        rw [if_pos (by rfl)]
        go_simp
        refine hK.out _ _ (fun _ => hT4) ?_
        clear hK K hHeld
        have hHeld := hT4
        refine wpAnyL_one (i := 14) (by kernel_rfl) rfl (fun K hK => ?_)
        refine step_append_run rfl _ _ 29 rfl _ _ rfl rfl _ _ r5 ?_
        refine hK.out _ _ (fun _ => hT5) ?_
        clear hK K hHeld
        have hHeld := hT5
        dsimp only [Act.put]
        refine wpAnyL_take (i := 15) (v := .pointer (some ⟨w.heap.size + 1 + 1, 0, none⟩)) (C := [15, 16]) rfl (by kernel_rfl) (fun _ _ _ h => h) (Or.inl ⟨by rfl, fun _ _ => by first | rfl | go_simp⟩) hHeld ?_
        dsimp only [Act.put]
        have y5' : W5.cell? ⟨w.heap.size + 1 + 1, 0, none⟩ = some v := y5
        refine wpAnyL_one (i := 16) (by kernel_rfl) rfl (fun K hK => ?_)
        rw [if_pos (by rfl)]
        go_simp
        refine hK.out _ _ (fun h => absurd rfl h) ?_
        clear hK K hHeld
        refine wpAnyL_done (by kernel_rfl) ?_
        have HM5 : Hid ((L ++ [((⟨m, bl, dt⟩ : Ly), z5)]).map (·.1) = S.take (k + 1)) := by
          show (L ++ [((⟨m, bl, dt⟩ : Ly), z5)]).map (·.1) = S.take (k + 1)
          rw [List.map_append, HL.out, HTK.out]
          rfl
        clear hT5 hT4 hTZ y5 y5' f5 hO5 hx5 G5 gr5 b5 b4 bZ4 oz bZ bA r1 r2 r5 HTi HTb HTo HI2 HS2 HX1 HB1 HO1
        generalize W5.setCell ⟨w.heap.size + 1 + 1, 0, none⟩ (.slice av (k + 1) cv) = W6 at *
        go_wp2_with fail
        go_roundw
        · exact ⟨k + 1, _, _, by omega, by go_num, HM5.out, HG5.out, HO5.out⟩
        · simp [intOf]; omega
    · obtain rfl : k = S.length := by omega
      rw [List.take_length] at HL
      obtain ⟨av, cv, rfl⟩ := rw_form HK.out.row
      have y0 : wr.cell? ⟨w.heap.size + 1 + 1, 0, none⟩ = some (.slice av L.length cv) := box_cell HO.out.y 0
      have z0 : wr.cell? ⟨w.heap.size + 1, 0, none⟩ = some (.slice none 0 0) := box_cell HO.out.z 0
      have f0 : wr.frozen? ⟨w.heap.size + 1, 0, none⟩ = false := box_free HO.out.z 0
      have e0 : (wr.setCell ⟨w.heap.size + 1, 0, none⟩ (.slice av L.length cv)).cell? ⟨w.heap.size + 1, 0, none⟩ = some (.slice av L.length cv) := World.cell?_setCell_same _ _ _ z0
      have HB9 := hid (setB HO.out.below (w.heap.size + 1) 0 (by omega) (.slice av L.length cv))
      have HK9 := hid (HK.out.set (w.heap.size + 1) 0 (.slice av L.length cv) (by omega))
      clear hbel
      go_wp2_with fail
      generalize wr.setCell ⟨w.heap.size + 1, 0, none⟩ (.slice av L.length cv) = XX at *
      refine bodyPost_ret (v := .agg #[.slice av L.length cv]) (by simp [results, Try.results32, go_sem, e0]) rfl ?_
      exact ⟨_, L, rfl, HL.out, HK9.out.low (by omega), HB9.out⟩
end Go.Proofs.Ytmbkdollakbigaa
