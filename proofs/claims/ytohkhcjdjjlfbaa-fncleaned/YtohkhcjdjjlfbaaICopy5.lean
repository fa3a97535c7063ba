/- Walk of the program's copyHeap. -/
import Derived.Test.YtohkhcjdjjlfbaaHOwns
namespace Go.Proofs.Ytohkhcjdjjlfbaa
set_option maxRecDepth 100000
open Go.ChangeShapes Go.WideShapes Go.ChangeAt Go.RowKit G00541
set_option maxHeartbeats 4000000 in
theorem copyHeap_any (aS aL : Option Addr) (kS kL : Nat) (S : List Sg) (L : List (List Bool)) (w : World) (hn : S.length ≤ 100) (hl : L.length = S.length) (hs : ∀ k (h : k < S.length), S[k].bl.length ≤ 100) (hv : ∀ k (h : k < L.length), L[k].length ≤ 100) (hG : Gs w.heap.size aS S w) (hV : Vs w.heap.size aL L w) :
    Calls Try.prog 60 #[.agg #[.slice aS S.length kS, .slice aL L.length kL]] w fun e w' => ∃ vS vL, e = .returned (.agg #[vS, vL]) ∧ HR w.heap.size vS vL S L w' ∧ Below w.heap.size w w' := by
  have HG := hid hG
  have HV := hid hV
  have HS := hid hs
  have HVL := hid hv
  rw [hl]
  have HL := hid hl
  clear hG hV hs hv
  have HO0 : Hid (OI w (.cells #[.slice aS S.length kS, .slice aL S.length kL] 26) (.slice none 0 0) (.slice none 0 0) (((w.alloc (.cells #[.slice aS S.length kS, .slice aL S.length kL] 26)).alloc (.cells #[.slice none 0 0, .slice none 0 0] 26)).alloc (.cells #[.slice none 0 0, .slice none 0 0] 26))) := by
    refine ⟨(((Below.refl _ _).alloc (Nat.le_refl _) _).alloc (by simp) _).alloc (by simp; omega) _, ?_, ?_, ?_⟩
    · rw [Below.heap_alloc _ _ _ (by simp; omega), Below.heap_alloc _ _ _ (by simp)]
      exact heap_last _ _
    · exact heap_mid3 _ _ _ _
    · exact heap_last3 _ _ _ _
  have y0 : (((w.alloc (.cells #[.slice aS S.length kS, .slice aL S.length kL] 26)).alloc (.cells #[.slice none 0 0, .slice none 0 0] 26)).alloc (.cells #[.slice none 0 0, .slice none 0 0] 26)).cell? ⟨w.heap.size, 0, none⟩ = some (.slice aS S.length kS) := by go_simp
  generalize hW : ((w.alloc (.cells #[.slice aS S.length kS, .slice aL S.length kL] 26)).alloc (.cells #[.slice none 0 0, .slice none 0 0] 26)).alloc (.cells #[.slice none 0 0, .slice none 0 0] 26) = W at *
  go_enter Try.func60, Try.ntmps60
  go_wp2_with fail
  go_loopw [9] (fun i wr => ∃ (k : Nat) (vS vL : Value) (q p : Nat → Value), k ≤ S.length ∧ i = .int .i64 k ∧ Fam (w.heap.size + 3) (hd2 (S.take k).length (L.take k).length) (hf vS vL q p (S.take k) (L.take k)) wr ∧ OI w (.cells #[.slice aS S.length kS, .slice aL S.length kL] 26) vS vL wr) (fun i _ => S.length - (intOf i).toNat)
  case atStart => exact ⟨0, .slice none 0 0, .slice none 0 0, fun _ => .slice none 0 0, fun _ => .slice none 0 0, Nat.zero_le _, rfl, ⟨fun x hx => by
      cases x with
      | s => exact rw_nil _ _ _ _
      | l => exact rw_nil _ _ _ _
      | b i => exact absurd hx (Nat.not_lt_zero _)
      | v i => exact absurd hx (Nat.not_lt_zero _), fun x y hx hy hne g hg => by
      cases x with
      | s => cases hg
      | l => cases hg
      | b i => exact absurd hx (Nat.not_lt_zero _)
      | v i => exact absurd hx (Nat.not_lt_zero _)⟩, HO0.out⟩
  case round =>
    clear HO0 hW y0
    obtain ⟨k, vS, vL, q, p, hk, rfl, hF, hO⟩ := hrel
    have HO := hid hO
    have HF := hid hF
    clear hF
    by_cases hlt : k < S.length
    · obtain ⟨b, off, rfl, hb, hcl⟩ := HG.out (by omega)
      obtain ⟨pa, c, d0, d1, hI⟩ := hcl k hlt
      obtain ⟨b', off', rfl, hb', hcv⟩ := HV.out (by omega)
      obtain ⟨pb, c', c2, hJ⟩ := hcv k (by omega)
      rw [← hO.below.cell (p := ⟨b, off + k * 2, none⟩) hb] at d0
      rw [← hO.below.cell (p := ⟨b, off + k * 2 + 1, none⟩) hb] at d1
      have hsk := HS.out k hlt
      have hvk := HVL.out k (by omega)
      have htS : S.take (k + 1) = S.take k ++ [S[k]] := List.take_succ_eq_append_getElem hlt
      have htL : L.take (k + 1) = L.take k ++ [L[k]'(by omega)] := List.take_succ_eq_append_getElem (by omega)
      have HTS := hid htS
      have HTL := hid htL
      have hsz := hO.size
      have hkS : (S.take k).length = k := by simp; omega
      have hkL : (L.take k).length = k := by simp; omega
      have HIr := hid hI
      have HJr := hid hJ
      have C2 := hid c2
      clear hcl hcv htS htL hI hJ c2
      generalize L[k]'(by omega) = v at *
      generalize S[k] = s at *
      have HV0 : Hid (Below w.heap.size w (wr.alloc (.cells #[.slice pa s.bl.length c, .int .i64 s.age] 40)).drew) := (hO.below.trans ((boxB wr (.cells #[.slice pa s.bl.length c, .int .i64 s.age] 40)).mono hO.below.size)).drew
      have hF0 : Fam (w.heap.size + 3) (hd2 (S.take k).length (L.take k).length) (hf vS vL q p (S.take k) (L.take k)) (wr.alloc (.cells #[.slice pa s.bl.length c, .int .i64 s.age] 40)).drew := HF.out.below (boxB wr (.cells #[.slice pa s.bl.length c, .int .i64 s.age] 40)).drew
      have hO0 := hO.on (((boxB wr (.cells #[.slice pa s.bl.length c, .int .i64 s.age] 40)).drew).mono hsz)
      have hs0 : (wr.alloc (.cells #[.slice pa s.bl.length c, .int .i64 s.age] 40)).drew.heap.size = wr.heap.size + 1 := heap_size _ _
      have hI0 := (HIr.out.below HV0.out).mono HV0.out.size
      obtain ⟨a1, c1, W2, n4, c4, W4, r1, r4, g2, k4, b4, F4⟩ := seg_step hF0 (by omega) (by omega) s hsk ⟨rfl, rfl, rfl, Nat.le_refl _, fun _ _ _ => rfl⟩ (.slice none 0 0) (rw_nil _ _ _ _) pa c hI0
      have z0 : (wr.alloc (.cells #[.slice pa s.bl.length c, .int .i64 s.age] 40)).drew.heap[wr.heap.size]? = some (.cells #[.slice pa s.bl.length c, .int .i64 s.age] 40) := heap_last _ _
      have hbs : vS.ownBlock ≠ some wr.heap.size := fun e => by have := (HF.out.own .s trivial).lt wr.heap.size e; omega
      have z2 : W2.heap[wr.heap.size]? = some (.cells #[.slice pa s.bl.length c, .int .i64 s.age] 40) := (g2.block _ (by omega) (by simp)).trans z0
      have z4 : W4.heap[wr.heap.size]? = some (.cells #[.slice pa s.bl.length c, .int .i64 s.age] 40) := (k4 _ (by omega) hbs).trans z0
      have hO2 := hO0.on (below_of_grown g2 (by omega) (fun k e => by cases e))
      have hO4 := hO0.on b4
      have hO3 := hO2.on (((boxB W2 (.cells #[.slice a1 s.bl.length c1, .int .i64 s.age] 40))).mono (by have := hO2.size; omega))
      have z3 : (W2.alloc (.cells #[.slice a1 s.bl.length c1, .int .i64 s.age] 40)).heap[wr.heap.size]? = some (.cells #[.slice pa s.bl.length c, .int .i64 s.age] 40) := (Below.heap_alloc _ _ _ (by have := g2.size; omega)).trans z2
      have hO5 := hO4.set (.slice n4 ((S.take k).length + 1) c4)
      have z5 : (W4.setCell ⟨w.heap.size + 1 + 1, 0, none⟩ (.slice n4 ((S.take k).length + 1) c4)).heap[wr.heap.size]? = some (.cells #[.slice pa s.bl.length c, .int .i64 s.age] 40) := (keepB _ _ _ _ _ (by omega)).trans z4
      have F5 := F4.out (w.heap.size + 1 + 1) 0 (.slice n4 ((S.take k).length + 1) c4) (by omega)
      have x00 : (wr.alloc (.cells #[.slice pa s.bl.length c, .int .i64 s.age] 40)).drew.cell? ⟨wr.heap.size, 0, none⟩ = some (.slice pa s.bl.length c) := box_cell z0 0
      have x01 : (wr.alloc (.cells #[.slice pa s.bl.length c, .int .i64 s.age] 40)).drew.cell? ⟨wr.heap.size, 1, none⟩ = some (.int .i64 s.age) := box_cell z0 1
      have x20 : W2.cell? ⟨wr.heap.size, 0, none⟩ = some (.slice pa s.bl.length c) := box_cell z2 0
      have x21 : W2.cell? ⟨wr.heap.size, 1, none⟩ = some (.int .i64 s.age) := box_cell z2 1
      have x30 : (W2.alloc (.cells #[.slice a1 s.bl.length c1, .int .i64 s.age] 40)).cell? ⟨wr.heap.size, 0, none⟩ = some (.slice pa s.bl.length c) := box_cell z3 0
      have x31 : (W2.alloc (.cells #[.slice a1 s.bl.length c1, .int .i64 s.age] 40)).cell? ⟨wr.heap.size, 1, none⟩ = some (.int .i64 s.age) := box_cell z3 1
      have x40 : W4.cell? ⟨wr.heap.size, 0, none⟩ = some (.slice pa s.bl.length c) := box_cell z4 0
      have x41 : W4.cell? ⟨wr.heap.size, 1, none⟩ = some (.int .i64 s.age) := box_cell z4 1
      have x50 : (W4.setCell ⟨w.heap.size + 1 + 1, 0, none⟩ (.slice n4 ((S.take k).length + 1) c4)).cell? ⟨wr.heap.size, 0, none⟩ = some (.slice pa s.bl.length c) := box_cell z5 0
      have x51 : (W4.setCell ⟨w.heap.size + 1 + 1, 0, none⟩ (.slice n4 ((S.take k).length + 1) c4)).cell? ⟨wr.heap.size, 1, none⟩ = some (.int .i64 s.age) := box_cell z5 1
      have a0 : (wr.alloc (.cells #[.slice pa s.bl.length c, .int .i64 s.age] 40)).drew.cell? ⟨w.heap.size + 1 + 1, 0, none⟩ = some vS := box_cell hO0.out 0
      have a2 : W2.cell? ⟨w.heap.size + 1 + 1, 0, none⟩ = some vS := box_cell hO2.out 0
      have a3 : (W2.alloc (.cells #[.slice a1 s.bl.length c1, .int .i64 s.age] 40)).cell? ⟨w.heap.size + 1 + 1, 0, none⟩ = some vS := box_cell hO3.out 0
      have a4 : W4.cell? ⟨w.heap.size + 1 + 1, 0, none⟩ = some vS := box_cell hO4.out 0
      have a4f := box_free hO4.out 0
      have HO5 := hid hO5
      have HF5 := hid F5
      clear hO0 hO2 hO3 hO4 hO5 F4 F5 z0 z2 z3 z4 z5 b4 k4 g2 hF0 hI0 HF
      go_wp2_with fail
      refine wp_region_L (fun u => u.cell? ⟨wr.heap.size, 0, none⟩ = some (.slice pa s.bl.length c) ∧ u.cell? ⟨wr.heap.size, 1, none⟩ = some (.int .i64 s.age) ∧ u.cell? ⟨w.heap.size + 1 + 1, 0, none⟩ = some vS) 11 (by kernel_rfl) ?_
      generalize hV0 : (wr.alloc (.cells #[.slice pa s.bl.length c, .int .i64 s.age] 40)).drew = V at *
      generalize hV3 : W2.alloc (.cells #[.slice a1 s.bl.length c1, .int .i64 s.age] 40) = W3 at *
      obtain ⟨T, hT⟩ : ∃ T : World → Prop, T = fun u => u.cell? ⟨wr.heap.size, 0, none⟩ = some (.slice pa s.bl.length c) ∧ u.cell? ⟨wr.heap.size, 1, none⟩ = some (.int .i64 s.age) ∧ u.cell? ⟨w.heap.size + 1 + 1, 0, none⟩ = some vS := ⟨_, rfl⟩
      rw [← hT]
      have hTi : ∀ u, u.cell? ⟨wr.heap.size, 0, none⟩ = some (.slice pa s.bl.length c) → u.cell? ⟨wr.heap.size, 1, none⟩ = some (.int .i64 s.age) → u.cell? ⟨w.heap.size + 1 + 1, 0, none⟩ = some vS → T u := fun u h1 h2 h3 => by rw [hT]; exact ⟨h1, h2, h3⟩
      have hTo : ∀ u, T u → u.cell? ⟨wr.heap.size, 0, none⟩ = some (.slice pa s.bl.length c) ∧ u.cell? ⟨wr.heap.size, 1, none⟩ = some (.int .i64 s.age) ∧ u.cell? ⟨w.heap.size + 1 + 1, 0, none⟩ = some vS := fun u h => by rw [hT] at h; exact h
      have HTo := hid hTo
      have HTi := hid hTi
      clear hT hTo hTi
      have hHeld : T V := HTi.out _ x00 x01 a0
      refine wpAnyL_take (i := 0) (v := .pointer (some ⟨w.heap.size + 1 + 1, 0, none⟩)) (C := [0, 1, 9, 11]) rfl (by kernel_rfl) (fun _ _ _ h => h) (Or.inl ⟨by rfl, fun _ _ => by first | rfl | go_simp⟩) hHeld ?_
      dsimp only [Act.put]
      refine wpAnyL_take (i := 1) (v := vS) (C := [1, 9, 11]) rfl (by kernel_rfl) (fun _ _ _ h => h) (Or.inl ⟨by rfl, fun u hu => by obtain ⟨h1, h2, h3⟩ := HTo.out _ hu; go_simp⟩) hHeld ?_
      dsimp only [Act.put]
      refine wpAnyL_take (i := 2) (v := .pointer (some ⟨wr.heap.size, 0, none⟩)) (C := [2, 3, 4, 7, 8, 9, 11]) rfl (by kernel_rfl) (fun _ _ _ h => h) (Or.inl ⟨by rfl, fun _ _ => by first | rfl | go_simp⟩) hHeld ?_
      dsimp only [Act.put]
      refine wpAnyL_take (i := 3) (v := .slice pa s.bl.length c) (C := [3, 4, 7, 8, 9, 11]) rfl (by kernel_rfl) (fun _ _ _ h => h) (Or.inl ⟨by rfl, fun u hu => by obtain ⟨h1, h2, h3⟩ := HTo.out _ hu; go_simp⟩) hHeld ?_
      dsimp only [Act.put]
      refine wpAnyL_take (i := 5) (v := .pointer (some ⟨wr.heap.size, 1, none⟩)) (C := [5, 6, 7, 8, 9, 11]) rfl (by kernel_rfl) (fun _ _ _ h => h) (Or.inl ⟨by rfl, fun _ _ => by first | rfl | go_simp⟩) hHeld ?_
      dsimp only [Act.put]
      refine wpAnyL_take (i := 6) (v := .int .i64 s.age) (C := [6, 7, 8, 9, 11]) rfl (by kernel_rfl) (fun _ _ _ h => h) (Or.inl ⟨by rfl, fun u hu => by obtain ⟨h1, h2, h3⟩ := HTo.out _ hu; go_simp⟩) hHeld ?_
      dsimp only [Act.put]
      refine wpAnyL_one (i := 4) (by kernel_rfl) rfl (fun K hK => ?_)
      refine step_append_run rfl (.const (.slice none 0 0)) (.tmp 17) 35 rfl _ _ rfl rfl _ _ r1 ?_
      refine hK.out _ _ (fun _ => (HTi.out _ x20 x21 a2)) ?_
      clear hK K hHeld
      have hHeld := (HTi.out _ x20 x21 a2)
      dsimp only [Act.put]
      refine wpAnyL_take (i := 7) (v := .agg #[.slice a1 s.bl.length c1, .int .i64 s.age]) (C := [7, 8, 9, 11]) rfl (by kernel_rfl) (fun _ _ _ h => h) (Or.inl ⟨by rfl, fun _ _ => by first | rfl | go_simp⟩) hHeld ?_
      dsimp only [Act.put]
      refine wpAnyL_one (i := 8) (by kernel_rfl) rfl (fun K hK => ?_)
      rw [if_pos (by rfl)]
      go_simp
      refine hK.out _ _ (fun _ => (HTi.out _ x30 x31 a3)) ?_
      clear hK K hHeld
      have hHeld := (HTi.out _ x30 x31 a3)
      refine wpAnyL_one (i := 9) (by kernel_rfl) rfl (fun K hK => ?_)
      refine step_append_run rfl (.tmp 15) (.tmp 22) 23 rfl _ _ rfl rfl _ _ r4 ?_
      refine hK.out _ _ (fun _ => (HTi.out _ x40 x41 a4)) ?_
      clear hK K hHeld
      have hHeld := (HTi.out _ x40 x41 a4)
      dsimp only [Act.put]
      refine wpAnyL_take (i := 10) (v := .pointer (some ⟨w.heap.size + 1 + 1, 0, none⟩)) (C := [10, 11]) rfl (by kernel_rfl) (fun _ _ _ h => h) (Or.inl ⟨by rfl, fun _ _ => by first | rfl | go_simp⟩) hHeld ?_
      dsimp only [Act.put]
      refine wpAnyL_one (i := 11) (by kernel_rfl) rfl (fun K hK => ?_)
      rw [if_pos (by rfl)]
      go_simp
      refine hK.out _ _ (fun h => absurd rfl h) ?_
      clear hK K hHeld
      refine wpAnyL_done (by kernel_rfl) ?_
      have HO6 : Hid (OI w (.cells #[.slice (some ⟨b, off, none⟩) S.length kS, .slice (some ⟨b', off', none⟩) S.length kL] 26) (.slice n4 (k + 1) c4) vL (W4.setCell ⟨w.heap.size + 1 + 1, 0, none⟩ (.slice n4 (k + 1) c4))) := by
        have := HO5.out
        rw [hkS] at this
        exact this
      have HF6 : Hid (Fam (w.heap.size + 3) (hd2 (k + 1) (L.take k).length) (hf (.slice n4 (k + 1) c4) vL (upN q k (.slice a1 s.bl.length c1)) p (S.take (k + 1)) (L.take k)) (W4.setCell ⟨w.heap.size + 1 + 1, 0, none⟩ (.slice n4 (k + 1) c4))) := by
        have := HF5.out
        rw [hkS] at this
        rw [HTS.out]
        exact this
      clear HO5 HF5 x00 x01 x20 x21 x30 x31 x40 x41 x50 x51 a0 a2 a3 a4 a4f r1 r4 hV0 hV3 HV0 hs0 HTi HTo hbs d0 d1
      generalize hW5 : W4.setCell ⟨w.heap.size + 1 + 1, 0, none⟩ (.slice n4 (k + 1) c4) = W5 at *
      clear hW5
      have hO6 := HO6.out.on ((Below.refl _ _).drew)
      have hsz6 := HO6.out.size
      have hF6 : Fam (w.heap.size + 3) (hd2 (k + 1) (L.take k).length) (hf (.slice n4 (k + 1) c4) vL (upN q k (.slice a1 s.bl.length c1)) p (S.take (k + 1)) (L.take k)) W5.drew := HF6.out.below ((Below.refl _ _).drew)
      have hJ6 := (HJr.out.below hO6.below).mono hO6.below.size
      obtain ⟨a7, c7, U2, a9, c9, U4, r7, r9, u2, k9, b9, F9⟩ := liv_step hF6 hsz6 (by omega) v hvk ⟨rfl, rfl, rfl, Nat.le_refl _, fun _ _ _ => rfl⟩ (.slice none 0 0) (rw_nil _ _ _ _) pb c' hJ6
      have p2 := hO6.on (below_of_grown u2 hsz6 (fun k e => by cases e))
      have p3 := p2.on (((boxB U2 (.cells #[.slice a7 v.length c7] 53))).mono (by have := p2.size; omega))
      have p4 := hO6.on b9
      have p5 := p4.set1 (.slice a9 ((L.take k).length + 1) c9)
      have F10 := F9.out (w.heap.size + 1 + 1) 1 (.slice a9 ((L.take k).length + 1) c9) (by omega)
      have e0 : W5.drew.cell? ⟨w.heap.size + 1 + 1, 1, none⟩ = some vL := box_cell hO6.out 1
      have e2 : U2.cell? ⟨w.heap.size + 1 + 1, 1, none⟩ = some vL := box_cell p2.out 1
      have e3 : (U2.alloc (.cells #[.slice a7 v.length c7] 53)).cell? ⟨w.heap.size + 1 + 1, 1, none⟩ = some vL := box_cell p3.out 1
      have e4 : U4.cell? ⟨w.heap.size + 1 + 1, 1, none⟩ = some vL := box_cell p4.out 1
      have e4f := box_free p4.out 1
      have f0 : W5.drew.cell? ⟨w.heap.size, 1, none⟩ = some (.slice (some ⟨b', off', none⟩) S.length kL) := box_cell hO6.box 1
      have f2 : U2.cell? ⟨w.heap.size, 1, none⟩ = some (.slice (some ⟨b', off', none⟩) S.length kL) := box_cell p2.box 1
      have f3 : (U2.alloc (.cells #[.slice a7 v.length c7] 53)).cell? ⟨w.heap.size, 1, none⟩ = some (.slice (some ⟨b', off', none⟩) S.length kL) := box_cell p3.box 1
      have f4 : U4.cell? ⟨w.heap.size, 1, none⟩ = some (.slice (some ⟨b', off', none⟩) S.length kL) := box_cell p4.box 1
      have g0 : W5.drew.cell? ⟨b', off' + k, none⟩ = some (.slice pb v.length c') := (hO6.below.cell (p := ⟨b', off' + k, none⟩) hb').trans C2.out
      have g2 : U2.cell? ⟨b', off' + k, none⟩ = some (.slice pb v.length c') := (p2.below.cell (p := ⟨b', off' + k, none⟩) hb').trans C2.out
      have g3 : (U2.alloc (.cells #[.slice a7 v.length c7] 53)).cell? ⟨b', off' + k, none⟩ = some (.slice pb v.length c') := (p3.below.cell (p := ⟨b', off' + k, none⟩) hb').trans C2.out
      have g4 : U4.cell? ⟨b', off' + k, none⟩ = some (.slice pb v.length c') := (p4.below.cell (p := ⟨b', off' + k, none⟩) hb').trans C2.out
      have HP5 := hid p5
      have HF10 := hid F10
      clear hO6 hF6 hJ6 u2 k9 b9 F9 p2 p3 p4 p5 F10 HO6 HF6
      go_wp2_with fail
      refine wp_region_L (fun u => u.cell? ⟨w.heap.size + 1 + 1, 1, none⟩ = some vL ∧ u.cell? ⟨w.heap.size, 1, none⟩ = some (.slice (some ⟨b', off', none⟩) S.length kL) ∧ u.cell? ⟨b', off' + k, none⟩ = some (.slice pb v.length c')) 11 (by kernel_rfl) ?_
      generalize hV0 : W5.drew = V at *
      generalize hV3 : U2.alloc (.cells #[.slice a7 v.length c7] 53) = U3 at *
      obtain ⟨T, hT⟩ : ∃ T : World → Prop, T = fun u => u.cell? ⟨w.heap.size + 1 + 1, 1, none⟩ = some vL ∧ u.cell? ⟨w.heap.size, 1, none⟩ = some (.slice (some ⟨b', off', none⟩) S.length kL) ∧ u.cell? ⟨b', off' + k, none⟩ = some (.slice pb v.length c') := ⟨_, rfl⟩
      rw [← hT]
      have hTi : ∀ u, u.cell? ⟨w.heap.size + 1 + 1, 1, none⟩ = some vL → u.cell? ⟨w.heap.size, 1, none⟩ = some (.slice (some ⟨b', off', none⟩) S.length kL) → u.cell? ⟨b', off' + k, none⟩ = some (.slice pb v.length c') → T u := fun u h1 h2 h3 => by rw [hT]; exact ⟨h1, h2, h3⟩
      have hTo : ∀ u, T u → u.cell? ⟨w.heap.size + 1 + 1, 1, none⟩ = some vL ∧ u.cell? ⟨w.heap.size, 1, none⟩ = some (.slice (some ⟨b', off', none⟩) S.length kL) ∧ u.cell? ⟨b', off' + k, none⟩ = some (.slice pb v.length c') := fun u h => by rw [hT] at h; exact h
      have HTo := hid hTo
      have HTi := hid hTi
      clear hT hTo hTi
      have hHeld : T V := HTi.out _ e0 f0 g0
      refine wpAnyL_take (i := 0) (v := .pointer (some ⟨w.heap.size + 1 + 1, 1, none⟩)) (C := [0, 1, 9, 11]) rfl (by kernel_rfl) (fun _ _ _ h => h) (Or.inl ⟨by rfl, fun _ _ => by first | rfl | go_simp⟩) hHeld ?_
      dsimp only [Act.put]
      refine wpAnyL_take (i := 1) (v := vL) (C := [1, 9, 11]) rfl (by kernel_rfl) (fun _ _ _ h => h) (Or.inl ⟨by rfl, fun u hu => by obtain ⟨h1, h2, h3⟩ := HTo.out _ hu; go_simp⟩) hHeld ?_
      dsimp only [Act.put]
      refine wpAnyL_take (i := 2) (v := .pointer (some ⟨w.heap.size, 1, none⟩)) (C := [2, 3, 5, 6, 7, 8, 9, 11]) rfl (by kernel_rfl) (fun _ _ _ h => h) (Or.inl ⟨by rfl, fun _ _ => by first | rfl | go_simp⟩) hHeld ?_
      dsimp only [Act.put]
      refine wpAnyL_take (i := 3) (v := (.slice (some ⟨b', off', none⟩) S.length kL)) (C := [3, 5, 6, 7, 8, 9, 11]) rfl (by kernel_rfl) (fun _ _ _ h => h) (Or.inl ⟨by rfl, fun u hu => by obtain ⟨h1, h2, h3⟩ := HTo.out _ hu; go_simp⟩) hHeld ?_
      dsimp only [Act.put]
      refine wpAnyL_take (i := 4) (v := .int .i64 k) (C := [4, 5, 6, 7, 8, 9, 11]) rfl (by kernel_rfl) (fun _ _ _ h => h) (Or.inl ⟨by rfl, fun _ _ => by first | rfl | go_simp⟩) hHeld ?_
      dsimp only [Act.put]
      refine wpAnyL_take (i := 5) (v := (.pointer (some ⟨b', off' + k, none⟩))) (C := [5, 6, 7, 8, 9, 11]) rfl (by kernel_rfl) (fun _ _ _ h => h) (Or.inl ⟨by rfl, fun _ _ => by go_simp⟩) hHeld ?_
      dsimp only [Act.put]
      refine wpAnyL_take (i := 6) (v := (.slice pb v.length c')) (C := [6, 7, 8, 9, 11]) rfl (by kernel_rfl) (fun _ _ _ h => h) (Or.inl ⟨by rfl, fun u hu => by obtain ⟨h1, h2, h3⟩ := HTo.out _ hu; go_simp⟩) hHeld ?_
      dsimp only [Act.put]
      refine wpAnyL_one (i := 7) (by kernel_rfl) rfl (fun K hK => ?_)
      refine step_append_run rfl (.const (.slice none 0 0)) (.tmp 31) 53 rfl _ _ rfl rfl _ _ r7 ?_
      refine hK.out _ _ (fun _ => (HTi.out _ e2 f2 g2)) ?_
      clear hK K hHeld
      have hHeld := (HTi.out _ e2 f2 g2)
      dsimp only [Act.put]
      refine wpAnyL_one (i := 8) (by kernel_rfl) rfl (fun K hK => ?_)
      rw [if_pos (by rfl)]
      go_simp
      refine hK.out _ _ (fun _ => (HTi.out _ e3 f3 g3)) ?_
      clear hK K hHeld
      have hHeld := (HTi.out _ e3 f3 g3)
      refine wpAnyL_one (i := 9) (by kernel_rfl) rfl (fun K hK => ?_)
      refine step_append_run rfl (.tmp 26) (.tmp 33) 24 rfl _ _ rfl rfl _ _ r9 ?_
      refine hK.out _ _ (fun _ => (HTi.out _ e4 f4 g4)) ?_
      clear hK K hHeld
      have hHeld := (HTi.out _ e4 f4 g4)
      dsimp only [Act.put]
      refine wpAnyL_take (i := 10) (v := .pointer (some ⟨w.heap.size + 1 + 1, 1, none⟩)) (C := [10, 11]) rfl (by kernel_rfl) (fun _ _ _ h => h) (Or.inl ⟨by rfl, fun _ _ => by first | rfl | go_simp⟩) hHeld ?_
      dsimp only [Act.put]
      refine wpAnyL_one (i := 11) (by kernel_rfl) rfl (fun K hK => ?_)
      rw [if_pos (by rfl)]
      go_simp
      refine hK.out _ _ (fun h => absurd rfl h) ?_
      clear hK K hHeld
      refine wpAnyL_done (by kernel_rfl) ?_
      have HP6 : Hid (OI w (.cells #[.slice (some ⟨b, off, none⟩) S.length kS, .slice (some ⟨b', off', none⟩) S.length kL] 26) (.slice n4 (k + 1) c4) (.slice a9 (k + 1) c9) (U4.setCell ⟨w.heap.size + 1 + 1, 1, none⟩ (.slice a9 (k + 1) c9))) := by
        have := HP5.out
        rw [hkL] at this
        exact this
      have HF11 : Hid (Fam (w.heap.size + 3) (hd2 (S.take (k + 1)).length (L.take (k + 1)).length) (hf (.slice n4 (k + 1) c4) (.slice a9 (k + 1) c9) (upN q k (.slice a1 s.bl.length c1)) (upN p k (.slice a7 v.length c7)) (S.take (k + 1)) (L.take (k + 1))) (U4.setCell ⟨w.heap.size + 1 + 1, 1, none⟩ (.slice a9 (k + 1) c9))) := by
        have := HF10.out
        rw [hkL] at this
        rw [HTL.out]
        have e1 : (S.take (k + 1)).length = k + 1 := by simp; omega
        have e2 : (L.take k ++ [v]).length = k + 1 := by simp; omega
        rw [e1, e2]
        exact this
      clear HP5 HF10 e0 e2 e3 e4 e4f f0 f2 f3 f4 g0 g2 g3 g4 r7 r9 hV0 hV3 HTi HTo
      generalize U4.setCell ⟨w.heap.size + 1 + 1, 1, none⟩ (.slice a9 (k + 1) c9) = W11 at *
      go_wp2_with fail
      go_roundw
      case rel => exact ⟨k + 1, _, _, _, _, by omega, by go_num, HF11.out, HP6.out⟩
      case measure => simp [intOf]; omega
    · obtain rfl : k = S.length := by omega
      have hF' := HF.out
      rw [List.take_of_length_le (Nat.le_refl _), List.take_of_length_le (Nat.le_of_eq hl)] at hF'
      have y0 : wr.cell? ⟨w.heap.size + 1 + 1, 0, none⟩ = some vS := box_cell hO.out 0
      have y1 : wr.cell? ⟨w.heap.size + 1 + 1, 1, none⟩ = some vL := box_cell hO.out 1
      have z0 : wr.cell? ⟨w.heap.size + 1, 0, none⟩ = some (.slice none 0 0) := box_cell hO.res 0
      have z1 : wr.cell? ⟨w.heap.size + 1, 1, none⟩ = some (.slice none 0 0) := box_cell hO.res 1
      have z0f := box_free hO.res 0
      have z1f := box_free hO.res 1
      have hsz := hO.size
      obtain ⟨hs1, hs2, he1⟩ := rw_form (hF'.own .s trivial)
      obtain ⟨ht1, ht2, he2⟩ := rw_form (hF'.own .l trivial)
      have he1' : vS = .slice hs1 S.length hs2 := he1
      have he2' : vL = .slice ht1 L.length ht2 := he2
      have HB9 : Hid (∀ x y, Below w.heap.size w ((wr.setCell ⟨w.heap.size + 1, 0, none⟩ x).setCell ⟨w.heap.size + 1, 1, none⟩ y)) := fun x y => setB (setB hO.below _ _ (by omega) _) _ _ (by omega) _
      have HF9 : Hid (∀ x y, Fam (w.heap.size + 3) (hd2 S.length L.length) (hf vS vL q p S L) ((wr.setCell ⟨w.heap.size + 1, 0, none⟩ x).setCell ⟨w.heap.size + 1, 1, none⟩ y)) := fun x y => (hF'.out _ _ _ (by omega)).out _ _ _ (by omega)
      clear he1 he2 hF' HF HO
      rw [he1'] at y0 HF9
      rw [he2'] at y1 HF9
      have HRES := hid hO.res
      clear he1' he2' hO
      have hres := box_set (box_set HRES.out 0 (.slice hs1 S.length hs2)) 1 (.slice ht1 L.length ht2)
      have x0 : ((wr.setCell ⟨w.heap.size + 1, 0, none⟩ (.slice hs1 S.length hs2)).setCell ⟨w.heap.size + 1, 1, none⟩ (.slice ht1 L.length ht2)).cell? ⟨w.heap.size + 1, 0, none⟩ = some (.slice hs1 S.length hs2) := box_cell hres 0
      have x1 : ((wr.setCell ⟨w.heap.size + 1, 0, none⟩ (.slice hs1 S.length hs2)).setCell ⟨w.heap.size + 1, 1, none⟩ (.slice ht1 L.length ht2)).cell? ⟨w.heap.size + 1, 1, none⟩ = some (.slice ht1 L.length ht2) := box_cell hres 1
      have HB10 := hid (HB9.out (.slice hs1 S.length hs2) (.slice ht1 L.length ht2))
      have HF10 := hid (HF9.out (.slice hs1 S.length hs2) (.slice ht1 L.length ht2))
      clear hres HB9 HF9 HRES
      rw [hl] at x0 x1 HB10 HF10 y1
      go_wp2_with fail
      generalize (wr.setCell ⟨w.heap.size + 1, 0, none⟩ (.slice hs1 S.length hs2)).setCell ⟨w.heap.size + 1, 1, none⟩ (.slice ht1 S.length ht2) = X at *
      refine bodyPost_ret (v := .agg #[.slice hs1 S.length hs2, .slice ht1 S.length ht2]) (by simp [results, Try.results60, go_sem, x0, x1]) rfl ⟨_, _, rfl, ?_, HB10.out⟩
      refine HR.low ⟨hl, q, p, ?_⟩ (show w.heap.size ≤ w.heap.size + 3 by omega)
      exact HF10.out
end Go.Proofs.Ytohkhcjdjjlfbaa
