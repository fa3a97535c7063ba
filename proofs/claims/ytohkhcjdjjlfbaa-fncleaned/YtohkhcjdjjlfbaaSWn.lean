/- Walk of the model's l5Write where there is room: boxes of other heaps stay. -/
import Derived.Test.YtohkhcjdjjlfbaaHOwns
namespace Go.Proofs.Ytohkhcjdjjlfbaa
set_option maxRecDepth 100000
open Go.ChangeShapes Go.WideShapes Go.ChangeAt Go.RowKit G00541
/-- what l5Write keeps: its own boxes, and every other box of a heap -/
structure WN (lo : Nat) (w : World) (o : Obj) (wr : World) : Prop where
  wk : WK lo w o wr
  keep : ∀ X cs, X < w.heap.size → w.heap[X]? = some (.cells cs 26) → wr.heap[X]? = w.heap[X]?
theorem WN.box {lo : Nat} {w : World} {o : Obj} {wr : World} (h : WN lo w o wr) : wr.heap[w.heap.size]? = some o := h.wk.box
theorem WN.res {lo : Nat} {w : World} {o : Obj} {wr : World} (h : WN lo w o wr) : wr.heap[w.heap.size + 1]? = some (.cells #[.slice none 0 0, .slice none 0 0] 26) := h.wk.res
theorem WN.size {lo : Nat} {w : World} {o : Obj} {wr : World} (h : WN lo w o wr) : w.heap.size + 2 ≤ wr.heap.size := h.wk.size
theorem WN.start (lo : Nat) (w : World) (o : Obj) (hlo : lo ≤ w.heap.size) : WN lo w o ((w.alloc o).alloc (.cells #[.slice none 0 0, .slice none 0 0] 26)) :=
  ⟨WK.start lo w o hlo, fun X cs hX _ => (Below.heap_alloc _ _ _ (by simp; omega)).trans (Below.heap_alloc _ _ _ hX)⟩
theorem WN.on {lo : Nat} {w : World} {o : Obj} {wr w' : World} (h : WN lo w o wr) (g : Below wr.heap.size wr w') (hlo : lo ≤ w.heap.size) : WN lo w o w' :=
  ⟨h.wk.on g hlo, fun X cs hX hc => (g.block X (by have := h.size; omega)).trans (h.keep X cs hX hc)⟩
theorem WN.step {lo : Nat} {w : World} {o : Obj} {wr w' : World} (h : WN lo w o wr) (g : Below lo wr w') (k0 : w'.heap[w.heap.size]? = wr.heap[w.heap.size]?) (k1 : w'.heap[w.heap.size + 1]? = wr.heap[w.heap.size + 1]?) (k2 : ∀ X cs, X < w.heap.size → wr.heap[X]? = some (.cells cs 26) → w'.heap[X]? = wr.heap[X]?) : WN lo w o w' :=
  ⟨h.wk.step g k0 k1, fun X cs hX hc => (k2 X cs hX ((h.keep X cs hX hc).trans hc)).trans (h.keep X cs hX hc)⟩
theorem WN.set {lo : Nat} {w : World} {o : Obj} {wr : World} (h : WN lo w o wr) (X j : Nat) (u : Value) (hX : lo ≤ X) (hX2 : X < w.heap.size) (hne : ∀ cs, wr.heap[X]? = some (.cells cs 26) → False) : WN lo w o (wr.setCell ⟨X, j, none⟩ u) :=
  h.step (setB (Below.refl _ _) _ _ hX _) (keepB _ _ _ _ _ (by omega)) (keepB _ _ _ _ _ (by omega)) (fun Y cs _ hc => keepB _ _ _ _ _ (fun e => hne cs (by rw [← e]; exact hc)))
theorem WN.fill {lo : Nat} {w : World} {o : Obj} {wr : World} (h : WN lo w o wr) (hlo : lo ≤ w.heap.size) (x y : Value) : Below lo w ((wr.setCell ⟨w.heap.size + 1, 0, none⟩ x).setCell ⟨w.heap.size + 1, 1, none⟩ y) ∧ ((wr.setCell ⟨w.heap.size + 1, 0, none⟩ x).setCell ⟨w.heap.size + 1, 1, none⟩ y).cell? ⟨w.heap.size + 1, 0, none⟩ = some x ∧ ((wr.setCell ⟨w.heap.size + 1, 0, none⟩ x).setCell ⟨w.heap.size + 1, 1, none⟩ y).cell? ⟨w.heap.size + 1, 1, none⟩ = some y := h.wk.fill hlo x y
theorem WN.kept {lo : Nat} {w : World} {o : Obj} {wr : World} (h : WN lo w o wr) (x y : Value) : ∀ X cs, X < w.heap.size → w.heap[X]? = some (.cells cs 26) → ((wr.setCell ⟨w.heap.size + 1, 0, none⟩ x).setCell ⟨w.heap.size + 1, 1, none⟩ y).heap[X]? = w.heap[X]? :=
  fun X cs hX hc => (keepB _ _ _ _ _ (by omega)).trans ((keepB _ _ _ _ _ (by omega)).trans (h.keep X cs hX hc))
set_option maxHeartbeats 4000000 in
theorem l5Write_keep (lo gs gl kS kL to : Nat) (S : List Sg) (L : List (List Bool)) (q p : Nat → Value) (x no : Int) (w : World) (hlo : lo ≤ w.heap.size) (hm : S.length ≤ 8) (hl : L.length = S.length) (hv : ∀ k (h : k < S.length), (L[k]'(by omega)).length = S[k].bl.length ∧ S[k].bl.length ≤ 1048576) (hroom : roomH S no = some to) (hbl : (blAt S to).length ≤ 100) (hlb : (lvAt L to).length ≤ 99)
    (hF : Fam lo (hd2 S.length L.length) (hf (.slice (some ⟨gs, 0, none⟩) S.length kS) (.slice (some ⟨gl, 0, none⟩) L.length kL) q p S L) w) (hgs : lo ≤ gs ∧ gs < w.heap.size) (hgl : lo ≤ gl ∧ gl < w.heap.size) (hG : Gs w.heap.size (some ⟨gs, 0, none⟩) S w) (hV : Vs w.heap.size (some ⟨gl, 0, none⟩) L w) :
    Calls Try.prog 37 #[.agg #[.slice (some ⟨gs, 0, none⟩) S.length kS, .slice (some ⟨gl, 0, none⟩) L.length kL], .int .i64 x, .int .i64 no] w fun e w' => e = .returned (.tuple #[.agg #[.slice (some ⟨gs, 0, none⟩) S.length kS, .slice (some ⟨gl, 0, none⟩) L.length kL], .bool true]) ∧ HR lo (.slice (some ⟨gs, 0, none⟩) S.length kS) (.slice (some ⟨gl, 0, none⟩) L.length kL) (putS S to x) (putL (offL L (whereH S L x)) to) w' ∧ Below lo w w' ∧ ∀ X cs, X < w.heap.size → w.heap[X]? = some (.cells cs 26) → w'.heap[X]? = w.heap[X]? := by
  obtain ⟨hto, -⟩ := roomH_lt S no to hroom
  have HK := hid (WN.start lo w (.cells #[.slice (some ⟨gs, 0, none⟩) S.length kS, .slice (some ⟨gl, 0, none⟩) L.length kL] 26) hlo)
  have HFw : Hid (∀ v, Below w.heap.size w v → Fam lo (hd2 S.length L.length) (hf (.slice (some ⟨gs, 0, none⟩) S.length kS) (.slice (some ⟨gl, 0, none⟩) L.length kL) q p S L) v) := fun v hv => hF.below hv
  have HRM : Hid (∀ v, Below w.heap.size w v → Calls Try.prog 64 #[.agg #[.slice (some ⟨gs, 0, none⟩) S.length kS, .slice (some ⟨gl, 0, none⟩) L.length kL], .int .i64 no] v fun e w' => e = .returned (.int .i64 (to : Int)) ∧ Below v.heap.size v w') := fun v hb => by
    have := l5Room_any (some ⟨gs, 0, none⟩) (some ⟨gl, 0, none⟩) kS kL L.length S no v (by omega) ((hG.below hb).mono hb.size)
    rw [hroom] at this; exact this
  have HWH : Hid (∀ v, Below w.heap.size w v → Calls Try.prog 47 #[.agg #[.slice (some ⟨gs, 0, none⟩) S.length kS, .slice (some ⟨gl, 0, none⟩) L.length kL], .int .i64 x] v fun e w' => e = .returned (.tuple #[.int .i64 (wI (whereH S L x)).1, .int .i64 (wI (whereH S L x)).2]) ∧ Below v.heap.size v w') := fun v hb => l5Where_any (some ⟨gs, 0, none⟩) (some ⟨gl, 0, none⟩) kS kL S L x v (by omega) hl hv ((hG.below hb).mono hb.size) ((hV.below hb).mono hb.size)
  have HWL := hid (whereH_lt S L x)
  have HQL : Hid (∀ k, k < S.length → ∀ g, (q k).ownBlock = some g → g < w.heap.size) := fun k hk g hg => ((hF.own (.b k) hk).lt g hg).2
  have HPL : Hid (∀ k, k < S.length → ∀ g, (p k).ownBlock = some g → g < w.heap.size) := fun k hk g hg => ((hF.own (.v k) (by show k < L.length; omega)).lt g hg).2
  obtain ⟨o, ho⟩ : ∃ o, whereH S L x = o := ⟨_, rfl⟩
  rw [ho] at HWH HWL ⊢
  clear ho
  have HLEN : Hid (∀ k, k < S.length → (lvAt L k).length = (blAt S k).length) := fun k hk => by rw [lvAt_eq L k (by omega), blAt_eq S k hk]; exact (hv k hk).1
  have HBw : Hid (Below w.heap.size w ((w.alloc (.cells #[.slice (some ⟨gs, 0, none⟩) S.length kS, .slice (some ⟨gl, 0, none⟩) L.length kL] 26)).alloc (.cells #[.slice none 0 0, .slice none 0 0] 26))) := ((Below.refl _ _).alloc (Nat.le_refl _) _).alloc (by simp) _
  have y0 := box_cell HK.out.box 0
  have y1 := box_cell HK.out.box 1
  have HL := hid hl
  clear hG hV hF hv hroom hl
  generalize hW : (w.alloc (.cells #[.slice (some ⟨gs, 0, none⟩) S.length kS, .slice (some ⟨gl, 0, none⟩) L.length kL] 26)).alloc (.cells #[.slice none 0 0, .slice none 0 0] 26) = W at *
  have hdt : decide ((to : Int) < 0) = false := decide_eq_false (by omega)
  go_enter Try.func37, Try.ntmps37
  go_wp2_with fail
  refine (HRM.out _ HBw.out).mono ?_
  rintro e w2 ⟨rfl, b2⟩
  have HK2 := hid (HK.out.on b2 hlo)
  have HB2 : Hid (Below w.heap.size w w2) := HBw.out.trans (b2.mono HBw.out.size)
  clear b2 hW y0 y1 HK HRM HBw
  have y0 := box_cell HK2.out.box 0
  have y1 := box_cell HK2.out.box 1
  cases o with
  | none =>
    simp only [wI] at HWH
    have HC3 := hid (HWH.out _ HB2.out)
    go_wp2_with fail
    refine HC3.out.mono ?_
    rintro e W6 ⟨rfl, b3⟩
    have HK6 := hid (HK2.out.on b3 hlo)
    have HF6 := hid (HFw.out W6 (HB2.out.trans (b3.mono HB2.out.size)))
    clear b3 y0 y1 HK2 HB2 HC3 HWH HFw HWL
    have HL1 : Hid (L.length = S.length) := HL.out
    have HLB1 : Hid ((lvAt L to).length ≤ 99) := hlb
    have hK6 := HK6.out.on (Below.refl _ _).drew hlo
    have hs6 : w.heap.size + 2 ≤ W6.drew.heap.size := hK6.size
    have hF6 : Fam lo (hd2 S.length L.length) (hf (.slice (some ⟨gs, 0, none⟩) S.length kS) (.slice (some ⟨gl, 0, none⟩) L.length kL) q p S L) W6.drew := HF6.out.below (Below.refl _ _).drew
    obtain ⟨a4, c4, W4, r4, b4, k4, F4⟩ := blk_step hF6 (by omega) to hto x hbl gs rfl
    have hne := hF6.apart .s (.b to) trivial hto (by intro e; cases e) gs rfl
    have hneX : (q to).ownBlock ≠ some w.heap.size := fun e => by have := HQL.out to hto _ e; omega
    have hneY : (q to).ownBlock ≠ some (w.heap.size + 1) := fun e => by have := HQL.out to hto _ e; omega
    have hseg : W6.drew.ownsRow lo 40 2 (.slice (some ⟨gs, 0, none⟩) S.length kS) S.length (segXs q S) := hF6.own .s trivial
    have v0 : W6.drew.cell? ⟨gs, to * 2, none⟩ = some (q to) := by rw [rw_cell hseg rfl (to * 2) (by rw [segXs_len]; omega), segXs_q]
    have vf : W6.drew.frozen? ⟨gs, to * 2, none⟩ = false := rw_free hseg rfl _
    have hgl4 := k4 gs (by omega) hne
    have v4 : W4.cell? ⟨gs, to * 2, none⟩ = some (q to) := (World.cell?_of_block (a := ⟨gs, to * 2, none⟩) hgl4).trans v0
    have v4f : W4.frozen? ⟨gs, to * 2, none⟩ = false := (World.frozen?_of_block (a := ⟨gs, to * 2, none⟩) hgl4).trans vf
    have v1 : (W6.drew.alloc (.cells #[.int .i64 x] 3)).cell? ⟨gs, to * 2, none⟩ = some (q to) := ((boxB W6.drew (.cells #[.int .i64 x] 3)).cell (p := ⟨gs, to * 2, none⟩) (by show gs < W6.drew.heap.size; omega)).trans v0
    have hK1 := hK6.on (boxB W6.drew (.cells #[.int .i64 x] 3)) hlo
    have hK4 := hK6.step b4 (k4 _ (by omega) hneX) (k4 _ (by omega) hneY) (fun X cs hX hc => k4 X (by omega) (rw_apart (hF6.own (.b to) hto) hc (show 3 ≠ 26 by decide)))
    have u0 : W6.drew.cell? ⟨w.heap.size, 0, none⟩ = some (.slice (some ⟨gs, 0, none⟩) S.length kS) := box_cell hK6.box 0
    have u1 : (W6.drew.alloc (.cells #[.int .i64 x] 3)).cell? ⟨w.heap.size, 0, none⟩ = some (.slice (some ⟨gs, 0, none⟩) S.length kS) := box_cell hK1.box 0
    have u4 : W4.cell? ⟨w.heap.size, 0, none⟩ = some (.slice (some ⟨gs, 0, none⟩) S.length kS) := box_cell hK4.box 0
    have HK7 := hid (hK4.set gs (to * 2) (.slice a4 ((blAt S to).length + 1) c4) hgs.1 hgs.2 (fun cs h => rw_apart hseg (hgl4.symm.trans h) (by decide) rfl))
    have HF7 := hid F4
    clear hK6 hK1 hK4 hF6 b4 k4 F4 hseg hne hneX hneY hgl4 vf HK6 HF6
    generalize q to = qt at *
    go_wp2_with fail
    refine wp_region_L (fun u => u.cell? ⟨w.heap.size, 0, none⟩ = some (.slice (some ⟨gs, 0, none⟩) S.length kS) ∧ u.cell? ⟨gs, to * 2, none⟩ = some qt) 14 (by kernel_rfl) ?_
    generalize hV0 : W6.drew = V at *
    generalize hV1 : V.alloc (.cells #[.int .i64 x] 3) = V1 at *
    obtain ⟨T, hT⟩ : ∃ T : World → Prop, T = fun u => u.cell? ⟨w.heap.size, 0, none⟩ = some (.slice (some ⟨gs, 0, none⟩) S.length kS) ∧ u.cell? ⟨gs, to * 2, none⟩ = some qt := ⟨_, rfl⟩
    rw [← hT]
    have hTi : ∀ u, u.cell? ⟨w.heap.size, 0, none⟩ = some (.slice (some ⟨gs, 0, none⟩) S.length kS) → u.cell? ⟨gs, to * 2, none⟩ = some qt → T u := fun u h1 h2 => by rw [hT]; exact ⟨h1, h2⟩
    have hTo : ∀ u, T u → u.cell? ⟨w.heap.size, 0, none⟩ = some (.slice (some ⟨gs, 0, none⟩) S.length kS) ∧ u.cell? ⟨gs, to * 2, none⟩ = some qt := fun u h => by rw [hT] at h; exact h
    have HTo := hid hTo
    have HTi := hid hTi
    clear hT hTo hTi
    have hHeld : T V := HTi.out _ u0 v0
    refine wpAnyL_take (i := 0) (v := .pointer (some ⟨w.heap.size, 0, none⟩)) (C := [0, 1, 12, 13, 14]) rfl (by kernel_rfl) (fun _ _ _ h => h) (Or.inl ⟨by rfl, fun _ _ => by go_simp⟩) hHeld ?_
    dsimp only [Act.put]
    refine wpAnyL_take (i := 1) (v := (.slice (some ⟨gs, 0, none⟩) S.length kS)) (C := [1, 12, 13, 14]) rfl (by kernel_rfl) (fun _ _ _ h => h) (Or.inl ⟨by rfl, fun u hu => by obtain ⟨h1, h2⟩ := HTo.out _ hu; go_simp⟩) hHeld ?_
    dsimp only [Act.put]
    refine wpAnyL_take (i := 2) (v := .int .i64 to) (C := [2, 12, 13, 14]) rfl (by kernel_rfl) (fun _ _ _ h => h) (Or.inl ⟨by rfl, fun _ _ => by go_simp⟩) hHeld ?_
    dsimp only [Act.put]
    refine wpAnyL_take (i := 3) (v := .pointer (some ⟨w.heap.size, 0, none⟩)) (C := [3, 4, 6, 7, 8, 11, 14]) rfl (by kernel_rfl) (fun _ _ _ h => h) (Or.inl ⟨by rfl, fun _ _ => by go_simp⟩) hHeld ?_
    dsimp only [Act.put]
    refine wpAnyL_take (i := 4) (v := (.slice (some ⟨gs, 0, none⟩) S.length kS)) (C := [4, 6, 7, 8, 11, 14]) rfl (by kernel_rfl) (fun _ _ _ h => h) (Or.inl ⟨by rfl, fun u hu => by obtain ⟨h1, h2⟩ := HTo.out _ hu; go_simp⟩) hHeld ?_
    dsimp only [Act.put]
    refine wpAnyL_take (i := 5) (v := .int .i64 to) (C := [5, 6, 7, 8, 11, 14]) rfl (by kernel_rfl) (fun _ _ _ h => h) (Or.inl ⟨by rfl, fun _ _ => by go_simp⟩) hHeld ?_
    dsimp only [Act.put]
    refine wpAnyL_take (i := 6) (v := (.pointer (some ⟨gs, to * 2, none⟩))) (C := [6, 7, 8, 11, 14]) rfl (by kernel_rfl) (fun _ _ _ h => h) (Or.inl ⟨by rfl, fun _ _ => by go_simp⟩) hHeld ?_
    dsimp only [Act.put]
    refine wpAnyL_take (i := 7) (v := (.pointer (some ⟨gs, to * 2, none⟩))) (C := [7, 8, 11, 14]) rfl (by kernel_rfl) (fun _ _ _ h => h) (Or.inl ⟨by rfl, fun _ _ => by go_simp⟩) hHeld ?_
    dsimp only [Act.put]
    refine wpAnyL_take (i := 8) (v := qt) (C := [8, 11, 14]) rfl (by kernel_rfl) (fun _ _ _ h => h) (Or.inl ⟨by rfl, fun u hu => by obtain ⟨h1, h2⟩ := HTo.out _ hu; go_simp⟩) hHeld ?_
    dsimp only [Act.put]
    refine wpAnyL_take (i := 9) (v := .int .i64 x) (C := [9, 10, 11, 14]) rfl (by kernel_rfl) (fun _ _ _ h => h) (Or.inl ⟨by rfl, fun _ _ => by go_simp⟩) hHeld ?_
    dsimp only [Act.put]
    refine wpAnyL_one (i := 10) (by kernel_rfl) rfl (fun K hK => ?_)
    rw [if_pos (by rfl)]
    go_simp
    refine hK.out _ _ (fun _ => (HTi.out _ u1 v1)) ?_
    clear hK K hHeld
    have hHeld := (HTi.out _ u1 v1)
    refine wpAnyL_one (i := 11) (by kernel_rfl) rfl (fun K hK => ?_)
    refine step_append_run rfl (.tmp 40) (.tmp 42) 35 rfl _ _ rfl rfl _ _ r4 ?_
    refine hK.out _ _ (fun _ => (HTi.out _ u4 v4)) ?_
    clear hK K hHeld
    have hHeld := (HTi.out _ u4 v4)
    dsimp only [Act.put]
    refine wpAnyL_take (i := 12) (v := (.pointer (some ⟨gs, to * 2, none⟩))) (C := [12, 13, 14]) rfl (by kernel_rfl) (fun _ _ _ h => h) (Or.inl ⟨by rfl, fun _ _ => by go_simp⟩) hHeld ?_
    dsimp only [Act.put]
    refine wpAnyL_take (i := 13) (v := (.pointer (some ⟨gs, to * 2, none⟩))) (C := [13, 14]) rfl (by kernel_rfl) (fun _ _ _ h => h) (Or.inl ⟨by rfl, fun _ _ => by go_simp⟩) hHeld ?_
    dsimp only [Act.put]
    refine wpAnyL_one (i := 14) (by kernel_rfl) rfl (fun K hK => ?_)
    rw [if_pos (by rfl)]
    go_simp
    refine hK.out _ _ (fun h => absurd rfl h) ?_
    clear hK K hHeld
    refine wpAnyL_done (by kernel_rfl) ?_
    clear r4 u0 u1 u4 v0 v1 v4 v4f hV0 hV1 HTi HTo
    generalize hW7 : W4.setCell ⟨gs, to * 2, none⟩ (.slice a4 ((blAt S to).length + 1) c4) = W7 at *
    clear hW7
    have hK6 := HK7.out.on (Below.refl _ _).drew hlo
    have hs6 : w.heap.size + 2 ≤ W7.drew.heap.size := hK6.size
    have hF6 := HF7.out.below (w' := W7.drew) (Below.refl _ _).drew
    obtain ⟨a9, c9, W9, r4, b4, k4, F4⟩ := lv_step hF6 (by omega) to (by rw [HL1.out]; exact hto) true (by have := HLB1.out; omega) gl rfl
    have hne := hF6.apart .l (.v to) trivial (show to < L.length by rw [HL1.out]; exact hto) (by intro e; cases e) gl rfl
    have hneX : (p to).ownBlock ≠ some w.heap.size := fun e => by have := HPL.out to hto _ e; omega
    have hneY : (p to).ownBlock ≠ some (w.heap.size + 1) := fun e => by have := HPL.out to hto _ e; omega
    have hseg : W7.drew.ownsRow lo 53 1 (.slice (some ⟨gl, 0, none⟩) L.length kL) L.length (livXs p L.length) := hF6.own .l trivial
    have v0 : W7.drew.cell? ⟨gl, to, none⟩ = some (p to) := by rw [rw_cell hseg rfl to (by rw [livXs_len, HL1.out]; exact hto), livXs_at]
    have vf : W7.drew.frozen? ⟨gl, to, none⟩ = false := rw_free hseg rfl _
    have hgl4 := k4 gl (by omega) hne
    have v4 : W9.cell? ⟨gl, to, none⟩ = some (p to) := (World.cell?_of_block (a := ⟨gl, to, none⟩) hgl4).trans v0
    have v4f : W9.frozen? ⟨gl, to, none⟩ = false := (World.frozen?_of_block (a := ⟨gl, to, none⟩) hgl4).trans vf
    have v1 : (W7.drew.alloc (.cells #[.bool true] 4)).cell? ⟨gl, to, none⟩ = some (p to) := ((boxB W7.drew (.cells #[.bool true] 4)).cell (p := ⟨gl, to, none⟩) (by show gl < W7.drew.heap.size; omega)).trans v0
    have hK1 := hK6.on (boxB W7.drew (.cells #[.bool true] 4)) hlo
    have hK4 := hK6.step b4 (k4 _ (by omega) hneX) (k4 _ (by omega) hneY) (fun X cs hX hc => k4 X (by omega) (rw_apart (hF6.own (.v to) (show to < L.length by rw [HL1.out]; exact hto)) hc (show 4 ≠ 26 by decide)))
    have u0 : W7.drew.cell? ⟨w.heap.size, 1, none⟩ = some (.slice (some ⟨gl, 0, none⟩) L.length kL) := box_cell hK6.box 1
    have u1 : (W7.drew.alloc (.cells #[.bool true] 4)).cell? ⟨w.heap.size, 1, none⟩ = some (.slice (some ⟨gl, 0, none⟩) L.length kL) := box_cell hK1.box 1
    have u4 : W9.cell? ⟨w.heap.size, 1, none⟩ = some (.slice (some ⟨gl, 0, none⟩) L.length kL) := box_cell hK4.box 1
    have HK9 := hid (hK4.set gl to (.slice a9 ((lvAt L to).length + 1) c9) hgl.1 hgl.2 (fun cs h => rw_apart hseg (hgl4.symm.trans h) (by decide) rfl))
    have HF9 := hid F4
    clear hK6 hK1 hK4 hF6 b4 k4 F4 hseg hne hneX hneY hgl4 vf HK7 HF7
    have HLS := hid (show to < L.length by rw [HL.out]; exact hto)
    have hLS := HLS.out
    generalize p to = pt at *
    go_wp2_with fail
    refine wp_region_L (fun u => u.cell? ⟨w.heap.size, 1, none⟩ = some (.slice (some ⟨gl, 0, none⟩) L.length kL) ∧ u.cell? ⟨gl, to, none⟩ = some pt) 11 (by kernel_rfl) ?_
    generalize hV0 : W7.drew = V at *
    generalize hV1 : V.alloc (.cells #[.bool true] 4) = V1 at *
    obtain ⟨T, hT⟩ : ∃ T : World → Prop, T = fun u => u.cell? ⟨w.heap.size, 1, none⟩ = some (.slice (some ⟨gl, 0, none⟩) L.length kL) ∧ u.cell? ⟨gl, to, none⟩ = some pt := ⟨_, rfl⟩
    rw [← hT]
    have hTi : ∀ u, u.cell? ⟨w.heap.size, 1, none⟩ = some (.slice (some ⟨gl, 0, none⟩) L.length kL) → u.cell? ⟨gl, to, none⟩ = some pt → T u := fun u h1 h2 => by rw [hT]; exact ⟨h1, h2⟩
    have hTo : ∀ u, T u → u.cell? ⟨w.heap.size, 1, none⟩ = some (.slice (some ⟨gl, 0, none⟩) L.length kL) ∧ u.cell? ⟨gl, to, none⟩ = some pt := fun u h => by rw [hT] at h; exact h
    have HTo := hid hTo
    have HTi := hid hTi
    clear hT hTo hTi
    have hHeld : T V := HTi.out _ u0 v0
    refine wpAnyL_take (i := 0) (v := .pointer (some ⟨w.heap.size, 1, none⟩)) (C := [0, 1, 10, 11]) rfl (by kernel_rfl) (fun _ _ _ h => h) (Or.inl ⟨by rfl, fun _ _ => by go_simp⟩) hHeld ?_
    dsimp only [Act.put]
    refine wpAnyL_take (i := 1) (v := (.slice (some ⟨gl, 0, none⟩) L.length kL)) (C := [1, 10, 11]) rfl (by kernel_rfl) (fun _ _ _ h => h) (Or.inl ⟨by rfl, fun u hu => by obtain ⟨h1, h2⟩ := HTo.out _ hu; go_simp⟩) hHeld ?_
    dsimp only [Act.put]
    refine wpAnyL_take (i := 2) (v := .int .i64 to) (C := [2, 10, 11]) rfl (by kernel_rfl) (fun _ _ _ h => h) (Or.inl ⟨by rfl, fun _ _ => by go_simp⟩) hHeld ?_
    dsimp only [Act.put]
    refine wpAnyL_take (i := 3) (v := .pointer (some ⟨w.heap.size, 1, none⟩)) (C := [3, 4, 6, 7, 9, 11]) rfl (by kernel_rfl) (fun _ _ _ h => h) (Or.inl ⟨by rfl, fun _ _ => by go_simp⟩) hHeld ?_
    dsimp only [Act.put]
    refine wpAnyL_take (i := 4) (v := (.slice (some ⟨gl, 0, none⟩) L.length kL)) (C := [4, 6, 7, 9, 11]) rfl (by kernel_rfl) (fun _ _ _ h => h) (Or.inl ⟨by rfl, fun u hu => by obtain ⟨h1, h2⟩ := HTo.out _ hu; go_simp⟩) hHeld ?_
    dsimp only [Act.put]
    refine wpAnyL_take (i := 5) (v := .int .i64 to) (C := [5, 6, 7, 9, 11]) rfl (by kernel_rfl) (fun _ _ _ h => h) (Or.inl ⟨by rfl, fun _ _ => by go_simp⟩) hHeld ?_
    dsimp only [Act.put]
    refine wpAnyL_take (i := 6) (v := (.pointer (some ⟨gl, to, none⟩))) (C := [6, 7, 9, 11]) rfl (by kernel_rfl) (fun _ _ _ h => h) (Or.inl ⟨by rfl, fun _ _ => by go_simp⟩) hHeld ?_
    dsimp only [Act.put]
    refine wpAnyL_take (i := 7) (v := pt) (C := [7, 9, 11]) rfl (by kernel_rfl) (fun _ _ _ h => h) (Or.inl ⟨by rfl, fun u hu => by obtain ⟨h1, h2⟩ := HTo.out _ hu; go_simp⟩) hHeld ?_
    dsimp only [Act.put]
    refine wpAnyL_one (i := 8) (by kernel_rfl) rfl (fun K hK => ?_)
    rw [if_pos (by rfl)]
    go_simp
    refine hK.out _ _ (fun _ => (HTi.out _ u1 v1)) ?_
    clear hK K hHeld
    have hHeld := (HTi.out _ u1 v1)
    refine wpAnyL_one (i := 9) (by kernel_rfl) rfl (fun K hK => ?_)
    refine step_append_run rfl (.tmp 53) (.tmp 54) 53 rfl _ _ rfl rfl _ _ r4 ?_
    refine hK.out _ _ (fun _ => (HTi.out _ u4 v4)) ?_
    clear hK K hHeld
    have hHeld := (HTi.out _ u4 v4)
    dsimp only [Act.put]
    refine wpAnyL_take (i := 10) (v := (.pointer (some ⟨gl, to, none⟩))) (C := [10, 11]) rfl (by kernel_rfl) (fun _ _ _ h => h) (Or.inl ⟨by rfl, fun _ _ => by go_simp⟩) hHeld ?_
    dsimp only [Act.put]
    refine wpAnyL_one (i := 11) (by kernel_rfl) rfl (fun K hK => ?_)
    rw [if_pos (by rfl)]
    go_simp
    refine hK.out _ _ (fun h => absurd rfl h) ?_
    clear hK K hHeld
    refine wpAnyL_done (by kernel_rfl) ?_
    clear r4 u0 u1 u4 v0 v1 v4 v4f hV0 hV1 HTi HTo
    generalize hW10 : W9.setCell ⟨gl, to, none⟩ (.slice a9 ((lvAt L to).length + 1) c9) = W10 at *
    clear hW10
    have HKP := hid (HK9.out.kept (.slice (some ⟨gs, 0, none⟩) S.length kS) (.slice (some ⟨gl, 0, none⟩) L.length kL))
    obtain ⟨b10, x0, x1⟩ := HK9.out.fill hlo (.slice (some ⟨gs, 0, none⟩) S.length kS) (.slice (some ⟨gl, 0, none⟩) L.length kL)
    have F10 := HF9.out.fill HK9.out.wk (.slice (some ⟨gs, 0, none⟩) S.length kS) (.slice (some ⟨gl, 0, none⟩) L.length kL)
    have HB10 := hid b10
    have HF10 := hid F10
    have y0 : W10.cell? ⟨w.heap.size, 0, none⟩ = some (.slice (some ⟨gs, 0, none⟩) S.length kS) := box_cell HK9.out.box 0
    have y1 : W10.cell? ⟨w.heap.size, 1, none⟩ = some (.slice (some ⟨gl, 0, none⟩) L.length kL) := box_cell HK9.out.box 1
    have z0 : W10.cell? ⟨w.heap.size + 1, 0, none⟩ = some (.slice none 0 0) := box_cell HK9.out.res 0
    have z1 : W10.cell? ⟨w.heap.size + 1, 1, none⟩ = some (.slice none 0 0) := box_cell HK9.out.res 1
    have z0f := box_free HK9.out.res 0
    have z1f := box_free HK9.out.res 1
    clear b10 F10 HK9 HF9
    go_wp2_with fail
    generalize (W10.setCell ⟨w.heap.size + 1, 0, none⟩ (.slice (some ⟨gs, 0, none⟩) S.length kS)).setCell ⟨w.heap.size + 1, 1, none⟩ (.slice (some ⟨gl, 0, none⟩) L.length kL) = X at *
    refine bodyPost_ret (v := .tuple #[.agg #[(.slice (some ⟨gs, 0, none⟩) S.length kS), (.slice (some ⟨gl, 0, none⟩) L.length kL)], .bool true]) (by simp [results, Try.results37, go_sem, x0, x1]) rfl ⟨rfl, ⟨?_, upN q to (.slice a4 ((blAt S to).length + 1) c4), upN p to (.slice a9 ((lvAt L to).length + 1) c9), ?_⟩, HB10.out, HKP.out⟩
    · show (putL L to).length = (putS S to x).length
      unfold putL putS
      rw [List.length_set, List.length_set]; exact HL1.out
    · have e1 : (putS S to x).length = S.length := by unfold putS; rw [List.length_set]
      have e2 : hd2 S.length S.length = hd2 S.length L.length := by rw [HL1.out]
      unfold hd
      rw [e1, e2]
      exact HF10.out
  | some t =>
    obtain ⟨k, i⟩ := t
    obtain ⟨hk, hi⟩ := HWL.out k i rfl
    simp only [wI] at HWH
    have HC3 := hid (HWH.out _ HB2.out)
    have hdk : decide (0 ≤ (k : Int)) = true := decide_eq_true (by omega)
    go_wp2_with fail
    refine HC3.out.mono ?_
    rintro e W5 ⟨rfl, b3⟩
    have HK5 := hid (HK2.out.on b3 hlo)
    have hF5 := HFw.out W5 (HB2.out.trans (b3.mono HB2.out.size))
    have hkL : k < L.length := by rw [HL.out]; exact hk
    have hlen := HLEN.out k hk
    have hrow : W5.ownsRow lo 4 1 (p k) (lvAt L k).length (bvals (lvAt L k)) := hF5.own (.v k) hkL
    obtain ⟨gk, ck, epk, hgk1, hgk2⟩ := rw_block hrow (by omega)
    have hgkw : gk < w.heap.size := HPL.out k hk gk (by rw [epk]; rfl)
    have hpo : (p k).ownBlock = some gk := by rw [epk]; rfl
    have hL5 : W5.ownsRow lo 53 1 (.slice (some ⟨gl, 0, none⟩) L.length kL) L.length (livXs p L.length) := hF5.own .l trivial
    have y1' : W5.cell? ⟨w.heap.size, 1, none⟩ = some (.slice (some ⟨gl, 0, none⟩) L.length kL) := box_cell HK5.out.box 1
    have d0 : W5.cell? ⟨gl, k, none⟩ = some (.slice (some ⟨gk, 0, none⟩) (lvAt L k).length ck) := by rw [rw_cell hL5 rfl k (by rw [livXs_len]; exact hkL), livXs_at, epk]
    have hbl2 : i < (bvals (lvAt L k)).length := by unfold bvals; rw [List.length_map]; omega
    have d1 := rw_cell hrow hpo i hbl2
    have d1f := rw_free hrow hpo i
    have e5 : (bvals (lvAt L k))[i] = .bool ((lvAt L k)[i]'(by omega)) := by simp [bvals]
    rw [e5] at d1
    have HF6 := hid (fam_off hF5 k hkL gk hpo i)
    have HK6 := hid (HK5.out.set gk i (.bool false) hgk1 hgkw (fun cs h => rw_apart hrow h (by decide) hpo))
    have hik : i < (lvAt L k).length := by omega
    clear b3 y0 y1 HK2 HB2 HC3 HWH HFw HWL hF5 hrow hL5 HK5 epk hpo e5 hgk2 hbl2
    generalize (lvAt L k)[i]'(by omega) = bb at *
    go_wp2_with fail
    have HL1 : Hid ((L.set k ((lvAt L k).set i false)).length = S.length) := by show (L.set k _).length = S.length; rw [List.length_set]; exact HL.out
    have HLB1 : Hid ((lvAt (L.set k ((lvAt L k).set i false)) to).length ≤ 99) := by
      show (lvAt (L.set k _) to).length ≤ 99
      rw [lvAt_set _ _ _ _ (by rw [HL.out]; exact hto)]
      split
      · rename_i e; subst e; rw [List.length_set]; exact hlb
      · exact hlb
    have HLE : Hid (offL L (some (k, i)) = L.set k ((lvAt L k).set i false)) := rfl
    have HLL : Hid (hd2 S.length (L.set k ((lvAt L k).set i false)).length = hd2 S.length L.length) := by show hd2 _ _ = _; rw [List.length_set]
    rw [← HLL.out] at HF6
    clear y1' d0 d1 d1f HLL HLEN hlen hik hi
    generalize hW6 : W5.setCell ⟨gk, i, none⟩ (.bool false) = W6 at *
    clear hW6
    generalize L.set k ((lvAt L k).set i false) = L1 at *
    have hK6 := HK6.out.on (Below.refl _ _).drew hlo
    have hs6 : w.heap.size + 2 ≤ W6.drew.heap.size := hK6.size
    have hF6 : Fam lo (hd2 S.length L1.length) (hf (.slice (some ⟨gs, 0, none⟩) S.length kS) (.slice (some ⟨gl, 0, none⟩) L.length kL) q p S L1) W6.drew := HF6.out.below (Below.refl _ _).drew
    obtain ⟨a4, c4, W4, r4, b4, k4, F4⟩ := blk_step hF6 (by omega) to hto x hbl gs rfl
    have hne := hF6.apart .s (.b to) trivial hto (by intro e; cases e) gs rfl
    have hneX : (q to).ownBlock ≠ some w.heap.size := fun e => by have := HQL.out to hto _ e; omega
    have hneY : (q to).ownBlock ≠ some (w.heap.size + 1) := fun e => by have := HQL.out to hto _ e; omega
    have hseg : W6.drew.ownsRow lo 40 2 (.slice (some ⟨gs, 0, none⟩) S.length kS) S.length (segXs q S) := hF6.own .s trivial
    have v0 : W6.drew.cell? ⟨gs, to * 2, none⟩ = some (q to) := by rw [rw_cell hseg rfl (to * 2) (by rw [segXs_len]; omega), segXs_q]
    have vf : W6.drew.frozen? ⟨gs, to * 2, none⟩ = false := rw_free hseg rfl _
    have hgl4 := k4 gs (by omega) hne
    have v4 : W4.cell? ⟨gs, to * 2, none⟩ = some (q to) := (World.cell?_of_block (a := ⟨gs, to * 2, none⟩) hgl4).trans v0
    have v4f : W4.frozen? ⟨gs, to * 2, none⟩ = false := (World.frozen?_of_block (a := ⟨gs, to * 2, none⟩) hgl4).trans vf
    have v1 : (W6.drew.alloc (.cells #[.int .i64 x] 3)).cell? ⟨gs, to * 2, none⟩ = some (q to) := ((boxB W6.drew (.cells #[.int .i64 x] 3)).cell (p := ⟨gs, to * 2, none⟩) (by show gs < W6.drew.heap.size; omega)).trans v0
    have hK1 := hK6.on (boxB W6.drew (.cells #[.int .i64 x] 3)) hlo
    have hK4 := hK6.step b4 (k4 _ (by omega) hneX) (k4 _ (by omega) hneY) (fun X cs hX hc => k4 X (by omega) (rw_apart (hF6.own (.b to) hto) hc (show 3 ≠ 26 by decide)))
    have u0 : W6.drew.cell? ⟨w.heap.size, 0, none⟩ = some (.slice (some ⟨gs, 0, none⟩) S.length kS) := box_cell hK6.box 0
    have u1 : (W6.drew.alloc (.cells #[.int .i64 x] 3)).cell? ⟨w.heap.size, 0, none⟩ = some (.slice (some ⟨gs, 0, none⟩) S.length kS) := box_cell hK1.box 0
    have u4 : W4.cell? ⟨w.heap.size, 0, none⟩ = some (.slice (some ⟨gs, 0, none⟩) S.length kS) := box_cell hK4.box 0
    have HK7 := hid (hK4.set gs (to * 2) (.slice a4 ((blAt S to).length + 1) c4) hgs.1 hgs.2 (fun cs h => rw_apart hseg (hgl4.symm.trans h) (by decide) rfl))
    have HF7 := hid F4
    clear hK6 hK1 hK4 hF6 b4 k4 F4 hseg hne hneX hneY hgl4 vf HK6 HF6
    generalize q to = qt at *
    go_wp2_with fail
    refine wp_region_L (fun u => u.cell? ⟨w.heap.size, 0, none⟩ = some (.slice (some ⟨gs, 0, none⟩) S.length kS) ∧ u.cell? ⟨gs, to * 2, none⟩ = some qt) 14 (by kernel_rfl) ?_
    generalize hV0 : W6.drew = V at *
    generalize hV1 : V.alloc (.cells #[.int .i64 x] 3) = V1 at *
    obtain ⟨T, hT⟩ : ∃ T : World → Prop, T = fun u => u.cell? ⟨w.heap.size, 0, none⟩ = some (.slice (some ⟨gs, 0, none⟩) S.length kS) ∧ u.cell? ⟨gs, to * 2, none⟩ = some qt := ⟨_, rfl⟩
    rw [← hT]
    have hTi : ∀ u, u.cell? ⟨w.heap.size, 0, none⟩ = some (.slice (some ⟨gs, 0, none⟩) S.length kS) → u.cell? ⟨gs, to * 2, none⟩ = some qt → T u := fun u h1 h2 => by rw [hT]; exact ⟨h1, h2⟩
    have hTo : ∀ u, T u → u.cell? ⟨w.heap.size, 0, none⟩ = some (.slice (some ⟨gs, 0, none⟩) S.length kS) ∧ u.cell? ⟨gs, to * 2, none⟩ = some qt := fun u h => by rw [hT] at h; exact h
    have HTo := hid hTo
    have HTi := hid hTi
    clear hT hTo hTi
    have hHeld : T V := HTi.out _ u0 v0
    refine wpAnyL_take (i := 0) (v := .pointer (some ⟨w.heap.size, 0, none⟩)) (C := [0, 1, 12, 13, 14]) rfl (by kernel_rfl) (fun _ _ _ h => h) (Or.inl ⟨by rfl, fun _ _ => by go_simp⟩) hHeld ?_
    dsimp only [Act.put]
    refine wpAnyL_take (i := 1) (v := (.slice (some ⟨gs, 0, none⟩) S.length kS)) (C := [1, 12, 13, 14]) rfl (by kernel_rfl) (fun _ _ _ h => h) (Or.inl ⟨by rfl, fun u hu => by obtain ⟨h1, h2⟩ := HTo.out _ hu; go_simp⟩) hHeld ?_
    dsimp only [Act.put]
    refine wpAnyL_take (i := 2) (v := .int .i64 to) (C := [2, 12, 13, 14]) rfl (by kernel_rfl) (fun _ _ _ h => h) (Or.inl ⟨by rfl, fun _ _ => by go_simp⟩) hHeld ?_
    dsimp only [Act.put]
    refine wpAnyL_take (i := 3) (v := .pointer (some ⟨w.heap.size, 0, none⟩)) (C := [3, 4, 6, 7, 8, 11, 14]) rfl (by kernel_rfl) (fun _ _ _ h => h) (Or.inl ⟨by rfl, fun _ _ => by go_simp⟩) hHeld ?_
    dsimp only [Act.put]
    refine wpAnyL_take (i := 4) (v := (.slice (some ⟨gs, 0, none⟩) S.length kS)) (C := [4, 6, 7, 8, 11, 14]) rfl (by kernel_rfl) (fun _ _ _ h => h) (Or.inl ⟨by rfl, fun u hu => by obtain ⟨h1, h2⟩ := HTo.out _ hu; go_simp⟩) hHeld ?_
    dsimp only [Act.put]
    refine wpAnyL_take (i := 5) (v := .int .i64 to) (C := [5, 6, 7, 8, 11, 14]) rfl (by kernel_rfl) (fun _ _ _ h => h) (Or.inl ⟨by rfl, fun _ _ => by go_simp⟩) hHeld ?_
    dsimp only [Act.put]
    refine wpAnyL_take (i := 6) (v := (.pointer (some ⟨gs, to * 2, none⟩))) (C := [6, 7, 8, 11, 14]) rfl (by kernel_rfl) (fun _ _ _ h => h) (Or.inl ⟨by rfl, fun _ _ => by go_simp⟩) hHeld ?_
    dsimp only [Act.put]
    refine wpAnyL_take (i := 7) (v := (.pointer (some ⟨gs, to * 2, none⟩))) (C := [7, 8, 11, 14]) rfl (by kernel_rfl) (fun _ _ _ h => h) (Or.inl ⟨by rfl, fun _ _ => by go_simp⟩) hHeld ?_
    dsimp only [Act.put]
    refine wpAnyL_take (i := 8) (v := qt) (C := [8, 11, 14]) rfl (by kernel_rfl) (fun _ _ _ h => h) (Or.inl ⟨by rfl, fun u hu => by obtain ⟨h1, h2⟩ := HTo.out _ hu; go_simp⟩) hHeld ?_
    dsimp only [Act.put]
    refine wpAnyL_take (i := 9) (v := .int .i64 x) (C := [9, 10, 11, 14]) rfl (by kernel_rfl) (fun _ _ _ h => h) (Or.inl ⟨by rfl, fun _ _ => by go_simp⟩) hHeld ?_
    dsimp only [Act.put]
    refine wpAnyL_one (i := 10) (by kernel_rfl) rfl (fun K hK => ?_)
    rw [if_pos (by rfl)]
    go_simp
    refine hK.out _ _ (fun _ => (HTi.out _ u1 v1)) ?_
    clear hK K hHeld
    have hHeld := (HTi.out _ u1 v1)
    refine wpAnyL_one (i := 11) (by kernel_rfl) rfl (fun K hK => ?_)
    refine step_append_run rfl (.tmp 40) (.tmp 42) 35 rfl _ _ rfl rfl _ _ r4 ?_
    refine hK.out _ _ (fun _ => (HTi.out _ u4 v4)) ?_
    clear hK K hHeld
    have hHeld := (HTi.out _ u4 v4)
    dsimp only [Act.put]
    refine wpAnyL_take (i := 12) (v := (.pointer (some ⟨gs, to * 2, none⟩))) (C := [12, 13, 14]) rfl (by kernel_rfl) (fun _ _ _ h => h) (Or.inl ⟨by rfl, fun _ _ => by go_simp⟩) hHeld ?_
    dsimp only [Act.put]
    refine wpAnyL_take (i := 13) (v := (.pointer (some ⟨gs, to * 2, none⟩))) (C := [13, 14]) rfl (by kernel_rfl) (fun _ _ _ h => h) (Or.inl ⟨by rfl, fun _ _ => by go_simp⟩) hHeld ?_
    dsimp only [Act.put]
    refine wpAnyL_one (i := 14) (by kernel_rfl) rfl (fun K hK => ?_)
    rw [if_pos (by rfl)]
    go_simp
    refine hK.out _ _ (fun h => absurd rfl h) ?_
    clear hK K hHeld
    refine wpAnyL_done (by kernel_rfl) ?_
    clear r4 u0 u1 u4 v0 v1 v4 v4f hV0 hV1 HTi HTo
    generalize hW7 : W4.setCell ⟨gs, to * 2, none⟩ (.slice a4 ((blAt S to).length + 1) c4) = W7 at *
    clear hW7
    have hK6 := HK7.out.on (Below.refl _ _).drew hlo
    have hs6 : w.heap.size + 2 ≤ W7.drew.heap.size := hK6.size
    have hF6 := HF7.out.below (w' := W7.drew) (Below.refl _ _).drew
    obtain ⟨a9, c9, W9, r4, b4, k4, F4⟩ := lv_step hF6 (by omega) to (by rw [HL1.out]; exact hto) true (by have := HLB1.out; omega) gl rfl
    have hne := hF6.apart .l (.v to) trivial (show to < L1.length by rw [HL1.out]; exact hto) (by intro e; cases e) gl rfl
    have hneX : (p to).ownBlock ≠ some w.heap.size := fun e => by have := HPL.out to hto _ e; omega
    have hneY : (p to).ownBlock ≠ some (w.heap.size + 1) := fun e => by have := HPL.out to hto _ e; omega
    have hseg : W7.drew.ownsRow lo 53 1 (.slice (some ⟨gl, 0, none⟩) L.length kL) L1.length (livXs p L1.length) := hF6.own .l trivial
    have v0 : W7.drew.cell? ⟨gl, to, none⟩ = some (p to) := by rw [rw_cell hseg rfl to (by rw [livXs_len, HL1.out]; exact hto), livXs_at]
    have vf : W7.drew.frozen? ⟨gl, to, none⟩ = false := rw_free hseg rfl _
    have hgl4 := k4 gl (by omega) hne
    have v4 : W9.cell? ⟨gl, to, none⟩ = some (p to) := (World.cell?_of_block (a := ⟨gl, to, none⟩) hgl4).trans v0
    have v4f : W9.frozen? ⟨gl, to, none⟩ = false := (World.frozen?_of_block (a := ⟨gl, to, none⟩) hgl4).trans vf
    have v1 : (W7.drew.alloc (.cells #[.bool true] 4)).cell? ⟨gl, to, none⟩ = some (p to) := ((boxB W7.drew (.cells #[.bool true] 4)).cell (p := ⟨gl, to, none⟩) (by show gl < W7.drew.heap.size; omega)).trans v0
    have hK1 := hK6.on (boxB W7.drew (.cells #[.bool true] 4)) hlo
    have hK4 := hK6.step b4 (k4 _ (by omega) hneX) (k4 _ (by omega) hneY) (fun X cs hX hc => k4 X (by omega) (rw_apart (hF6.own (.v to) (show to < L1.length by rw [HL1.out]; exact hto)) hc (show 4 ≠ 26 by decide)))
    have u0 : W7.drew.cell? ⟨w.heap.size, 1, none⟩ = some (.slice (some ⟨gl, 0, none⟩) L.length kL) := box_cell hK6.box 1
    have u1 : (W7.drew.alloc (.cells #[.bool true] 4)).cell? ⟨w.heap.size, 1, none⟩ = some (.slice (some ⟨gl, 0, none⟩) L.length kL) := box_cell hK1.box 1
    have u4 : W9.cell? ⟨w.heap.size, 1, none⟩ = some (.slice (some ⟨gl, 0, none⟩) L.length kL) := box_cell hK4.box 1
    have HK9 := hid (hK4.set gl to (.slice a9 ((lvAt L1 to).length + 1) c9) hgl.1 hgl.2 (fun cs h => rw_apart hseg (hgl4.symm.trans h) (by decide) rfl))
    have HF9 := hid F4
    clear hK6 hK1 hK4 hF6 b4 k4 F4 hseg hne hneX hneY hgl4 vf HK7 HF7
    have HLS := hid (show to < L.length by rw [HL.out]; exact hto)
    have hLS := HLS.out
    generalize p to = pt at *
    go_wp2_with fail
    refine wp_region_L (fun u => u.cell? ⟨w.heap.size, 1, none⟩ = some (.slice (some ⟨gl, 0, none⟩) L.length kL) ∧ u.cell? ⟨gl, to, none⟩ = some pt) 11 (by kernel_rfl) ?_
    generalize hV0 : W7.drew = V at *
    generalize hV1 : V.alloc (.cells #[.bool true] 4) = V1 at *
    obtain ⟨T, hT⟩ : ∃ T : World → Prop, T = fun u => u.cell? ⟨w.heap.size, 1, none⟩ = some (.slice (some ⟨gl, 0, none⟩) L.length kL) ∧ u.cell? ⟨gl, to, none⟩ = some pt := ⟨_, rfl⟩
    rw [← hT]
    have hTi : ∀ u, u.cell? ⟨w.heap.size, 1, none⟩ = some (.slice (some ⟨gl, 0, none⟩) L.length kL) → u.cell? ⟨gl, to, none⟩ = some pt → T u := fun u h1 h2 => by rw [hT]; exact ⟨h1, h2⟩
    have hTo : ∀ u, T u → u.cell? ⟨w.heap.size, 1, none⟩ = some (.slice (some ⟨gl, 0, none⟩) L.length kL) ∧ u.cell? ⟨gl, to, none⟩ = some pt := fun u h => by rw [hT] at h; exact h
    have HTo := hid hTo
    have HTi := hid hTi
    clear hT hTo hTi
    have hHeld : T V := HTi.out _ u0 v0
    refine wpAnyL_take (i := 0) (v := .pointer (some ⟨w.heap.size, 1, none⟩)) (C := [0, 1, 10, 11]) rfl (by kernel_rfl) (fun _ _ _ h => h) (Or.inl ⟨by rfl, fun _ _ => by go_simp⟩) hHeld ?_
    dsimp only [Act.put]
    refine wpAnyL_take (i := 1) (v := (.slice (some ⟨gl, 0, none⟩) L.length kL)) (C := [1, 10, 11]) rfl (by kernel_rfl) (fun _ _ _ h => h) (Or.inl ⟨by rfl, fun u hu => by obtain ⟨h1, h2⟩ := HTo.out _ hu; go_simp⟩) hHeld ?_
    dsimp only [Act.put]
    refine wpAnyL_take (i := 2) (v := .int .i64 to) (C := [2, 10, 11]) rfl (by kernel_rfl) (fun _ _ _ h => h) (Or.inl ⟨by rfl, fun _ _ => by go_simp⟩) hHeld ?_
    dsimp only [Act.put]
    refine wpAnyL_take (i := 3) (v := .pointer (some ⟨w.heap.size, 1, none⟩)) (C := [3, 4, 6, 7, 9, 11]) rfl (by kernel_rfl) (fun _ _ _ h => h) (Or.inl ⟨by rfl, fun _ _ => by go_simp⟩) hHeld ?_
    dsimp only [Act.put]
    refine wpAnyL_take (i := 4) (v := (.slice (some ⟨gl, 0, none⟩) L.length kL)) (C := [4, 6, 7, 9, 11]) rfl (by kernel_rfl) (fun _ _ _ h => h) (Or.inl ⟨by rfl, fun u hu => by obtain ⟨h1, h2⟩ := HTo.out _ hu; go_simp⟩) hHeld ?_
    dsimp only [Act.put]
    refine wpAnyL_take (i := 5) (v := .int .i64 to) (C := [5, 6, 7, 9, 11]) rfl (by kernel_rfl) (fun _ _ _ h => h) (Or.inl ⟨by rfl, fun _ _ => by go_simp⟩) hHeld ?_
    dsimp only [Act.put]
    refine wpAnyL_take (i := 6) (v := (.pointer (some ⟨gl, to, none⟩))) (C := [6, 7, 9, 11]) rfl (by kernel_rfl) (fun _ _ _ h => h) (Or.inl ⟨by rfl, fun _ _ => by go_simp⟩) hHeld ?_
    dsimp only [Act.put]
    refine wpAnyL_take (i := 7) (v := pt) (C := [7, 9, 11]) rfl (by kernel_rfl) (fun _ _ _ h => h) (Or.inl ⟨by rfl, fun u hu => by obtain ⟨h1, h2⟩ := HTo.out _ hu; go_simp⟩) hHeld ?_
    dsimp only [Act.put]
    refine wpAnyL_one (i := 8) (by kernel_rfl) rfl (fun K hK => ?_)
    rw [if_pos (by rfl)]
    go_simp
    refine hK.out _ _ (fun _ => (HTi.out _ u1 v1)) ?_
    clear hK K hHeld
    have hHeld := (HTi.out _ u1 v1)
    refine wpAnyL_one (i := 9) (by kernel_rfl) rfl (fun K hK => ?_)
    refine step_append_run rfl (.tmp 53) (.tmp 54) 53 rfl _ _ rfl rfl _ _ r4 ?_
    refine hK.out _ _ (fun _ => (HTi.out _ u4 v4)) ?_
    clear hK K hHeld
    have hHeld := (HTi.out _ u4 v4)
    dsimp only [Act.put]
    refine wpAnyL_take (i := 10) (v := (.pointer (some ⟨gl, to, none⟩))) (C := [10, 11]) rfl (by kernel_rfl) (fun _ _ _ h => h) (Or.inl ⟨by rfl, fun _ _ => by go_simp⟩) hHeld ?_
    dsimp only [Act.put]
    refine wpAnyL_one (i := 11) (by kernel_rfl) rfl (fun K hK => ?_)
    rw [if_pos (by rfl)]
    go_simp
    refine hK.out _ _ (fun h => absurd rfl h) ?_
    clear hK K hHeld
    refine wpAnyL_done (by kernel_rfl) ?_
    clear r4 u0 u1 u4 v0 v1 v4 v4f hV0 hV1 HTi HTo
    generalize hW10 : W9.setCell ⟨gl, to, none⟩ (.slice a9 ((lvAt L1 to).length + 1) c9) = W10 at *
    clear hW10
    have HKP := hid (HK9.out.kept (.slice (some ⟨gs, 0, none⟩) S.length kS) (.slice (some ⟨gl, 0, none⟩) L.length kL))
    obtain ⟨b10, x0, x1⟩ := HK9.out.fill hlo (.slice (some ⟨gs, 0, none⟩) S.length kS) (.slice (some ⟨gl, 0, none⟩) L.length kL)
    have F10 := HF9.out.fill HK9.out.wk (.slice (some ⟨gs, 0, none⟩) S.length kS) (.slice (some ⟨gl, 0, none⟩) L.length kL)
    have HB10 := hid b10
    have HF10 := hid F10
    have y0 : W10.cell? ⟨w.heap.size, 0, none⟩ = some (.slice (some ⟨gs, 0, none⟩) S.length kS) := box_cell HK9.out.box 0
    have y1 : W10.cell? ⟨w.heap.size, 1, none⟩ = some (.slice (some ⟨gl, 0, none⟩) L.length kL) := box_cell HK9.out.box 1
    have z0 : W10.cell? ⟨w.heap.size + 1, 0, none⟩ = some (.slice none 0 0) := box_cell HK9.out.res 0
    have z1 : W10.cell? ⟨w.heap.size + 1, 1, none⟩ = some (.slice none 0 0) := box_cell HK9.out.res 1
    have z0f := box_free HK9.out.res 0
    have z1f := box_free HK9.out.res 1
    clear b10 F10 HK9 HF9
    go_wp2_with fail
    generalize (W10.setCell ⟨w.heap.size + 1, 0, none⟩ (.slice (some ⟨gs, 0, none⟩) S.length kS)).setCell ⟨w.heap.size + 1, 1, none⟩ (.slice (some ⟨gl, 0, none⟩) L.length kL) = X at *
    have HHR : Hid (HR lo (.slice (some ⟨gs, 0, none⟩) S.length kS) (.slice (some ⟨gl, 0, none⟩) L.length kL) (putS S to x) (putL L1 to) X) := by
      refine ⟨?_, upN q to (.slice a4 ((blAt S to).length + 1) c4), upN p to (.slice a9 ((lvAt L1 to).length + 1) c9), ?_⟩
      · show (putL L1 to).length = (putS S to x).length
        unfold putL putS
        rw [List.length_set, List.length_set]; exact HL1.out
      · have e1 : (putS S to x).length = S.length := by unfold putS; rw [List.length_set]
        have e2 : hd2 S.length S.length = hd2 S.length L1.length := by rw [HL1.out]
        unfold hd
        rw [e1, e2]
        exact HF10.out
    refine bodyPost_ret (v := .tuple #[.agg #[(.slice (some ⟨gs, 0, none⟩) S.length kS), (.slice (some ⟨gl, 0, none⟩) L.length kL)], .bool true]) (by simp [results, Try.results37, go_sem, x0, x1]) rfl ⟨rfl, by rw [HLE.out]; exact HHR.out, HB10.out, HKP.out⟩
end Go.Proofs.Ytohkhcjdjjlfbaa
