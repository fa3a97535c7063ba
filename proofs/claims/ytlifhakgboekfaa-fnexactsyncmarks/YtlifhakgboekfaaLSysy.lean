/- The exact law of SyncMarks: its walk out of the contracts of the model and of the program. -/
import Derived.Test.YtlifhakgboekfaaHB
import Derived.Test.YtlifhakgboekfaaKSz2
import Derived.Test.YtlifhakgboekfaaHA
import Derived.Deep.RegionHeld
namespace Go.Proofs.Ytlifhakgboekfaa
set_option maxRecDepth 100000
open Go Go.ChangeShapes Go.WideShapes Go.ChangeAt Go.RowKit
theorem syn_fit (A B : List Ly) (m : Int) : FitK (synK A B m).1 := by
  unfold synK
  split
  · rename_i h
    exact good_fit (copK_good h.1.1.1 h.1.1.2 (planP_in m h.1.1.1 h.1.1.2)).1
  · show wtK [] ≤ _
    decide
/-- function f answers so; what it answers can be read -/
def SaysSyncMarks (f : Nat) (A : List Ly) (B : List Ly) (m : Int) (V : List Ly) (n0 : Int) (x1 : Bool) : Prop := ∀ (a : Option Addr) (c : Nat) (b : Option Addr) (d : Nat) (v : World), Mr a c A v → Mr b d B v → Calls Try.prog f #[.agg #[.slice a A.length c], .agg #[.slice b B.length d], .int .i64 m] v fun e w' => ∃ q r, e = .returned (.tuple #[.agg #[.slice q V.length r], .int .i64 n0, .bool x1]) ∧ Ys w'.heap.size q V w' ∧ Below v.heap.size v w'
/-- function f answers so, in memory of its own -/
def OwnsSyncMarks (f : Nat) (A : List Ly) (B : List Ly) (m : Int) (V : List Ly) (n0 : Int) (x1 : Bool) : Prop := ∀ (a : Option Addr) (c : Nat) (b : Option Addr) (d : Nat) (v : World), Mr a c A v → Mr b d B v → Calls Try.prog f #[.agg #[.slice a A.length c], .agg #[.slice b B.length d], .int .i64 m] v fun e w' => ∃ q r, e = .returned (.tuple #[.agg #[.slice q V.length r], .int .i64 n0, .bool x1]) ∧ OwnK v.heap.size w'.heap.size q V w' ∧ Below v.heap.size v w'
set_option maxHeartbeats 16000000 in
theorem law_SyncMarks (a : Option Addr) (c : Nat) (b : Option Addr) (d : Nat) (A : List Ly) (B : List Ly) (m : Int) (w : World) (hnA : A.length ≤ 9223372036854775807) (hzA : ∀ s ∈ A, cntY s) (hGA : Ys w.heap.size a A w) (hnB : B.length ≤ 9223372036854775807) (hzB : ∀ s ∈ B, cntY s) (hGB : Ys w.heap.size b B w)
    (H : FitK A → FitK B → ∃ (V : List Ly) (n0 : Int) (x1 : Bool), FitK V ∧ SaysSyncMarks 20 A B m V n0 x1 ∧ OwnsSyncMarks 21 A B m V n0 x1) :
    Calls Try.prog 5 #[.agg #[.slice a A.length c], .agg #[.slice b B.length d], .int .i64 m] w fun e w' => e = .returned (.bool true) ∧ Below w.heap.size w w' := by
  have HH : Hid (FitK A → FitK B → ∃ (V : List Ly) (n0 : Int) (x1 : Bool), FitK V ∧ SaysSyncMarks 20 A B m V n0 x1 ∧ OwnsSyncMarks 21 A B m V n0 x1) := H
  obtain ⟨w0, hw0⟩ : ∃ w0, w0 = (w.alloc (.cells #[.slice a A.length c] 24)).alloc (.cells #[.slice b B.length d] 24) := ⟨_, rfl⟩
  have HB0 : Hid (Below w.heap.size w w0) := by show Below w.heap.size w w0; rw [hw0]; exact (boxB _ _).trans ((boxB _ _).mono (boxB _ _).size)
  have k0 : w0.heap[w.heap.size]? = some (.cells #[.slice a A.length c] 24) := by rw [hw0]; exact heap_mid2 _ _ _
  have k1 : w0.heap[w.heap.size + 1]? = some (.cells #[.slice b B.length d] 24) := by rw [hw0]; exact heap_last2 _ _ _
  have HX : Hid (∀ v, Below w0.heap.size w0 v → v.cell? ⟨w.heap.size, 0, none⟩ = some (.slice a A.length c) ∧ v.cell? ⟨w.heap.size + 1, 0, none⟩ = some (.slice b B.length d)) := fun v g => ⟨box_cell ((g.block _ (kboxS k0)).trans k0) 0, box_cell ((g.block _ (kboxS k1)).trans k1) 0⟩
  have ss0 := kboxS k1
  have HZA : Hid (∀ v, Below w0.heap.size w0 v → Ys v.heap.size a A v) := fun v g => by
    have g' := HB0.out.trans (g.mono HB0.out.size)
    exact (hGA.below g').mono g'.size
  have HSZA : Hid (∀ (left : Int), 0 ≤ left → left ≤ 1048576 → ∀ v, Below w0.heap.size w0 v → Calls Try.prog 9 #[.agg #[.slice a A.length c], .int .i64 left] v fun e w' => (∃ r : Int, e = .returned (.int .i64 r) ∧ r ≤ left ∧ (0 ≤ r → FitK A)) ∧ Below v.heap.size v w') := fun left l0 l1 v g => szMarks_g a c A left v l0 l1 hnA hzA (HZA.out v g)
  have HTOA : Hid (FitK A → ∀ v, Below w0.heap.size w0 v → Calls Try.prog 11 #[.agg #[.slice a A.length c]] v fun e w' => ∃ b c, e = .returned (.agg #[.slice b A.length c]) ∧ OwnK v.heap.size w'.heap.size b A w' ∧ Below v.heap.size v w' ∧ A.length ≤ c) := fun f v g => toMarks_any a c A v f (HZA.out v g)
  have HZB : Hid (∀ v, Below w0.heap.size w0 v → Ys v.heap.size b B v) := fun v g => by
    have g' := HB0.out.trans (g.mono HB0.out.size)
    exact (hGB.below g').mono g'.size
  have HSZB : Hid (∀ (left : Int), 0 ≤ left → left ≤ 1048576 → ∀ v, Below w0.heap.size w0 v → Calls Try.prog 9 #[.agg #[.slice b B.length d], .int .i64 left] v fun e w' => (∃ r : Int, e = .returned (.int .i64 r) ∧ r ≤ left ∧ (0 ≤ r → FitK B)) ∧ Below v.heap.size v w') := fun left l0 l1 v g => szMarks_g b d B left v l0 l1 hnB hzB (HZB.out v g)
  have HTOB : Hid (FitK B → ∀ v, Below w0.heap.size w0 v → Calls Try.prog 11 #[.agg #[.slice b B.length d]] v fun e w' => ∃ b c, e = .returned (.agg #[.slice b B.length c]) ∧ OwnK v.heap.size w'.heap.size b B w' ∧ Below v.heap.size v w' ∧ B.length ≤ c) := fun f v g => toMarks_any b d B v f (HZB.out v g)
  have W0 : Hid (w0 = (w.alloc (.cells #[.slice a A.length c] 24)).alloc (.cells #[.slice b B.length d] 24)) := hw0
  clear H hw0 k0 k1 hGA hzA hnA hGB hzB hnB
  have B_0 : Hid (Below w0.heap.size w0 w0) := Below.refl _ _
  go_enter Try.func5, Try.ntmps5
  go_wp2_with fail
  rw [← W0.out]
  refine (HSZA.out 1048576 (by decide) (Int.le_refl _) _ B_0.out).mono ?_
  rintro e w1 ⟨⟨r0, rfl, le0, hr0⟩, g0⟩
  have HR0 := hid hr0
  clear hr0 HSZA
  have s1 := g0.size
  have B_1 : Hid (Below w0.heap.size w0 w1) := B_0.out.trans (g0.mono B_0.out.size)
  clear B_0
  clear g0
  by_cases p0 : 0 ≤ r0
  case neg =>
    have hd0 : decide (r0 < 0) = true := decide_eq_true (by omega)
    clear HR0
    go_wp2_with fail
    go_ret
    exact ⟨rfl, HB0.out.trans (B_1.out.mono HB0.out.size)⟩
  have hd0 : decide (r0 < 0) = false := decide_eq_false (by omega)
  have HFA := hid (HR0.out p0)
  have HTA := hid (HTOA.out HFA.out)
  clear HR0 HTOA
  obtain ⟨xa, xb⟩ := HX.out _ B_1.out
  go_wp2_with fail
  refine (HSZB.out r0 p0 (by omega) _ B_1.out).mono ?_
  rintro e w2 ⟨⟨r1, rfl, le1, hr1⟩, g1⟩
  have HR1 := hid hr1
  clear hr1 HSZB xa xb
  have s2 := g1.size
  have B_2 : Hid (Below w0.heap.size w0 w2) := B_1.out.trans (g1.mono B_1.out.size)
  clear B_1
  clear g1
  by_cases p1 : 0 ≤ r1
  case neg =>
    have hd1 : decide (r1 < 0) = true := decide_eq_true (by omega)
    clear HR1
    go_wp2_with fail
    go_ret
    exact ⟨rfl, HB0.out.trans (B_2.out.mono HB0.out.size)⟩
  have hd1 : decide (r1 < 0) = false := decide_eq_false (by omega)
  have HFB := hid (HR1.out p1)
  have HTB := hid (HTOB.out HFB.out)
  clear HR1 HTOB
  obtain ⟨V, n0, x1, hV, h9, h11⟩ := HH.out HFA.out HFB.out
  have H9 : Hid (SaysSyncMarks 20 A B m V n0 x1) := h9
  have H11 : Hid (OwnsSyncMarks 21 A B m V n0 x1) := h11
  have HV := hid hV
  clear h9 h11 HH hV
  have hkn0 : (n0 != n0) = false := bne_self_eq_false n0
  have hkx1 : (x1 != x1) = false := by cases x1 <;> rfl
  have HS : Hid (∀ v, Below w2.heap.size w2 v → v.cell? ⟨w.heap.size, 0, none⟩ = some (.slice a A.length c) ∧ v.cell? ⟨w.heap.size + 1, 0, none⟩ = some (.slice b B.length d)) := fun v g => HX.out v (B_2.out.trans (g.mono B_2.out.size))
  have HCA : Hid (∀ v, Below w2.heap.size w2 v → Calls Try.prog 11 #[.agg #[.slice a A.length c]] v fun e w' => ∃ b c, e = .returned (.agg #[.slice b A.length c]) ∧ Mr b c A w' ∧ Below v.heap.size v w') := fun v g => (HTA.out v (B_2.out.trans (g.mono B_2.out.size))).mono fun _ _ ⟨b, c, h1, h2, h3, h4⟩ => ⟨b, c, h1, ⟨HFA.out, h4, h2.ys⟩, h3⟩
  have HCB : Hid (∀ v, Below w2.heap.size w2 v → Calls Try.prog 11 #[.agg #[.slice b B.length d]] v fun e w' => ∃ b c, e = .returned (.agg #[.slice b B.length c]) ∧ Mr b c B w' ∧ Below v.heap.size v w') := fun v g => (HTB.out v (B_2.out.trans (g.mono B_2.out.size))).mono fun _ _ ⟨b, c, h1, h2, h3, h4⟩ => ⟨b, c, h1, ⟨HFB.out, h4, h2.ys⟩, h3⟩
  go_upto_region 8 with fail
  go_cut [8, 9, 10] (fun s8 s9 s10 wc => ∃ (Q : Nat) (q : Option Addr) (r : Nat), s8 = .pointer (some ⟨Q, 0, none⟩) ∧ s9 = .int .i64 n0 ∧ s10 = .bool x1 ∧ wc.heap[Q]? = some (.cells #[.slice q V.length r] 30) ∧ Ys wc.heap.size q V wc ∧ Below w2.heap.size w2 wc ∧ w2.heap.size ≤ Q)
  case first =>
    have hT0 : Below w2.heap.size w2 w2.drew := (Below.refl _ _).drew
    refine wp_region_L (fun v : World => Below w2.heap.size w2 v) 13 (by kernel_rfl) ?_
    generalize w2.drew = Wd at *
    have hHeld := hT0
    refine wpAnyL_take (i := 0) (v := .agg #[.slice a A.length c]) (C := [0, 1, 3, 5, 6, 7, 8, 9, 11, 12, 13]) rfl (by kernel_rfl) (fun _ _ _ h => h) (Or.inl ⟨by rfl, fun u hu => by obtain ⟨h1, h2⟩ := HS.out u hu; go_simp⟩) hHeld ?_
    dsimp only [Act.put]
    refine wpAnyL_take (i := 2) (v := .agg #[.slice b B.length d]) (C := [2, 3, 5, 6, 7, 8, 9, 11, 12, 13]) rfl (by kernel_rfl) (fun _ _ _ h => h) (Or.inl ⟨by rfl, fun u hu => by obtain ⟨h1, h2⟩ := HS.out u hu; go_simp⟩) hHeld ?_
    dsimp only [Act.put]
    refine wpAnyL_take (i := 4) (v := .int .i64 m) (C := [4, 5, 6, 7, 8, 9, 11, 12, 13]) rfl (by kernel_rfl) (fun _ _ _ h => h) (Or.inl ⟨by rfl, fun _ _ => by go_simp⟩) hHeld ?_
    dsimp only [Act.put]
    refine wpAnyL_two (i := 1) (j := 10) (by kernel_rfl) rfl rfl (fun K hK => ?_) (fun K hK => ?_)
    · rw [if_pos (by rfl)]
      go_simp
      go_wp2_with (go_at_call 11; refine (HCA.out _ hHeld).mono ?_; rintro e u1 ⟨tA, cA, rfl, oA, gg⟩)
      have hb1 : Below w2.heap.size w2 u1 := hHeld.trans (gg.mono hHeld.size)
      clear gg
      refine hK.out _ _ (fun _ => hb1) ?_
      clear hK K hHeld
      have hHeld := hb1
      try dsimp only [Act.put]
      refine wpAnyL_two (i := 3) (j := 10) (by kernel_rfl) rfl rfl (fun K hK => ?_) (fun K hK => ?_)
      · rw [if_pos (by rfl)]
        go_simp
        go_wp2_with (go_at_call 11; refine (HCB.out _ hHeld).mono ?_; rintro e u2 ⟨tB, cB, rfl, oB, gg⟩)
        have oA_n := oA.on gg
        clear oA
        have oA := oA_n
        clear oA_n
        have hb2 : Below w2.heap.size w2 u2 := hHeld.trans (gg.mono hHeld.size)
        clear gg
        refine hK.out _ _ (fun _ => hb2) ?_
        clear hK K hHeld
        have hHeld := hb2
        try dsimp only [Act.put]
        refine wpAnyL_two (i := 5) (j := 10) (by kernel_rfl) rfl rfl (fun K hK => ?_) (fun K hK => ?_)
        · rw [if_pos (by rfl)]
          go_simp
          go_wp2_with (go_at_call 20; refine (H9.out _ _ _ _ _ oA oB).mono ?_; rintro e u3 ⟨q, r, rfl, oC, gg⟩)
          have hb3 : Below w2.heap.size w2 u3 := hHeld.trans (gg.mono hHeld.size)
          clear gg
          refine hK.out _ _ (fun _ => hb3) ?_
          clear hK K hHeld
          have hHeld := hb3
          try dsimp only [Act.put]
          refine wpAnyL_take (i := 6) (v := .tuple #[.agg #[.slice q V.length r], .int .i64 n0, .bool x1]) (C := [6, 7, 8, 9, 11, 12, 13]) rfl (by kernel_rfl) (fun _ _ _ h => h) (Or.inl ⟨by rfl, fun _ _ => by go_simp⟩) hHeld ?_
          dsimp only [Act.put]
          refine wpAnyL_take (i := 7) (v := .agg #[.slice q V.length r]) (C := [7, 11, 12, 13]) rfl (by kernel_rfl) (fun _ _ _ h => h) (Or.inl ⟨by rfl, fun _ _ => by go_simp⟩) hHeld ?_
          dsimp only [Act.put]
          refine wpAnyL_take (i := 8) (v := .int .i64 n0) (C := [8, 12, 13]) rfl (by kernel_rfl) (fun _ _ _ h => h) (Or.inl ⟨by rfl, fun _ _ => by go_simp⟩) hHeld ?_
          dsimp only [Act.put]
          refine wpAnyL_take (i := 9) (v := .bool x1) (C := [9, 13]) rfl (by kernel_rfl) (fun _ _ _ h => h) (Or.inl ⟨by rfl, fun _ _ => by go_simp⟩) hHeld ?_
          dsimp only [Act.put]
          refine wpAnyL_one (i := 10) (by kernel_rfl) rfl (fun K hK => ?_)
          rw [if_pos (by rfl)]
          go_simp
          have gb := boxB u3 (.cells #[.slice none 0 0] 30)
          have hbx := heap_last u3 (.cells #[.slice none 0 0] 30)
          have hb4 : Below w2.heap.size w2 (u3.alloc (.cells #[.slice none 0 0] 30)) := hHeld.trans (gb.mono hHeld.size)
          have hbo : u3.heap.size < (u3.alloc (.cells #[.slice none 0 0] 30)).heap.size := by rw [heap_size]; omega
          have hbw : w2.heap.size ≤ u3.heap.size := hHeld.size
          have oC_n := (oC.below gb).mono gb.size
          clear oC
          have oC := oC_n
          clear oC_n
          refine hK.out _ _ (fun _ => hb4) ?_
          clear hK K hHeld
          have hHeld := hb4
          clear gb
          try dsimp only [Act.put]
          generalize hW4 : u3.alloc (.cells #[.slice none 0 0] 30) = u4 at *
          clear hW4
          have hc0 := box_cell hbx 0
          have hf0 := box_free hbx 0
          have hbx2 := box_set hbx 0 (.slice q V.length r)
          have hbe : Below w2.heap.size w2 (u4.setCell ⟨u3.heap.size, 0, none⟩ (.slice q V.length r)) := setB hHeld (u3.heap.size) 0 hbw _
          have oD := ys_set oC hbx (.slice q V.length r)
          refine wpAnyL_one (i := 11) (by kernel_rfl) rfl (fun K hK => ?_)
          rw [if_pos (by rfl)]
          go_simp
          refine hK.out _ _ (fun _ => hbe) ?_
          clear hK K hc0 hf0
          try dsimp only [Act.put]
          refine wpAnyL_one (i := 12) (by kernel_rfl) rfl (fun K hK => ?_)
          rw [if_pos (by rfl)]
          go_simp
          refine hK.out _ _ (fun _ => hbe) ?_
          clear hK K
          try dsimp only [Act.put]
          refine wpAnyL_one (i := 13) (by kernel_rfl) rfl (fun K hK => ?_)
          rw [if_pos (by rfl)]
          go_simp
          refine hK.out _ _ (fun h => absurd rfl h) ?_
          clear hK K
          try dsimp only [Act.put]
          refine wpAnyL_done (by kernel_rfl) ?_
          generalize (u4.setCell ⟨u3.heap.size, 0, none⟩ (.slice q V.length r)) = W7 at *
          go_wp2_with fail
          go_meet
          case rel => exact ⟨u3.heap.size, q, r, rfl, rfl, rfl, hbx2, oD, hbe, hbw⟩
        · rw [if_pos (by rfl)]
          go_simp
          have gb := boxB u2 (.cells #[.slice none 0 0] 30)
          have hbx := heap_last u2 (.cells #[.slice none 0 0] 30)
          have hb3 : Below w2.heap.size w2 (u2.alloc (.cells #[.slice none 0 0] 30)) := hHeld.trans (gb.mono hHeld.size)
          have hbo : u2.heap.size < (u2.alloc (.cells #[.slice none 0 0] 30)).heap.size := by rw [heap_size]; omega
          have hbw : w2.heap.size ≤ u2.heap.size := hHeld.size
          have oA_n := oA.on gb
          clear oA
          have oA := oA_n
          clear oA_n
          have oB_n := oB.on gb
          clear oB
          have oB := oB_n
          clear oB_n
          refine hK.out _ _ (fun _ => hb3) ?_
          clear hK K hHeld
          have hHeld := hb3
          clear gb
          try dsimp only [Act.put]
          generalize hW3 : u2.alloc (.cells #[.slice none 0 0] 30) = u3 at *
          generalize hBx : u2.heap.size = Bx at *
          clear hBx
          clear hW3
          refine wpAnyL_one (i := 5) (by kernel_rfl) rfl (fun K hK => ?_)
          rw [if_pos (by rfl)]
          go_simp
          go_wp2_with (go_at_call 20; refine (H9.out _ _ _ _ _ oA oB).mono ?_; rintro e u4 ⟨q, r, rfl, oC, gg⟩)
          have hb4 : Below w2.heap.size w2 u4 := hHeld.trans (gg.mono hHeld.size)
          have hbx_n := (gg.block _ hbo).trans hbx
          clear hbx
          have hbx := hbx_n
          clear hbx_n
          have hbo_n := Nat.lt_of_lt_of_le hbo gg.size
          clear hbo
          have hbo := hbo_n
          clear hbo_n
          clear gg
          refine hK.out _ _ (fun _ => hb4) ?_
          clear hK K hHeld
          have hHeld := hb4
          try dsimp only [Act.put]
          refine wpAnyL_take (i := 6) (v := .tuple #[.agg #[.slice q V.length r], .int .i64 n0, .bool x1]) (C := [6, 7, 8, 9, 11, 12, 13]) rfl (by kernel_rfl) (fun _ _ _ h => h) (Or.inl ⟨by rfl, fun _ _ => by go_simp⟩) hHeld ?_
          dsimp only [Act.put]
          refine wpAnyL_take (i := 7) (v := .agg #[.slice q V.length r]) (C := [7, 11, 12, 13]) rfl (by kernel_rfl) (fun _ _ _ h => h) (Or.inl ⟨by rfl, fun _ _ => by go_simp⟩) hHeld ?_
          dsimp only [Act.put]
          refine wpAnyL_take (i := 8) (v := .int .i64 n0) (C := [8, 12, 13]) rfl (by kernel_rfl) (fun _ _ _ h => h) (Or.inl ⟨by rfl, fun _ _ => by go_simp⟩) hHeld ?_
          dsimp only [Act.put]
          refine wpAnyL_take (i := 9) (v := .bool x1) (C := [9, 13]) rfl (by kernel_rfl) (fun _ _ _ h => h) (Or.inl ⟨by rfl, fun _ _ => by go_simp⟩) hHeld ?_
          dsimp only [Act.put]
          have hc0 := box_cell hbx 0
          have hf0 := box_free hbx 0
          have hbx2 := box_set hbx 0 (.slice q V.length r)
          have hbe : Below w2.heap.size w2 (u4.setCell ⟨Bx, 0, none⟩ (.slice q V.length r)) := setB hHeld (Bx) 0 hbw _
          have oD := ys_set oC hbx (.slice q V.length r)
          refine wpAnyL_one (i := 11) (by kernel_rfl) rfl (fun K hK => ?_)
          rw [if_pos (by rfl)]
          go_simp
          refine hK.out _ _ (fun _ => hbe) ?_
          clear hK K hc0 hf0
          try dsimp only [Act.put]
          refine wpAnyL_one (i := 12) (by kernel_rfl) rfl (fun K hK => ?_)
          rw [if_pos (by rfl)]
          go_simp
          refine hK.out _ _ (fun _ => hbe) ?_
          clear hK K
          try dsimp only [Act.put]
          refine wpAnyL_one (i := 13) (by kernel_rfl) rfl (fun K hK => ?_)
          rw [if_pos (by rfl)]
          go_simp
          refine hK.out _ _ (fun h => absurd rfl h) ?_
          clear hK K
          try dsimp only [Act.put]
          refine wpAnyL_done (by kernel_rfl) ?_
          generalize (u4.setCell ⟨Bx, 0, none⟩ (.slice q V.length r)) = W7 at *
          go_wp2_with fail
          go_meet
          case rel => exact ⟨Bx, q, r, rfl, rfl, rfl, hbx2, oD, hbe, hbw⟩
      · rw [if_pos (by rfl)]
        go_simp
        have gb := boxB u1 (.cells #[.slice none 0 0] 30)
        have hbx := heap_last u1 (.cells #[.slice none 0 0] 30)
        have hb2 : Below w2.heap.size w2 (u1.alloc (.cells #[.slice none 0 0] 30)) := hHeld.trans (gb.mono hHeld.size)
        have hbo : u1.heap.size < (u1.alloc (.cells #[.slice none 0 0] 30)).heap.size := by rw [heap_size]; omega
        have hbw : w2.heap.size ≤ u1.heap.size := hHeld.size
        have oA_n := oA.on gb
        clear oA
        have oA := oA_n
        clear oA_n
        refine hK.out _ _ (fun _ => hb2) ?_
        clear hK K hHeld
        have hHeld := hb2
        clear gb
        try dsimp only [Act.put]
        generalize hW2 : u1.alloc (.cells #[.slice none 0 0] 30) = u2 at *
        generalize hBx : u1.heap.size = Bx at *
        clear hBx
        clear hW2
        refine wpAnyL_one (i := 3) (by kernel_rfl) rfl (fun K hK => ?_)
        rw [if_pos (by rfl)]
        go_simp
        go_wp2_with (go_at_call 11; refine (HCB.out _ hHeld).mono ?_; rintro e u3 ⟨tB, cB, rfl, oB, gg⟩)
        have oA_n := oA.on gg
        clear oA
        have oA := oA_n
        clear oA_n
        have hb3 : Below w2.heap.size w2 u3 := hHeld.trans (gg.mono hHeld.size)
        have hbx_n := (gg.block _ hbo).trans hbx
        clear hbx
        have hbx := hbx_n
        clear hbx_n
        have hbo_n := Nat.lt_of_lt_of_le hbo gg.size
        clear hbo
        have hbo := hbo_n
        clear hbo_n
        clear gg
        refine hK.out _ _ (fun _ => hb3) ?_
        clear hK K hHeld
        have hHeld := hb3
        try dsimp only [Act.put]
        refine wpAnyL_one (i := 5) (by kernel_rfl) rfl (fun K hK => ?_)
        rw [if_pos (by rfl)]
        go_simp
        go_wp2_with (go_at_call 20; refine (H9.out _ _ _ _ _ oA oB).mono ?_; rintro e u4 ⟨q, r, rfl, oC, gg⟩)
        have hb4 : Below w2.heap.size w2 u4 := hHeld.trans (gg.mono hHeld.size)
        have hbx_n := (gg.block _ hbo).trans hbx
        clear hbx
        have hbx := hbx_n
        clear hbx_n
        have hbo_n := Nat.lt_of_lt_of_le hbo gg.size
        clear hbo
        have hbo := hbo_n
        clear hbo_n
        clear gg
        refine hK.out _ _ (fun _ => hb4) ?_
        clear hK K hHeld
        have hHeld := hb4
        try dsimp only [Act.put]
        refine wpAnyL_take (i := 6) (v := .tuple #[.agg #[.slice q V.length r], .int .i64 n0, .bool x1]) (C := [6, 7, 8, 9, 11, 12, 13]) rfl (by kernel_rfl) (fun _ _ _ h => h) (Or.inl ⟨by rfl, fun _ _ => by go_simp⟩) hHeld ?_
        dsimp only [Act.put]
        refine wpAnyL_take (i := 7) (v := .agg #[.slice q V.length r]) (C := [7, 11, 12, 13]) rfl (by kernel_rfl) (fun _ _ _ h => h) (Or.inl ⟨by rfl, fun _ _ => by go_simp⟩) hHeld ?_
        dsimp only [Act.put]
        refine wpAnyL_take (i := 8) (v := .int .i64 n0) (C := [8, 12, 13]) rfl (by kernel_rfl) (fun _ _ _ h => h) (Or.inl ⟨by rfl, fun _ _ => by go_simp⟩) hHeld ?_
        dsimp only [Act.put]
        refine wpAnyL_take (i := 9) (v := .bool x1) (C := [9, 13]) rfl (by kernel_rfl) (fun _ _ _ h => h) (Or.inl ⟨by rfl, fun _ _ => by go_simp⟩) hHeld ?_
        dsimp only [Act.put]
        have hc0 := box_cell hbx 0
        have hf0 := box_free hbx 0
        have hbx2 := box_set hbx 0 (.slice q V.length r)
        have hbe : Below w2.heap.size w2 (u4.setCell ⟨Bx, 0, none⟩ (.slice q V.length r)) := setB hHeld (Bx) 0 hbw _
        have oD := ys_set oC hbx (.slice q V.length r)
        refine wpAnyL_one (i := 11) (by kernel_rfl) rfl (fun K hK => ?_)
        rw [if_pos (by rfl)]
        go_simp
        refine hK.out _ _ (fun _ => hbe) ?_
        clear hK K hc0 hf0
        try dsimp only [Act.put]
        refine wpAnyL_one (i := 12) (by kernel_rfl) rfl (fun K hK => ?_)
        rw [if_pos (by rfl)]
        go_simp
        refine hK.out _ _ (fun _ => hbe) ?_
        clear hK K
        try dsimp only [Act.put]
        refine wpAnyL_one (i := 13) (by kernel_rfl) rfl (fun K hK => ?_)
        rw [if_pos (by rfl)]
        go_simp
        refine hK.out _ _ (fun h => absurd rfl h) ?_
        clear hK K
        try dsimp only [Act.put]
        refine wpAnyL_done (by kernel_rfl) ?_
        generalize (u4.setCell ⟨Bx, 0, none⟩ (.slice q V.length r)) = W7 at *
        go_wp2_with fail
        go_meet
        case rel => exact ⟨Bx, q, r, rfl, rfl, rfl, hbx2, oD, hbe, hbw⟩
    · rw [if_pos (by rfl)]
      go_simp
      have gb := boxB Wd (.cells #[.slice none 0 0] 30)
      have hbx := heap_last Wd (.cells #[.slice none 0 0] 30)
      have hb1 : Below w2.heap.size w2 (Wd.alloc (.cells #[.slice none 0 0] 30)) := hHeld.trans (gb.mono hHeld.size)
      have hbo : Wd.heap.size < (Wd.alloc (.cells #[.slice none 0 0] 30)).heap.size := by rw [heap_size]; omega
      have hbw : w2.heap.size ≤ Wd.heap.size := hHeld.size
      refine hK.out _ _ (fun _ => hb1) ?_
      clear hK K hHeld
      have hHeld := hb1
      clear gb
      try dsimp only [Act.put]
      generalize hW1 : Wd.alloc (.cells #[.slice none 0 0] 30) = u1 at *
      generalize hBx : Wd.heap.size = Bx at *
      clear hBx
      clear hW1
      refine wpAnyL_one (i := 1) (by kernel_rfl) rfl (fun K hK => ?_)
      rw [if_pos (by rfl)]
      go_simp
      go_wp2_with (go_at_call 11; refine (HCA.out _ hHeld).mono ?_; rintro e u2 ⟨tA, cA, rfl, oA, gg⟩)
      have hb2 : Below w2.heap.size w2 u2 := hHeld.trans (gg.mono hHeld.size)
      have hbx_n := (gg.block _ hbo).trans hbx
      clear hbx
      have hbx := hbx_n
      clear hbx_n
      have hbo_n := Nat.lt_of_lt_of_le hbo gg.size
      clear hbo
      have hbo := hbo_n
      clear hbo_n
      clear gg
      refine hK.out _ _ (fun _ => hb2) ?_
      clear hK K hHeld
      have hHeld := hb2
      try dsimp only [Act.put]
      refine wpAnyL_one (i := 3) (by kernel_rfl) rfl (fun K hK => ?_)
      rw [if_pos (by rfl)]
      go_simp
      go_wp2_with (go_at_call 11; refine (HCB.out _ hHeld).mono ?_; rintro e u3 ⟨tB, cB, rfl, oB, gg⟩)
      have oA_n := oA.on gg
      clear oA
      have oA := oA_n
      clear oA_n
      have hb3 : Below w2.heap.size w2 u3 := hHeld.trans (gg.mono hHeld.size)
      have hbx_n := (gg.block _ hbo).trans hbx
      clear hbx
      have hbx := hbx_n
      clear hbx_n
      have hbo_n := Nat.lt_of_lt_of_le hbo gg.size
      clear hbo
      have hbo := hbo_n
      clear hbo_n
      clear gg
      refine hK.out _ _ (fun _ => hb3) ?_
      clear hK K hHeld
      have hHeld := hb3
      try dsimp only [Act.put]
      refine wpAnyL_one (i := 5) (by kernel_rfl) rfl (fun K hK => ?_)
      rw [if_pos (by rfl)]
      go_simp
      go_wp2_with (go_at_call 20; refine (H9.out _ _ _ _ _ oA oB).mono ?_; rintro e u4 ⟨q, r, rfl, oC, gg⟩)
      have hb4 : Below w2.heap.size w2 u4 := hHeld.trans (gg.mono hHeld.size)
      have hbx_n := (gg.block _ hbo).trans hbx
      clear hbx
      have hbx := hbx_n
      clear hbx_n
      have hbo_n := Nat.lt_of_lt_of_le hbo gg.size
      clear hbo
      have hbo := hbo_n
      clear hbo_n
      clear gg
      refine hK.out _ _ (fun _ => hb4) ?_
      clear hK K hHeld
      have hHeld := hb4
      try dsimp only [Act.put]
      refine wpAnyL_take (i := 6) (v := .tuple #[.agg #[.slice q V.length r], .int .i64 n0, .bool x1]) (C := [6, 7, 8, 9, 11, 12, 13]) rfl (by kernel_rfl) (fun _ _ _ h => h) (Or.inl ⟨by rfl, fun _ _ => by go_simp⟩) hHeld ?_
      dsimp only [Act.put]
      refine wpAnyL_take (i := 7) (v := .agg #[.slice q V.length r]) (C := [7, 11, 12, 13]) rfl (by kernel_rfl) (fun _ _ _ h => h) (Or.inl ⟨by rfl, fun _ _ => by go_simp⟩) hHeld ?_
      dsimp only [Act.put]
      refine wpAnyL_take (i := 8) (v := .int .i64 n0) (C := [8, 12, 13]) rfl (by kernel_rfl) (fun _ _ _ h => h) (Or.inl ⟨by rfl, fun _ _ => by go_simp⟩) hHeld ?_
      dsimp only [Act.put]
      refine wpAnyL_take (i := 9) (v := .bool x1) (C := [9, 13]) rfl (by kernel_rfl) (fun _ _ _ h => h) (Or.inl ⟨by rfl, fun _ _ => by go_simp⟩) hHeld ?_
      dsimp only [Act.put]
      have hc0 := box_cell hbx 0
      have hf0 := box_free hbx 0
      have hbx2 := box_set hbx 0 (.slice q V.length r)
      have hbe : Below w2.heap.size w2 (u4.setCell ⟨Bx, 0, none⟩ (.slice q V.length r)) := setB hHeld (Bx) 0 hbw _
      have oD := ys_set oC hbx (.slice q V.length r)
      refine wpAnyL_one (i := 11) (by kernel_rfl) rfl (fun K hK => ?_)
      rw [if_pos (by rfl)]
      go_simp
      refine hK.out _ _ (fun _ => hbe) ?_
      clear hK K hc0 hf0
      try dsimp only [Act.put]
      refine wpAnyL_one (i := 12) (by kernel_rfl) rfl (fun K hK => ?_)
      rw [if_pos (by rfl)]
      go_simp
      refine hK.out _ _ (fun _ => hbe) ?_
      clear hK K
      try dsimp only [Act.put]
      refine wpAnyL_one (i := 13) (by kernel_rfl) rfl (fun K hK => ?_)
      rw [if_pos (by rfl)]
      go_simp
      refine hK.out _ _ (fun h => absurd rfl h) ?_
      clear hK K
      try dsimp only [Act.put]
      refine wpAnyL_done (by kernel_rfl) ?_
      generalize (u4.setCell ⟨Bx, 0, none⟩ (.slice q V.length r)) = W7 at *
      go_wp2_with fail
      go_meet
      case rel => exact ⟨Bx, q, r, rfl, rfl, rfl, hbx2, oD, hbe, hbw⟩
  case rest =>
  obtain ⟨WQ, Wq, Wr, rfl, rfl, rfl, Wbx, Wo, Wg, Ww⟩ := hcut
  obtain ⟨w3, hrn⟩ : ∃ v, v = wc := ⟨_, rfl⟩
  subst hrn
  clear HS HCA HCB
  have s3 := Wg.size
  have B_3 : Hid (Below w0.heap.size w0 w3) := B_2.out.trans (Wg.mono B_2.out.size)
  clear B_2
  have W_3 : Hid (Ys w3.heap.size Wq V w3) := Wo
  have Wk_3 : Hid (w3.heap[WQ]? = some (.cells #[.slice Wq V.length Wr] 30)) := Wbx
  have Wz := kboxS Wbx
  clear Wo Wbx Wg
  clear H9
  obtain ⟨xa, xb⟩ := HX.out _ B_3.out
  go_wp2_with fail
  refine (HTA.out _ B_3.out).mono ?_
  rintro e w4 ⟨pA, cA, rfl, oT, gT, kT⟩
  clear xa xb
  have s4 := gT.size
  have B_4 : Hid (Below w0.heap.size w0 w4) := B_3.out.trans (gT.mono B_3.out.size)
  have W_4 : Hid (Ys w3.heap.size Wq V w4) := W_3.out.below (gT.mono (by omega))
  have Wk_4 : Hid (w4.heap[WQ]? = some (.cells #[.slice Wq V.length Wr] 30)) := (gT.block _ (kboxS Wk_3.out)).trans Wk_3.out
  clear B_3 W_3 Wk_3
  have XA_4 : Hid (OwnK w3.heap.size w4.heap.size pA A w4) := oT
  have KTA := hid kT
  clear oT gT kT
  have gA := boxB w4 (.cells #[.slice pA A.length cA] 30)
  have hA := heap_last w4 (.cells #[.slice pA A.length cA] 30)
  have zA : (w4.alloc (.cells #[.slice pA A.length cA] 30)).heap.size = w4.heap.size + 1 := heap_size _ _
  generalize hW5 : w4.alloc (.cells #[.slice pA A.length cA] 30) = w5 at *
  have s5 := gA.size
  have B_5 : Hid (Below w0.heap.size w0 w5) := B_4.out.trans (gA.mono B_4.out.size)
  have W_5 : Hid (Ys w3.heap.size Wq V w5) := W_4.out.below (gA.mono (by omega))
  have Wk_5 : Hid (w5.heap[WQ]? = some (.cells #[.slice Wq V.length Wr] 30)) := (gA.block _ (kboxS Wk_4.out)).trans Wk_4.out
  have XA_5 : Hid (OwnK w3.heap.size w4.heap.size pA A w5) := XA_4.out.on gA
  clear B_4 W_4 Wk_4 XA_4
  have XAk_5 : Hid (w5.heap[w4.heap.size]? = some (.cells #[.slice pA A.length cA] 30)) := hA
  have zz5 := zA
  clear gA hA zA
  obtain ⟨xa, xb⟩ := HX.out _ B_5.out
  go_wp2_with fail
  refine (HTB.out _ B_5.out).mono ?_
  rintro e w6 ⟨pB, cB, rfl, oT, gT, kT⟩
  clear xa xb
  have s6 := gT.size
  have B_6 : Hid (Below w0.heap.size w0 w6) := B_5.out.trans (gT.mono B_5.out.size)
  have W_6 : Hid (Ys w3.heap.size Wq V w6) := W_5.out.below (gT.mono (by omega))
  have Wk_6 : Hid (w6.heap[WQ]? = some (.cells #[.slice Wq V.length Wr] 30)) := (gT.block _ (kboxS Wk_5.out)).trans Wk_5.out
  have XA_6 : Hid (OwnK w3.heap.size w4.heap.size pA A w6) := XA_5.out.on gT
  have XAk_6 : Hid (w6.heap[w4.heap.size]? = some (.cells #[.slice pA A.length cA] 30)) := (gT.block _ (kboxS XAk_5.out)).trans XAk_5.out
  clear B_5 W_5 Wk_5 XA_5 XAk_5
  have XB_6 : Hid (OwnK w5.heap.size w6.heap.size pB B w6) := oT
  have KTB := hid kT
  clear oT gT kT
  have gA := boxB w6 (.cells #[.slice pB B.length cB] 30)
  have hA := heap_last w6 (.cells #[.slice pB B.length cB] 30)
  have zA : (w6.alloc (.cells #[.slice pB B.length cB] 30)).heap.size = w6.heap.size + 1 := heap_size _ _
  generalize hW7 : w6.alloc (.cells #[.slice pB B.length cB] 30) = w7 at *
  have s7 := gA.size
  have B_7 : Hid (Below w0.heap.size w0 w7) := B_6.out.trans (gA.mono B_6.out.size)
  have W_7 : Hid (Ys w3.heap.size Wq V w7) := W_6.out.below (gA.mono (by omega))
  have Wk_7 : Hid (w7.heap[WQ]? = some (.cells #[.slice Wq V.length Wr] 30)) := (gA.block _ (kboxS Wk_6.out)).trans Wk_6.out
  have XA_7 : Hid (OwnK w3.heap.size w4.heap.size pA A w7) := XA_6.out.on gA
  have XAk_7 : Hid (w7.heap[w4.heap.size]? = some (.cells #[.slice pA A.length cA] 30)) := (gA.block _ (kboxS XAk_6.out)).trans XAk_6.out
  have XB_7 : Hid (OwnK w5.heap.size w6.heap.size pB B w7) := XB_6.out.on gA
  clear B_6 W_6 Wk_6 XA_6 XAk_6 XB_6
  have XBk_7 : Hid (w7.heap[w6.heap.size]? = some (.cells #[.slice pB B.length cB] 30)) := hA
  have zz7 := zA
  clear gA hA zA
  have yA : w7.cell? ⟨w4.heap.size, 0, none⟩ = some (.slice pA A.length cA) := box_cell XAk_7.out 0
  have yB : w7.cell? ⟨w6.heap.size, 0, none⟩ = some (.slice pB B.length cB) := box_cell XBk_7.out 0
  go_wp2_with fail
  refine (H11.out pA cA pB cB _ ⟨HFA.out, KTA.out, (XA_7.out.ys)⟩ ⟨HFB.out, KTB.out, (XB_7.out.ys)⟩).mono ?_
  rintro e w8 ⟨Gq, Gr, rfl, oC, gC⟩
  have s8 := gC.size
  have B_8 : Hid (Below w0.heap.size w0 w8) := B_7.out.trans (gC.mono B_7.out.size)
  have W_8 : Hid (Ys w3.heap.size Wq V w8) := W_7.out.below (gC.mono (by omega))
  have Wk_8 : Hid (w8.heap[WQ]? = some (.cells #[.slice Wq V.length Wr] 30)) := (gC.block _ (kboxS Wk_7.out)).trans Wk_7.out
  have XA_8 : Hid (OwnK w3.heap.size w4.heap.size pA A w8) := XA_7.out.on gC
  have XAk_8 : Hid (w8.heap[w4.heap.size]? = some (.cells #[.slice pA A.length cA] 30)) := (gC.block _ (kboxS XAk_7.out)).trans XAk_7.out
  have XB_8 : Hid (OwnK w5.heap.size w6.heap.size pB B w8) := XB_7.out.on gC
  have XBk_8 : Hid (w8.heap[w6.heap.size]? = some (.cells #[.slice pB B.length cB] 30)) := (gC.block _ (kboxS XBk_7.out)).trans XBk_7.out
  clear B_7 W_7 Wk_7 XA_7 XAk_7 XB_7 XBk_7
  have G_8 : Hid (OwnK w7.heap.size w8.heap.size Gq V w8) := oC
  clear oC gC
  clear yA yB
  have gA := boxB w8 (.cells #[.slice Gq V.length Gr] 30)
  have hA := heap_last w8 (.cells #[.slice Gq V.length Gr] 30)
  have zA : (w8.alloc (.cells #[.slice Gq V.length Gr] 30)).heap.size = w8.heap.size + 1 := heap_size _ _
  generalize hW9 : w8.alloc (.cells #[.slice Gq V.length Gr] 30) = w9 at *
  have s9 := gA.size
  have B_9 : Hid (Below w0.heap.size w0 w9) := B_8.out.trans (gA.mono B_8.out.size)
  have W_9 : Hid (Ys w3.heap.size Wq V w9) := W_8.out.below (gA.mono (by omega))
  have Wk_9 : Hid (w9.heap[WQ]? = some (.cells #[.slice Wq V.length Wr] 30)) := (gA.block _ (kboxS Wk_8.out)).trans Wk_8.out
  have XA_9 : Hid (OwnK w3.heap.size w4.heap.size pA A w9) := XA_8.out.on gA
  have XAk_9 : Hid (w9.heap[w4.heap.size]? = some (.cells #[.slice pA A.length cA] 30)) := (gA.block _ (kboxS XAk_8.out)).trans XAk_8.out
  have XB_9 : Hid (OwnK w5.heap.size w6.heap.size pB B w9) := XB_8.out.on gA
  have XBk_9 : Hid (w9.heap[w6.heap.size]? = some (.cells #[.slice pB B.length cB] 30)) := (gA.block _ (kboxS XBk_8.out)).trans XBk_8.out
  have G_9 : Hid (OwnK w7.heap.size w8.heap.size Gq V w9) := G_8.out.on gA
  clear B_8 W_8 Wk_8 XA_8 XAk_8 XB_8 XBk_8 G_8
  have Gk_9 : Hid (w9.heap[w8.heap.size]? = some (.cells #[.slice Gq V.length Gr] 30)) := hA
  have zz9 := zA
  clear gA hA zA
  have y1 : w9.cell? ⟨w8.heap.size, 0, none⟩ = some (.slice Gq V.length Gr) := box_cell Gk_9.out 0
  have y2 : w9.cell? ⟨WQ, 0, none⟩ = some (.slice Wq V.length Wr) := box_cell Wk_9.out 0
  go_wp2_with fail
  refine (eqMarks_same Gq Wq Gr Wr V _ HV.out G_9.out.ys (W_9.out.mono (by omega))).mono ?_
  rintro e w10 ⟨rfl, gE⟩
  clear y1 y2
  have s10 := gE.size
  have B_10 : Hid (Below w0.heap.size w0 w10) := B_9.out.trans (gE.mono B_9.out.size)
  have W_10 : Hid (Ys w3.heap.size Wq V w10) := W_9.out.below (gE.mono (by omega))
  have Wk_10 : Hid (w10.heap[WQ]? = some (.cells #[.slice Wq V.length Wr] 30)) := (gE.block _ (kboxS Wk_9.out)).trans Wk_9.out
  have XA_10 : Hid (OwnK w3.heap.size w4.heap.size pA A w10) := XA_9.out.on gE
  have XAk_10 : Hid (w10.heap[w4.heap.size]? = some (.cells #[.slice pA A.length cA] 30)) := (gE.block _ (kboxS XAk_9.out)).trans XAk_9.out
  have XB_10 : Hid (OwnK w5.heap.size w6.heap.size pB B w10) := XB_9.out.on gE
  have XBk_10 : Hid (w10.heap[w6.heap.size]? = some (.cells #[.slice pB B.length cB] 30)) := (gE.block _ (kboxS XBk_9.out)).trans XBk_9.out
  have G_10 : Hid (OwnK w7.heap.size w8.heap.size Gq V w10) := G_9.out.on gE
  have Gk_10 : Hid (w10.heap[w8.heap.size]? = some (.cells #[.slice Gq V.length Gr] 30)) := (gE.block _ (kboxS Gk_9.out)).trans Gk_9.out
  clear B_9 W_9 Wk_9 XA_9 XAk_9 XB_9 XBk_9 G_9 Gk_9
  clear gE
  try clear hW1 hW2 hW3 hW4 hW5 hW6 hW7 hW8 hW9 hW10
  have BD : Below w10.heap.size w10 w10.drew := (Below.refl _ _).drew
  have HS : Hid (∀ v, Below w10.heap.size w10 v → v.cell? ⟨w4.heap.size, 0, none⟩ = some (.slice pA A.length cA) ∧ v.cell? ⟨w.heap.size, 0, none⟩ = some (.slice a A.length c)) := fun v g => ⟨box_cell ((g.block _ (kboxS XAk_10.out)).trans XAk_10.out) 0, (HX.out v (B_10.out.trans (g.mono B_10.out.size))).1⟩
  have HCd : Hid (∀ v, Below w10.heap.size w10 v → Calls Try.prog 11 #[.agg #[.slice a A.length c]] v fun e w' => ∃ b c, e = .returned (.agg #[.slice b A.length c]) ∧ OwnK v.heap.size w'.heap.size b A w' ∧ Below v.heap.size v w' ∧ A.length ≤ c) := fun v g => HTA.out v (B_10.out.trans (g.mono B_10.out.size))
  have HEQ : Hid (∀ v (b : Option Addr) (c : Nat), Below w10.heap.size w10 v → Ys v.heap.size b A v → Calls Try.prog 13 #[.agg #[.slice pA A.length cA], .agg #[.slice b A.length c]] v fun e w' => e = .returned (.bool true) ∧ Below v.heap.size v w') := fun v b c g h1 => eqMarks_same pA b cA c A v HFA.out (XA_10.out.on g).ys h1
  obtain ⟨z1, z2⟩ := HS.out _ BD
  have y1 : w10.cell? ⟨w4.heap.size, 0, none⟩ = some (.slice pA A.length cA) := box_cell XAk_10.out 0
  go_wp2_with fail
  go_region_held (fun v => v.cell? ⟨w4.heap.size, 0, none⟩ = some (.slice pA A.length cA) ∧ v.cell? ⟨w.heap.size, 0, none⟩ = some (.slice a A.length c)) (first | exact HS.out _ (by with_reducible assumption)) (first | (go_at_call 11; refine (HCd.out _ (by with_reducible assumption)).mono ?_; rintro e wa ⟨b7, c7, rfl, o7, g7, -⟩; have B7 : Below w10.heap.size w10 wa := BD.trans (g7.mono BD.size)) | (go_at_call 13; refine (HEQ.out _ _ _ B7 o7.ys).mono ?_; rintro e w11 ⟨rfl, g8⟩; have B8 : Below w10.heap.size w10 w11 := B7.trans (g8.mono B7.size)))
  all_goals
    have gR := B8
    clear o7 g7 g8 B7 B8 BD HS HCd HEQ z1 z2 y1
    have s11 := gR.size
    have B_11 : Hid (Below w0.heap.size w0 w11) := B_10.out.trans (gR.mono B_10.out.size)
    have W_11 : Hid (Ys w3.heap.size Wq V w11) := W_10.out.below (gR.mono (by omega))
    have Wk_11 : Hid (w11.heap[WQ]? = some (.cells #[.slice Wq V.length Wr] 30)) := (gR.block _ (kboxS Wk_10.out)).trans Wk_10.out
    have XA_11 : Hid (OwnK w3.heap.size w4.heap.size pA A w11) := XA_10.out.on gR
    have XAk_11 : Hid (w11.heap[w4.heap.size]? = some (.cells #[.slice pA A.length cA] 30)) := (gR.block _ (kboxS XAk_10.out)).trans XAk_10.out
    have XB_11 : Hid (OwnK w5.heap.size w6.heap.size pB B w11) := XB_10.out.on gR
    have XBk_11 : Hid (w11.heap[w6.heap.size]? = some (.cells #[.slice pB B.length cB] 30)) := (gR.block _ (kboxS XBk_10.out)).trans XBk_10.out
    have G_11 : Hid (OwnK w7.heap.size w8.heap.size Gq V w11) := G_10.out.on gR
    have Gk_11 : Hid (w11.heap[w8.heap.size]? = some (.cells #[.slice Gq V.length Gr] 30)) := (gR.block _ (kboxS Gk_10.out)).trans Gk_10.out
    clear B_10 W_10 Wk_10 XA_10 XAk_10 XB_10 XBk_10 G_10 Gk_10
    clear gR
    have BD : Below w11.heap.size w11 w11.drew := (Below.refl _ _).drew
    have HS : Hid (∀ v, Below w11.heap.size w11 v → v.cell? ⟨w6.heap.size, 0, none⟩ = some (.slice pB B.length cB) ∧ v.cell? ⟨w.heap.size + 1, 0, none⟩ = some (.slice b B.length d)) := fun v g => ⟨box_cell ((g.block _ (kboxS XBk_11.out)).trans XBk_11.out) 0, (HX.out v (B_11.out.trans (g.mono B_11.out.size))).2⟩
    have HCd : Hid (∀ v, Below w11.heap.size w11 v → Calls Try.prog 11 #[.agg #[.slice b B.length d]] v fun e w' => ∃ b c, e = .returned (.agg #[.slice b B.length c]) ∧ OwnK v.heap.size w'.heap.size b B w' ∧ Below v.heap.size v w' ∧ B.length ≤ c) := fun v g => HTB.out v (B_11.out.trans (g.mono B_11.out.size))
    have HEQ : Hid (∀ v (b : Option Addr) (c : Nat), Below w11.heap.size w11 v → Ys v.heap.size b B v → Calls Try.prog 13 #[.agg #[.slice pB B.length cB], .agg #[.slice b B.length c]] v fun e w' => e = .returned (.bool true) ∧ Below v.heap.size v w') := fun v b c g h1 => eqMarks_same pB b cB c B v HFB.out (XB_11.out.on g).ys h1
    obtain ⟨z1, z2⟩ := HS.out _ BD
    have y1 : w11.cell? ⟨w6.heap.size, 0, none⟩ = some (.slice pB B.length cB) := box_cell XBk_11.out 0
    go_wp2_with fail
    go_region_held (fun v => v.cell? ⟨w6.heap.size, 0, none⟩ = some (.slice pB B.length cB) ∧ v.cell? ⟨w.heap.size + 1, 0, none⟩ = some (.slice b B.length d)) (first | exact HS.out _ (by with_reducible assumption)) (first | (go_at_call 11; refine (HCd.out _ (by with_reducible assumption)).mono ?_; rintro e wa ⟨b7, c7, rfl, o7, g7, -⟩; have B7 : Below w11.heap.size w11 wa := BD.trans (g7.mono BD.size)) | (go_at_call 13; refine (HEQ.out _ _ _ B7 o7.ys).mono ?_; rintro e w12 ⟨rfl, g8⟩; have B8 : Below w11.heap.size w11 w12 := B7.trans (g8.mono B7.size)))
    all_goals
      have gR := B8
      clear o7 g7 g8 B7 B8 BD HS HCd HEQ z1 z2 y1
      have s12 := gR.size
      have B_12 : Hid (Below w0.heap.size w0 w12) := B_11.out.trans (gR.mono B_11.out.size)
      have W_12 : Hid (Ys w3.heap.size Wq V w12) := W_11.out.below (gR.mono (by omega))
      have Wk_12 : Hid (w12.heap[WQ]? = some (.cells #[.slice Wq V.length Wr] 30)) := (gR.block _ (kboxS Wk_11.out)).trans Wk_11.out
      have XA_12 : Hid (OwnK w3.heap.size w4.heap.size pA A w12) := XA_11.out.on gR
      have XAk_12 : Hid (w12.heap[w4.heap.size]? = some (.cells #[.slice pA A.length cA] 30)) := (gR.block _ (kboxS XAk_11.out)).trans XAk_11.out
      have XB_12 : Hid (OwnK w5.heap.size w6.heap.size pB B w12) := XB_11.out.on gR
      have XBk_12 : Hid (w12.heap[w6.heap.size]? = some (.cells #[.slice pB B.length cB] 30)) := (gR.block _ (kboxS XBk_11.out)).trans XBk_11.out
      have G_12 : Hid (OwnK w7.heap.size w8.heap.size Gq V w12) := G_11.out.on gR
      have Gk_12 : Hid (w12.heap[w8.heap.size]? = some (.cells #[.slice Gq V.length Gr] 30)) := (gR.block _ (kboxS Gk_11.out)).trans Gk_11.out
      clear B_11 W_11 Wk_11 XA_11 XAk_11 XB_11 XBk_11 G_11 Gk_11
      clear gR
      have y1 : w12.cell? ⟨w4.heap.size, 0, none⟩ = some (.slice pA A.length cA) := box_cell XAk_12.out 0
      have hw0 : wtK A ≤ 1048576 := HFA.out
      go_wp2_with fail
      refine (markMarks_any _ _ pA cA A _ HFA.out XA_12.out).mono ?_
      rintro e w13 ⟨rfl, oM, tM⟩
      clear y1
      have s13 := tM.size
      have B_13 : Hid (Below w0.heap.size w0 w13) := B_12.out.trans (tM.below (by omega) B_12.out.size)
      have W_13 : Hid (Ys w3.heap.size Wq V w13) := W_12.out.below (tM.below (by omega) (by omega))
      have Wk_13 : Hid (w13.heap[WQ]? = some (.cells #[.slice Wq V.length Wr] 30)) := (tM.block _ (kboxS Wk_12.out) (by have := kboxS Wk_12.out; omega)).trans Wk_12.out
      have XA_13 : Hid (OwnK w3.heap.size w4.heap.size pA (kmarks A 1) w13) := oM
      have XAk_13 : Hid (w13.heap[w4.heap.size]? = some (.cells #[.slice pA A.length cA] 30)) := (tM.block _ (kboxS XAk_12.out) (by have := kboxS XAk_12.out; omega)).trans XAk_12.out
      have XB_13 : Hid (OwnK w5.heap.size w6.heap.size pB B w13) := XB_12.out.out tM (by omega)
      have XBk_13 : Hid (w13.heap[w6.heap.size]? = some (.cells #[.slice pB B.length cB] 30)) := (tM.block _ (kboxS XBk_12.out) (by have := kboxS XBk_12.out; omega)).trans XBk_12.out
      have G_13 : Hid (OwnK w7.heap.size w8.heap.size Gq V w13) := G_12.out.out tM (by omega)
      have Gk_13 : Hid (w13.heap[w8.heap.size]? = some (.cells #[.slice Gq V.length Gr] 30)) := (tM.block _ (kboxS Gk_12.out) (by have := kboxS Gk_12.out; omega)).trans Gk_12.out
      clear B_12 W_12 Wk_12 XA_12 XAk_12 XB_12 XBk_12 G_12 Gk_12
      clear oM tM
      obtain ⟨m0, hm0⟩ : ∃ m, 1 + wtK A = m := ⟨_, rfl⟩
      rw [hm0]
      have hp0 : 1 ≤ m0 ∧ m0 ≤ 1048578 := by omega
      clear hm0 hw0
      have y1 : w13.cell? ⟨w6.heap.size, 0, none⟩ = some (.slice pB B.length cB) := box_cell XBk_13.out 0
      have hw1 : wtK B ≤ 1048576 := HFB.out
      go_wp2_with fail
      refine (markMarks_k _ _ pB cB m0 B _ HFB.out (by omega) (by omega) XB_13.out).mono ?_
      rintro e w14 ⟨rfl, oM, tM⟩
      clear y1
      have s14 := tM.size
      have B_14 : Hid (Below w0.heap.size w0 w14) := B_13.out.trans (tM.below (by omega) B_13.out.size)
      have W_14 : Hid (Ys w3.heap.size Wq V w14) := W_13.out.below (tM.below (by omega) (by omega))
      have Wk_14 : Hid (w14.heap[WQ]? = some (.cells #[.slice Wq V.length Wr] 30)) := (tM.block _ (kboxS Wk_13.out) (by have := kboxS Wk_13.out; omega)).trans Wk_13.out
      have XA_14 : Hid (OwnK w3.heap.size w4.heap.size pA (kmarks A 1) w14) := XA_13.out.out tM (by omega)
      have XAk_14 : Hid (w14.heap[w4.heap.size]? = some (.cells #[.slice pA A.length cA] 30)) := (tM.block _ (kboxS XAk_13.out) (by have := kboxS XAk_13.out; omega)).trans XAk_13.out
      have XB_14 : Hid (OwnK w5.heap.size w6.heap.size pB (kmarks B m0) w14) := oM
      have XBk_14 : Hid (w14.heap[w6.heap.size]? = some (.cells #[.slice pB B.length cB] 30)) := (tM.block _ (kboxS XBk_13.out) (by have := kboxS XBk_13.out; omega)).trans XBk_13.out
      have G_14 : Hid (OwnK w7.heap.size w8.heap.size Gq V w14) := G_13.out.out tM (by omega)
      have Gk_14 : Hid (w14.heap[w8.heap.size]? = some (.cells #[.slice Gq V.length Gr] 30)) := (tM.block _ (kboxS Gk_13.out) (by have := kboxS Gk_13.out; omega)).trans Gk_13.out
      clear B_13 W_13 Wk_13 XA_13 XAk_13 XB_13 XBk_13 G_13 Gk_13
      clear oM tM
      obtain ⟨m1, hm1⟩ : ∃ m, m0 + wtK B = m := ⟨_, rfl⟩
      rw [hm1]
      have hp1 : 1 ≤ m1 ∧ m1 ≤ 2097156 := by omega
      clear hm1 hw1
      have hmd : decide (((m1 : Nat) : Int) < 0) = false := decide_eq_false (by omega)
      have y1 : w14.cell? ⟨w8.heap.size, 0, none⟩ = some (.slice Gq V.length Gr) := box_cell Gk_14.out 0
      have y2 : w14.cell? ⟨WQ, 0, none⟩ = some (.slice Wq V.length Wr) := box_cell Wk_14.out 0
      go_wp2_with fail
      refine (eqMarks_same Gq Wq Gr Wr V _ HV.out G_14.out.ys (W_14.out.mono (by omega))).mono ?_
      rintro e w15 ⟨rfl, gE⟩
      clear y1 y2
      have s15 := gE.size
      have B_15 : Hid (Below w0.heap.size w0 w15) := B_14.out.trans (gE.mono B_14.out.size)
      have W_15 : Hid (Ys w3.heap.size Wq V w15) := W_14.out.below (gE.mono (by omega))
      have Wk_15 : Hid (w15.heap[WQ]? = some (.cells #[.slice Wq V.length Wr] 30)) := (gE.block _ (kboxS Wk_14.out)).trans Wk_14.out
      have XA_15 : Hid (OwnK w3.heap.size w4.heap.size pA (kmarks A 1) w15) := XA_14.out.on gE
      have XAk_15 : Hid (w15.heap[w4.heap.size]? = some (.cells #[.slice pA A.length cA] 30)) := (gE.block _ (kboxS XAk_14.out)).trans XAk_14.out
      have XB_15 : Hid (OwnK w5.heap.size w6.heap.size pB (kmarks B m0) w15) := XB_14.out.on gE
      have XBk_15 : Hid (w15.heap[w6.heap.size]? = some (.cells #[.slice pB B.length cB] 30)) := (gE.block _ (kboxS XBk_14.out)).trans XBk_14.out
      have G_15 : Hid (OwnK w7.heap.size w8.heap.size Gq V w15) := G_14.out.on gE
      have Gk_15 : Hid (w15.heap[w8.heap.size]? = some (.cells #[.slice Gq V.length Gr] 30)) := (gE.block _ (kboxS Gk_14.out)).trans Gk_14.out
      clear B_14 W_14 Wk_14 XA_14 XAk_14 XB_14 XBk_14 G_14 Gk_14
      clear gE
      clear XA_15
      clear XB_15
      clear XAk_15
      clear XBk_15
      have y1 : w15.cell? ⟨w8.heap.size, 0, none⟩ = some (.slice Gq V.length Gr) := box_cell Gk_15.out 0
      go_wp2_with fail
      refine (markMarks_any _ _ Gq Gr V _ HV.out G_15.out).mono ?_
      rintro e w16 ⟨rfl, oM, tM⟩
      clear y1
      have s16 := tM.size
      have B_16 : Hid (Below w0.heap.size w0 w16) := B_15.out.trans (tM.below (by omega) B_15.out.size)
      have W_16 : Hid (Ys w3.heap.size Wq V w16) := W_15.out.below (tM.below (by omega) (by omega))
      have Wk_16 : Hid (w16.heap[WQ]? = some (.cells #[.slice Wq V.length Wr] 30)) := (tM.block _ (kboxS Wk_15.out) (by have := kboxS Wk_15.out; omega)).trans Wk_15.out
      have G_16 : Hid (OwnK w7.heap.size w8.heap.size Gq (kmarks V 1) w16) := oM
      have Gk_16 : Hid (w16.heap[w8.heap.size]? = some (.cells #[.slice Gq V.length Gr] 30)) := (tM.block _ (kboxS Gk_15.out) (by have := kboxS Gk_15.out; omega)).trans Gk_15.out
      clear B_15 W_15 Wk_15 G_15 Gk_15
      clear oM tM
      have hm2 : decide (((1 + wtK V : Nat) : Int) < 0) = false := decide_eq_false (by omega)
      have y1 : w16.cell? ⟨w8.heap.size, 0, none⟩ = some (.slice Gq V.length Gr) := box_cell Gk_16.out 0
      go_wp2_with fail
      refine (heldMarks_any _ _ Gq Gr V _ HV.out G_16.out).mono ?_
      rintro e w17 ⟨rfl, gH⟩
      clear y1
      have s17 := gH.size
      have B_17 : Hid (Below w0.heap.size w0 w17) := B_16.out.trans (gH.mono B_16.out.size)
      have W_17 : Hid (Ys w3.heap.size Wq V w17) := W_16.out.below (gH.mono (by omega))
      have Wk_17 : Hid (w17.heap[WQ]? = some (.cells #[.slice Wq V.length Wr] 30)) := (gH.block _ (kboxS Wk_16.out)).trans Wk_16.out
      have G_17 : Hid (OwnK w7.heap.size w8.heap.size Gq (kmarks V 1) w17) := G_16.out.on gH
      have Gk_17 : Hid (w17.heap[w8.heap.size]? = some (.cells #[.slice Gq V.length Gr] 30)) := (gH.block _ (kboxS Gk_16.out)).trans Gk_16.out
      clear B_16 W_16 Wk_16 G_16 Gk_16
      clear gH
      have HS : Hid (∀ v, Below w17.heap.size w17 v → v.cell? ⟨w.heap.size, 0, none⟩ = some (.slice a A.length c) ∧ v.cell? ⟨w.heap.size + 1, 0, none⟩ = some (.slice b B.length d)) := fun v g => HX.out v (B_17.out.trans (g.mono B_17.out.size))
      have HCA : Hid (∀ v, Below w17.heap.size w17 v → Calls Try.prog 11 #[.agg #[.slice a A.length c]] v fun e w' => ∃ b c, e = .returned (.agg #[.slice b A.length c]) ∧ Mr b c A w' ∧ Below v.heap.size v w') := fun v g => (HTA.out v (B_17.out.trans (g.mono B_17.out.size))).mono fun _ _ ⟨b, c, h1, h2, h3, h4⟩ => ⟨b, c, h1, ⟨HFA.out, h4, h2.ys⟩, h3⟩
      have HCB : Hid (∀ v, Below w17.heap.size w17 v → Calls Try.prog 11 #[.agg #[.slice b B.length d]] v fun e w' => ∃ b c, e = .returned (.agg #[.slice b B.length c]) ∧ Mr b c B w' ∧ Below v.heap.size v w') := fun v g => (HTB.out v (B_17.out.trans (g.mono B_17.out.size))).mono fun _ _ ⟨b, c, h1, h2, h3, h4⟩ => ⟨b, c, h1, ⟨HFB.out, h4, h2.ys⟩, h3⟩
      go_upto_region 31 with fail
      go_cut [19, 20, 21] (fun s19 s20 s21 wc => ∃ (Q : Nat) (q : Option Addr) (r : Nat) (lo hi : Nat), s19 = .pointer (some ⟨Q, 0, none⟩) ∧ s20 = .int .i64 n0 ∧ s21 = .bool x1 ∧ wc.heap[Q]? = some (.cells #[.slice q V.length r] 30) ∧ OwnK lo hi q V wc ∧ Below w17.heap.size w17 wc ∧ w17.heap.size ≤ Q ∧ w17.heap.size ≤ lo ∧ hi ≤ wc.heap.size ∧ (Q < lo ∨ hi ≤ Q))
      case first =>
        have hT0 : Below w17.heap.size w17 w17.drew := (Below.refl _ _).drew
        refine wp_region_L (fun v : World => Below w17.heap.size w17 v) 13 (by kernel_rfl) ?_
        generalize w17.drew = Wd at *
        have hHeld := hT0
        refine wpAnyL_take (i := 0) (v := .agg #[.slice a A.length c]) (C := [0, 1, 3, 5, 6, 7, 8, 9, 11, 12, 13]) rfl (by kernel_rfl) (fun _ _ _ h => h) (Or.inl ⟨by rfl, fun u hu => by obtain ⟨h1, h2⟩ := HS.out u hu; go_simp⟩) hHeld ?_
        dsimp only [Act.put]
        refine wpAnyL_take (i := 2) (v := .agg #[.slice b B.length d]) (C := [2, 3, 5, 6, 7, 8, 9, 11, 12, 13]) rfl (by kernel_rfl) (fun _ _ _ h => h) (Or.inl ⟨by rfl, fun u hu => by obtain ⟨h1, h2⟩ := HS.out u hu; go_simp⟩) hHeld ?_
        dsimp only [Act.put]
        refine wpAnyL_take (i := 4) (v := .int .i64 m) (C := [4, 5, 6, 7, 8, 9, 11, 12, 13]) rfl (by kernel_rfl) (fun _ _ _ h => h) (Or.inl ⟨by rfl, fun _ _ => by go_simp⟩) hHeld ?_
        dsimp only [Act.put]
        refine wpAnyL_two (i := 1) (j := 10) (by kernel_rfl) rfl rfl (fun K hK => ?_) (fun K hK => ?_)
        · rw [if_pos (by rfl)]
          go_simp
          go_wp2_with (go_at_call 11; refine (HCA.out _ hHeld).mono ?_; rintro e u1 ⟨tA, cA, rfl, oA, gg⟩)
          have hb1 : Below w17.heap.size w17 u1 := hHeld.trans (gg.mono hHeld.size)
          clear gg
          refine hK.out _ _ (fun _ => hb1) ?_
          clear hK K hHeld
          have hHeld := hb1
          try dsimp only [Act.put]
          refine wpAnyL_two (i := 3) (j := 10) (by kernel_rfl) rfl rfl (fun K hK => ?_) (fun K hK => ?_)
          · rw [if_pos (by rfl)]
            go_simp
            go_wp2_with (go_at_call 11; refine (HCB.out _ hHeld).mono ?_; rintro e u2 ⟨tB, cB, rfl, oB, gg⟩)
            have oA_n := oA.on gg
            clear oA
            have oA := oA_n
            clear oA_n
            have hb2 : Below w17.heap.size w17 u2 := hHeld.trans (gg.mono hHeld.size)
            clear gg
            refine hK.out _ _ (fun _ => hb2) ?_
            clear hK K hHeld
            have hHeld := hb2
            try dsimp only [Act.put]
            refine wpAnyL_two (i := 5) (j := 10) (by kernel_rfl) rfl rfl (fun K hK => ?_) (fun K hK => ?_)
            · rw [if_pos (by rfl)]
              go_simp
              go_wp2_with (go_at_call 21; refine (H11.out _ _ _ _ _ oA oB).mono ?_; rintro e u3 ⟨q, r, rfl, oC, gg⟩)
              have hhi : u3.heap.size ≤ u3.heap.size := Nat.le_refl _
              have hb3 : Below w17.heap.size w17 u3 := hHeld.trans (gg.mono hHeld.size)
              have hlo : w17.heap.size ≤ u2.heap.size := hHeld.size
              clear gg
              refine hK.out _ _ (fun _ => hb3) ?_
              clear hK K hHeld
              have hHeld := hb3
              try dsimp only [Act.put]
              refine wpAnyL_take (i := 6) (v := .tuple #[.agg #[.slice q V.length r], .int .i64 n0, .bool x1]) (C := [6, 7, 8, 9, 11, 12, 13]) rfl (by kernel_rfl) (fun _ _ _ h => h) (Or.inl ⟨by rfl, fun _ _ => by go_simp⟩) hHeld ?_
              dsimp only [Act.put]
              refine wpAnyL_take (i := 7) (v := .agg #[.slice q V.length r]) (C := [7, 11, 12, 13]) rfl (by kernel_rfl) (fun _ _ _ h => h) (Or.inl ⟨by rfl, fun _ _ => by go_simp⟩) hHeld ?_
              dsimp only [Act.put]
              refine wpAnyL_take (i := 8) (v := .int .i64 n0) (C := [8, 12, 13]) rfl (by kernel_rfl) (fun _ _ _ h => h) (Or.inl ⟨by rfl, fun _ _ => by go_simp⟩) hHeld ?_
              dsimp only [Act.put]
              refine wpAnyL_take (i := 9) (v := .bool x1) (C := [9, 13]) rfl (by kernel_rfl) (fun _ _ _ h => h) (Or.inl ⟨by rfl, fun _ _ => by go_simp⟩) hHeld ?_
              dsimp only [Act.put]
              refine wpAnyL_one (i := 10) (by kernel_rfl) rfl (fun K hK => ?_)
              rw [if_pos (by rfl)]
              go_simp
              have gb := boxB u3 (.cells #[.slice none 0 0] 30)
              have hbx := heap_last u3 (.cells #[.slice none 0 0] 30)
              have hb4 : Below w17.heap.size w17 (u3.alloc (.cells #[.slice none 0 0] 30)) := hHeld.trans (gb.mono hHeld.size)
              have hbo : u3.heap.size < (u3.alloc (.cells #[.slice none 0 0] 30)).heap.size := by rw [heap_size]; omega
              have hbw : w17.heap.size ≤ u3.heap.size := hHeld.size
              have oC_n := oC.on gb
              clear oC
              have oC := oC_n
              clear oC_n
              have hap : u3.heap.size < u2.heap.size ∨ u3.heap.size ≤ u3.heap.size := Or.inr (Nat.le_refl _)
              have hhi : u3.heap.size ≤ (u3.alloc (.cells #[.slice none 0 0] 30)).heap.size := by omega
              refine hK.out _ _ (fun _ => hb4) ?_
              clear hK K hHeld
              have hHeld := hb4
              clear gb
              try dsimp only [Act.put]
              generalize hW4 : u3.alloc (.cells #[.slice none 0 0] 30) = u4 at *
              clear hW4
              have hc0 := box_cell hbx 0
              have hf0 := box_free hbx 0
              have hbx2 := box_set hbx 0 (.slice q V.length r)
              have hbe : Below w17.heap.size w17 (u4.setCell ⟨u3.heap.size, 0, none⟩ (.slice q V.length r)) := setB hHeld (u3.heap.size) 0 hbw _
              have oD := oC.set (u3.heap.size) 0 (.slice q V.length r) hap
              have hsz : (u4.setCell ⟨u3.heap.size, 0, none⟩ (.slice q V.length r)).heap.size = u4.heap.size := by simp [World.setCell]
              refine wpAnyL_one (i := 11) (by kernel_rfl) rfl (fun K hK => ?_)
              rw [if_pos (by rfl)]
              go_simp
              refine hK.out _ _ (fun _ => hbe) ?_
              clear hK K hc0 hf0
              try dsimp only [Act.put]
              refine wpAnyL_one (i := 12) (by kernel_rfl) rfl (fun K hK => ?_)
              rw [if_pos (by rfl)]
              go_simp
              refine hK.out _ _ (fun _ => hbe) ?_
              clear hK K
              try dsimp only [Act.put]
              refine wpAnyL_one (i := 13) (by kernel_rfl) rfl (fun K hK => ?_)
              rw [if_pos (by rfl)]
              go_simp
              refine hK.out _ _ (fun h => absurd rfl h) ?_
              clear hK K
              try dsimp only [Act.put]
              refine wpAnyL_done (by kernel_rfl) ?_
              generalize (u4.setCell ⟨u3.heap.size, 0, none⟩ (.slice q V.length r)) = W7 at *
              go_wp2_with fail
              go_meet
              case rel => exact ⟨u3.heap.size, q, r, _, _, rfl, rfl, rfl, hbx2, oD, hbe, hbw, hlo, by omega, hap⟩
            · rw [if_pos (by rfl)]
              go_simp
              have gb := boxB u2 (.cells #[.slice none 0 0] 30)
              have hbx := heap_last u2 (.cells #[.slice none 0 0] 30)
              have hb3 : Below w17.heap.size w17 (u2.alloc (.cells #[.slice none 0 0] 30)) := hHeld.trans (gb.mono hHeld.size)
              have hbo : u2.heap.size < (u2.alloc (.cells #[.slice none 0 0] 30)).heap.size := by rw [heap_size]; omega
              have hbw : w17.heap.size ≤ u2.heap.size := hHeld.size
              have oA_n := oA.on gb
              clear oA
              have oA := oA_n
              clear oA_n
              have oB_n := oB.on gb
              clear oB
              have oB := oB_n
              clear oB_n
              refine hK.out _ _ (fun _ => hb3) ?_
              clear hK K hHeld
              have hHeld := hb3
              clear gb
              try dsimp only [Act.put]
              generalize hW3 : u2.alloc (.cells #[.slice none 0 0] 30) = u3 at *
              generalize hBx : u2.heap.size = Bx at *
              clear hBx
              clear hW3
              refine wpAnyL_one (i := 5) (by kernel_rfl) rfl (fun K hK => ?_)
              rw [if_pos (by rfl)]
              go_simp
              go_wp2_with (go_at_call 21; refine (H11.out _ _ _ _ _ oA oB).mono ?_; rintro e u4 ⟨q, r, rfl, oC, gg⟩)
              have hhi : u4.heap.size ≤ u4.heap.size := Nat.le_refl _
              have hap : Bx < u3.heap.size ∨ u4.heap.size ≤ Bx := Or.inl hbo
              have hb4 : Below w17.heap.size w17 u4 := hHeld.trans (gg.mono hHeld.size)
              have hlo : w17.heap.size ≤ u3.heap.size := hHeld.size
              have hbx_n := (gg.block _ hbo).trans hbx
              clear hbx
              have hbx := hbx_n
              clear hbx_n
              have hbo_n := Nat.lt_of_lt_of_le hbo gg.size
              clear hbo
              have hbo := hbo_n
              clear hbo_n
              clear gg
              refine hK.out _ _ (fun _ => hb4) ?_
              clear hK K hHeld
              have hHeld := hb4
              try dsimp only [Act.put]
              refine wpAnyL_take (i := 6) (v := .tuple #[.agg #[.slice q V.length r], .int .i64 n0, .bool x1]) (C := [6, 7, 8, 9, 11, 12, 13]) rfl (by kernel_rfl) (fun _ _ _ h => h) (Or.inl ⟨by rfl, fun _ _ => by go_simp⟩) hHeld ?_
              dsimp only [Act.put]
              refine wpAnyL_take (i := 7) (v := .agg #[.slice q V.length r]) (C := [7, 11, 12, 13]) rfl (by kernel_rfl) (fun _ _ _ h => h) (Or.inl ⟨by rfl, fun _ _ => by go_simp⟩) hHeld ?_
              dsimp only [Act.put]
              refine wpAnyL_take (i := 8) (v := .int .i64 n0) (C := [8, 12, 13]) rfl (by kernel_rfl) (fun _ _ _ h => h) (Or.inl ⟨by rfl, fun _ _ => by go_simp⟩) hHeld ?_
              dsimp only [Act.put]
              refine wpAnyL_take (i := 9) (v := .bool x1) (C := [9, 13]) rfl (by kernel_rfl) (fun _ _ _ h => h) (Or.inl ⟨by rfl, fun _ _ => by go_simp⟩) hHeld ?_
              dsimp only [Act.put]
              have hc0 := box_cell hbx 0
              have hf0 := box_free hbx 0
              have hbx2 := box_set hbx 0 (.slice q V.length r)
              have hbe : Below w17.heap.size w17 (u4.setCell ⟨Bx, 0, none⟩ (.slice q V.length r)) := setB hHeld (Bx) 0 hbw _
              have oD := oC.set (Bx) 0 (.slice q V.length r) hap
              have hsz : (u4.setCell ⟨Bx, 0, none⟩ (.slice q V.length r)).heap.size = u4.heap.size := by simp [World.setCell]
              refine wpAnyL_one (i := 11) (by kernel_rfl) rfl (fun K hK => ?_)
              rw [if_pos (by rfl)]
              go_simp
              refine hK.out _ _ (fun _ => hbe) ?_
              clear hK K hc0 hf0
              try dsimp only [Act.put]
              refine wpAnyL_one (i := 12) (by kernel_rfl) rfl (fun K hK => ?_)
              rw [if_pos (by rfl)]
              go_simp
              refine hK.out _ _ (fun _ => hbe) ?_
              clear hK K
              try dsimp only [Act.put]
              refine wpAnyL_one (i := 13) (by kernel_rfl) rfl (fun K hK => ?_)
              rw [if_pos (by rfl)]
              go_simp
              refine hK.out _ _ (fun h => absurd rfl h) ?_
              clear hK K
              try dsimp only [Act.put]
              refine wpAnyL_done (by kernel_rfl) ?_
              generalize (u4.setCell ⟨Bx, 0, none⟩ (.slice q V.length r)) = W7 at *
              go_wp2_with fail
              go_meet
              case rel => exact ⟨Bx, q, r, _, _, rfl, rfl, rfl, hbx2, oD, hbe, hbw, hlo, by omega, hap⟩
          · rw [if_pos (by rfl)]
            go_simp
            have gb := boxB u1 (.cells #[.slice none 0 0] 30)
            have hbx := heap_last u1 (.cells #[.slice none 0 0] 30)
            have hb2 : Below w17.heap.size w17 (u1.alloc (.cells #[.slice none 0 0] 30)) := hHeld.trans (gb.mono hHeld.size)
            have hbo : u1.heap.size < (u1.alloc (.cells #[.slice none 0 0] 30)).heap.size := by rw [heap_size]; omega
            have hbw : w17.heap.size ≤ u1.heap.size := hHeld.size
            have oA_n := oA.on gb
            clear oA
            have oA := oA_n
            clear oA_n
            refine hK.out _ _ (fun _ => hb2) ?_
            clear hK K hHeld
            have hHeld := hb2
            clear gb
            try dsimp only [Act.put]
            generalize hW2 : u1.alloc (.cells #[.slice none 0 0] 30) = u2 at *
            generalize hBx : u1.heap.size = Bx at *
            clear hBx
            clear hW2
            refine wpAnyL_one (i := 3) (by kernel_rfl) rfl (fun K hK => ?_)
            rw [if_pos (by rfl)]
            go_simp
            go_wp2_with (go_at_call 11; refine (HCB.out _ hHeld).mono ?_; rintro e u3 ⟨tB, cB, rfl, oB, gg⟩)
            have oA_n := oA.on gg
            clear oA
            have oA := oA_n
            clear oA_n
            have hb3 : Below w17.heap.size w17 u3 := hHeld.trans (gg.mono hHeld.size)
            have hbx_n := (gg.block _ hbo).trans hbx
            clear hbx
            have hbx := hbx_n
            clear hbx_n
            have hbo_n := Nat.lt_of_lt_of_le hbo gg.size
            clear hbo
            have hbo := hbo_n
            clear hbo_n
            clear gg
            refine hK.out _ _ (fun _ => hb3) ?_
            clear hK K hHeld
            have hHeld := hb3
            try dsimp only [Act.put]
            refine wpAnyL_one (i := 5) (by kernel_rfl) rfl (fun K hK => ?_)
            rw [if_pos (by rfl)]
            go_simp
            go_wp2_with (go_at_call 21; refine (H11.out _ _ _ _ _ oA oB).mono ?_; rintro e u4 ⟨q, r, rfl, oC, gg⟩)
            have hhi : u4.heap.size ≤ u4.heap.size := Nat.le_refl _
            have hap : Bx < u3.heap.size ∨ u4.heap.size ≤ Bx := Or.inl hbo
            have hb4 : Below w17.heap.size w17 u4 := hHeld.trans (gg.mono hHeld.size)
            have hlo : w17.heap.size ≤ u3.heap.size := hHeld.size
            have hbx_n := (gg.block _ hbo).trans hbx
            clear hbx
            have hbx := hbx_n
            clear hbx_n
            have hbo_n := Nat.lt_of_lt_of_le hbo gg.size
            clear hbo
            have hbo := hbo_n
            clear hbo_n
            clear gg
            refine hK.out _ _ (fun _ => hb4) ?_
            clear hK K hHeld
            have hHeld := hb4
            try dsimp only [Act.put]
            refine wpAnyL_take (i := 6) (v := .tuple #[.agg #[.slice q V.length r], .int .i64 n0, .bool x1]) (C := [6, 7, 8, 9, 11, 12, 13]) rfl (by kernel_rfl) (fun _ _ _ h => h) (Or.inl ⟨by rfl, fun _ _ => by go_simp⟩) hHeld ?_
            dsimp only [Act.put]
            refine wpAnyL_take (i := 7) (v := .agg #[.slice q V.length r]) (C := [7, 11, 12, 13]) rfl (by kernel_rfl) (fun _ _ _ h => h) (Or.inl ⟨by rfl, fun _ _ => by go_simp⟩) hHeld ?_
            dsimp only [Act.put]
            refine wpAnyL_take (i := 8) (v := .int .i64 n0) (C := [8, 12, 13]) rfl (by kernel_rfl) (fun _ _ _ h => h) (Or.inl ⟨by rfl, fun _ _ => by go_simp⟩) hHeld ?_
            dsimp only [Act.put]
            refine wpAnyL_take (i := 9) (v := .bool x1) (C := [9, 13]) rfl (by kernel_rfl) (fun _ _ _ h => h) (Or.inl ⟨by rfl, fun _ _ => by go_simp⟩) hHeld ?_
            dsimp only [Act.put]
            have hc0 := box_cell hbx 0
            have hf0 := box_free hbx 0
            have hbx2 := box_set hbx 0 (.slice q V.length r)
            have hbe : Below w17.heap.size w17 (u4.setCell ⟨Bx, 0, none⟩ (.slice q V.length r)) := setB hHeld (Bx) 0 hbw _
            have oD := oC.set (Bx) 0 (.slice q V.length r) hap
            have hsz : (u4.setCell ⟨Bx, 0, none⟩ (.slice q V.length r)).heap.size = u4.heap.size := by simp [World.setCell]
            refine wpAnyL_one (i := 11) (by kernel_rfl) rfl (fun K hK => ?_)
            rw [if_pos (by rfl)]
            go_simp
            refine hK.out _ _ (fun _ => hbe) ?_
            clear hK K hc0 hf0
            try dsimp only [Act.put]
            refine wpAnyL_one (i := 12) (by kernel_rfl) rfl (fun K hK => ?_)
            rw [if_pos (by rfl)]
            go_simp
            refine hK.out _ _ (fun _ => hbe) ?_
            clear hK K
            try dsimp only [Act.put]
            refine wpAnyL_one (i := 13) (by kernel_rfl) rfl (fun K hK => ?_)
            rw [if_pos (by rfl)]
            go_simp
            refine hK.out _ _ (fun h => absurd rfl h) ?_
            clear hK K
            try dsimp only [Act.put]
            refine wpAnyL_done (by kernel_rfl) ?_
            generalize (u4.setCell ⟨Bx, 0, none⟩ (.slice q V.length r)) = W7 at *
            go_wp2_with fail
            go_meet
            case rel => exact ⟨Bx, q, r, _, _, rfl, rfl, rfl, hbx2, oD, hbe, hbw, hlo, by omega, hap⟩
        · rw [if_pos (by rfl)]
          go_simp
          have gb := boxB Wd (.cells #[.slice none 0 0] 30)
          have hbx := heap_last Wd (.cells #[.slice none 0 0] 30)
          have hb1 : Below w17.heap.size w17 (Wd.alloc (.cells #[.slice none 0 0] 30)) := hHeld.trans (gb.mono hHeld.size)
          have hbo : Wd.heap.size < (Wd.alloc (.cells #[.slice none 0 0] 30)).heap.size := by rw [heap_size]; omega
          have hbw : w17.heap.size ≤ Wd.heap.size := hHeld.size
          refine hK.out _ _ (fun _ => hb1) ?_
          clear hK K hHeld
          have hHeld := hb1
          clear gb
          try dsimp only [Act.put]
          generalize hW1 : Wd.alloc (.cells #[.slice none 0 0] 30) = u1 at *
          generalize hBx : Wd.heap.size = Bx at *
          clear hBx
          clear hW1
          refine wpAnyL_one (i := 1) (by kernel_rfl) rfl (fun K hK => ?_)
          rw [if_pos (by rfl)]
          go_simp
          go_wp2_with (go_at_call 11; refine (HCA.out _ hHeld).mono ?_; rintro e u2 ⟨tA, cA, rfl, oA, gg⟩)
          have hb2 : Below w17.heap.size w17 u2 := hHeld.trans (gg.mono hHeld.size)
          have hbx_n := (gg.block _ hbo).trans hbx
          clear hbx
          have hbx := hbx_n
          clear hbx_n
          have hbo_n := Nat.lt_of_lt_of_le hbo gg.size
          clear hbo
          have hbo := hbo_n
          clear hbo_n
          clear gg
          refine hK.out _ _ (fun _ => hb2) ?_
          clear hK K hHeld
          have hHeld := hb2
          try dsimp only [Act.put]
          refine wpAnyL_one (i := 3) (by kernel_rfl) rfl (fun K hK => ?_)
          rw [if_pos (by rfl)]
          go_simp
          go_wp2_with (go_at_call 11; refine (HCB.out _ hHeld).mono ?_; rintro e u3 ⟨tB, cB, rfl, oB, gg⟩)
          have oA_n := oA.on gg
          clear oA
          have oA := oA_n
          clear oA_n
          have hb3 : Below w17.heap.size w17 u3 := hHeld.trans (gg.mono hHeld.size)
          have hbx_n := (gg.block _ hbo).trans hbx
          clear hbx
          have hbx := hbx_n
          clear hbx_n
          have hbo_n := Nat.lt_of_lt_of_le hbo gg.size
          clear hbo
          have hbo := hbo_n
          clear hbo_n
          clear gg
          refine hK.out _ _ (fun _ => hb3) ?_
          clear hK K hHeld
          have hHeld := hb3
          try dsimp only [Act.put]
          refine wpAnyL_one (i := 5) (by kernel_rfl) rfl (fun K hK => ?_)
          rw [if_pos (by rfl)]
          go_simp
          go_wp2_with (go_at_call 21; refine (H11.out _ _ _ _ _ oA oB).mono ?_; rintro e u4 ⟨q, r, rfl, oC, gg⟩)
          have hhi : u4.heap.size ≤ u4.heap.size := Nat.le_refl _
          have hap : Bx < u3.heap.size ∨ u4.heap.size ≤ Bx := Or.inl hbo
          have hb4 : Below w17.heap.size w17 u4 := hHeld.trans (gg.mono hHeld.size)
          have hlo : w17.heap.size ≤ u3.heap.size := hHeld.size
          have hbx_n := (gg.block _ hbo).trans hbx
          clear hbx
          have hbx := hbx_n
          clear hbx_n
          have hbo_n := Nat.lt_of_lt_of_le hbo gg.size
          clear hbo
          have hbo := hbo_n
          clear hbo_n
          clear gg
          refine hK.out _ _ (fun _ => hb4) ?_
          clear hK K hHeld
          have hHeld := hb4
          try dsimp only [Act.put]
          refine wpAnyL_take (i := 6) (v := .tuple #[.agg #[.slice q V.length r], .int .i64 n0, .bool x1]) (C := [6, 7, 8, 9, 11, 12, 13]) rfl (by kernel_rfl) (fun _ _ _ h => h) (Or.inl ⟨by rfl, fun _ _ => by go_simp⟩) hHeld ?_
          dsimp only [Act.put]
          refine wpAnyL_take (i := 7) (v := .agg #[.slice q V.length r]) (C := [7, 11, 12, 13]) rfl (by kernel_rfl) (fun _ _ _ h => h) (Or.inl ⟨by rfl, fun _ _ => by go_simp⟩) hHeld ?_
          dsimp only [Act.put]
          refine wpAnyL_take (i := 8) (v := .int .i64 n0) (C := [8, 12, 13]) rfl (by kernel_rfl) (fun _ _ _ h => h) (Or.inl ⟨by rfl, fun _ _ => by go_simp⟩) hHeld ?_
          dsimp only [Act.put]
          refine wpAnyL_take (i := 9) (v := .bool x1) (C := [9, 13]) rfl (by kernel_rfl) (fun _ _ _ h => h) (Or.inl ⟨by rfl, fun _ _ => by go_simp⟩) hHeld ?_
          dsimp only [Act.put]
          have hc0 := box_cell hbx 0
          have hf0 := box_free hbx 0
          have hbx2 := box_set hbx 0 (.slice q V.length r)
          have hbe : Below w17.heap.size w17 (u4.setCell ⟨Bx, 0, none⟩ (.slice q V.length r)) := setB hHeld (Bx) 0 hbw _
          have oD := oC.set (Bx) 0 (.slice q V.length r) hap
          have hsz : (u4.setCell ⟨Bx, 0, none⟩ (.slice q V.length r)).heap.size = u4.heap.size := by simp [World.setCell]
          refine wpAnyL_one (i := 11) (by kernel_rfl) rfl (fun K hK => ?_)
          rw [if_pos (by rfl)]
          go_simp
          refine hK.out _ _ (fun _ => hbe) ?_
          clear hK K hc0 hf0
          try dsimp only [Act.put]
          refine wpAnyL_one (i := 12) (by kernel_rfl) rfl (fun K hK => ?_)
          rw [if_pos (by rfl)]
          go_simp
          refine hK.out _ _ (fun _ => hbe) ?_
          clear hK K
          try dsimp only [Act.put]
          refine wpAnyL_one (i := 13) (by kernel_rfl) rfl (fun K hK => ?_)
          rw [if_pos (by rfl)]
          go_simp
          refine hK.out _ _ (fun h => absurd rfl h) ?_
          clear hK K
          try dsimp only [Act.put]
          refine wpAnyL_done (by kernel_rfl) ?_
          generalize (u4.setCell ⟨Bx, 0, none⟩ (.slice q V.length r)) = W7 at *
          go_wp2_with fail
          go_meet
          case rel => exact ⟨Bx, q, r, _, _, rfl, rfl, rfl, hbx2, oD, hbe, hbw, hlo, by omega, hap⟩
      case rest =>
      obtain ⟨QQ, Qq, Qr, Qlo, Qhi, rfl, rfl, rfl, Qbx, Qo, Qg, Qw, Ql, Qh, Qa⟩ := hcut
      obtain ⟨w18, hrn⟩ : ∃ v, v = wc := ⟨_, rfl⟩
      subst hrn
      clear HS HCA HCB
      have s18 := Qg.size
      have B_18 : Hid (Below w0.heap.size w0 w18) := B_17.out.trans (Qg.mono B_17.out.size)
      have W_18 : Hid (Ys w3.heap.size Wq V w18) := W_17.out.below (Qg.mono (by omega))
      have Wk_18 : Hid (w18.heap[WQ]? = some (.cells #[.slice Wq V.length Wr] 30)) := (Qg.block _ (kboxS Wk_17.out)).trans Wk_17.out
      have G_18 : Hid (OwnK w7.heap.size w8.heap.size Gq (kmarks V 1) w18) := G_17.out.on Qg
      have Gk_18 : Hid (w18.heap[w8.heap.size]? = some (.cells #[.slice Gq V.length Gr] 30)) := (Qg.block _ (kboxS Gk_17.out)).trans Gk_17.out
      clear B_17 W_17 Wk_17 G_17 Gk_17
      have Q_18 : Hid (OwnK Qlo Qhi Qq V w18) := Qo
      have Qk_18 : Hid (w18.heap[QQ]? = some (.cells #[.slice Qq V.length Qr] 30)) := Qbx
      have Qz := kboxS Qbx
      clear Qo Qbx Qg
      have y1 : w18.cell? ⟨QQ, 0, none⟩ = some (.slice Qq V.length Qr) := box_cell Qk_18.out 0
      have y2 : w18.cell? ⟨WQ, 0, none⟩ = some (.slice Wq V.length Wr) := box_cell Wk_18.out 0
      go_wp2_with fail
      refine (eqMarks_same Qq Wq Qr Wr V _ HV.out Q_18.out.ys (W_18.out.mono (by omega))).mono ?_
      rintro e w19 ⟨rfl, gE⟩
      clear y1 y2
      have s19 := gE.size
      have B_19 : Hid (Below w0.heap.size w0 w19) := B_18.out.trans (gE.mono B_18.out.size)
      have W_19 : Hid (Ys w3.heap.size Wq V w19) := W_18.out.below (gE.mono (by omega))
      have Wk_19 : Hid (w19.heap[WQ]? = some (.cells #[.slice Wq V.length Wr] 30)) := (gE.block _ (kboxS Wk_18.out)).trans Wk_18.out
      have G_19 : Hid (OwnK w7.heap.size w8.heap.size Gq (kmarks V 1) w19) := G_18.out.on gE
      have Gk_19 : Hid (w19.heap[w8.heap.size]? = some (.cells #[.slice Gq V.length Gr] 30)) := (gE.block _ (kboxS Gk_18.out)).trans Gk_18.out
      have Q_19 : Hid (OwnK Qlo Qhi Qq V w19) := Q_18.out.on gE
      have Qk_19 : Hid (w19.heap[QQ]? = some (.cells #[.slice Qq V.length Qr] 30)) := (gE.block _ (kboxS Qk_18.out)).trans Qk_18.out
      clear B_18 W_18 Wk_18 G_18 Gk_18 Q_18 Qk_18
      clear gE
      have y1 : w19.cell? ⟨w8.heap.size, 0, none⟩ = some (.slice Gq V.length Gr) := box_cell Gk_19.out 0
      go_wp2_with fail
      refine (heldMarks_any _ _ Gq Gr V _ HV.out G_19.out).mono ?_
      rintro e w20 ⟨rfl, gH⟩
      clear y1
      have s20 := gH.size
      have B_20 : Hid (Below w0.heap.size w0 w20) := B_19.out.trans (gH.mono B_19.out.size)
      have W_20 : Hid (Ys w3.heap.size Wq V w20) := W_19.out.below (gH.mono (by omega))
      have Wk_20 : Hid (w20.heap[WQ]? = some (.cells #[.slice Wq V.length Wr] 30)) := (gH.block _ (kboxS Wk_19.out)).trans Wk_19.out
      have G_20 : Hid (OwnK w7.heap.size w8.heap.size Gq (kmarks V 1) w20) := G_19.out.on gH
      have Gk_20 : Hid (w20.heap[w8.heap.size]? = some (.cells #[.slice Gq V.length Gr] 30)) := (gH.block _ (kboxS Gk_19.out)).trans Gk_19.out
      have Q_20 : Hid (OwnK Qlo Qhi Qq V w20) := Q_19.out.on gH
      have Qk_20 : Hid (w20.heap[QQ]? = some (.cells #[.slice Qq V.length Qr] 30)) := (gH.block _ (kboxS Qk_19.out)).trans Qk_19.out
      clear B_19 W_19 Wk_19 G_19 Gk_19 Q_19 Qk_19
      clear gH
      go_wp2_with fail
      go_ret
      exact ⟨rfl, HB0.out.trans (B_20.out.mono HB0.out.size)⟩
theorem walk_SyncMarks (a : Option Addr) (c : Nat) (A : List Ly) (b : Option Addr) (d : Nat) (B : List Ly) (m : Int) (w : World) (hnA : A.length ≤ 9223372036854775807) (hzA : ∀ s ∈ A, cntY s) (hGA : Ys w.heap.size a A w) (hnB : B.length ≤ 9223372036854775807) (hzB : ∀ s ∈ B, cntY s) (hGB : Ys w.heap.size b B w) (_hm : fit m) :
    Calls Try.prog 5 #[.agg #[.slice a A.length c], .agg #[.slice b B.length d], .int .i64 m] w fun e w' => e = .returned (.bool true) ∧ Below w.heap.size w w' :=
  law_SyncMarks a c b d A B m w hnA hzA hGA hnB hzB hGB (fun _ _ => ⟨(synK A B m).1, ((synK A B m).2.1 : Nat), (synK A B m).2.2, syn_fit A B m, fun a c b d v h1 h2 => ssync_any a b c d A B m v h1 h2, fun a c b d v h1 h2 => isync_any a b c d A B m v h1 h2⟩)
end Go.Proofs.Ytlifhakgboekfaa
