/- The exact law of CopyBlocks: its walk out of the contracts of the model and of the program. -/
import Derived.Test.YtlifhakgboekfabHB
import Derived.Test.YtlifhakgboekfabKSz2
import Derived.Test.YtlifhakgboekfabHA
import Derived.Deep.RegionHeld
namespace Go.Proofs.Ytlifhakgboekfab
set_option maxRecDepth 100000
open Go Go.ChangeShapes Go.WideShapes Go.ChangeAt Go.RowKit
theorem cpb_fit (A B : List Ly) (l : List Int) : FitK (cpbK A B l).1 := by
  unfold cpbK
  split
  · rename_i h
    exact good_fit (copK_good h.1 h.2.1 (rise_in h.2.2)).1
  · show wtK [] ≤ _
    decide
/-- function f answers so; what it answers can be read -/
def SaysCopyBlocks (f : Nat) (A : List Ly) (B : List Ly) (l : List Int) (V : List Ly) (x0 : Bool) : Prop := ∀ (a : Option Addr) (c : Nat) (b : Option Addr) (d : Nat) (p : Option Addr) (cp : Nat) (v : World), Mr a c A v → Mr b d B v → l.length ≤ 1048576 → Is v.heap.size p l v → Calls Try.prog f #[.agg #[.slice a A.length c], .agg #[.slice b B.length d], .slice p l.length cp] v fun e w' => ∃ q r, e = .returned (.tuple #[.agg #[.slice q V.length r], .bool x0]) ∧ Ys w'.heap.size q V w' ∧ Below v.heap.size v w'
/-- function f answers so, in memory of its own -/
def OwnsCopyBlocks (f : Nat) (A : List Ly) (B : List Ly) (l : List Int) (V : List Ly) (x0 : Bool) : Prop := ∀ (a : Option Addr) (c : Nat) (b : Option Addr) (d : Nat) (p : Option Addr) (cp : Nat) (v : World), Mr a c A v → Mr b d B v → l.length ≤ 1048576 → Is v.heap.size p l v → Calls Try.prog f #[.agg #[.slice a A.length c], .agg #[.slice b B.length d], .slice p l.length cp] v fun e w' => ∃ q r, e = .returned (.tuple #[.agg #[.slice q V.length r], .bool x0]) ∧ OwnK v.heap.size w'.heap.size q V w' ∧ Below v.heap.size v w'
set_option maxHeartbeats 16000000 in
theorem law_CopyBlocks (a : Option Addr) (c : Nat) (b : Option Addr) (d : Nat) (p : Option Addr) (cp : Nat) (A : List Ly) (B : List Ly) (l : List Int) (w : World) (hnA : A.length ≤ 9223372036854775807) (hzA : ∀ s ∈ A, cntY s) (hGA : Ys w.heap.size a A w) (hnB : B.length ≤ 9223372036854775807) (hzB : ∀ s ∈ B, cntY s) (hGB : Ys w.heap.size b B w) (hGl : Is w.heap.size p l w)
    (H : FitK A → FitK B → l.length ≤ 1048576 → ∃ (V : List Ly) (x0 : Bool), FitK V ∧ SaysCopyBlocks 5 A B l V x0 ∧ OwnsCopyBlocks 8 A B l V x0) :
    Calls Try.prog 3 #[.agg #[.slice a A.length c], .agg #[.slice b B.length d], .slice p l.length cp] w fun e w' => e = .returned (.bool true) ∧ Below w.heap.size w w' := by
  have HH : Hid (FitK A → FitK B → l.length ≤ 1048576 → ∃ (V : List Ly) (x0 : Bool), FitK V ∧ SaysCopyBlocks 5 A B l V x0 ∧ OwnsCopyBlocks 8 A B l V x0) := H
  obtain ⟨w0, hw0⟩ : ∃ w0, w0 = (w.alloc (.cells #[.slice a A.length c] 24)).alloc (.cells #[.slice b B.length d] 24) := ⟨_, rfl⟩
  have HB0 : Hid (Below w.heap.size w w0) := by show Below w.heap.size w w0; rw [hw0]; exact (boxB _ _).trans ((boxB _ _).mono (boxB _ _).size)
  have k0 : w0.heap[w.heap.size]? = some (.cells #[.slice a A.length c] 24) := by rw [hw0]; exact heap_mid2 _ _ _
  have k1 : w0.heap[w.heap.size + 1]? = some (.cells #[.slice b B.length d] 24) := by rw [hw0]; exact heap_last2 _ _ _
  have HX : Hid (∀ v, Below w0.heap.size w0 v → v.cell? ⟨w.heap.size, 0, none⟩ = some (.slice a A.length c) ∧ v.cell? ⟨w.heap.size + 1, 0, none⟩ = some (.slice b B.length d)) := fun v g => ⟨box_cell ((g.block _ (kboxS k0)).trans k0) 0, box_cell ((g.block _ (kboxS k1)).trans k1) 0⟩
  have ss0 := kboxS k1
  have HZA : Hid (∀ v, Below w0.heap.size w0 v → Ys v.heap.size a A v) := fun v g => by
    have g' := HB0.out.trans (g.mono HB0.out.size)
    exact (hGA.below g').mono g'.size
  have HSZA : Hid (∀ (left : Int), 0 ≤ left → left ≤ 1048576 → ∀ v, Below w0.heap.size w0 v → Calls Try.prog 4 #[.agg #[.slice a A.length c], .int .i64 left] v fun e w' => (∃ r : Int, e = .returned (.int .i64 r) ∧ r ≤ left ∧ (0 ≤ r → FitK A)) ∧ Below v.heap.size v w') := fun left l0 l1 v g => szMarks_g a c A left v l0 l1 hnA hzA (HZA.out v g)
  have HTOA : Hid (FitK A → ∀ v, Below w0.heap.size w0 v → Calls Try.prog 6 #[.agg #[.slice a A.length c]] v fun e w' => ∃ b c, e = .returned (.agg #[.slice b A.length c]) ∧ OwnK v.heap.size w'.heap.size b A w' ∧ Below v.heap.size v w' ∧ A.length ≤ c) := fun f v g => toMarks_any a c A v f (HZA.out v g)
  have HZB : Hid (∀ v, Below w0.heap.size w0 v → Ys v.heap.size b B v) := fun v g => by
    have g' := HB0.out.trans (g.mono HB0.out.size)
    exact (hGB.below g').mono g'.size
  have HSZB : Hid (∀ (left : Int), 0 ≤ left → left ≤ 1048576 → ∀ v, Below w0.heap.size w0 v → Calls Try.prog 4 #[.agg #[.slice b B.length d], .int .i64 left] v fun e w' => (∃ r : Int, e = .returned (.int .i64 r) ∧ r ≤ left ∧ (0 ≤ r → FitK B)) ∧ Below v.heap.size v w') := fun left l0 l1 v g => szMarks_g b d B left v l0 l1 hnB hzB (HZB.out v g)
  have HTOB : Hid (FitK B → ∀ v, Below w0.heap.size w0 v → Calls Try.prog 6 #[.agg #[.slice b B.length d]] v fun e w' => ∃ b c, e = .returned (.agg #[.slice b B.length c]) ∧ OwnK v.heap.size w'.heap.size b B w' ∧ Below v.heap.size v w' ∧ B.length ≤ c) := fun f v g => toMarks_any b d B v f (HZB.out v g)
  have HZl : Hid (∀ v, Below w0.heap.size w0 v → Is v.heap.size p l v) := fun v g => by
    have g' := HB0.out.trans (g.mono HB0.out.size)
    exact (hGl.below g').mono g'.size
  have HTOl : Hid (l.length ≤ 1048576 → ∀ v, Below w0.heap.size w0 v → Calls Try.prog 7 #[.slice p l.length cp] v fun e w' => ∃ b c, e = .returned (.slice b l.length c) ∧ OwnI v.heap.size w'.heap.size b l w' ∧ Below v.heap.size v w') := fun h v g => to_ownI p cp l v h (HZl.out v g)
  have W0 : Hid (w0 = (w.alloc (.cells #[.slice a A.length c] 24)).alloc (.cells #[.slice b B.length d] 24)) := hw0
  clear H hw0 k0 k1 hGA hzA hnA hGB hzB hnB hGl
  have B_0 : Hid (Below w0.heap.size w0 w0) := Below.refl _ _
  go_enter Try.func3, Try.ntmps3
  by_cases pl : l.length ≤ 1048576
  case neg =>
    have hdl : decide ((1048576 : Int) < ((l.length : Nat) : Int)) = true := decide_eq_true (by omega)
    clear HH
    go_wp2_with fail
    go_ret
    rw [← W0.out]
    exact ⟨rfl, HB0.out⟩
  have hdl : decide ((1048576 : Int) < ((l.length : Nat) : Int)) = false := decide_eq_false (by omega)
  have HFl := hid pl
  have HTl := hid (HTOl.out pl)
  clear HTOl
  go_wp2_with fail
  rw [← W0.out]
  refine (HSZA.out 1048576 (by decide) (Int.le_refl _) _ B_0.out).mono ?_
  rintro e w1 ⟨⟨r0, rfl, le0, hr0⟩, g0⟩
  have HR0 := hid hr0
  clear hr0 HSZA
  have s1 := g0.size
  have B_1 : Hid (Below w0.heap.size w0 w1) := B_0.out.trans (g0.mono B_0.out.size)
  clear B_0
  clear g0
  by_cases p0 : 0 ≤ r0
  case neg =>
    have hd0 : decide (r0 < 0) = true := decide_eq_true (by omega)
    clear HR0
    go_wp2_with fail
    go_ret
    exact ⟨rfl, HB0.out.trans (B_1.out.mono HB0.out.size)⟩
  have hd0 : decide (r0 < 0) = false := decide_eq_false (by omega)
  have HFA := hid (HR0.out p0)
  have HTA := hid (HTOA.out HFA.out)
  clear HR0 HTOA
  obtain ⟨xa, xb⟩ := HX.out _ B_1.out
  go_wp2_with fail
  refine (HSZB.out r0 p0 (by omega) _ B_1.out).mono ?_
  rintro e w2 ⟨⟨r1, rfl, le1, hr1⟩, g1⟩
  have HR1 := hid hr1
  clear hr1 HSZB xa xb
  have s2 := g1.size
  have B_2 : Hid (Below w0.heap.size w0 w2) := B_1.out.trans (g1.mono B_1.out.size)
  clear B_1
  clear g1
  by_cases p1 : 0 ≤ r1
  case neg =>
    have hd1 : decide (r1 < 0) = true := decide_eq_true (by omega)
    clear HR1
    go_wp2_with fail
    go_ret
    exact ⟨rfl, HB0.out.trans (B_2.out.mono HB0.out.size)⟩
  have hd1 : decide (r1 < 0) = false := decide_eq_false (by omega)
  have HFB := hid (HR1.out p1)
  have HTB := hid (HTOB.out HFB.out)
  clear HR1 HTOB
  obtain ⟨V, x0, hV, h9, h11⟩ := HH.out HFA.out HFB.out HFl.out
  have H9 : Hid (SaysCopyBlocks 5 A B l V x0) := h9
  have H11 : Hid (OwnsCopyBlocks 8 A B l V x0) := h11
  have HV := hid hV
  clear h9 h11 HH hV
  have hkx0 : (x0 != x0) = false := by cases x0 <;> rfl
  have HS : Hid (∀ v, Below w2.heap.size w2 v → v.cell? ⟨w.heap.size, 0, none⟩ = some (.slice a A.length c) ∧ v.cell? ⟨w.heap.size + 1, 0, none⟩ = some (.slice b B.length d)) := fun v g => HX.out v (B_2.out.trans (g.mono B_2.out.size))
  have HCA : Hid (∀ v, Below w2.heap.size w2 v → Calls Try.prog 6 #[.agg #[.slice a A.length c]] v fun e w' => ∃ b c, e = .returned (.agg #[.slice b A.length c]) ∧ Mr b c A w' ∧ Below v.heap.size v w') := fun v g => (HTA.out v (B_2.out.trans (g.mono B_2.out.size))).mono fun _ _ ⟨b, c, h1, h2, h3, h4⟩ => ⟨b, c, h1, ⟨HFA.out, h4, h2.ys⟩, h3⟩
  have HCB : Hid (∀ v, Below w2.heap.size w2 v → Calls Try.prog 6 #[.agg #[.slice b B.length d]] v fun e w' => ∃ b c, e = .returned (.agg #[.slice b B.length c]) ∧ Mr b c B w' ∧ Below v.heap.size v w') := fun v g => (HTB.out v (B_2.out.trans (g.mono B_2.out.size))).mono fun _ _ ⟨b, c, h1, h2, h3, h4⟩ => ⟨b, c, h1, ⟨HFB.out, h4, h2.ys⟩, h3⟩
  have HCL : Hid (∀ v, Below w2.heap.size w2 v → Calls Try.prog 7 #[.slice p l.length cp] v fun e w' => ∃ b c, e = .returned (.slice b l.length c) ∧ Is w'.heap.size b l w' ∧ Below v.heap.size v w') := fun v g => (HTl.out v (B_2.out.trans (g.mono B_2.out.size))).mono fun _ _ ⟨b, c, h1, h2, h3⟩ => ⟨b, c, h1, h2.is, h3⟩
  go_upto_region 10 with fail
  go_cut [8, 9] (fun s8 s9 wc => ∃ (Q : Nat) (q : Option Addr) (r : Nat), s8 = .pointer (some ⟨Q, 0, none⟩) ∧ s9 = .bool x0 ∧ wc.heap[Q]? = some (.cells #[.slice q V.length r] 29) ∧ Ys wc.heap.size q V wc ∧ Below w2.heap.size w2 wc ∧ w2.heap.size ≤ Q)
  case first =>
    have hT0 : Below w2.heap.size w2 w2.drew := (Below.refl _ _).drew
    refine wp_region_L (fun v : World => Below w2.heap.size w2 v) 12 (by kernel_rfl) ?_
    generalize w2.drew = Wd at *
    have hHeld := hT0
    refine wpAnyL_take (i := 0) (v := .agg #[.slice a A.length c]) (C := [0, 1, 3, 5, 6, 7, 8, 9, 11, 12]) rfl (by kernel_rfl) (fun _ _ _ h => h) (Or.inl ⟨by rfl, fun u hu => by obtain ⟨h1, h2⟩ := HS.out u hu; go_simp⟩) hHeld ?_
    dsimp only [Act.put]
    refine wpAnyL_take (i := 2) (v := .agg #[.slice b B.length d]) (C := [2, 3, 5, 6, 7, 8, 9, 11, 12]) rfl (by kernel_rfl) (fun _ _ _ h => h) (Or.inl ⟨by rfl, fun u hu => by obtain ⟨h1, h2⟩ := HS.out u hu; go_simp⟩) hHeld ?_
    dsimp only [Act.put]
    refine wpAnyL_take (i := 4) (v := .slice p l.length cp) (C := [4, 5, 6, 7, 8, 9, 11, 12]) rfl (by kernel_rfl) (fun _ _ _ h => h) (Or.inl ⟨by rfl, fun _ _ => by go_simp⟩) hHeld ?_
    dsimp only [Act.put]
    refine wpAnyL_two (i := 1) (j := 10) (by kernel_rfl) rfl rfl (fun K hK => ?_) (fun K hK => ?_)
    · rw [if_pos (by rfl)]
      go_simp
      go_wp2_with (go_at_call 6; refine (HCA.out _ hHeld).mono ?_; rintro e u1 ⟨tA, cA, rfl, oA, gg⟩)
      have hb1 : Below w2.heap.size w2 u1 := hHeld.trans (gg.mono hHeld.size)
      clear gg
      refine hK.out _ _ (fun _ => hb1) ?_
      clear hK K hHeld
      have hHeld := hb1
      try dsimp only [Act.put]
      refine wpAnyL_two (i := 3) (j := 10) (by kernel_rfl) rfl rfl (fun K hK => ?_) (fun K hK => ?_)
      · rw [if_pos (by rfl)]
        go_simp
        go_wp2_with (go_at_call 6; refine (HCB.out _ hHeld).mono ?_; rintro e u2 ⟨tB, cB, rfl, oB, gg⟩)
        have oA_n := oA.on gg
        clear oA
        have oA := oA_n
        clear oA_n
        have hb2 : Below w2.heap.size w2 u2 := hHeld.trans (gg.mono hHeld.size)
        clear gg
        refine hK.out _ _ (fun _ => hb2) ?_
        clear hK K hHeld
        have hHeld := hb2
        try dsimp only [Act.put]
        refine wpAnyL_two (i := 5) (j := 10) (by kernel_rfl) rfl rfl (fun K hK => ?_) (fun K hK => ?_)
        · rw [if_pos (by rfl)]
          go_simp
          go_wp2_with (go_at_call 7; refine (HCL.out _ hHeld).mono ?_; rintro e u3 ⟨tL, cL, rfl, oL, gg⟩)
          have oA_n := oA.on gg
          clear oA
          have oA := oA_n
          clear oA_n
          have oB_n := oB.on gg
          clear oB
          have oB := oB_n
          clear oB_n
          have hb3 : Below w2.heap.size w2 u3 := hHeld.trans (gg.mono hHeld.size)
          clear gg
          refine hK.out _ _ (fun _ => hb3) ?_
          clear hK K hHeld
          have hHeld := hb3
          try dsimp only [Act.put]
          refine wpAnyL_two (i := 6) (j := 10) (by kernel_rfl) rfl rfl (fun K hK => ?_) (fun K hK => ?_)
          · rw [if_pos (by rfl)]
            go_simp
            go_wp2_with (go_at_call 5; refine (H9.out _ _ _ _ _ _ _ oA oB HFl.out oL).mono ?_; rintro e u4 ⟨q, r, rfl, oC, gg⟩)
            have hb4 : Below w2.heap.size w2 u4 := hHeld.trans (gg.mono hHeld.size)
            clear gg
            refine hK.out _ _ (fun _ => hb4) ?_
            clear hK K hHeld
            have hHeld := hb4
            try dsimp only [Act.put]
            refine wpAnyL_take (i := 7) (v := .tuple #[.agg #[.slice q V.length r], .bool x0]) (C := [7, 8, 9, 11, 12]) rfl (by kernel_rfl) (fun _ _ _ h => h) (Or.inl ⟨by rfl, fun _ _ => by go_simp⟩) hHeld ?_
            dsimp only [Act.put]
            refine wpAnyL_take (i := 8) (v := .agg #[.slice q V.length r]) (C := [8, 11, 12]) rfl (by kernel_rfl) (fun _ _ _ h => h) (Or.inl ⟨by rfl, fun _ _ => by go_simp⟩) hHeld ?_
            dsimp only [Act.put]
            refine wpAnyL_take (i := 9) (v := .bool x0) (C := [9, 12]) rfl (by kernel_rfl) (fun _ _ _ h => h) (Or.inl ⟨by rfl, fun _ _ => by go_simp⟩) hHeld ?_
            dsimp only [Act.put]
            refine wpAnyL_one (i := 10) (by kernel_rfl) rfl (fun K hK => ?_)
            rw [if_pos (by rfl)]
            go_simp
            have gb := boxB u4 (.cells #[.slice none 0 0] 29)
            have hbx := heap_last u4 (.cells #[.slice none 0 0] 29)
            have hb5 : Below w2.heap.size w2 (u4.alloc (.cells #[.slice none 0 0] 29)) := hHeld.trans (gb.mono hHeld.size)
            have hbo : u4.heap.size < (u4.alloc (.cells #[.slice none 0 0] 29)).heap.size := by rw [heap_size]; omega
            have hbw : w2.heap.size ≤ u4.heap.size := hHeld.size
            have oC_n := (oC.below gb).mono gb.size
            clear oC
            have oC := oC_n
            clear oC_n
            refine hK.out _ _ (fun _ => hb5) ?_
            clear hK K hHeld
            have hHeld := hb5
            clear gb
            try dsimp only [Act.put]
            generalize hW5 : u4.alloc (.cells #[.slice none 0 0] 29) = u5 at *
            clear hW5
            have hc0 := box_cell hbx 0
            have hf0 := box_free hbx 0
            have hbx2 := box_set hbx 0 (.slice q V.length r)
            have hbe : Below w2.heap.size w2 (u5.setCell ⟨u4.heap.size, 0, none⟩ (.slice q V.length r)) := setB hHeld (u4.heap.size) 0 hbw _
            have oD := ys_set oC hbx (.slice q V.length r)
            refine wpAnyL_one (i := 11) (by kernel_rfl) rfl (fun K hK => ?_)
            rw [if_pos (by rfl)]
            go_simp
            refine hK.out _ _ (fun _ => hbe) ?_
            clear hK K hc0 hf0
            try dsimp only [Act.put]
            refine wpAnyL_one (i := 12) (by kernel_rfl) rfl (fun K hK => ?_)
            rw [if_pos (by rfl)]
            go_simp
            refine hK.out _ _ (fun h => absurd rfl h) ?_
            clear hK K
            try dsimp only [Act.put]
            refine wpAnyL_done (by kernel_rfl) ?_
            generalize (u5.setCell ⟨u4.heap.size, 0, none⟩ (.slice q V.length r)) = W7 at *
            go_wp2_with fail
            go_meet
            case rel => exact ⟨u4.heap.size, q, r, rfl, rfl, hbx2, oD, hbe, hbw⟩
          · rw [if_pos (by rfl)]
            go_simp
            have gb := boxB u3 (.cells #[.slice none 0 0] 29)
            have hbx := heap_last u3 (.cells #[.slice none 0 0] 29)
            have hb4 : Below w2.heap.size w2 (u3.alloc (.cells #[.slice none 0 0] 29)) := hHeld.trans (gb.mono hHeld.size)
            have hbo : u3.heap.size < (u3.alloc (.cells #[.slice none 0 0] 29)).heap.size := by rw [heap_size]; omega
            have hbw : w2.heap.size ≤ u3.heap.size := hHeld.size
            have oA_n := oA.on gb
            clear oA
            have oA := oA_n
            clear oA_n
            have oB_n := oB.on gb
            clear oB
            have oB := oB_n
            clear oB_n
            have oL_n := (oL.below gb).mono gb.size
            clear oL
            have oL := oL_n
            clear oL_n
            refine hK.out _ _ (fun _ => hb4) ?_
            clear hK K hHeld
            have hHeld := hb4
            clear gb
            try dsimp only [Act.put]
            generalize hW4 : u3.alloc (.cells #[.slice none 0 0] 29) = u4 at *
            generalize hBx : u3.heap.size = Bx at *
            clear hBx
            clear hW4
            refine wpAnyL_one (i := 6) (by kernel_rfl) rfl (fun K hK => ?_)
            rw [if_pos (by rfl)]
            go_simp
            go_wp2_with (go_at_call 5; refine (H9.out _ _ _ _ _ _ _ oA oB HFl.out oL).mono ?_; rintro e u5 ⟨q, r, rfl, oC, gg⟩)
            have hb5 : Below w2.heap.size w2 u5 := hHeld.trans (gg.mono hHeld.size)
            have hbx_n := (gg.block _ hbo).trans hbx
            clear hbx
            have hbx := hbx_n
            clear hbx_n
            have hbo_n := Nat.lt_of_lt_of_le hbo gg.size
            clear hbo
            have hbo := hbo_n
            clear hbo_n
            clear gg
            refine hK.out _ _ (fun _ => hb5) ?_
            clear hK K hHeld
            have hHeld := hb5
            try dsimp only [Act.put]
            refine wpAnyL_take (i := 7) (v := .tuple #[.agg #[.slice q V.length r], .bool x0]) (C := [7, 8, 9, 11, 12]) rfl (by kernel_rfl) (fun _ _ _ h => h) (Or.inl ⟨by rfl, fun _ _ => by go_simp⟩) hHeld ?_
            dsimp only [Act.put]
            refine wpAnyL_take (i := 8) (v := .agg #[.slice q V.length r]) (C := [8, 11, 12]) rfl (by kernel_rfl) (fun _ _ _ h => h) (Or.inl ⟨by rfl, fun _ _ => by go_simp⟩) hHeld ?_
            dsimp only [Act.put]
            refine wpAnyL_take (i := 9) (v := .bool x0) (C := [9, 12]) rfl (by kernel_rfl) (fun _ _ _ h => h) (Or.inl ⟨by rfl, fun _ _ => by go_simp⟩) hHeld ?_
            dsimp only [Act.put]
            have hc0 := box_cell hbx 0
            have hf0 := box_free hbx 0
            have hbx2 := box_set hbx 0 (.slice q V.length r)
            have hbe : Below w2.heap.size w2 (u5.setCell ⟨Bx, 0, none⟩ (.slice q V.length r)) := setB hHeld (Bx) 0 hbw _
            have oD := ys_set oC hbx (.slice q V.length r)
            refine wpAnyL_one (i := 11) (by kernel_rfl) rfl (fun K hK => ?_)
            rw [if_pos (by rfl)]
            go_simp
            refine hK.out _ _ (fun _ => hbe) ?_
            clear hK K hc0 hf0
            try dsimp only [Act.put]
            refine wpAnyL_one (i := 12) (by kernel_rfl) rfl (fun K hK => ?_)
            rw [if_pos (by rfl)]
            go_simp
            refine hK.out _ _ (fun h => absurd rfl h) ?_
            clear hK K
            try dsimp only [Act.put]
            refine wpAnyL_done (by kernel_rfl) ?_
            generalize (u5.setCell ⟨Bx, 0, none⟩ (.slice q V.length r)) = W7 at *
            go_wp2_with fail
            go_meet
            case rel => exact ⟨Bx, q, r, rfl, rfl, hbx2, oD, hbe, hbw⟩
        · rw [if_pos (by rfl)]
          go_simp
          have gb := boxB u2 (.cells #[.slice none 0 0] 29)
          have hbx := heap_last u2 (.cells #[.slice none 0 0] 29)
          have hb3 : Below w2.heap.size w2 (u2.alloc (.cells #[.slice none 0 0] 29)) := hHeld.trans (gb.mono hHeld.size)
          have hbo : u2.heap.size < (u2.alloc (.cells #[.slice none 0 0] 29)).heap.size := by rw [heap_size]; omega
          have hbw : w2.heap.size ≤ u2.heap.size := hHeld.size
          have oA_n := oA.on gb
          clear oA
          have oA := oA_n
          clear oA_n
          have oB_n := oB.on gb
          clear oB
          have oB := oB_n
          clear oB_n
          refine hK.out _ _ (fun _ => hb3) ?_
          clear hK K hHeld
          have hHeld := hb3
          clear gb
          try dsimp only [Act.put]
          generalize hW3 : u2.alloc (.cells #[.slice none 0 0] 29) = u3 at *
          generalize hBx : u2.heap.size = Bx at *
          clear hBx
          clear hW3
          refine wpAnyL_one (i := 5) (by kernel_rfl) rfl (fun K hK => ?_)
          rw [if_pos (by rfl)]
          go_simp
          go_wp2_with (go_at_call 7; refine (HCL.out _ hHeld).mono ?_; rintro e u4 ⟨tL, cL, rfl, oL, gg⟩)
          have oA_n := oA.on gg
          clear oA
          have oA := oA_n
          clear oA_n
          have oB_n := oB.on gg
          clear oB
          have oB := oB_n
          clear oB_n
          have hb4 : Below w2.heap.size w2 u4 := hHeld.trans (gg.mono hHeld.size)
          have hbx_n := (gg.block _ hbo).trans hbx
          clear hbx
          have hbx := hbx_n
          clear hbx_n
          have hbo_n := Nat.lt_of_lt_of_le hbo gg.size
          clear hbo
          have hbo := hbo_n
          clear hbo_n
          clear gg
          refine hK.out _ _ (fun _ => hb4) ?_
          clear hK K hHeld
          have hHeld := hb4
          try dsimp only [Act.put]
          refine wpAnyL_one (i := 6) (by kernel_rfl) rfl (fun K hK => ?_)
          rw [if_pos (by rfl)]
          go_simp
          go_wp2_with (go_at_call 5; refine (H9.out _ _ _ _ _ _ _ oA oB HFl.out oL).mono ?_; rintro e u5 ⟨q, r, rfl, oC, gg⟩)
          have hb5 : Below w2.heap.size w2 u5 := hHeld.trans (gg.mono hHeld.size)
          have hbx_n := (gg.block _ hbo).trans hbx
          clear hbx
          have hbx := hbx_n
          clear hbx_n
          have hbo_n := Nat.lt_of_lt_of_le hbo gg.size
          clear hbo
          have hbo := hbo_n
          clear hbo_n
          clear gg
          refine hK.out _ _ (fun _ => hb5) ?_
          clear hK K hHeld
          have hHeld := hb5
          try dsimp only [Act.put]
          refine wpAnyL_take (i := 7) (v := .tuple #[.agg #[.slice q V.length r], .bool x0]) (C := [7, 8, 9, 11, 12]) rfl (by kernel_rfl) (fun _ _ _ h => h) (Or.inl ⟨by rfl, fun _ _ => by go_simp⟩) hHeld ?_
          dsimp only [Act.put]
          refine wpAnyL_take (i := 8) (v := .agg #[.slice q V.length r]) (C := [8, 11, 12]) rfl (by kernel_rfl) (fun _ _ _ h => h) (Or.inl ⟨by rfl, fun _ _ => by go_simp⟩) hHeld ?_
          dsimp only [Act.put]
          refine wpAnyL_take (i := 9) (v := .bool x0) (C := [9, 12]) rfl (by kernel_rfl) (fun _ _ _ h => h) (Or.inl ⟨by rfl, fun _ _ => by go_simp⟩) hHeld ?_
          dsimp only [Act.put]
          have hc0 := box_cell hbx 0
          have hf0 := box_free hbx 0
          have hbx2 := box_set hbx 0 (.slice q V.length r)
          have hbe : Below w2.heap.size w2 (u5.setCell ⟨Bx, 0, none⟩ (.slice q V.length r)) := setB hHeld (Bx) 0 hbw _
          have oD := ys_set oC hbx (.slice q V.length r)
          refine wpAnyL_one (i := 11) (by kernel_rfl) rfl (fun K hK => ?_)
          rw [if_pos (by rfl)]
          go_simp
          refine hK.out _ _ (fun _ => hbe) ?_
          clear hK K hc0 hf0
          try dsimp only [Act.put]
          refine wpAnyL_one (i := 12) (by kernel_rfl) rfl (fun K hK => ?_)
          rw [if_pos (by rfl)]
          go_simp
          refine hK.out _ _ (fun h => absurd rfl h) ?_
          clear hK K
          try dsimp only [Act.put]
          refine wpAnyL_done (by kernel_rfl) ?_
          generalize (u5.setCell ⟨Bx, 0, none⟩ (.slice q V.length r)) = W7 at *
          go_wp2_with fail
          go_meet
          case rel => exact ⟨Bx, q, r, rfl, rfl, hbx2, oD, hbe, hbw⟩
      · rw [if_pos (by rfl)]
        go_simp
        have gb := boxB u1 (.cells #[.slice none 0 0] 29)
        have hbx := heap_last u1 (.cells #[.slice none 0 0] 29)
        have hb2 : Below w2.heap.size w2 (u1.alloc (.cells #[.slice none 0 0] 29)) := hHeld.trans (gb.mono hHeld.size)
        have hbo : u1.heap.size < (u1.alloc (.cells #[.slice none 0 0] 29)).heap.size := by rw [heap_size]; omega
        have hbw : w2.heap.size ≤ u1.heap.size := hHeld.size
        have oA_n := oA.on gb
        clear oA
        have oA := oA_n
        clear oA_n
        refine hK.out _ _ (fun _ => hb2) ?_
        clear hK K hHeld
        have hHeld := hb2
        clear gb
        try dsimp only [Act.put]
        generalize hW2 : u1.alloc (.cells #[.slice none 0 0] 29) = u2 at *
        generalize hBx : u1.heap.size = Bx at *
        clear hBx
        clear hW2
        refine wpAnyL_one (i := 3) (by kernel_rfl) rfl (fun K hK => ?_)
        rw [if_pos (by rfl)]
        go_simp
        go_wp2_with (go_at_call 6; refine (HCB.out _ hHeld).mono ?_; rintro e u3 ⟨tB, cB, rfl, oB, gg⟩)
        have oA_n := oA.on gg
        clear oA
        have oA := oA_n
        clear oA_n
        have hb3 : Below w2.heap.size w2 u3 := hHeld.trans (gg.mono hHeld.size)
        have hbx_n := (gg.block _ hbo).trans hbx
        clear hbx
        have hbx := hbx_n
        clear hbx_n
        have hbo_n := Nat.lt_of_lt_of_le hbo gg.size
        clear hbo
        have hbo := hbo_n
        clear hbo_n
        clear gg
        refine hK.out _ _ (fun _ => hb3) ?_
        clear hK K hHeld
        have hHeld := hb3
        try dsimp only [Act.put]
        refine wpAnyL_one (i := 5) (by kernel_rfl) rfl (fun K hK => ?_)
        rw [if_pos (by rfl)]
        go_simp
        go_wp2_with (go_at_call 7; refine (HCL.out _ hHeld).mono ?_; rintro e u4 ⟨tL, cL, rfl, oL, gg⟩)
        have oA_n := oA.on gg
        clear oA
        have oA := oA_n
        clear oA_n
        have oB_n := oB.on gg
        clear oB
        have oB := oB_n
        clear oB_n
        have hb4 : Below w2.heap.size w2 u4 := hHeld.trans (gg.mono hHeld.size)
        have hbx_n := (gg.block _ hbo).trans hbx
        clear hbx
        have hbx := hbx_n
        clear hbx_n
        have hbo_n := Nat.lt_of_lt_of_le hbo gg.size
        clear hbo
        have hbo := hbo_n
        clear hbo_n
        clear gg
        refine hK.out _ _ (fun _ => hb4) ?_
        clear hK K hHeld
        have hHeld := hb4
        try dsimp only [Act.put]
        refine wpAnyL_one (i := 6) (by kernel_rfl) rfl (fun K hK => ?_)
        rw [if_pos (by rfl)]
        go_simp
        go_wp2_with (go_at_call 5; refine (H9.out _ _ _ _ _ _ _ oA oB HFl.out oL).mono ?_; rintro e u5 ⟨q, r, rfl, oC, gg⟩)
        have hb5 : Below w2.heap.size w2 u5 := hHeld.trans (gg.mono hHeld.size)
        have hbx_n := (gg.block _ hbo).trans hbx
        clear hbx
        have hbx := hbx_n
        clear hbx_n
        have hbo_n := Nat.lt_of_lt_of_le hbo gg.size
        clear hbo
        have hbo := hbo_n
        clear hbo_n
        clear gg
        refine hK.out _ _ (fun _ => hb5) ?_
        clear hK K hHeld
        have hHeld := hb5
        try dsimp only [Act.put]
        refine wpAnyL_take (i := 7) (v := .tuple #[.agg #[.slice q V.length r], .bool x0]) (C := [7, 8, 9, 11, 12]) rfl (by kernel_rfl) (fun _ _ _ h => h) (Or.inl ⟨by rfl, fun _ _ => by go_simp⟩) hHeld ?_
        dsimp only [Act.put]
        refine wpAnyL_take (i := 8) (v := .agg #[.slice q V.length r]) (C := [8, 11, 12]) rfl (by kernel_rfl) (fun _ _ _ h => h) (Or.inl ⟨by rfl, fun _ _ => by go_simp⟩) hHeld ?_
        dsimp only [Act.put]
        refine wpAnyL_take (i := 9) (v := .bool x0) (C := [9, 12]) rfl (by kernel_rfl) (fun _ _ _ h => h) (Or.inl ⟨by rfl, fun _ _ => by go_simp⟩) hHeld ?_
        dsimp only [Act.put]
        have hc0 := box_cell hbx 0
        have hf0 := box_free hbx 0
        have hbx2 := box_set hbx 0 (.slice q V.length r)
        have hbe : Below w2.heap.size w2 (u5.setCell ⟨Bx, 0, none⟩ (.slice q V.length r)) := setB hHeld (Bx) 0 hbw _
        have oD := ys_set oC hbx (.slice q V.length r)
        refine wpAnyL_one (i := 11) (by kernel_rfl) rfl (fun K hK => ?_)
        rw [if_pos (by rfl)]
        go_simp
        refine hK.out _ _ (fun _ => hbe) ?_
        clear hK K hc0 hf0
        try dsimp only [Act.put]
        refine wpAnyL_one (i := 12) (by kernel_rfl) rfl (fun K hK => ?_)
        rw [if_pos (by rfl)]
        go_simp
        refine hK.out _ _ (fun h => absurd rfl h) ?_
        clear hK K
        try dsimp only [Act.put]
        refine wpAnyL_done (by kernel_rfl) ?_
        generalize (u5.setCell ⟨Bx, 0, none⟩ (.slice q V.length r)) = W7 at *
        go_wp2_with fail
        go_meet
        case rel => exact ⟨Bx, q, r, rfl, rfl, hbx2, oD, hbe, hbw⟩
    · rw [if_pos (by rfl)]
      go_simp
      have gb := boxB Wd (.cells #[.slice none 0 0] 29)
      have hbx := heap_last Wd (.cells #[.slice none 0 0] 29)
      have hb1 : Below w2.heap.size w2 (Wd.alloc (.cells #[.slice none 0 0] 29)) := hHeld.trans (gb.mono hHeld.size)
      have hbo : Wd.heap.size < (Wd.alloc (.cells #[.slice none 0 0] 29)).heap.size := by rw [heap_size]; omega
      have hbw : w2.heap.size ≤ Wd.heap.size := hHeld.size
      refine hK.out _ _ (fun _ => hb1) ?_
      clear hK K hHeld
      have hHeld := hb1
      clear gb
      try dsimp only [Act.put]
      generalize hW1 : Wd.alloc (.cells #[.slice none 0 0] 29) = u1 at *
      generalize hBx : Wd.heap.size = Bx at *
      clear hBx
      clear hW1
      refine wpAnyL_one (i := 1) (by kernel_rfl) rfl (fun K hK => ?_)
      rw [if_pos (by rfl)]
      go_simp
      go_wp2_with (go_at_call 6; refine (HCA.out _ hHeld).mono ?_; rintro e u2 ⟨tA, cA, rfl, oA, gg⟩)
      have hb2 : Below w2.heap.size w2 u2 := hHeld.trans (gg.mono hHeld.size)
      have hbx_n := (gg.block _ hbo).trans hbx
      clear hbx
      have hbx := hbx_n
      clear hbx_n
      have hbo_n := Nat.lt_of_lt_of_le hbo gg.size
      clear hbo
      have hbo := hbo_n
      clear hbo_n
      clear gg
      refine hK.out _ _ (fun _ => hb2) ?_
      clear hK K hHeld
      have hHeld := hb2
      try dsimp only [Act.put]
      refine wpAnyL_one (i := 3) (by kernel_rfl) rfl (fun K hK => ?_)
      rw [if_pos (by rfl)]
      go_simp
      go_wp2_with (go_at_call 6; refine (HCB.out _ hHeld).mono ?_; rintro e u3 ⟨tB, cB, rfl, oB, gg⟩)
      have oA_n := oA.on gg
      clear oA
      have oA := oA_n
      clear oA_n
      have hb3 : Below w2.heap.size w2 u3 := hHeld.trans (gg.mono hHeld.size)
      have hbx_n := (gg.block _ hbo).trans hbx
      clear hbx
      have hbx := hbx_n
      clear hbx_n
      have hbo_n := Nat.lt_of_lt_of_le hbo gg.size
      clear hbo
      have hbo := hbo_n
      clear hbo_n
      clear gg
      refine hK.out _ _ (fun _ => hb3) ?_
      clear hK K hHeld
      have hHeld := hb3
      try dsimp only [Act.put]
      refine wpAnyL_one (i := 5) (by kernel_rfl) rfl (fun K hK => ?_)
      rw [if_pos (by rfl)]
      go_simp
      go_wp2_with (go_at_call 7; refine (HCL.out _ hHeld).mono ?_; rintro e u4 ⟨tL, cL, rfl, oL, gg⟩)
      have oA_n := oA.on gg
      clear oA
      have oA := oA_n
      clear oA_n
      have oB_n := oB.on gg
      clear oB
      have oB := oB_n
      clear oB_n
      have hb4 : Below w2.heap.size w2 u4 := hHeld.trans (gg.mono hHeld.size)
      have hbx_n := (gg.block _ hbo).trans hbx
      clear hbx
      have hbx := hbx_n
      clear hbx_n
      have hbo_n := Nat.lt_of_lt_of_le hbo gg.size
      clear hbo
      have hbo := hbo_n
      clear hbo_n
      clear gg
      refine hK.out _ _ (fun _ => hb4) ?_
      clear hK K hHeld
      have hHeld := hb4
      try dsimp only [Act.put]
      refine wpAnyL_one (i := 6) (by kernel_rfl) rfl (fun K hK => ?_)
      rw [if_pos (by rfl)]
      go_simp
      go_wp2_with (go_at_call 5; refine (H9.out _ _ _ _ _ _ _ oA oB HFl.out oL).mono ?_; rintro e u5 ⟨q, r, rfl, oC, gg⟩)
      have hb5 : Below w2.heap.size w2 u5 := hHeld.trans (gg.mono hHeld.size)
      have hbx_n := (gg.block _ hbo).trans hbx
      clear hbx
      have hbx := hbx_n
      clear hbx_n
      have hbo_n := Nat.lt_of_lt_of_le hbo gg.size
      clear hbo
      have hbo := hbo_n
      clear hbo_n
      clear gg
      refine hK.out _ _ (fun _ => hb5) ?_
      clear hK K hHeld
      have hHeld := hb5
      try dsimp only [Act.put]
      refine wpAnyL_take (i := 7) (v := .tuple #[.agg #[.slice q V.length r], .bool x0]) (C := [7, 8, 9, 11, 12]) rfl (by kernel_rfl) (fun _ _ _ h => h) (Or.inl ⟨by rfl, fun _ _ => by go_simp⟩) hHeld ?_
      dsimp only [Act.put]
      refine wpAnyL_take (i := 8) (v := .agg #[.slice q V.length r]) (C := [8, 11, 12]) rfl (by kernel_rfl) (fun _ _ _ h => h) (Or.inl ⟨by rfl, fun _ _ => by go_simp⟩) hHeld ?_
      dsimp only [Act.put]
      refine wpAnyL_take (i := 9) (v := .bool x0) (C := [9, 12]) rfl (by kernel_rfl) (fun _ _ _ h => h) (Or.inl ⟨by rfl, fun _ _ => by go_simp⟩) hHeld ?_
      dsimp only [Act.put]
      have hc0 := box_cell hbx 0
      have hf0 := box_free hbx 0
      have hbx2 := box_set hbx 0 (.slice q V.length r)
      have hbe : Below w2.heap.size w2 (u5.setCell ⟨Bx, 0, none⟩ (.slice q V.length r)) := setB hHeld (Bx) 0 hbw _
      have oD := ys_set oC hbx (.slice q V.length r)
      refine wpAnyL_one (i := 11) (by kernel_rfl) rfl (fun K hK => ?_)
      rw [if_pos (by rfl)]
      go_simp
      refine hK.out _ _ (fun _ => hbe) ?_
      clear hK K hc0 hf0
      try dsimp only [Act.put]
      refine wpAnyL_one (i := 12) (by kernel_rfl) rfl (fun K hK => ?_)
      rw [if_pos (by rfl)]
      go_simp
      refine hK.out _ _ (fun h => absurd rfl h) ?_
      clear hK K
      try dsimp only [Act.put]
      refine wpAnyL_done (by kernel_rfl) ?_
      generalize (u5.setCell ⟨Bx, 0, none⟩ (.slice q V.length r)) = W7 at *
      go_wp2_with fail
      go_meet
      case rel => exact ⟨Bx, q, r, rfl, rfl, hbx2, oD, hbe, hbw⟩
  case rest =>
  obtain ⟨WQ, Wq, Wr, rfl, rfl, Wbx, Wo, Wg, Ww⟩ := hcut
  obtain ⟨w3, hrn⟩ : ∃ v, v = wc := ⟨_, rfl⟩
  subst hrn
  clear HS HCA HCB HCL
  have s3 := Wg.size
  have B_3 : Hid (Below w0.heap.size w0 w3) := B_2.out.trans (Wg.mono B_2.out.size)
  clear B_2
  have W_3 : Hid (Ys w3.heap.size Wq V w3) := Wo
  have Wk_3 : Hid (w3.heap[WQ]? = some (.cells #[.slice Wq V.length Wr] 29)) := Wbx
  have Wz := kboxS Wbx
  clear Wo Wbx Wg
  clear H9
  obtain ⟨xa, xb⟩ := HX.out _ B_3.out
  go_wp2_with fail
  refine (HTA.out _ B_3.out).mono ?_
  rintro e w4 ⟨pA, cA, rfl, oT, gT, kT⟩
  clear xa xb
  have s4 := gT.size
  have B_4 : Hid (Below w0.heap.size w0 w4) := B_3.out.trans (gT.mono B_3.out.size)
  have W_4 : Hid (Ys w3.heap.size Wq V w4) := W_3.out.below (gT.mono (by omega))
  have Wk_4 : Hid (w4.heap[WQ]? = some (.cells #[.slice Wq V.length Wr] 29)) := (gT.block _ (kboxS Wk_3.out)).trans Wk_3.out
  clear B_3 W_3 Wk_3
  have XA_4 : Hid (OwnK w3.heap.size w4.heap.size pA A w4) := oT
  have KTA := hid kT
  clear oT gT kT
  have gA := boxB w4 (.cells #[.slice pA A.length cA] 29)
  have hA := heap_last w4 (.cells #[.slice pA A.length cA] 29)
  have zA : (w4.alloc (.cells #[.slice pA A.length cA] 29)).heap.size = w4.heap.size + 1 := heap_size _ _
  generalize hW5 : w4.alloc (.cells #[.slice pA A.length cA] 29) = w5 at *
  have s5 := gA.size
  have B_5 : Hid (Below w0.heap.size w0 w5) := B_4.out.trans (gA.mono B_4.out.size)
  have W_5 : Hid (Ys w3.heap.size Wq V w5) := W_4.out.below (gA.mono (by omega))
  have Wk_5 : Hid (w5.heap[WQ]? = some (.cells #[.slice Wq V.length Wr] 29)) := (gA.block _ (kboxS Wk_4.out)).trans Wk_4.out
  have XA_5 : Hid (OwnK w3.heap.size w4.heap.size pA A w5) := XA_4.out.on gA
  clear B_4 W_4 Wk_4 XA_4
  have XAk_5 : Hid (w5.heap[w4.heap.size]? = some (.cells #[.slice pA A.length cA] 29)) := hA
  have zz5 := zA
  clear gA hA zA
  obtain ⟨xa, xb⟩ := HX.out _ B_5.out
  go_wp2_with fail
  refine (HTB.out _ B_5.out).mono ?_
  rintro e w6 ⟨pB, cB, rfl, oT, gT, kT⟩
  clear xa xb
  have s6 := gT.size
  have B_6 : Hid (Below w0.heap.size w0 w6) := B_5.out.trans (gT.mono B_5.out.size)
  have W_6 : Hid (Ys w3.heap.size Wq V w6) := W_5.out.below (gT.mono (by omega))
  have Wk_6 : Hid (w6.heap[WQ]? = some (.cells #[.slice Wq V.length Wr] 29)) := (gT.block _ (kboxS Wk_5.out)).trans Wk_5.out
  have XA_6 : Hid (OwnK w3.heap.size w4.heap.size pA A w6) := XA_5.out.on gT
  have XAk_6 : Hid (w6.heap[w4.heap.size]? = some (.cells #[.slice pA A.length cA] 29)) := (gT.block _ (kboxS XAk_5.out)).trans XAk_5.out
  clear B_5 W_5 Wk_5 XA_5 XAk_5
  have XB_6 : Hid (OwnK w5.heap.size w6.heap.size pB B w6) := oT
  have KTB := hid kT
  clear oT gT kT
  have gA := boxB w6 (.cells #[.slice pB B.length cB] 29)
  have hA := heap_last w6 (.cells #[.slice pB B.length cB] 29)
  have zA : (w6.alloc (.cells #[.slice pB B.length cB] 29)).heap.size = w6.heap.size + 1 := heap_size _ _
  generalize hW7 : w6.alloc (.cells #[.slice pB B.length cB] 29) = w7 at *
  have s7 := gA.size
  have B_7 : Hid (Below w0.heap.size w0 w7) := B_6.out.trans (gA.mono B_6.out.size)
  have W_7 : Hid (Ys w3.heap.size Wq V w7) := W_6.out.below (gA.mono (by omega))
  have Wk_7 : Hid (w7.heap[WQ]? = some (.cells #[.slice Wq V.length Wr] 29)) := (gA.block _ (kboxS Wk_6.out)).trans Wk_6.out
  have XA_7 : Hid (OwnK w3.heap.size w4.heap.size pA A w7) := XA_6.out.on gA
  have XAk_7 : Hid (w7.heap[w4.heap.size]? = some (.cells #[.slice pA A.length cA] 29)) := (gA.block _ (kboxS XAk_6.out)).trans XAk_6.out
  have XB_7 : Hid (OwnK w5.heap.size w6.heap.size pB B w7) := XB_6.out.on gA
  clear B_6 W_6 Wk_6 XA_6 XAk_6 XB_6
  have XBk_7 : Hid (w7.heap[w6.heap.size]? = some (.cells #[.slice pB B.length cB] 29)) := hA
  have zz7 := zA
  clear gA hA zA
  go_wp2_with fail
  refine (HTl.out _ B_7.out).mono ?_
  rintro e w8 ⟨pl, cl, rfl, oT, gT⟩
  have s8 := gT.size
  have B_8 : Hid (Below w0.heap.size w0 w8) := B_7.out.trans (gT.mono B_7.out.size)
  have W_8 : Hid (Ys w3.heap.size Wq V w8) := W_7.out.below (gT.mono (by omega))
  have Wk_8 : Hid (w8.heap[WQ]? = some (.cells #[.slice Wq V.length Wr] 29)) := (gT.block _ (kboxS Wk_7.out)).trans Wk_7.out
  have XA_8 : Hid (OwnK w3.heap.size w4.heap.size pA A w8) := XA_7.out.on gT
  have XAk_8 : Hid (w8.heap[w4.heap.size]? = some (.cells #[.slice pA A.length cA] 29)) := (gT.block _ (kboxS XAk_7.out)).trans XAk_7.out
  have XB_8 : Hid (OwnK w5.heap.size w6.heap.size pB B w8) := XB_7.out.on gT
  have XBk_8 : Hid (w8.heap[w6.heap.size]? = some (.cells #[.slice pB B.length cB] 29)) := (gT.block _ (kboxS XBk_7.out)).trans XBk_7.out
  clear B_7 W_7 Wk_7 XA_7 XAk_7 XB_7 XBk_7
  have Xl_8 : Hid (OwnI w7.heap.size w8.heap.size pl l w8) := oT
  clear oT gT
  have yA : w8.cell? ⟨w4.heap.size, 0, none⟩ = some (.slice pA A.length cA) := box_cell XAk_8.out 0
  have yB : w8.cell? ⟨w6.heap.size, 0, none⟩ = some (.slice pB B.length cB) := box_cell XBk_8.out 0
  go_wp2_with fail
  refine (H11.out pA cA pB cB pl cl _ ⟨HFA.out, KTA.out, (XA_8.out.ys)⟩ ⟨HFB.out, KTB.out, (XB_8.out.ys)⟩ HFl.out (Xl_8.out.is.mono (by omega))).mono ?_
  rintro e w9 ⟨Gq, Gr, rfl, oC, gC⟩
  have s9 := gC.size
  have B_9 : Hid (Below w0.heap.size w0 w9) := B_8.out.trans (gC.mono B_8.out.size)
  have W_9 : Hid (Ys w3.heap.size Wq V w9) := W_8.out.below (gC.mono (by omega))
  have Wk_9 : Hid (w9.heap[WQ]? = some (.cells #[.slice Wq V.length Wr] 29)) := (gC.block _ (kboxS Wk_8.out)).trans Wk_8.out
  have XA_9 : Hid (OwnK w3.heap.size w4.heap.size pA A w9) := XA_8.out.on gC
  have XAk_9 : Hid (w9.heap[w4.heap.size]? = some (.cells #[.slice pA A.length cA] 29)) := (gC.block _ (kboxS XAk_8.out)).trans XAk_8.out
  have XB_9 : Hid (OwnK w5.heap.size w6.heap.size pB B w9) := XB_8.out.on gC
  have XBk_9 : Hid (w9.heap[w6.heap.size]? = some (.cells #[.slice pB B.length cB] 29)) := (gC.block _ (kboxS XBk_8.out)).trans XBk_8.out
  have Xl_9 : Hid (OwnI w7.heap.size w8.heap.size pl l w9) := Xl_8.out.below gC
  clear B_8 W_8 Wk_8 XA_8 XAk_8 XB_8 XBk_8 Xl_8
  have G_9 : Hid (OwnK w8.heap.size w9.heap.size Gq V w9) := oC
  clear oC gC
  clear yA yB
  have gA := boxB w9 (.cells #[.slice Gq V.length Gr] 29)
  have hA := heap_last w9 (.cells #[.slice Gq V.length Gr] 29)
  have zA : (w9.alloc (.cells #[.slice Gq V.length Gr] 29)).heap.size = w9.heap.size + 1 := heap_size _ _
  generalize hW10 : w9.alloc (.cells #[.slice Gq V.length Gr] 29) = w10 at *
  have s10 := gA.size
  have B_10 : Hid (Below w0.heap.size w0 w10) := B_9.out.trans (gA.mono B_9.out.size)
  have W_10 : Hid (Ys w3.heap.size Wq V w10) := W_9.out.below (gA.mono (by omega))
  have Wk_10 : Hid (w10.heap[WQ]? = some (.cells #[.slice Wq V.length Wr] 29)) := (gA.block _ (kboxS Wk_9.out)).trans Wk_9.out
  have XA_10 : Hid (OwnK w3.heap.size w4.heap.size pA A w10) := XA_9.out.on gA
  have XAk_10 : Hid (w10.heap[w4.heap.size]? = some (.cells #[.slice pA A.length cA] 29)) := (gA.block _ (kboxS XAk_9.out)).trans XAk_9.out
  have XB_10 : Hid (OwnK w5.heap.size w6.heap.size pB B w10) := XB_9.out.on gA
  have XBk_10 : Hid (w10.heap[w6.heap.size]? = some (.cells #[.slice pB B.length cB] 29)) := (gA.block _ (kboxS XBk_9.out)).trans XBk_9.out
  have Xl_10 : Hid (OwnI w7.heap.size w8.heap.size pl l w10) := Xl_9.out.below gA
  have G_10 : Hid (OwnK w8.heap.size w9.heap.size Gq V w10) := G_9.out.on gA
  clear B_9 W_9 Wk_9 XA_9 XAk_9 XB_9 XBk_9 Xl_9 G_9
  have Gk_10 : Hid (w10.heap[w9.heap.size]? = some (.cells #[.slice Gq V.length Gr] 29)) := hA
  have zz10 := zA
  clear gA hA zA
  have y1 : w10.cell? ⟨w9.heap.size, 0, none⟩ = some (.slice Gq V.length Gr) := box_cell Gk_10.out 0
  have y2 : w10.cell? ⟨WQ, 0, none⟩ = some (.slice Wq V.length Wr) := box_cell Wk_10.out 0
  go_wp2_with fail
  refine (eqMarks_same Gq Wq Gr Wr V _ HV.out G_10.out.ys (W_10.out.mono (by omega))).mono ?_
  rintro e w11 ⟨rfl, gE⟩
  clear y1 y2
  have s11 := gE.size
  have B_11 : Hid (Below w0.heap.size w0 w11) := B_10.out.trans (gE.mono B_10.out.size)
  have W_11 : Hid (Ys w3.heap.size Wq V w11) := W_10.out.below (gE.mono (by omega))
  have Wk_11 : Hid (w11.heap[WQ]? = some (.cells #[.slice Wq V.length Wr] 29)) := (gE.block _ (kboxS Wk_10.out)).trans Wk_10.out
  have XA_11 : Hid (OwnK w3.heap.size w4.heap.size pA A w11) := XA_10.out.on gE
  have XAk_11 : Hid (w11.heap[w4.heap.size]? = some (.cells #[.slice pA A.length cA] 29)) := (gE.block _ (kboxS XAk_10.out)).trans XAk_10.out
  have XB_11 : Hid (OwnK w5.heap.size w6.heap.size pB B w11) := XB_10.out.on gE
  have XBk_11 : Hid (w11.heap[w6.heap.size]? = some (.cells #[.slice pB B.length cB] 29)) := (gE.block _ (kboxS XBk_10.out)).trans XBk_10.out
  have Xl_11 : Hid (OwnI w7.heap.size w8.heap.size pl l w11) := Xl_10.out.below gE
  have G_11 : Hid (OwnK w8.heap.size w9.heap.size Gq V w11) := G_10.out.on gE
  have Gk_11 : Hid (w11.heap[w9.heap.size]? = some (.cells #[.slice Gq V.length Gr] 29)) := (gE.block _ (kboxS Gk_10.out)).trans Gk_10.out
  clear B_10 W_10 Wk_10 XA_10 XAk_10 XB_10 XBk_10 Xl_10 G_10 Gk_10
  clear gE
  try clear hW1 hW2 hW3 hW4 hW5 hW6 hW7 hW8 hW9 hW10 hW11
  have BD : Below w11.heap.size w11 w11.drew := (Below.refl _ _).drew
  have HS : Hid (∀ v, Below w11.heap.size w11 v → v.cell? ⟨w4.heap.size, 0, none⟩ = some (.slice pA A.length cA) ∧ v.cell? ⟨w.heap.size, 0, none⟩ = some (.slice a A.length c)) := fun v g => ⟨box_cell ((g.block _ (kboxS XAk_11.out)).trans XAk_11.out) 0, (HX.out v (B_11.out.trans (g.mono B_11.out.size))).1⟩
  have HCd : Hid (∀ v, Below w11.heap.size w11 v → Calls Try.prog 6 #[.agg #[.slice a A.length c]] v fun e w' => ∃ b c, e = .returned (.agg #[.slice b A.length c]) ∧ OwnK v.heap.size w'.heap.size b A w' ∧ Below v.heap.size v w' ∧ A.length ≤ c) := fun v g => HTA.out v (B_11.out.trans (g.mono B_11.out.size))
  have HEQ : Hid (∀ v (b : Option Addr) (c : Nat), Below w11.heap.size w11 v → Ys v.heap.size b A v → Calls Try.prog 9 #[.agg #[.slice pA A.length cA], .agg #[.slice b A.length c]] v fun e w' => e = .returned (.bool true) ∧ Below v.heap.size v w') := fun v b c g h1 => eqMarks_same pA b cA c A v HFA.out (XA_11.out.on g).ys h1
  obtain ⟨z1, z2⟩ := HS.out _ BD
  have y1 : w11.cell? ⟨w4.heap.size, 0, none⟩ = some (.slice pA A.length cA) := box_cell XAk_11.out 0
  go_wp2_with fail
  go_region_held (fun v => v.cell? ⟨w4.heap.size, 0, none⟩ = some (.slice pA A.length cA) ∧ v.cell? ⟨w.heap.size, 0, none⟩ = some (.slice a A.length c)) (first | exact HS.out _ (by with_reducible assumption)) (first | (go_at_call 6; refine (HCd.out _ (by with_reducible assumption)).mono ?_; rintro e wa ⟨b7, c7, rfl, o7, g7, -⟩; have B7 : Below w11.heap.size w11 wa := BD.trans (g7.mono BD.size)) | (go_at_call 9; refine (HEQ.out _ _ _ B7 o7.ys).mono ?_; rintro e w12 ⟨rfl, g8⟩; have B8 : Below w11.heap.size w11 w12 := B7.trans (g8.mono B7.size)))
  all_goals
    have gR := B8
    clear o7 g7 g8 B7 B8 BD HS HCd HEQ z1 z2 y1
    have s12 := gR.size
    have B_12 : Hid (Below w0.heap.size w0 w12) := B_11.out.trans (gR.mono B_11.out.size)
    have W_12 : Hid (Ys w3.heap.size Wq V w12) := W_11.out.below (gR.mono (by omega))
    have Wk_12 : Hid (w12.heap[WQ]? = some (.cells #[.slice Wq V.length Wr] 29)) := (gR.block _ (kboxS Wk_11.out)).trans Wk_11.out
    have XA_12 : Hid (OwnK w3.heap.size w4.heap.size pA A w12) := XA_11.out.on gR
    have XAk_12 : Hid (w12.heap[w4.heap.size]? = some (.cells #[.slice pA A.length cA] 29)) := (gR.block _ (kboxS XAk_11.out)).trans XAk_11.out
    have XB_12 : Hid (OwnK w5.heap.size w6.heap.size pB B w12) := XB_11.out.on gR
    have XBk_12 : Hid (w12.heap[w6.heap.size]? = some (.cells #[.slice pB B.length cB] 29)) := (gR.block _ (kboxS XBk_11.out)).trans XBk_11.out
    have Xl_12 : Hid (OwnI w7.heap.size w8.heap.size pl l w12) := Xl_11.out.below gR
    have G_12 : Hid (OwnK w8.heap.size w9.heap.size Gq V w12) := G_11.out.on gR
    have Gk_12 : Hid (w12.heap[w9.heap.size]? = some (.cells #[.slice Gq V.length Gr] 29)) := (gR.block _ (kboxS Gk_11.out)).trans Gk_11.out
    clear B_11 W_11 Wk_11 XA_11 XAk_11 XB_11 XBk_11 Xl_11 G_11 Gk_11
    clear gR
    have BD : Below w12.heap.size w12 w12.drew := (Below.refl _ _).drew
    have HS : Hid (∀ v, Below w12.heap.size w12 v → v.cell? ⟨w6.heap.size, 0, none⟩ = some (.slice pB B.length cB) ∧ v.cell? ⟨w.heap.size + 1, 0, none⟩ = some (.slice b B.length d)) := fun v g => ⟨box_cell ((g.block _ (kboxS XBk_12.out)).trans XBk_12.out) 0, (HX.out v (B_12.out.trans (g.mono B_12.out.size))).2⟩
    have HCd : Hid (∀ v, Below w12.heap.size w12 v → Calls Try.prog 6 #[.agg #[.slice b B.length d]] v fun e w' => ∃ b c, e = .returned (.agg #[.slice b B.length c]) ∧ OwnK v.heap.size w'.heap.size b B w' ∧ Below v.heap.size v w' ∧ B.length ≤ c) := fun v g => HTB.out v (B_12.out.trans (g.mono B_12.out.size))
    have HEQ : Hid (∀ v (b : Option Addr) (c : Nat), Below w12.heap.size w12 v → Ys v.heap.size b B v → Calls Try.prog 9 #[.agg #[.slice pB B.length cB], .agg #[.slice b B.length c]] v fun e w' => e = .returned (.bool true) ∧ Below v.heap.size v w') := fun v b c g h1 => eqMarks_same pB b cB c B v HFB.out (XB_12.out.on g).ys h1
    obtain ⟨z1, z2⟩ := HS.out _ BD
    have y1 : w12.cell? ⟨w6.heap.size, 0, none⟩ = some (.slice pB B.length cB) := box_cell XBk_12.out 0
    go_wp2_with fail
    go_region_held (fun v => v.cell? ⟨w6.heap.size, 0, none⟩ = some (.slice pB B.length cB) ∧ v.cell? ⟨w.heap.size + 1, 0, none⟩ = some (.slice b B.length d)) (first | exact HS.out _ (by with_reducible assumption)) (first | (go_at_call 6; refine (HCd.out _ (by with_reducible assumption)).mono ?_; rintro e wa ⟨b7, c7, rfl, o7, g7, -⟩; have B7 : Below w12.heap.size w12 wa := BD.trans (g7.mono BD.size)) | (go_at_call 9; refine (HEQ.out _ _ _ B7 o7.ys).mono ?_; rintro e w13 ⟨rfl, g8⟩; have B8 : Below w12.heap.size w12 w13 := B7.trans (g8.mono B7.size)))
    all_goals
      have gR := B8
      clear o7 g7 g8 B7 B8 BD HS HCd HEQ z1 z2 y1
      have s13 := gR.size
      have B_13 : Hid (Below w0.heap.size w0 w13) := B_12.out.trans (gR.mono B_12.out.size)
      have W_13 : Hid (Ys w3.heap.size Wq V w13) := W_12.out.below (gR.mono (by omega))
      have Wk_13 : Hid (w13.heap[WQ]? = some (.cells #[.slice Wq V.length Wr] 29)) := (gR.block _ (kboxS Wk_12.out)).trans Wk_12.out
      have XA_13 : Hid (OwnK w3.heap.size w4.heap.size pA A w13) := XA_12.out.on gR
      have XAk_13 : Hid (w13.heap[w4.heap.size]? = some (.cells #[.slice pA A.length cA] 29)) := (gR.block _ (kboxS XAk_12.out)).trans XAk_12.out
      have XB_13 : Hid (OwnK w5.heap.size w6.heap.size pB B w13) := XB_12.out.on gR
      have XBk_13 : Hid (w13.heap[w6.heap.size]? = some (.cells #[.slice pB B.length cB] 29)) := (gR.block _ (kboxS XBk_12.out)).trans XBk_12.out
      have Xl_13 : Hid (OwnI w7.heap.size w8.heap.size pl l w13) := Xl_12.out.below gR
      have G_13 : Hid (OwnK w8.heap.size w9.heap.size Gq V w13) := G_12.out.on gR
      have Gk_13 : Hid (w13.heap[w9.heap.size]? = some (.cells #[.slice Gq V.length Gr] 29)) := (gR.block _ (kboxS Gk_12.out)).trans Gk_12.out
      clear B_12 W_12 Wk_12 XA_12 XAk_12 XB_12 XBk_12 Xl_12 G_12 Gk_12
      clear gR
      go_wp2_with fail
      refine (HTl.out _ B_13.out).mono ?_
      rintro e w14 ⟨p9, c9, rfl, oT, gT⟩
      have s14 := gT.size
      have B_14 : Hid (Below w0.heap.size w0 w14) := B_13.out.trans (gT.mono B_13.out.size)
      have W_14 : Hid (Ys w3.heap.size Wq V w14) := W_13.out.below (gT.mono (by omega))
      have Wk_14 : Hid (w14.heap[WQ]? = some (.cells #[.slice Wq V.length Wr] 29)) := (gT.block _ (kboxS Wk_13.out)).trans Wk_13.out
      have XA_14 : Hid (OwnK w3.heap.size w4.heap.size pA A w14) := XA_13.out.on gT
      have XAk_14 : Hid (w14.heap[w4.heap.size]? = some (.cells #[.slice pA A.length cA] 29)) := (gT.block _ (kboxS XAk_13.out)).trans XAk_13.out
      have XB_14 : Hid (OwnK w5.heap.size w6.heap.size pB B w14) := XB_13.out.on gT
      have XBk_14 : Hid (w14.heap[w6.heap.size]? = some (.cells #[.slice pB B.length cB] 29)) := (gT.block _ (kboxS XBk_13.out)).trans XBk_13.out
      have Xl_14 : Hid (OwnI w7.heap.size w8.heap.size pl l w14) := Xl_13.out.below gT
      have G_14 : Hid (OwnK w8.heap.size w9.heap.size Gq V w14) := G_13.out.on gT
      have Gk_14 : Hid (w14.heap[w9.heap.size]? = some (.cells #[.slice Gq V.length Gr] 29)) := (gT.block _ (kboxS Gk_13.out)).trans Gk_13.out
      clear B_13 W_13 Wk_13 XA_13 XAk_13 XB_13 XBk_13 Xl_13 G_13 Gk_13
      have OT := hid oT.is
      clear oT gT
      go_wp2_with fail
      refine (eqIntS_same pl p9 cl c9 l _ HFl.out (Xl_14.out.is.mono (by omega)) OT.out).mono ?_
      rintro e w15 ⟨rfl, gE⟩
      clear OT
      have s15 := gE.size
      have B_15 : Hid (Below w0.heap.size w0 w15) := B_14.out.trans (gE.mono B_14.out.size)
      have W_15 : Hid (Ys w3.heap.size Wq V w15) := W_14.out.below (gE.mono (by omega))
      have Wk_15 : Hid (w15.heap[WQ]? = some (.cells #[.slice Wq V.length Wr] 29)) := (gE.block _ (kboxS Wk_14.out)).trans Wk_14.out
      have XA_15 : Hid (OwnK w3.heap.size w4.heap.size pA A w15) := XA_14.out.on gE
      have XAk_15 : Hid (w15.heap[w4.heap.size]? = some (.cells #[.slice pA A.length cA] 29)) := (gE.block _ (kboxS XAk_14.out)).trans XAk_14.out
      have XB_15 : Hid (OwnK w5.heap.size w6.heap.size pB B w15) := XB_14.out.on gE
      have XBk_15 : Hid (w15.heap[w6.heap.size]? = some (.cells #[.slice pB B.length cB] 29)) := (gE.block _ (kboxS XBk_14.out)).trans XBk_14.out
      have Xl_15 : Hid (OwnI w7.heap.size w8.heap.size pl l w15) := Xl_14.out.below gE
      have G_15 : Hid (OwnK w8.heap.size w9.heap.size Gq V w15) := G_14.out.on gE
      have Gk_15 : Hid (w15.heap[w9.heap.size]? = some (.cells #[.slice Gq V.length Gr] 29)) := (gE.block _ (kboxS Gk_14.out)).trans Gk_14.out
      clear B_14 W_14 Wk_14 XA_14 XAk_14 XB_14 XBk_14 Xl_14 G_14 Gk_14
      clear gE
      have y1 : w15.cell? ⟨w4.heap.size, 0, none⟩ = some (.slice pA A.length cA) := box_cell XAk_15.out 0
      have hw0 : wtK A ≤ 1048576 := HFA.out
      go_wp2_with fail
      refine (markMarks_any _ _ pA cA A _ HFA.out XA_15.out).mono ?_
      rintro e w16 ⟨rfl, oM, tM⟩
      clear y1
      have s16 := tM.size
      have B_16 : Hid (Below w0.heap.size w0 w16) := B_15.out.trans (tM.below (by omega) B_15.out.size)
      have W_16 : Hid (Ys w3.heap.size Wq V w16) := W_15.out.below (tM.below (by omega) (by omega))
      have Wk_16 : Hid (w16.heap[WQ]? = some (.cells #[.slice Wq V.length Wr] 29)) := (tM.block _ (kboxS Wk_15.out) (by have := kboxS Wk_15.out; omega)).trans Wk_15.out
      have XA_16 : Hid (OwnK w3.heap.size w4.heap.size pA (kmarks A 1) w16) := oM
      have XAk_16 : Hid (w16.heap[w4.heap.size]? = some (.cells #[.slice pA A.length cA] 29)) := (tM.block _ (kboxS XAk_15.out) (by have := kboxS XAk_15.out; omega)).trans XAk_15.out
      have XB_16 : Hid (OwnK w5.heap.size w6.heap.size pB B w16) := XB_15.out.out tM (by omega)
      have XBk_16 : Hid (w16.heap[w6.heap.size]? = some (.cells #[.slice pB B.length cB] 29)) := (tM.block _ (kboxS XBk_15.out) (by have := kboxS XBk_15.out; omega)).trans XBk_15.out
      have Xl_16 : Hid (OwnI w7.heap.size w8.heap.size pl l w16) := Xl_15.out.out tM (by omega)
      have G_16 : Hid (OwnK w8.heap.size w9.heap.size Gq V w16) := G_15.out.out tM (by omega)
      have Gk_16 : Hid (w16.heap[w9.heap.size]? = some (.cells #[.slice Gq V.length Gr] 29)) := (tM.block _ (kboxS Gk_15.out) (by have := kboxS Gk_15.out; omega)).trans Gk_15.out
      clear B_15 W_15 Wk_15 XA_15 XAk_15 XB_15 XBk_15 Xl_15 G_15 Gk_15
      clear oM tM
      obtain ⟨m0, hm0⟩ : ∃ m, 1 + wtK A = m := ⟨_, rfl⟩
      rw [hm0]
      have hp0 : 1 ≤ m0 ∧ m0 ≤ 1048578 := by omega
      clear hm0 hw0
      have y1 : w16.cell? ⟨w6.heap.size, 0, none⟩ = some (.slice pB B.length cB) := box_cell XBk_16.out 0
      have hw1 : wtK B ≤ 1048576 := HFB.out
      go_wp2_with fail
      refine (markMarks_k _ _ pB cB m0 B _ HFB.out (by omega) (by omega) XB_16.out).mono ?_
      rintro e w17 ⟨rfl, oM, tM⟩
      clear y1
      have s17 := tM.size
      have B_17 : Hid (Below w0.heap.size w0 w17) := B_16.out.trans (tM.below (by omega) B_16.out.size)
      have W_17 : Hid (Ys w3.heap.size Wq V w17) := W_16.out.below (tM.below (by omega) (by omega))
      have Wk_17 : Hid (w17.heap[WQ]? = some (.cells #[.slice Wq V.length Wr] 29)) := (tM.block _ (kboxS Wk_16.out) (by have := kboxS Wk_16.out; omega)).trans Wk_16.out
      have XA_17 : Hid (OwnK w3.heap.size w4.heap.size pA (kmarks A 1) w17) := XA_16.out.out tM (by omega)
      have XAk_17 : Hid (w17.heap[w4.heap.size]? = some (.cells #[.slice pA A.length cA] 29)) := (tM.block _ (kboxS XAk_16.out) (by have := kboxS XAk_16.out; omega)).trans XAk_16.out
      have XB_17 : Hid (OwnK w5.heap.size w6.heap.size pB (kmarks B m0) w17) := oM
      have XBk_17 : Hid (w17.heap[w6.heap.size]? = some (.cells #[.slice pB B.length cB] 29)) := (tM.block _ (kboxS XBk_16.out) (by have := kboxS XBk_16.out; omega)).trans XBk_16.out
      have Xl_17 : Hid (OwnI w7.heap.size w8.heap.size pl l w17) := Xl_16.out.out tM (by omega)
      have G_17 : Hid (OwnK w8.heap.size w9.heap.size Gq V w17) := G_16.out.out tM (by omega)
      have Gk_17 : Hid (w17.heap[w9.heap.size]? = some (.cells #[.slice Gq V.length Gr] 29)) := (tM.block _ (kboxS Gk_16.out) (by have := kboxS Gk_16.out; omega)).trans Gk_16.out
      clear B_16 W_16 Wk_16 XA_16 XAk_16 XB_16 XBk_16 Xl_16 G_16 Gk_16
      clear oM tM
      obtain ⟨m1, hm1⟩ : ∃ m, m0 + wtK B = m := ⟨_, rfl⟩
      rw [hm1]
      have hp1 : 1 ≤ m1 ∧ m1 ≤ 2097156 := by omega
      clear hm1 hw1
      go_wp2_with fail
      refine (mark_ownI _ _ pl cl l _ HFl.out m1 (by omega) (by omega) Xl_17.out).mono ?_
      rintro e w18 ⟨rfl, oM, tM⟩
      have s18 := tM.size
      have B_18 : Hid (Below w0.heap.size w0 w18) := B_17.out.trans (tM.below (by omega) B_17.out.size)
      have W_18 : Hid (Ys w3.heap.size Wq V w18) := W_17.out.below (tM.below (by omega) (by omega))
      have Wk_18 : Hid (w18.heap[WQ]? = some (.cells #[.slice Wq V.length Wr] 29)) := (tM.block _ (kboxS Wk_17.out) (by have := kboxS Wk_17.out; omega)).trans Wk_17.out
      have XA_18 : Hid (OwnK w3.heap.size w4.heap.size pA (kmarks A 1) w18) := XA_17.out.out tM (by omega)
      have XAk_18 : Hid (w18.heap[w4.heap.size]? = some (.cells #[.slice pA A.length cA] 29)) := (tM.block _ (kboxS XAk_17.out) (by have := kboxS XAk_17.out; omega)).trans XAk_17.out
      have XB_18 : Hid (OwnK w5.heap.size w6.heap.size pB (kmarks B m0) w18) := XB_17.out.out tM (by omega)
      have XBk_18 : Hid (w18.heap[w6.heap.size]? = some (.cells #[.slice pB B.length cB] 29)) := (tM.block _ (kboxS XBk_17.out) (by have := kboxS XBk_17.out; omega)).trans XBk_17.out
      have Xl_18 : Hid (OwnI w7.heap.size w8.heap.size pl (imarks l.length m1) w18) := oM
      have G_18 : Hid (OwnK w8.heap.size w9.heap.size Gq V w18) := G_17.out.out tM (by omega)
      have Gk_18 : Hid (w18.heap[w9.heap.size]? = some (.cells #[.slice Gq V.length Gr] 29)) := (tM.block _ (kboxS Gk_17.out) (by have := kboxS Gk_17.out; omega)).trans Gk_17.out
      clear B_17 W_17 Wk_17 XA_17 XAk_17 XB_17 XBk_17 Xl_17 G_17 Gk_17
      clear oM tM
      obtain ⟨ml, hml⟩ : ∃ m, m1 + l.length = m := ⟨_, rfl⟩
      rw [hml]
      have hpl : 1 ≤ ml := by omega
      clear hml
      have hmd : decide (((ml : Nat) : Int) < 0) = false := decide_eq_false (by omega)
      have y1 : w18.cell? ⟨w9.heap.size, 0, none⟩ = some (.slice Gq V.length Gr) := box_cell Gk_18.out 0
      have y2 : w18.cell? ⟨WQ, 0, none⟩ = some (.slice Wq V.length Wr) := box_cell Wk_18.out 0
      go_wp2_with fail
      refine (eqMarks_same Gq Wq Gr Wr V _ HV.out G_18.out.ys (W_18.out.mono (by omega))).mono ?_
      rintro e w19 ⟨rfl, gE⟩
      clear y1 y2
      have s19 := gE.size
      have B_19 : Hid (Below w0.heap.size w0 w19) := B_18.out.trans (gE.mono B_18.out.size)
      have W_19 : Hid (Ys w3.heap.size Wq V w19) := W_18.out.below (gE.mono (by omega))
      have Wk_19 : Hid (w19.heap[WQ]? = some (.cells #[.slice Wq V.length Wr] 29)) := (gE.block _ (kboxS Wk_18.out)).trans Wk_18.out
      have XA_19 : Hid (OwnK w3.heap.size w4.heap.size pA (kmarks A 1) w19) := XA_18.out.on gE
      have XAk_19 : Hid (w19.heap[w4.heap.size]? = some (.cells #[.slice pA A.length cA] 29)) := (gE.block _ (kboxS XAk_18.out)).trans XAk_18.out
      have XB_19 : Hid (OwnK w5.heap.size w6.heap.size pB (kmarks B m0) w19) := XB_18.out.on gE
      have XBk_19 : Hid (w19.heap[w6.heap.size]? = some (.cells #[.slice pB B.length cB] 29)) := (gE.block _ (kboxS XBk_18.out)).trans XBk_18.out
      have Xl_19 : Hid (OwnI w7.heap.size w8.heap.size pl (imarks l.length m1) w19) := Xl_18.out.below gE
      have G_19 : Hid (OwnK w8.heap.size w9.heap.size Gq V w19) := G_18.out.on gE
      have Gk_19 : Hid (w19.heap[w9.heap.size]? = some (.cells #[.slice Gq V.length Gr] 29)) := (gE.block _ (kboxS Gk_18.out)).trans Gk_18.out
      clear B_18 W_18 Wk_18 XA_18 XAk_18 XB_18 XBk_18 Xl_18 G_18 Gk_18
      clear gE
      clear XA_19
      clear XB_19
      clear XAk_19
      clear XBk_19
      clear Xl_19
      have y1 : w19.cell? ⟨w9.heap.size, 0, none⟩ = some (.slice Gq V.length Gr) := box_cell Gk_19.out 0
      go_wp2_with fail
      refine (markMarks_any _ _ Gq Gr V _ HV.out G_19.out).mono ?_
      rintro e w20 ⟨rfl, oM, tM⟩
      clear y1
      have s20 := tM.size
      have B_20 : Hid (Below w0.heap.size w0 w20) := B_19.out.trans (tM.below (by omega) B_19.out.size)
      have W_20 : Hid (Ys w3.heap.size Wq V w20) := W_19.out.below (tM.below (by omega) (by omega))
      have Wk_20 : Hid (w20.heap[WQ]? = some (.cells #[.slice Wq V.length Wr] 29)) := (tM.block _ (kboxS Wk_19.out) (by have := kboxS Wk_19.out; omega)).trans Wk_19.out
      have G_20 : Hid (OwnK w8.heap.size w9.heap.size Gq (kmarks V 1) w20) := oM
      have Gk_20 : Hid (w20.heap[w9.heap.size]? = some (.cells #[.slice Gq V.length Gr] 29)) := (tM.block _ (kboxS Gk_19.out) (by have := kboxS Gk_19.out; omega)).trans Gk_19.out
      clear B_19 W_19 Wk_19 G_19 Gk_19
      clear oM tM
      have hm2 : decide (((1 + wtK V : Nat) : Int) < 0) = false := decide_eq_false (by omega)
      have y1 : w20.cell? ⟨w9.heap.size, 0, none⟩ = some (.slice Gq V.length Gr) := box_cell Gk_20.out 0
      go_wp2_with fail
      refine (heldMarks_any _ _ Gq Gr V _ HV.out G_20.out).mono ?_
      rintro e w21 ⟨rfl, gH⟩
      clear y1
      have s21 := gH.size
      have B_21 : Hid (Below w0.heap.size w0 w21) := B_20.out.trans (gH.mono B_20.out.size)
      have W_21 : Hid (Ys w3.heap.size Wq V w21) := W_20.out.below (gH.mono (by omega))
      have Wk_21 : Hid (w21.heap[WQ]? = some (.cells #[.slice Wq V.length Wr] 29)) := (gH.block _ (kboxS Wk_20.out)).trans Wk_20.out
      have G_21 : Hid (OwnK w8.heap.size w9.heap.size Gq (kmarks V 1) w21) := G_20.out.on gH
      have Gk_21 : Hid (w21.heap[w9.heap.size]? = some (.cells #[.slice Gq V.length Gr] 29)) := (gH.block _ (kboxS Gk_20.out)).trans Gk_20.out
      clear B_20 W_20 Wk_20 G_20 Gk_20
      clear gH
      have HS : Hid (∀ v, Below w21.heap.size w21 v → v.cell? ⟨w.heap.size, 0, none⟩ = some (.slice a A.length c) ∧ v.cell? ⟨w.heap.size + 1, 0, none⟩ = some (.slice b B.length d)) := fun v g => HX.out v (B_21.out.trans (g.mono B_21.out.size))
      have HCA : Hid (∀ v, Below w21.heap.size w21 v → Calls Try.prog 6 #[.agg #[.slice a A.length c]] v fun e w' => ∃ b c, e = .returned (.agg #[.slice b A.length c]) ∧ Mr b c A w' ∧ Below v.heap.size v w') := fun v g => (HTA.out v (B_21.out.trans (g.mono B_21.out.size))).mono fun _ _ ⟨b, c, h1, h2, h3, h4⟩ => ⟨b, c, h1, ⟨HFA.out, h4, h2.ys⟩, h3⟩
      have HCB : Hid (∀ v, Below w21.heap.size w21 v → Calls Try.prog 6 #[.agg #[.slice b B.length d]] v fun e w' => ∃ b c, e = .returned (.agg #[.slice b B.length c]) ∧ Mr b c B w' ∧ Below v.heap.size v w') := fun v g => (HTB.out v (B_21.out.trans (g.mono B_21.out.size))).mono fun _ _ ⟨b, c, h1, h2, h3, h4⟩ => ⟨b, c, h1, ⟨HFB.out, h4, h2.ys⟩, h3⟩
      have HCL : Hid (∀ v, Below w21.heap.size w21 v → Calls Try.prog 7 #[.slice p l.length cp] v fun e w' => ∃ b c, e = .returned (.slice b l.length c) ∧ Is w'.heap.size b l w' ∧ Below v.heap.size v w') := fun v g => (HTl.out v (B_21.out.trans (g.mono B_21.out.size))).mono fun _ _ ⟨b, c, h1, h2, h3⟩ => ⟨b, c, h1, h2.is, h3⟩
      go_upto_region 37 with fail
      go_cut [18, 19] (fun s18 s19 wc => ∃ (Q : Nat) (q : Option Addr) (r : Nat) (lo hi : Nat), s18 = .pointer (some ⟨Q, 0, none⟩) ∧ s19 = .bool x0 ∧ wc.heap[Q]? = some (.cells #[.slice q V.length r] 29) ∧ OwnK lo hi q V wc ∧ Below w21.heap.size w21 wc ∧ w21.heap.size ≤ Q ∧ w21.heap.size ≤ lo ∧ hi ≤ wc.heap.size ∧ (Q < lo ∨ hi ≤ Q))
      case first =>
        have hT0 : Below w21.heap.size w21 w21.drew := (Below.refl _ _).drew
        refine wp_region_L (fun v : World => Below w21.heap.size w21 v) 12 (by kernel_rfl) ?_
        generalize w21.drew = Wd at *
        have hHeld := hT0
        refine wpAnyL_take (i := 0) (v := .agg #[.slice a A.length c]) (C := [0, 1, 3, 5, 6, 7, 8, 9, 11, 12]) rfl (by kernel_rfl) (fun _ _ _ h => h) (Or.inl ⟨by rfl, fun u hu => by obtain ⟨h1, h2⟩ := HS.out u hu; go_simp⟩) hHeld ?_
        dsimp only [Act.put]
        refine wpAnyL_take (i := 2) (v := .agg #[.slice b B.length d]) (C := [2, 3, 5, 6, 7, 8, 9, 11, 12]) rfl (by kernel_rfl) (fun _ _ _ h => h) (Or.inl ⟨by rfl, fun u hu => by obtain ⟨h1, h2⟩ := HS.out u hu; go_simp⟩) hHeld ?_
        dsimp only [Act.put]
        refine wpAnyL_take (i := 4) (v := .slice p l.length cp) (C := [4, 5, 6, 7, 8, 9, 11, 12]) rfl (by kernel_rfl) (fun _ _ _ h => h) (Or.inl ⟨by rfl, fun _ _ => by go_simp⟩) hHeld ?_
        dsimp only [Act.put]
        refine wpAnyL_two (i := 1) (j := 10) (by kernel_rfl) rfl rfl (fun K hK => ?_) (fun K hK => ?_)
        · rw [if_pos (by rfl)]
          go_simp
          go_wp2_with (go_at_call 6; refine (HCA.out _ hHeld).mono ?_; rintro e u1 ⟨tA, cA, rfl, oA, gg⟩)
          have hb1 : Below w21.heap.size w21 u1 := hHeld.trans (gg.mono hHeld.size)
          clear gg
          refine hK.out _ _ (fun _ => hb1) ?_
          clear hK K hHeld
          have hHeld := hb1
          try dsimp only [Act.put]
          refine wpAnyL_two (i := 3) (j := 10) (by kernel_rfl) rfl rfl (fun K hK => ?_) (fun K hK => ?_)
          · rw [if_pos (by rfl)]
            go_simp
            go_wp2_with (go_at_call 6; refine (HCB.out _ hHeld).mono ?_; rintro e u2 ⟨tB, cB, rfl, oB, gg⟩)
            have oA_n := oA.on gg
            clear oA
            have oA := oA_n
            clear oA_n
            have hb2 : Below w21.heap.size w21 u2 := hHeld.trans (gg.mono hHeld.size)
            clear gg
            refine hK.out _ _ (fun _ => hb2) ?_
            clear hK K hHeld
            have hHeld := hb2
            try dsimp only [Act.put]
            refine wpAnyL_two (i := 5) (j := 10) (by kernel_rfl) rfl rfl (fun K hK => ?_) (fun K hK => ?_)
            · rw [if_pos (by rfl)]
              go_simp
              go_wp2_with (go_at_call 7; refine (HCL.out _ hHeld).mono ?_; rintro e u3 ⟨tL, cL, rfl, oL, gg⟩)
              have oA_n := oA.on gg
              clear oA
              have oA := oA_n
              clear oA_n
              have oB_n := oB.on gg
              clear oB
              have oB := oB_n
              clear oB_n
              have hb3 : Below w21.heap.size w21 u3 := hHeld.trans (gg.mono hHeld.size)
              clear gg
              refine hK.out _ _ (fun _ => hb3) ?_
              clear hK K hHeld
              have hHeld := hb3
              try dsimp only [Act.put]
              refine wpAnyL_two (i := 6) (j := 10) (by kernel_rfl) rfl rfl (fun K hK => ?_) (fun K hK => ?_)
              · rw [if_pos (by rfl)]
                go_simp
                go_wp2_with (go_at_call 8; refine (H11.out _ _ _ _ _ _ _ oA oB HFl.out oL).mono ?_; rintro e u4 ⟨q, r, rfl, oC, gg⟩)
                have hhi : u4.heap.size ≤ u4.heap.size := Nat.le_refl _
                have hb4 : Below w21.heap.size w21 u4 := hHeld.trans (gg.mono hHeld.size)
                have hlo : w21.heap.size ≤ u3.heap.size := hHeld.size
                clear gg
                refine hK.out _ _ (fun _ => hb4) ?_
                clear hK K hHeld
                have hHeld := hb4
                try dsimp only [Act.put]
                refine wpAnyL_take (i := 7) (v := .tuple #[.agg #[.slice q V.length r], .bool x0]) (C := [7, 8, 9, 11, 12]) rfl (by kernel_rfl) (fun _ _ _ h => h) (Or.inl ⟨by rfl, fun _ _ => by go_simp⟩) hHeld ?_
                dsimp only [Act.put]
                refine wpAnyL_take (i := 8) (v := .agg #[.slice q V.length r]) (C := [8, 11, 12]) rfl (by kernel_rfl) (fun _ _ _ h => h) (Or.inl ⟨by rfl, fun _ _ => by go_simp⟩) hHeld ?_
                dsimp only [Act.put]
                refine wpAnyL_take (i := 9) (v := .bool x0) (C := [9, 12]) rfl (by kernel_rfl) (fun _ _ _ h => h) (Or.inl ⟨by rfl, fun _ _ => by go_simp⟩) hHeld ?_
                dsimp only [Act.put]
                refine wpAnyL_one (i := 10) (by kernel_rfl) rfl (fun K hK => ?_)
                rw [if_pos (by rfl)]
                go_simp
                have gb := boxB u4 (.cells #[.slice none 0 0] 29)
                have hbx := heap_last u4 (.cells #[.slice none 0 0] 29)
                have hb5 : Below w21.heap.size w21 (u4.alloc (.cells #[.slice none 0 0] 29)) := hHeld.trans (gb.mono hHeld.size)
                have hbo : u4.heap.size < (u4.alloc (.cells #[.slice none 0 0] 29)).heap.size := by rw [heap_size]; omega
                have hbw : w21.heap.size ≤ u4.heap.size := hHeld.size
                have oC_n := oC.on gb
                clear oC
                have oC := oC_n
                clear oC_n
                have hap : u4.heap.size < u3.heap.size ∨ u4.heap.size ≤ u4.heap.size := Or.inr (Nat.le_refl _)
                have hhi : u4.heap.size ≤ (u4.alloc (.cells #[.slice none 0 0] 29)).heap.size := by omega
                refine hK.out _ _ (fun _ => hb5) ?_
                clear hK K hHeld
                have hHeld := hb5
                clear gb
                try dsimp only [Act.put]
                generalize hW5 : u4.alloc (.cells #[.slice none 0 0] 29) = u5 at *
                clear hW5
                have hc0 := box_cell hbx 0
                have hf0 := box_free hbx 0
                have hbx2 := box_set hbx 0 (.slice q V.length r)
                have hbe : Below w21.heap.size w21 (u5.setCell ⟨u4.heap.size, 0, none⟩ (.slice q V.length r)) := setB hHeld (u4.heap.size) 0 hbw _
                have oD := oC.set (u4.heap.size) 0 (.slice q V.length r) hap
                have hsz : (u5.setCell ⟨u4.heap.size, 0, none⟩ (.slice q V.length r)).heap.size = u5.heap.size := by simp [World.setCell]
                refine wpAnyL_one (i := 11) (by kernel_rfl) rfl (fun K hK => ?_)
                rw [if_pos (by rfl)]
                go_simp
                refine hK.out _ _ (fun _ => hbe) ?_
                clear hK K hc0 hf0
                try dsimp only [Act.put]
                refine wpAnyL_one (i := 12) (by kernel_rfl) rfl (fun K hK => ?_)
                rw [if_pos (by rfl)]
                go_simp
                refine hK.out _ _ (fun h => absurd rfl h) ?_
                clear hK K
                try dsimp only [Act.put]
                refine wpAnyL_done (by kernel_rfl) ?_
                generalize (u5.setCell ⟨u4.heap.size, 0, none⟩ (.slice q V.length r)) = W7 at *
                go_wp2_with fail
                go_meet
                case rel => exact ⟨u4.heap.size, q, r, _, _, rfl, rfl, hbx2, oD, hbe, hbw, hlo, by omega, hap⟩
              · rw [if_pos (by rfl)]
                go_simp
                have gb := boxB u3 (.cells #[.slice none 0 0] 29)
                have hbx := heap_last u3 (.cells #[.slice none 0 0] 29)
                have hb4 : Below w21.heap.size w21 (u3.alloc (.cells #[.slice none 0 0] 29)) := hHeld.trans (gb.mono hHeld.size)
                have hbo : u3.heap.size < (u3.alloc (.cells #[.slice none 0 0] 29)).heap.size := by rw [heap_size]; omega
                have hbw : w21.heap.size ≤ u3.heap.size := hHeld.size
                have oA_n := oA.on gb
                clear oA
                have oA := oA_n
                clear oA_n
                have oB_n := oB.on gb
                clear oB
                have oB := oB_n
                clear oB_n
                have oL_n := (oL.below gb).mono gb.size
                clear oL
                have oL := oL_n
                clear oL_n
                refine hK.out _ _ (fun _ => hb4) ?_
                clear hK K hHeld
                have hHeld := hb4
                clear gb
                try dsimp only [Act.put]
                generalize hW4 : u3.alloc (.cells #[.slice none 0 0] 29) = u4 at *
                generalize hBx : u3.heap.size = Bx at *
                clear hBx
                clear hW4
                refine wpAnyL_one (i := 6) (by kernel_rfl) rfl (fun K hK => ?_)
                rw [if_pos (by rfl)]
                go_simp
                go_wp2_with (go_at_call 8; refine (H11.out _ _ _ _ _ _ _ oA oB HFl.out oL).mono ?_; rintro e u5 ⟨q, r, rfl, oC, gg⟩)
                have hhi : u5.heap.size ≤ u5.heap.size := Nat.le_refl _
                have hap : Bx < u4.heap.size ∨ u5.heap.size ≤ Bx := Or.inl hbo
                have hb5 : Below w21.heap.size w21 u5 := hHeld.trans (gg.mono hHeld.size)
                have hlo : w21.heap.size ≤ u4.heap.size := hHeld.size
                have hbx_n := (gg.block _ hbo).trans hbx
                clear hbx
                have hbx := hbx_n
                clear hbx_n
                have hbo_n := Nat.lt_of_lt_of_le hbo gg.size
                clear hbo
                have hbo := hbo_n
                clear hbo_n
                clear gg
                refine hK.out _ _ (fun _ => hb5) ?_
                clear hK K hHeld
                have hHeld := hb5
                try dsimp only [Act.put]
                refine wpAnyL_take (i := 7) (v := .tuple #[.agg #[.slice q V.length r], .bool x0]) (C := [7, 8, 9, 11, 12]) rfl (by kernel_rfl) (fun _ _ _ h => h) (Or.inl ⟨by rfl, fun _ _ => by go_simp⟩) hHeld ?_
                dsimp only [Act.put]
                refine wpAnyL_take (i := 8) (v := .agg #[.slice q V.length r]) (C := [8, 11, 12]) rfl (by kernel_rfl) (fun _ _ _ h => h) (Or.inl ⟨by rfl, fun _ _ => by go_simp⟩) hHeld ?_
                dsimp only [Act.put]
                refine wpAnyL_take (i := 9) (v := .bool x0) (C := [9, 12]) rfl (by kernel_rfl) (fun _ _ _ h => h) (Or.inl ⟨by rfl, fun _ _ => by go_simp⟩) hHeld ?_
                dsimp only [Act.put]
                have hc0 := box_cell hbx 0
                have hf0 := box_free hbx 0
                have hbx2 := box_set hbx 0 (.slice q V.length r)
                have hbe : Below w21.heap.size w21 (u5.setCell ⟨Bx, 0, none⟩ (.slice q V.length r)) := setB hHeld (Bx) 0 hbw _
                have oD := oC.set (Bx) 0 (.slice q V.length r) hap
                have hsz : (u5.setCell ⟨Bx, 0, none⟩ (.slice q V.length r)).heap.size = u5.heap.size := by simp [World.setCell]
                refine wpAnyL_one (i := 11) (by kernel_rfl) rfl (fun K hK => ?_)
                rw [if_pos (by rfl)]
                go_simp
                refine hK.out _ _ (fun _ => hbe) ?_
                clear hK K hc0 hf0
                try dsimp only [Act.put]
                refine wpAnyL_one (i := 12) (by kernel_rfl) rfl (fun K hK => ?_)
                rw [if_pos (by rfl)]
                go_simp
                refine hK.out _ _ (fun h => absurd rfl h) ?_
                clear hK K
                try dsimp only [Act.put]
                refine wpAnyL_done (by kernel_rfl) ?_
                generalize (u5.setCell ⟨Bx, 0, none⟩ (.slice q V.length r)) = W7 at *
                go_wp2_with fail
                go_meet
                case rel => exact ⟨Bx, q, r, _, _, rfl, rfl, hbx2, oD, hbe, hbw, hlo, by omega, hap⟩
            · rw [if_pos (by rfl)]
              go_simp
              have gb := boxB u2 (.cells #[.slice none 0 0] 29)
              have hbx := heap_last u2 (.cells #[.slice none 0 0] 29)
              have hb3 : Below w21.heap.size w21 (u2.alloc (.cells #[.slice none 0 0] 29)) := hHeld.trans (gb.mono hHeld.size)
              have hbo : u2.heap.size < (u2.alloc (.cells #[.slice none 0 0] 29)).heap.size := by rw [heap_size]; omega
              have hbw : w21.heap.size ≤ u2.heap.size := hHeld.size
              have oA_n := oA.on gb
              clear oA
              have oA := oA_n
              clear oA_n
              have oB_n := oB.on gb
              clear oB
              have oB := oB_n
              clear oB_n
              refine hK.out _ _ (fun _ => hb3) ?_
              clear hK K hHeld
              have hHeld := hb3
              clear gb
              try dsimp only [Act.put]
              generalize hW3 : u2.alloc (.cells #[.slice none 0 0] 29) = u3 at *
              generalize hBx : u2.heap.size = Bx at *
              clear hBx
              clear hW3
              refine wpAnyL_one (i := 5) (by kernel_rfl) rfl (fun K hK => ?_)
              rw [if_pos (by rfl)]
              go_simp
              go_wp2_with (go_at_call 7; refine (HCL.out _ hHeld).mono ?_; rintro e u4 ⟨tL, cL, rfl, oL, gg⟩)
              have oA_n := oA.on gg
              clear oA
              have oA := oA_n
              clear oA_n
              have oB_n := oB.on gg
              clear oB
              have oB := oB_n
              clear oB_n
              have hb4 : Below w21.heap.size w21 u4 := hHeld.trans (gg.mono hHeld.size)
              have hbx_n := (gg.block _ hbo).trans hbx
              clear hbx
              have hbx := hbx_n
              clear hbx_n
              have hbo_n := Nat.lt_of_lt_of_le hbo gg.size
              clear hbo
              have hbo := hbo_n
              clear hbo_n
              clear gg
              refine hK.out _ _ (fun _ => hb4) ?_
              clear hK K hHeld
              have hHeld := hb4
              try dsimp only [Act.put]
              refine wpAnyL_one (i := 6) (by kernel_rfl) rfl (fun K hK => ?_)
              rw [if_pos (by rfl)]
              go_simp
              go_wp2_with (go_at_call 8; refine (H11.out _ _ _ _ _ _ _ oA oB HFl.out oL).mono ?_; rintro e u5 ⟨q, r, rfl, oC, gg⟩)
              have hhi : u5.heap.size ≤ u5.heap.size := Nat.le_refl _
              have hap : Bx < u4.heap.size ∨ u5.heap.size ≤ Bx := Or.inl hbo
              have hb5 : Below w21.heap.size w21 u5 := hHeld.trans (gg.mono hHeld.size)
              have hlo : w21.heap.size ≤ u4.heap.size := hHeld.size
              have hbx_n := (gg.block _ hbo).trans hbx
              clear hbx
              have hbx := hbx_n
              clear hbx_n
              have hbo_n := Nat.lt_of_lt_of_le hbo gg.size
              clear hbo
              have hbo := hbo_n
              clear hbo_n
              clear gg
              refine hK.out _ _ (fun _ => hb5) ?_
              clear hK K hHeld
              have hHeld := hb5
              try dsimp only [Act.put]
              refine wpAnyL_take (i := 7) (v := .tuple #[.agg #[.slice q V.length r], .bool x0]) (C := [7, 8, 9, 11, 12]) rfl (by kernel_rfl) (fun _ _ _ h => h) (Or.inl ⟨by rfl, fun _ _ => by go_simp⟩) hHeld ?_
              dsimp only [Act.put]
              refine wpAnyL_take (i := 8) (v := .agg #[.slice q V.length r]) (C := [8, 11, 12]) rfl (by kernel_rfl) (fun _ _ _ h => h) (Or.inl ⟨by rfl, fun _ _ => by go_simp⟩) hHeld ?_
              dsimp only [Act.put]
              refine wpAnyL_take (i := 9) (v := .bool x0) (C := [9, 12]) rfl (by kernel_rfl) (fun _ _ _ h => h) (Or.inl ⟨by rfl, fun _ _ => by go_simp⟩) hHeld ?_
              dsimp only [Act.put]
              have hc0 := box_cell hbx 0
              have hf0 := box_free hbx 0
              have hbx2 := box_set hbx 0 (.slice q V.length r)
              have hbe : Below w21.heap.size w21 (u5.setCell ⟨Bx, 0, none⟩ (.slice q V.length r)) := setB hHeld (Bx) 0 hbw _
              have oD := oC.set (Bx) 0 (.slice q V.length r) hap
              have hsz : (u5.setCell ⟨Bx, 0, none⟩ (.slice q V.length r)).heap.size = u5.heap.size := by simp [World.setCell]
              refine wpAnyL_one (i := 11) (by kernel_rfl) rfl (fun K hK => ?_)
              rw [if_pos (by rfl)]
              go_simp
              refine hK.out _ _ (fun _ => hbe) ?_
              clear hK K hc0 hf0
              try dsimp only [Act.put]
              refine wpAnyL_one (i := 12) (by kernel_rfl) rfl (fun K hK => ?_)
              rw [if_pos (by rfl)]
              go_simp
              refine hK.out _ _ (fun h => absurd rfl h) ?_
              clear hK K
              try dsimp only [Act.put]
              refine wpAnyL_done (by kernel_rfl) ?_
              generalize (u5.setCell ⟨Bx, 0, none⟩ (.slice q V.length r)) = W7 at *
              go_wp2_with fail
              go_meet
              case rel => exact ⟨Bx, q, r, _, _, rfl, rfl, hbx2, oD, hbe, hbw, hlo, by omega, hap⟩
          · rw [if_pos (by rfl)]
            go_simp
            have gb := boxB u1 (.cells #[.slice none 0 0] 29)
            have hbx := heap_last u1 (.cells #[.slice none 0 0] 29)
            have hb2 : Below w21.heap.size w21 (u1.alloc (.cells #[.slice none 0 0] 29)) := hHeld.trans (gb.mono hHeld.size)
            have hbo : u1.heap.size < (u1.alloc (.cells #[.slice none 0 0] 29)).heap.size := by rw [heap_size]; omega
            have hbw : w21.heap.size ≤ u1.heap.size := hHeld.size
            have oA_n := oA.on gb
            clear oA
            have oA := oA_n
            clear oA_n
            refine hK.out _ _ (fun _ => hb2) ?_
            clear hK K hHeld
            have hHeld := hb2
            clear gb
            try dsimp only [Act.put]
            generalize hW2 : u1.alloc (.cells #[.slice none 0 0] 29) = u2 at *
            generalize hBx : u1.heap.size = Bx at *
            clear hBx
            clear hW2
            refine wpAnyL_one (i := 3) (by kernel_rfl) rfl (fun K hK => ?_)
            rw [if_pos (by rfl)]
            go_simp
            go_wp2_with (go_at_call 6; refine (HCB.out _ hHeld).mono ?_; rintro e u3 ⟨tB, cB, rfl, oB, gg⟩)
            have oA_n := oA.on gg
            clear oA
            have oA := oA_n
            clear oA_n
            have hb3 : Below w21.heap.size w21 u3 := hHeld.trans (gg.mono hHeld.size)
            have hbx_n := (gg.block _ hbo).trans hbx
            clear hbx
            have hbx := hbx_n
            clear hbx_n
            have hbo_n := Nat.lt_of_lt_of_le hbo gg.size
            clear hbo
            have hbo := hbo_n
            clear hbo_n
            clear gg
            refine hK.out _ _ (fun _ => hb3) ?_
            clear hK K hHeld
            have hHeld := hb3
            try dsimp only [Act.put]
            refine wpAnyL_one (i := 5) (by kernel_rfl) rfl (fun K hK => ?_)
            rw [if_pos (by rfl)]
            go_simp
            go_wp2_with (go_at_call 7; refine (HCL.out _ hHeld).mono ?_; rintro e u4 ⟨tL, cL, rfl, oL, gg⟩)
            have oA_n := oA.on gg
            clear oA
            have oA := oA_n
            clear oA_n
            have oB_n := oB.on gg
            clear oB
            have oB := oB_n
            clear oB_n
            have hb4 : Below w21.heap.size w21 u4 := hHeld.trans (gg.mono hHeld.size)
            have hbx_n := (gg.block _ hbo).trans hbx
            clear hbx
            have hbx := hbx_n
            clear hbx_n
            have hbo_n := Nat.lt_of_lt_of_le hbo gg.size
            clear hbo
            have hbo := hbo_n
            clear hbo_n
            clear gg
            refine hK.out _ _ (fun _ => hb4) ?_
            clear hK K hHeld
            have hHeld := hb4
            try dsimp only [Act.put]
            refine wpAnyL_one (i := 6) (by kernel_rfl) rfl (fun K hK => ?_)
            rw [if_pos (by rfl)]
            go_simp
            go_wp2_with (go_at_call 8; refine (H11.out _ _ _ _ _ _ _ oA oB HFl.out oL).mono ?_; rintro e u5 ⟨q, r, rfl, oC, gg⟩)
            have hhi : u5.heap.size ≤ u5.heap.size := Nat.le_refl _
            have hap : Bx < u4.heap.size ∨ u5.heap.size ≤ Bx := Or.inl hbo
            have hb5 : Below w21.heap.size w21 u5 := hHeld.trans (gg.mono hHeld.size)
            have hlo : w21.heap.size ≤ u4.heap.size := hHeld.size
            have hbx_n := (gg.block _ hbo).trans hbx
            clear hbx
            have hbx := hbx_n
            clear hbx_n
            have hbo_n := Nat.lt_of_lt_of_le hbo gg.size
            clear hbo
            have hbo := hbo_n
            clear hbo_n
            clear gg
            refine hK.out _ _ (fun _ => hb5) ?_
            clear hK K hHeld
            have hHeld := hb5
            try dsimp only [Act.put]
            refine wpAnyL_take (i := 7) (v := .tuple #[.agg #[.slice q V.length r], .bool x0]) (C := [7, 8, 9, 11, 12]) rfl (by kernel_rfl) (fun _ _ _ h => h) (Or.inl ⟨by rfl, fun _ _ => by go_simp⟩) hHeld ?_
            dsimp only [Act.put]
            refine wpAnyL_take (i := 8) (v := .agg #[.slice q V.length r]) (C := [8, 11, 12]) rfl (by kernel_rfl) (fun _ _ _ h => h) (Or.inl ⟨by rfl, fun _ _ => by go_simp⟩) hHeld ?_
            dsimp only [Act.put]
            refine wpAnyL_take (i := 9) (v := .bool x0) (C := [9, 12]) rfl (by kernel_rfl) (fun _ _ _ h => h) (Or.inl ⟨by rfl, fun _ _ => by go_simp⟩) hHeld ?_
            dsimp only [Act.put]
            have hc0 := box_cell hbx 0
            have hf0 := box_free hbx 0
            have hbx2 := box_set hbx 0 (.slice q V.length r)
            have hbe : Below w21.heap.size w21 (u5.setCell ⟨Bx, 0, none⟩ (.slice q V.length r)) := setB hHeld (Bx) 0 hbw _
            have oD := oC.set (Bx) 0 (.slice q V.length r) hap
            have hsz : (u5.setCell ⟨Bx, 0, none⟩ (.slice q V.length r)).heap.size = u5.heap.size := by simp [World.setCell]
            refine wpAnyL_one (i := 11) (by kernel_rfl) rfl (fun K hK => ?_)
            rw [if_pos (by rfl)]
            go_simp
            refine hK.out _ _ (fun _ => hbe) ?_
            clear hK K hc0 hf0
            try dsimp only [Act.put]
            refine wpAnyL_one (i := 12) (by kernel_rfl) rfl (fun K hK => ?_)
            rw [if_pos (by rfl)]
            go_simp
            refine hK.out _ _ (fun h => absurd rfl h) ?_
            clear hK K
            try dsimp only [Act.put]
            refine wpAnyL_done (by kernel_rfl) ?_
            generalize (u5.setCell ⟨Bx, 0, none⟩ (.slice q V.length r)) = W7 at *
            go_wp2_with fail
            go_meet
            case rel => exact ⟨Bx, q, r, _, _, rfl, rfl, hbx2, oD, hbe, hbw, hlo, by omega, hap⟩
        · rw [if_pos (by rfl)]
          go_simp
          have gb := boxB Wd (.cells #[.slice none 0 0] 29)
          have hbx := heap_last Wd (.cells #[.slice none 0 0] 29)
          have hb1 : Below w21.heap.size w21 (Wd.alloc (.cells #[.slice none 0 0] 29)) := hHeld.trans (gb.mono hHeld.size)
          have hbo : Wd.heap.size < (Wd.alloc (.cells #[.slice none 0 0] 29)).heap.size := by rw [heap_size]; omega
          have hbw : w21.heap.size ≤ Wd.heap.size := hHeld.size
          refine hK.out _ _ (fun _ => hb1) ?_
          clear hK K hHeld
          have hHeld := hb1
          clear gb
          try dsimp only [Act.put]
          generalize hW1 : Wd.alloc (.cells #[.slice none 0 0] 29) = u1 at *
          generalize hBx : Wd.heap.size = Bx at *
          clear hBx
          clear hW1
          refine wpAnyL_one (i := 1) (by kernel_rfl) rfl (fun K hK => ?_)
          rw [if_pos (by rfl)]
          go_simp
          go_wp2_with (go_at_call 6; refine (HCA.out _ hHeld).mono ?_; rintro e u2 ⟨tA, cA, rfl, oA, gg⟩)
          have hb2 : Below w21.heap.size w21 u2 := hHeld.trans (gg.mono hHeld.size)
          have hbx_n := (gg.block _ hbo).trans hbx
          clear hbx
          have hbx := hbx_n
          clear hbx_n
          have hbo_n := Nat.lt_of_lt_of_le hbo gg.size
          clear hbo
          have hbo := hbo_n
          clear hbo_n
          clear gg
          refine hK.out _ _ (fun _ => hb2) ?_
          clear hK K hHeld
          have hHeld := hb2
          try dsimp only [Act.put]
          refine wpAnyL_one (i := 3) (by kernel_rfl) rfl (fun K hK => ?_)
          rw [if_pos (by rfl)]
          go_simp
          go_wp2_with (go_at_call 6; refine (HCB.out _ hHeld).mono ?_; rintro e u3 ⟨tB, cB, rfl, oB, gg⟩)
          have oA_n := oA.on gg
          clear oA
          have oA := oA_n
          clear oA_n
          have hb3 : Below w21.heap.size w21 u3 := hHeld.trans (gg.mono hHeld.size)
          have hbx_n := (gg.block _ hbo).trans hbx
          clear hbx
          have hbx := hbx_n
          clear hbx_n
          have hbo_n := Nat.lt_of_lt_of_le hbo gg.size
          clear hbo
          have hbo := hbo_n
          clear hbo_n
          clear gg
          refine hK.out _ _ (fun _ => hb3) ?_
          clear hK K hHeld
          have hHeld := hb3
          try dsimp only [Act.put]
          refine wpAnyL_one (i := 5) (by kernel_rfl) rfl (fun K hK => ?_)
          rw [if_pos (by rfl)]
          go_simp
          go_wp2_with (go_at_call 7; refine (HCL.out _ hHeld).mono ?_; rintro e u4 ⟨tL, cL, rfl, oL, gg⟩)
          have oA_n := oA.on gg
          clear oA
          have oA := oA_n
          clear oA_n
          have oB_n := oB.on gg
          clear oB
          have oB := oB_n
          clear oB_n
          have hb4 : Below w21.heap.size w21 u4 := hHeld.trans (gg.mono hHeld.size)
          have hbx_n := (gg.block _ hbo).trans hbx
          clear hbx
          have hbx := hbx_n
          clear hbx_n
          have hbo_n := Nat.lt_of_lt_of_le hbo gg.size
          clear hbo
          have hbo := hbo_n
          clear hbo_n
          clear gg
          refine hK.out _ _ (fun _ => hb4) ?_
          clear hK K hHeld
          have hHeld := hb4
          try dsimp only [Act.put]
          refine wpAnyL_one (i := 6) (by kernel_rfl) rfl (fun K hK => ?_)
          rw [if_pos (by rfl)]
          go_simp
          go_wp2_with (go_at_call 8; refine (H11.out _ _ _ _ _ _ _ oA oB HFl.out oL).mono ?_; rintro e u5 ⟨q, r, rfl, oC, gg⟩)
          have hhi : u5.heap.size ≤ u5.heap.size := Nat.le_refl _
          have hap : Bx < u4.heap.size ∨ u5.heap.size ≤ Bx := Or.inl hbo
          have hb5 : Below w21.heap.size w21 u5 := hHeld.trans (gg.mono hHeld.size)
          have hlo : w21.heap.size ≤ u4.heap.size := hHeld.size
          have hbx_n := (gg.block _ hbo).trans hbx
          clear hbx
          have hbx := hbx_n
          clear hbx_n
          have hbo_n := Nat.lt_of_lt_of_le hbo gg.size
          clear hbo
          have hbo := hbo_n
          clear hbo_n
          clear gg
          refine hK.out _ _ (fun _ => hb5) ?_
          clear hK K hHeld
          have hHeld := hb5
          try dsimp only [Act.put]
          refine wpAnyL_take (i := 7) (v := .tuple #[.agg #[.slice q V.length r], .bool x0]) (C := [7, 8, 9, 11, 12]) rfl (by kernel_rfl) (fun _ _ _ h => h) (Or.inl ⟨by rfl, fun _ _ => by go_simp⟩) hHeld ?_
          dsimp only [Act.put]
          refine wpAnyL_take (i := 8) (v := .agg #[.slice q V.length r]) (C := [8, 11, 12]) rfl (by kernel_rfl) (fun _ _ _ h => h) (Or.inl ⟨by rfl, fun _ _ => by go_simp⟩) hHeld ?_
          dsimp only [Act.put]
          refine wpAnyL_take (i := 9) (v := .bool x0) (C := [9, 12]) rfl (by kernel_rfl) (fun _ _ _ h => h) (Or.inl ⟨by rfl, fun _ _ => by go_simp⟩) hHeld ?_
          dsimp only [Act.put]
          have hc0 := box_cell hbx 0
          have hf0 := box_free hbx 0
          have hbx2 := box_set hbx 0 (.slice q V.length r)
          have hbe : Below w21.heap.size w21 (u5.setCell ⟨Bx, 0, none⟩ (.slice q V.length r)) := setB hHeld (Bx) 0 hbw _
          have oD := oC.set (Bx) 0 (.slice q V.length r) hap
          have hsz : (u5.setCell ⟨Bx, 0, none⟩ (.slice q V.length r)).heap.size = u5.heap.size := by simp [World.setCell]
          refine wpAnyL_one (i := 11) (by kernel_rfl) rfl (fun K hK => ?_)
          rw [if_pos (by rfl)]
          go_simp
          refine hK.out _ _ (fun _ => hbe) ?_
          clear hK K hc0 hf0
          try dsimp only [Act.put]
          refine wpAnyL_one (i := 12) (by kernel_rfl) rfl (fun K hK => ?_)
          rw [if_pos (by rfl)]
          go_simp
          refine hK.out _ _ (fun h => absurd rfl h) ?_
          clear hK K
          try dsimp only [Act.put]
          refine wpAnyL_done (by kernel_rfl) ?_
          generalize (u5.setCell ⟨Bx, 0, none⟩ (.slice q V.length r)) = W7 at *
          go_wp2_with fail
          go_meet
          case rel => exact ⟨Bx, q, r, _, _, rfl, rfl, hbx2, oD, hbe, hbw, hlo, by omega, hap⟩
      case rest =>
      obtain ⟨QQ, Qq, Qr, Qlo, Qhi, rfl, rfl, Qbx, Qo, Qg, Qw, Ql, Qh, Qa⟩ := hcut
      obtain ⟨w22, hrn⟩ : ∃ v, v = wc := ⟨_, rfl⟩
      subst hrn
      clear HS HCA HCB HCL
      have s22 := Qg.size
      have B_22 : Hid (Below w0.heap.size w0 w22) := B_21.out.trans (Qg.mono B_21.out.size)
      have W_22 : Hid (Ys w3.heap.size Wq V w22) := W_21.out.below (Qg.mono (by omega))
      have Wk_22 : Hid (w22.heap[WQ]? = some (.cells #[.slice Wq V.length Wr] 29)) := (Qg.block _ (kboxS Wk_21.out)).trans Wk_21.out
      have G_22 : Hid (OwnK w8.heap.size w9.heap.size Gq (kmarks V 1) w22) := G_21.out.on Qg
      have Gk_22 : Hid (w22.heap[w9.heap.size]? = some (.cells #[.slice Gq V.length Gr] 29)) := (Qg.block _ (kboxS Gk_21.out)).trans Gk_21.out
      clear B_21 W_21 Wk_21 G_21 Gk_21
      have Q_22 : Hid (OwnK Qlo Qhi Qq V w22) := Qo
      have Qk_22 : Hid (w22.heap[QQ]? = some (.cells #[.slice Qq V.length Qr] 29)) := Qbx
      have Qz := kboxS Qbx
      clear Qo Qbx Qg
      have y1 : w22.cell? ⟨QQ, 0, none⟩ = some (.slice Qq V.length Qr) := box_cell Qk_22.out 0
      have y2 : w22.cell? ⟨WQ, 0, none⟩ = some (.slice Wq V.length Wr) := box_cell Wk_22.out 0
      go_wp2_with fail
      refine (eqMarks_same Qq Wq Qr Wr V _ HV.out Q_22.out.ys (W_22.out.mono (by omega))).mono ?_
      rintro e w23 ⟨rfl, gE⟩
      clear y1 y2
      have s23 := gE.size
      have B_23 : Hid (Below w0.heap.size w0 w23) := B_22.out.trans (gE.mono B_22.out.size)
      have W_23 : Hid (Ys w3.heap.size Wq V w23) := W_22.out.below (gE.mono (by omega))
      have Wk_23 : Hid (w23.heap[WQ]? = some (.cells #[.slice Wq V.length Wr] 29)) := (gE.block _ (kboxS Wk_22.out)).trans Wk_22.out
      have G_23 : Hid (OwnK w8.heap.size w9.heap.size Gq (kmarks V 1) w23) := G_22.out.on gE
      have Gk_23 : Hid (w23.heap[w9.heap.size]? = some (.cells #[.slice Gq V.length Gr] 29)) := (gE.block _ (kboxS Gk_22.out)).trans Gk_22.out
      have Q_23 : Hid (OwnK Qlo Qhi Qq V w23) := Q_22.out.on gE
      have Qk_23 : Hid (w23.heap[QQ]? = some (.cells #[.slice Qq V.length Qr] 29)) := (gE.block _ (kboxS Qk_22.out)).trans Qk_22.out
      clear B_22 W_22 Wk_22 G_22 Gk_22 Q_22 Qk_22
      clear gE
      have y1 : w23.cell? ⟨w9.heap.size, 0, none⟩ = some (.slice Gq V.length Gr) := box_cell Gk_23.out 0
      go_wp2_with fail
      refine (heldMarks_any _ _ Gq Gr V _ HV.out G_23.out).mono ?_
      rintro e w24 ⟨rfl, gH⟩
      clear y1
      have s24 := gH.size
      have B_24 : Hid (Below w0.heap.size w0 w24) := B_23.out.trans (gH.mono B_23.out.size)
      have W_24 : Hid (Ys w3.heap.size Wq V w24) := W_23.out.below (gH.mono (by omega))
      have Wk_24 : Hid (w24.heap[WQ]? = some (.cells #[.slice Wq V.length Wr] 29)) := (gH.block _ (kboxS Wk_23.out)).trans Wk_23.out
      have G_24 : Hid (OwnK w8.heap.size w9.heap.size Gq (kmarks V 1) w24) := G_23.out.on gH
      have Gk_24 : Hid (w24.heap[w9.heap.size]? = some (.cells #[.slice Gq V.length Gr] 29)) := (gH.block _ (kboxS Gk_23.out)).trans Gk_23.out
      have Q_24 : Hid (OwnK Qlo Qhi Qq V w24) := Q_23.out.on gH
      have Qk_24 : Hid (w24.heap[QQ]? = some (.cells #[.slice Qq V.length Qr] 29)) := (gH.block _ (kboxS Qk_23.out)).trans Qk_23.out
      clear B_23 W_23 Wk_23 G_23 Gk_23 Q_23 Qk_23
      clear gH
      go_wp2_with fail
      go_ret
      exact ⟨rfl, HB0.out.trans (B_24.out.mono HB0.out.size)⟩
theorem walk_CopyBlocks (a : Option Addr) (c : Nat) (A : List Ly) (b : Option Addr) (d : Nat) (B : List Ly) (p : Option Addr) (cp : Nat) (l : List Int) (w : World) (hnA : A.length ≤ 9223372036854775807) (hzA : ∀ s ∈ A, cntY s) (hGA : Ys w.heap.size a A w) (hnB : B.length ≤ 9223372036854775807) (hzB : ∀ s ∈ B, cntY s) (hGB : Ys w.heap.size b B w) (_hl : ∀ x ∈ l, fit x) (_hn : l.length ≤ 9223372036854775807) (hGl : Is w.heap.size p l w) :
    Calls Try.prog 3 #[.agg #[.slice a A.length c], .agg #[.slice b B.length d], .slice p l.length cp] w fun e w' => e = .returned (.bool true) ∧ Below w.heap.size w w' :=
  law_CopyBlocks a c b d p cp A B l w hnA hzA hGA hnB hzB hGB hGl (fun _ _ _ => ⟨(cpbK A B l).1, (cpbK A B l).2, cpb_fit A B l, fun a c b d p cp v h1 h2 h3 h4 => scopy_any a b c d A B p cp l v h1 h2 h3 h4, fun a c b d p cp v h1 h2 h3 h4 => icopy_any a b c d A B p cp l v h1 h2 h3 h4⟩)
end Go.Proofs.Ytlifhakgboekfab
