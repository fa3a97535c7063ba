/- Walks of PlacesOf: the model's and the program's. -/
import Derived.Test.YtgipkpldlkmdkaaIntO
import Derived.Deep.MidRow
import Derived.Laws.Cover3
namespace Go.Proofs.Ytgipkpldlkmdkaa
set_option maxRecDepth 100000
open Go.ChangeShapes Go.WideShapes Go.ChangeAt Go.RowKit G00541
/-- what PlacesOf tells -/
def PlOut (l : List Sx) (w : World) (e : Ending) (w' : World) : Prop := (goodM l = true ∧ IntOut (tab (plN l)) true w e w') ∨ (goodM l = false ∧ IntOut [] false w e w')
set_option maxHeartbeats 1000000 in
theorem splaces_any (a : Option Addr) (cap : Nat) (l : List Sx) (w : World) (hn : l.length ≤ 1048576) (hZ : Xs w.heap.size a l w) :
    Calls Try.prog 20 #[.slice a l.length cap] w fun e w' => PlOut l w e w' := by
  have HP := hid (sgood_any a cap l _ hn hZ)
  rcases Bool.eq_false_or_eq_true (goodM l) with hgm | hgm
  rotate_left
  · rw [hgm] at HP
    have HV := hid hgm
    clear hZ hgm
    go_enter Try.func20, Try.ntmps20
    go_wp2_with fail
    refine (HP.out).mono ?_
    rintro e w1 ⟨rfl, b1⟩
    have HB1 : Hid (Below w.heap.size w w1) := b1
    clear b1 HP
    go_wp2
    go_ret2
    exact Or.inr ⟨HV.out, IntOut.no HB1.out⟩
  · rw [hgm] at HP
    have HV := hid hgm
    have HLP := hid (fun v (g : Below w.heap.size w v) => l4Places_any a cap l v hn (chain_all none l hgm) (hZ.go g))
    have HPL : Hid (∀ e w', IntOut (tab (plN l)) true w e w' → PlOut l w e w') := fun e w' h => Or.inl ⟨hgm, h⟩
    clear hZ hgm HV
    generalize plN l = F at *
    go_enter Try.func20, Try.ntmps20
    go_wp2_with fail
    refine (HP.out).mono ?_
    rintro e w1 ⟨rfl, b1⟩
    have HB1 : Hid (Below w.heap.size w w1) := b1
    clear b1 HP
    go_wp2_with fail
    refine (HLP.out _ HB1.out).mono ?_
    rintro e w4 ⟨R, c4, rfl, hR, hrow, b4⟩
    have HB4 : Hid (Below w.heap.size w w4) := HB1.out.trans (b4.mono HB1.out.size)
    have hs1 := HB1.out.size
    have HROW : Hid (IRow R (tab F) w4) := hrow
    clear b4 hrow HB1 HLP
    go_wp2
    go_ret2
    exact HPL.out _ _ ⟨some ⟨R, 0, none⟩, c4, by rw [tab_len]; rfl, Or.inr ⟨R, by omega, HROW.out.lt, rfl, HROW.out⟩, HB4.out⟩
theorem sliceAll_ar (B : Nat) (W : World) : (Instr.sliceAt 61 (.pointer (some ⟨B, 0, none⟩)) none none none).run Try.prog W = .ok (.slice (some ⟨B, 0, none⟩) 16 16) W := by
  have hl : Try.prog.arrayLen 61 = 16 := by kernel_rfl
  have he : (Try.prog.info? (Try.prog.elem 61)).map (·.size) = some 1 := by kernel_rfl
  rw [run_sliceAt_array_all W 61 ⟨B, 0, none⟩ (by kernel_rfl)]
  cases hi : Try.prog.info? (Try.prog.elem 61) with
  | none => rw [hi] at he; cases he
  | some i =>
    rw [hi] at he
    have h1' : i.size = 1 := by simpa using he
    simp [sizeOf, typeInfo, hi, Result.andThen, slicedAt, Addr.add, hl]
theorem ivals_at (f : Nat → Int) (j : Nat) (u : Value) (h : (ivals (tab f))[j]? = some u) : j < 16 ∧ u = .int .i64 (f j) := by
  have hj : j < 16 := by
    rcases Nat.lt_or_ge j 16 with h' | h'
    · exact h'
    · rw [List.getElem?_eq_none (by simp [ivals, tab]; exact h')] at h; cases h
  refine ⟨hj, ?_⟩
  simp [ivals, tab, hj] at h
  exact h.symm
set_option maxHeartbeats 1000000 in
theorem clone_ar (B : Nat) (F : Nat → Int) (w : World) (hA : Ar B F w) :
    Calls Try.prog 39 #[.slice (some ⟨B, 0, none⟩) 16 16] w fun e w' => ∃ v, e = .returned v ∧ w'.ownsRow w.heap.size 3 1 v (tab F).length (ivals (tab F)) ∧ Below w.heap.size w w' := by
  obtain ⟨i0, hi, hz0, hz1, hz2⟩ := info_parts infoInt
  have HA : Hid (Ar B F w) := hA
  have HO : Hid ((w.alloc (.cells #[] 3)).ownsRow w.heap.size 3 1 (.slice (some ⟨w.heap.size, 0, none⟩) 0 0) 0 []) := World.ownsRow_made w #[] 0 (Nat.le_refl _) (by decide) rfl
  have HL : Hid ((tab F).length = 16) := tab_len F
  have HIL : Hid ((ivals (tab F)).length = 16) := by show (ivals (tab F)).length = 16; unfold ivals; rw [List.length_map]; exact tab_len F
  have HAT := hid (ivals_at F)
  have HC3 : Hid (0 + 16 ≤ maxLen ∧ (0 + 16) * 8 ≤ 140737488355328) := ⟨by unfold maxLen; omega, by omega⟩
  have HONE : Hid (∀ u ∈ ivals (tab F), u.oneCell' = true) := fun u hu => by
    simp only [ivals, List.mem_map] at hu
    obtain ⟨n, _, rfl⟩ := hu
    rfl
  have hnl : ∀ W, (binOp .eql 23 (.slice (some ⟨B, 0, none⟩) 16 16) (.slice none 0 0)).run Try.prog W = .ok (.bool false) W := fun W => by simp [binOp, run_equal_slice_nil W 23 3 (some ⟨B, 0, none⟩) 16 16 Try.underlying23]
  clear hA
  generalize tab F = T at *
  generalize ivals T = IV at *
  go_enter Try.func39, Try.ntmps39
  go_wp2_with (at_builtin; refine wpList_append_own _ rfl (.tmp 5) (.tmp 6) 23 rfl w.heap.size 3 i0 _ 1 8 Try.underlying23 hi hz0 hz1 hz2 rfl (by decide) (.slice (some ⟨w.heap.size, 0, none⟩) 0 0) 0 [] rfl ?own ⟨B, 0, none⟩ 16 16 IV rfl ?len ?news HONE.out HC3.out.1 HC3.out.2 ?c5 ?_)
  case own => exact HO.out
  case len => rw [HIL.out]
  case news =>
    intro j u hj
    obtain ⟨h1, rfl⟩ := HAT.out j u hj
    have := (HA.out.alloc (.cells #[] 3)).cell j h1
    rw [Addr.add_mid, Nat.zero_add]
    exact this
  case c5 => simp
  intro v' w9 hown9 hgrow hnil
  have HOWN9 : Hid (w9.ownsRow w.heap.size 3 1 v' T.length IV) := by
    show w9.ownsRow w.heap.size 3 1 v' T.length IV
    rw [HL.out]
    exact hown9
  have HB9 : Hid (Below w.heap.size w w9) := ((Below.refl _ _).alloc (Nat.le_refl _) _).grown hgrow (by simp) (fun j hj => (HO.out.lt j hj).1)
  clear hown9 hgrow hnil
  go_wp2
  go_ret
  exact ⟨v', rfl, HOWN9.out, HB9.out⟩
set_option maxHeartbeats 1000000 in
theorem iplaces_any (a : Option Addr) (cap : Nat) (l : List Sx) (w : World) (hn : l.length ≤ 1048576) (hfit : FitM l) (hZ : Xs w.heap.size a l w) :
    Calls Try.prog 9 #[.slice a l.length cap] w fun e w' => PlOut l w e w' := by
  rcases Bool.eq_false_or_eq_true (goodM l) with hgm | hgm
  rotate_left
  · have HP' := hid (placesIn_no a cap l _ hn hfit hZ hgm)
    have HV := hid hgm
    clear hZ hgm
    go_enter Try.func9, Try.ntmps9
    go_wp2_with fail
    refine (HP'.out).mono ?_
    rintro e w1 ⟨⟨F, rfl⟩, b1⟩
    have HA : Hid (Ar w1.heap.size (fun _ => 0) (w1.alloc (.cells (arr fun _ => 0) 61))) := Ar.new w1 _ 61
    have HB1 : Hid (Below w.heap.size w w1) := b1
    clear b1 HP'
    go_wp2_with (refine wpList_store_ar HA.out rfl _ _ rfl rfl rfl ?_; intro w2 ha2 hb2)
    have HB2 : Hid (Below w.heap.size w w2) := (HB1.out.alloc HB1.out.size _).trans (hb2.out.below HB1.out.size (by have := HB1.out.size; simp; omega))
    clear ha2 hb2
    go_ret2
    exact Or.inr ⟨HV.out, IntOut.no HB2.out⟩
  · have HP' := hid (placesIn_yes a cap l _ hfit hZ hgm)
    have HPL : Hid (∀ e w', IntOut (tab (plN l)) true w e w' → PlOut l w e w') := fun e w' h => Or.inl ⟨hgm, h⟩
    clear hZ hgm
    generalize plN l = F at *
    have hsl := sliceAll_ar
    go_enter Try.func9, Try.ntmps9
    go_wp2_with fail
    refine (HP'.out).mono ?_
    rintro e w1 ⟨rfl, b1⟩
    have HA : Hid (Ar w1.heap.size (fun _ => 0) (w1.alloc (.cells (arr fun _ => 0) 61))) := Ar.new w1 _ 61
    have HB1 : Hid (Below w.heap.size w w1) := b1
    clear b1 HP'
    go_wp2_with (first | (refine wpList_store_ar HA.out rfl _ _ rfl rfl rfl ?_; intro w2 ha2 hb2) | fail)
    have HB2 : Hid (Below w.heap.size w w2) := (HB1.out.alloc HB1.out.size _).trans (hb2.out.below HB1.out.size (by have := HB1.out.size; simp; omega))
    refine (clone_ar _ F _ ha2.out).mono ?_
    rintro e w5 ⟨u, rfl, hown, b5⟩
    have HB5 : Hid (Below w.heap.size w w5) := HB2.out.trans (b5.mono HB2.out.size)
    have HO : Hid (w5.ownsRow w.heap.size 3 1 u (tab F).length (ivals (tab F))) := own_le hown HB2.out.size
    clear hown b5 ha2 hb2
    go_wp2
    go_ret2
    exact HPL.out _ _ (IntOut.of HO.out HB5.out)
end Go.Proofs.Ytgipkpldlkmdkaa
