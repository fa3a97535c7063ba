/- Walk of the program's stretchesOf. -/
import Derived.Test.YtgipkpldlkmdkaaXOwn
import Derived.Test.YtgipkpldlkmdkaaXG
import Derived.Test.YtgipkpldlkmdkaaAr
import Derived.Laws.AppendOwn
namespace Go.Proofs.Ytgipkpldlkmdkaa
set_option maxRecDepth 100000
open Go.ChangeShapes Go.WideShapes Go.ChangeAt Go.RowKit G00541
theorem index_ar (f : Nat → Int) (k : Nat) (hk : k < 16) (W : World) : (Instr.index 61 (.agg (arr f)) (.int .i64 k)).run Try.prog W = .ok (.int .i64 (f k)) W := by
  have hq := arr_at f k hk
  simp [Instr.index, go_sem, run_underlying Try.underlying61, hq]
  intro h; omega
set_option maxHeartbeats 4000000 in
theorem stretchesOf_any (f : Nat → Int) (hf : ∀ b, b < 16 → -1 ≤ f b ∧ f b ≤ 10000) (w : World) :
    Calls Try.prog 35 #[.agg (arr f)] w fun e w' => ∃ v, e = .returned v ∧ w'.ownsRow w.heap.size 36 3 v (mapF f 16).length (xflat (mapF f 16)) ∧ Below w.heap.size w w' := by
  obtain ⟨i0, hi, hz0, hz1, hz2⟩ := info_parts infoXs
  have HA : Hid (Ar w.heap.size f (w.alloc (.cells (arr f) 61))) := Ar.new w f 61
  have HF : Hid (∀ b, b < 16 → -1 ≤ f b ∧ f b ≤ 10000) := hf
  have hix := index_ar f
  clear hf
  go_enter Try.func35, Try.ntmps35
  go_wp2_with (first | refine wpList_load_ar HA.out rfl _ rfl rfl ?_ | fail)
  go_loopw [3, 8] (fun o i wr => ∃ (k : Nat) (o1 : Value), k ≤ 16 ∧ i = .int .i64 k ∧ o = o1 ∧ wr.ownsRow w.heap.size 36 3 o1 (mapF f k).length (xflat (mapF f k)) ∧ Below w.heap.size w wr) (fun _ i _ => 16 - (intOf i).toNat)
  case atStart => exact ⟨0, _, by omega, rfl, rfl, World.ownsRow_nil _ _ _ _, (Below.refl _ _).alloc (Nat.le_refl _) _⟩
  case round =>
    obtain ⟨k, _, hk, rfl, rfl, hown, hbel⟩ := hrel
    have HBEL : Hid (Below w.heap.size w wr) := hbel
    have hszr := hbel.size
    have KP := kept f HF.out k hk
    have hmany := KP.many
    clear hbel
    by_cases hlt : k < 16
    · have hx := hix k hlt
      have hb0 := (HF.out k hlt).1
      have hb1 := (HF.out k hlt).2
      clear hix
      have hstep : mapF f (k + 1) = stepM (mapF f k) k (f k) := rfl
      generalize mapF f k = m at *
      generalize f k = q at *
      have hone := xcells_one ⟨k, 1, q⟩
      have hcs : xcells ⟨k, 1, q⟩ = [.int .i64 (k : Int), .int .i64 1, .int .i64 q] := rfl
      generalize hrc : xcells ⟨k, 1, q⟩ = cs at *
      have HF1 : Hid (∀ l, xflat (l ++ [⟨k, 1, q⟩]) = xflat l ++ cs) := fun l => by rw [← hrc]; exact xflat_snoc l _
      have HRC : Hid (cs = [.int .i64 (k : Int), .int .i64 1, .int .i64 q]) := hcs
      clear hcs hrc
      by_cases hp : q < 0
      · have hp1 : (q == -1) = true := beq_iff_eq.2 (by omega)
        have HN : Hid (mapF f (k + 1) = m) := by show mapF f (k + 1) = m; rw [hstep]; exact stepM_none _ _ _ hp
        have HOWN : Hid (wr.ownsRow w.heap.size 36 3 u3 m.length (xflat m)) := hown
        obtain ⟨a, c, rfl⟩ := own_shape hown
        clear hown hstep KP
        go_wp2
        go_roundw
        case rel => exact ⟨k + 1, _, by omega, by go_num, rfl, by rw [HN.out]; exact HOWN.out, HBEL.out⟩
        case measure => simp [intOf]; omega
      · have hp1 : (q == -1) = false := beq_eq_false_iff_ne.2 (by omega)
        by_cases hm : m = []
        · subst hm
          have HN : Hid (mapF f (k + 1) = [] ++ [⟨k, 1, q⟩]) := by show mapF f (k + 1) = _; rw [hstep]; exact stepM_nil _ _ (by omega)
          have HOWN : Hid (wr.ownsRow w.heap.size 36 3 u3 ([] : List Sx).length (xflat [])) := hown
          obtain ⟨a, c, rfl⟩ := own_shape hown
          simp only [List.length_nil]
          clear hown hstep KP
          have hd0 : decide ((0 : Int) ≤ (((0 : Nat) : Int) - 1)) = false := by decide
          go_wp2_with (at_builtin; refine wpList_append_own _ rfl (.tmp 15) (.tmp 19) 25 rfl w.heap.size 36 i0 _ 3 24 Try.underlying25 hi hz0 hz1 hz2 rfl (by decide) (.slice a 0 c) 0 (xflat []) rfl ?own ⟨wr.heap.size, 0, none⟩ 1 1 cs rfl ?len ?news hone ?c3 ?c4 ?c5 ?_)
          case own => exact HOWN.out.alloc _
          case len => rw [HRC.out]; rfl
          case news =>
            rw [HRC.out]
            intro j u hj
            match j, hj with
            | 0, hj => simp at hj; subst hj; go_simp
            | 1, hj => simp at hj; subst hj; go_simp
            | 2, hj => simp at hj; subst hj; go_simp
          case c3 => unfold maxLen; omega
          case c5 => omega
          intro v' w9 hown9 hgrow hnil
          have HOWN9 : Hid (w9.ownsRow w.heap.size 36 3 v' (mapF f (k + 1)).length (xflat (mapF f (k + 1)))) := by
            show w9.ownsRow w.heap.size 36 3 v' (mapF f (k + 1)).length (xflat (mapF f (k + 1)))
            rw [HN.out, HF1.out]
            exact hown9
          have HB9 : Hid (Below w.heap.size w w9) := (HBEL.out.alloc hszr _).grown hgrow (by simp; omega) (fun j hj => (HOWN.out.lt j hj).1)
          clear hown9 hgrow hnil
          go_wp2
          go_roundw
          case rel => exact ⟨k + 1, _, by omega, by go_num, rfl, HOWN9.out, HB9.out⟩
          case measure => simp [intOf]; omega
        · obtain ⟨L, y, rfl⟩ := snoc_of m hm
          have hgy := KP.good
          rw [goodM_snoc, Bool.and_eq_true, Bool.and_eq_true, goodX_iff] at hgy
          have gy := hgy.1.2
          have hll : (L ++ [y]).length = L.length + 1 := by simp
          rw [hll] at hmany
          rw [stepM_snoc _ _ _ _ (by omega)] at hstep
          have HG : Hid (∀ v, Calls Try.prog 52 #[.agg #[.int .i64 y.at_, .int .i64 y.long, .int .i64 y.place], .int .i64 k, .int .i64 q] v fun e w' => e = .returned (.bool (decide (y.at_ + y.long = k ∧ y.place + y.long = q))) ∧ Below v.heap.size v w') := fun v => goesOn_any _ _ _ _ _ v (by omega) (by omega) (by omega)
          have HOWN : Hid (wr.ownsRow w.heap.size 36 3 u3 (L ++ [y]).length (xflat (L ++ [y]))) := hown
          obtain ⟨g, cap, rfl, hBg, hgl, c0, c1, c2, _, _⟩ := own_last hown
          by_cases hgo : y.at_ + y.long = k ∧ y.place + y.long = q
          · rw [if_pos hgo] at hstep
            rw [decide_eq_true hgo] at HG
            have hyl : y.long ≤ 16 := gy.2.1
            have hyl1 : 1 ≤ y.long := gy.1
            have HN : Hid (mapF f (k + 1) = L ++ [⟨y.at_, y.long + 1, y.place⟩]) := hstep
            clear hown hstep KP hgy gy hgo hm
            have hd0 : decide ((0 : Int) ≤ (L.length : Int)) = true := by simp
            go_wp2_with fail
            refine (HG.out _).mono ?_
            rintro e w1 ⟨rfl, b1⟩
            have HB1 : Hid (Below w.heap.size w w1) := HBEL.out.trans (b1.mono hszr)
            have HO1 : Hid (w1.ownsRow w.heap.size 36 3 (.slice (some ⟨g, 0, none⟩) (L.length + 1) cap) (L ++ [y]).length (xflat (L ++ [y]))) := owns_below HOWN.out b1
            clear c0 c1 c2 b1 HOWN HBEL
            obtain ⟨g', cap', e1, _, _, c0, c1, c2, f1, hset⟩ := own_last HO1.out
            obtain ⟨rfl, rfl⟩ : g = g' ∧ cap = cap' := by simpa using e1
            have HSET : Hid (∀ n : Int, (w1.setCell ⟨g, L.length * 3 + 1, none⟩ (.int .i64 n)).ownsRow w.heap.size 36 3 (.slice (some ⟨g, 0, none⟩) (L.length + 1) cap) (L ++ [(⟨y.at_, n, y.place⟩ : Sx)]).length (xflat (L ++ [⟨y.at_, n, y.place⟩]))) := hset
            clear hset e1
            go_wp2
            go_roundw
            case rel => exact ⟨k + 1, _, by omega, by go_num, rfl, by rw [HN.out]; exact HSET.out _, HB1.out.setCell hBg _⟩
            case measure => simp [intOf]; omega
          · rw [if_neg hgo] at hstep
            rw [decide_eq_false hgo] at HG
            have HN : Hid (mapF f (k + 1) = (L ++ [y]) ++ [⟨k, 1, q⟩]) := hstep
            clear hown hstep KP hgy gy hgo hm
            have hd0 : decide ((0 : Int) ≤ (L.length : Int)) = true := by simp
            go_wp2_with fail
            refine (HG.out _).mono ?_
            rintro e w1 ⟨rfl, b1⟩
            have HB1 : Hid (Below w.heap.size w w1) := HBEL.out.trans (b1.mono hszr)
            have HO1 : Hid (w1.ownsRow w.heap.size 36 3 (.slice (some ⟨g, 0, none⟩) (L.length + 1) cap) (L.length + 1) (xflat (L ++ [y]))) := by
              have := owns_below HOWN.out b1
              rw [hll] at this
              exact this
            have hs1 := HB1.out.size
            clear c0 c1 c2 b1 HOWN HBEL HG
            have HC3 : Hid (L.length + 1 + 1 ≤ maxLen ∧ (L.length + 1 + 1) * 24 ≤ 140737488355328) := ⟨by unfold maxLen; omega, by omega⟩
            generalize hV : Value.slice (some ⟨g, 0, none⟩) (L.length + 1) cap = V at *
            clear hV
            go_wp2_with (at_builtin; refine wpList_append_own _ rfl (.tmp 15) (.tmp 19) 25 rfl w.heap.size 36 i0 _ 3 24 Try.underlying25 hi hz0 hz1 hz2 rfl (by decide) V (L.length + 1) (xflat (L ++ [y])) rfl ?own ⟨w1.heap.size, 0, none⟩ 1 1 cs rfl ?len ?news hone HC3.out.1 HC3.out.2 ?c5 ?_)
            case own => exact HO1.out.alloc _
            case len => rw [HRC.out]; rfl
            case news =>
              rw [HRC.out]
              intro j u hj
              match j, hj with
              | 0, hj => simp at hj; subst hj; go_simp
              | 1, hj => simp at hj; subst hj; go_simp
              | 2, hj => simp at hj; subst hj; go_simp
            case c5 => simp; omega
            intro v' w9 hown9 hgrow hnil
            have HOWN9 : Hid (w9.ownsRow w.heap.size 36 3 v' (mapF f (k + 1)).length (xflat (mapF f (k + 1)))) := by
              show w9.ownsRow w.heap.size 36 3 v' (mapF f (k + 1)).length (xflat (mapF f (k + 1)))
              rw [HN.out, HF1.out, List.length_append, hll]
              exact hown9
            have HB9 : Hid (Below w.heap.size w w9) := (HB1.out.alloc hs1 _).grown hgrow (by simp; omega) (fun j hj => (HO1.out.lt j hj).1)
            clear hown9 hgrow hnil
            go_wp2
            go_roundw
            case rel => exact ⟨k + 1, _, by omega, by go_num, rfl, HOWN9.out, HB9.out⟩
            case measure => simp [intOf]; omega
    · obtain rfl : k = 16 := by omega
      have HOWN : Hid (wr.ownsRow w.heap.size 36 3 u3 (mapF f 16).length (xflat (mapF f 16))) := hown
      clear hown KP
      go_wp2
      go_ret
      exact ⟨u3, rfl, HOWN.out, HBEL.out⟩
end Go.Proofs.Ytgipkpldlkmdkaa
