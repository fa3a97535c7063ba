/- Walk of the model's l4Map. -/
import Derived.Test.YtgipkpldlkmdkaaXOwn
import Derived.Test.YtgipkpldlkmdkaaTab
import Derived.Laws.AppendOwn
import Derived.Deep.QuietTactic
import Derived.BigQuiet
namespace Go.Proofs.Ytgipkpldlkmdkaa
set_option maxRecDepth 100000
open Go.ChangeShapes Go.WideShapes Go.ChangeAt Go.RowKit G00541
set_option maxHeartbeats 4000000 in
theorem l4Map_any (a : Option Addr) (cap : Nat) (f : Nat → Int) (hf : ∀ b, b < 16 → -1 ≤ f b ∧ f b ≤ 10000) (w : World) (hZ : Is w.heap.size a (tab f) w) :
    Calls Try.prog 37 #[.slice a 16 cap] w fun e w' => ∃ v, e = .returned v ∧ w'.ownsRow w.heap.size 36 3 v (mapF f 16).length (xflat (mapF f 16)) ∧ Below w.heap.size w w' := by
  obtain ⟨i0, hi, hz0, hz1, hz2⟩ := info_parts infoXs
  have HF : Hid (∀ b, b < 16 → -1 ≤ f b ∧ f b ≤ 10000) := hf
  obtain ⟨ba, off, rfl, hba, hcells⟩ := hZ.cell (by rw [tab_len]; omega)
  have HC : Hid (∀ i, i < 16 → w.cell? ⟨ba, off + i, none⟩ = some (.int .i64 (f i))) := fun i hi => by
    have := hcells i (by rw [tab_len]; exact hi)
    rw [tab_at] at this
    exact this
  clear hf hZ hcells
  go_enter Try.func37, Try.ntmps37
  go_wp2
  go_loopw [3, 9] (fun o i wr => ∃ (k : Nat) (o1 : Value), k ≤ 16 ∧ i = .int .i64 k ∧ o = o1 ∧ wr.ownsRow w.heap.size 36 3 o1 (mapF f k).length (xflat (mapF f k)) ∧ Below w.heap.size w wr) (fun _ i _ => 16 - (intOf i).toNat)
  case atStart => exact ⟨0, _, by omega, rfl, rfl, World.ownsRow_nil _ _ _ _, Below.refl _ _⟩
  case round =>
    obtain ⟨k, _, hk, rfl, rfl, hown, hbel⟩ := hrel
    have HBEL : Hid (Below w.heap.size w wr) := hbel
    have hszr := hbel.size
    have KP := kept f HF.out k hk
    have hmany := KP.many
    by_cases hlt : k < 16
    · have hx := (hbel.cell (p := ⟨ba, off + k, none⟩) hba).trans (HC.out k hlt)
      have hb0 := (HF.out k hlt).1
      have hb1 := (HF.out k hlt).2
      clear hbel
      have hstep : mapF f (k + 1) = stepM (mapF f k) k (f k) := rfl
      generalize mapF f k = m at *
      generalize f k = q at *
      have hone := xcells_one ⟨k, 1, q⟩
      have hcs : xcells ⟨k, 1, q⟩ = [.int .i64 (k : Int), .int .i64 1, .int .i64 q] := rfl
      generalize hrc : xcells ⟨k, 1, q⟩ = cs at *
      have HF1 : Hid (∀ l, xflat (l ++ [⟨k, 1, q⟩]) = xflat l ++ cs) := fun l => by rw [← hrc]; exact xflat_snoc l _
      have HRC : Hid (cs = [.int .i64 (k : Int), .int .i64 1, .int .i64 q]) := hcs
      clear hcs hrc
      by_cases hp : q < 0
      · have hp1 : decide (q < 0) = true := decide_eq_true hp
        have HN : Hid (mapF f (k + 1) = m) := by show mapF f (k + 1) = m; rw [hstep]; exact stepM_none _ _ _ hp
        have HOWN : Hid (wr.ownsRow w.heap.size 36 3 u3 m.length (xflat m)) := hown
        clear hown hstep KP
        go_wp2
        go_roundw
        case rel => exact ⟨k + 1, _, by omega, by go_num, rfl, by rw [HN.out]; exact HOWN.out, HBEL.out⟩
        case measure => simp [intOf]; omega
      · have hp1 : decide (q < 0) = false := decide_eq_false hp
        by_cases hm : m = []
        · subst hm
          have HN : Hid (mapF f (k + 1) = [] ++ [⟨k, 1, q⟩]) := by show mapF f (k + 1) = _; rw [hstep]; exact stepM_nil _ _ (by omega)
          have HOWN : Hid (wr.ownsRow w.heap.size 36 3 u3 ([] : List Sx).length (xflat [])) := hown
          obtain ⟨a, c, rfl⟩ := own_shape hown
          simp only [List.length_nil]
          clear hown hstep KP hp
          have hd0 : decide ((0 : Int) < ((0 : Nat) : Int)) = false := by decide
          go_wp2_with fail
          go_quiet (fail)
          have HO1 : Hid ((wr.drewN nq).ownsRow w.heap.size 36 3 (.slice a 0 c) 0 (xflat [])) := HOWN.out
          have HB1 : Hid (Below w.heap.size w (wr.drewN nq)) := ⟨HBEL.out.os, HBEL.out.tape, HBEL.out.output, HBEL.out.size, HBEL.out.block⟩
          have hs1 : w.heap.size ≤ (wr.drewN nq).heap.size := hszr
          generalize hW1 : wr.drewN nq = w1 at *
          clear hW1
          have HC3 : Hid (0 + 1 ≤ maxLen ∧ (0 + 1) * 24 ≤ 140737488355328) := ⟨by unfold maxLen; omega, by omega⟩
          generalize hV : Value.slice a 0 c = V at *
          clear hV HOWN hx
          go_wp2_with (at_builtin; refine wpList_append_own _ rfl (.tmp 63) (.tmp 67) 25 rfl w.heap.size 36 i0 _ 3 24 Try.underlying25 hi hz0 hz1 hz2 rfl (by decide) V 0 (xflat []) rfl ?own ⟨w1.heap.size, 0, none⟩ 1 1 cs rfl ?len ?news hone HC3.out.1 HC3.out.2 ?c5 ?_)
          case own => exact HO1.out.alloc _
          case len => rw [HRC.out]; rfl
          case news =>
            rw [HRC.out]
            intro j u hj
            match j, hj with
            | 0, hj => simp at hj; subst hj; go_simp
            | 1, hj => simp at hj; subst hj; go_simp
            | 2, hj => simp at hj; subst hj; go_simp
          case c5 => simp; omega
          intro v' w9 hown9 hgrow hnil
          have HOWN9 : Hid (w9.ownsRow w.heap.size 36 3 v' (mapF f (k + 1)).length (xflat (mapF f (k + 1)))) := by
            show w9.ownsRow w.heap.size 36 3 v' (mapF f (k + 1)).length (xflat (mapF f (k + 1)))
            rw [HN.out, HF1.out]
            exact hown9
          have HB9 : Hid (Below w.heap.size w w9) := (HB1.out.alloc hs1 _).grown hgrow (by simp; omega) (fun j hj => (HO1.out.lt j hj).1)
          clear hown9 hgrow hnil
          go_wp2
          go_roundw
          case rel => exact ⟨k + 1, _, by omega, by go_num, rfl, HOWN9.out, HB9.out⟩
          case measure => simp [intOf]; omega
        · obtain ⟨L, y, rfl⟩ := snoc_of m hm
          have hgy := KP.good
          rw [goodM_snoc, Bool.and_eq_true, Bool.and_eq_true, goodX_iff] at hgy
          have gy := hgy.1.2
          have hll : (L ++ [y]).length = L.length + 1 := by simp
          rw [hll] at hmany
          rw [stepM_snoc _ _ _ _ (by omega)] at hstep
          have HOWN : Hid (wr.ownsRow w.heap.size 36 3 u3 (L.length + 1) (xflat (L ++ [y]))) := by rw [← hll]; exact hown
          obtain ⟨g, cap', rfl, hBg, hgl, c0, c1, c2, f1, hset⟩ := own_last hown
          have HSET : Hid (∀ n : Int, (wr.setCell ⟨g, L.length * 3 + 1, none⟩ (.int .i64 n)).ownsRow w.heap.size 36 3 (.slice (some ⟨g, 0, none⟩) (L.length + 1) cap') (L ++ [(⟨y.at_, n, y.place⟩ : Sx)]).length (xflat (L ++ [⟨y.at_, n, y.place⟩]))) := hset
          obtain ⟨y0, y1, y2, y3, y4, y5⟩ := gy
          have hd0 : decide ((0 : Int) < (L.length : Int) + 1) = true := decide_eq_true (by omega)
          have hd0n : decide (0 < L.length + 1) = true := decide_eq_true (by omega)
          have HC3 : Hid (L.length + 1 + 1 ≤ maxLen ∧ (L.length + 1 + 1) * 24 ≤ 140737488355328) := ⟨by unfold maxLen; omega, by omega⟩
          have HSTEP : Hid (mapF f (k + 1) = if y.at_ + y.long = k ∧ y.place + y.long = q then L ++ [⟨y.at_, y.long + 1, y.place⟩] else L ++ [y] ++ [⟨k, 1, q⟩]) := hstep
          clear hown hset hgy KP hm hp hstep
          obtain ⟨py, ny, cy⟩ := y
          simp only at c0 c1 c2 y0 y1 y2 y3 y4 y5
          by_cases q1 : py + ny = k
          · have hd1 : (py + ny == (k : Int)) = true := beq_iff_eq.2 q1
            by_cases q2 : cy + ny = q
            · have hd2 : (cy + ny == q) = true := beq_iff_eq.2 q2
              have HN : Hid (mapF f (k + 1) = L ++ [⟨py, ny + 1, cy⟩]) := HSTEP.out.trans (if_pos ⟨q1, q2⟩)
              clear HSTEP q1 q2
              go_wp2_with fail
              go_quiet (fail)
              have HS1 : Hid (∀ n : Int, ((wr.drewN nq).setCell ⟨g, L.length * 3 + 1, none⟩ (.int .i64 n)).ownsRow w.heap.size 36 3 (.slice (some ⟨g, 0, none⟩) (L.length + 1) cap') (L ++ [(⟨py, n, cy⟩ : Sx)]).length (xflat (L ++ [⟨py, n, cy⟩]))) := fun n => HSET.out n
              have HB1 : Hid (Below w.heap.size w (wr.drewN nq)) := ⟨HBEL.out.os, HBEL.out.tape, HBEL.out.output, HBEL.out.size, HBEL.out.block⟩
              have c1' : (wr.drewN nq).cell? ⟨g, L.length * 3 + 1, none⟩ = some (.int .i64 ny) := c1
              have f1' : (wr.drewN nq).frozen? ⟨g, L.length * 3 + 1, none⟩ = false := f1
              generalize hW1 : wr.drewN nq = w1 at *
              clear hW1 c0 c1 c2 f1 hx
              go_wp2
              go_roundw
              case rel => exact ⟨k + 1, _, by omega, by go_num, rfl, by rw [HN.out]; exact HS1.out _, HB1.out.setCell hBg _⟩
              case measure => simp [intOf]; omega
            · have hd2 : (cy + ny == q) = false := beq_eq_false_iff_ne.2 q2
              have HN : Hid (mapF f (k + 1) = L ++ [⟨py, ny, cy⟩] ++ [⟨k, 1, q⟩]) := HSTEP.out.trans (if_neg fun h => q2 h.2)
              clear HSTEP q1 q2 HSET
              go_wp2_with fail
              go_quiet (fail)
              have HO1 : Hid ((wr.drewN nq).ownsRow w.heap.size 36 3 (.slice (some ⟨g, 0, none⟩) (L.length + 1) cap') (L.length + 1) (xflat (L ++ [⟨py, ny, cy⟩]))) := HOWN.out
              have HB1 : Hid (Below w.heap.size w (wr.drewN nq)) := ⟨HBEL.out.os, HBEL.out.tape, HBEL.out.output, HBEL.out.size, HBEL.out.block⟩
              have hs1 : w.heap.size ≤ (wr.drewN nq).heap.size := hszr
              generalize hW1 : wr.drewN nq = w1 at *
              clear hW1
              generalize hV : Value.slice (some ⟨g, 0, none⟩) (L.length + 1) cap' = V at *
              clear hV HOWN hx c0 c1 c2 f1
              go_wp2_with (at_builtin; refine wpList_append_own _ rfl (.tmp 63) (.tmp 67) 25 rfl w.heap.size 36 i0 _ 3 24 Try.underlying25 hi hz0 hz1 hz2 rfl (by decide) V (L.length + 1) (xflat (L ++ [⟨py, ny, cy⟩])) rfl ?own ⟨w1.heap.size, 0, none⟩ 1 1 cs rfl ?len ?news hone HC3.out.1 HC3.out.2 ?c5 ?_)
              case own => exact HO1.out.alloc _
              case len => rw [HRC.out]; rfl
              case news =>
                rw [HRC.out]
                intro j u hj
                match j, hj with
                | 0, hj => simp at hj; subst hj; go_simp
                | 1, hj => simp at hj; subst hj; go_simp
                | 2, hj => simp at hj; subst hj; go_simp
              case c5 => simp; omega
              intro v' w9 hown9 hgrow hnil
              have HOWN9 : Hid (w9.ownsRow w.heap.size 36 3 v' (mapF f (k + 1)).length (xflat (mapF f (k + 1)))) := by
                show w9.ownsRow w.heap.size 36 3 v' (mapF f (k + 1)).length (xflat (mapF f (k + 1)))
                rw [HN.out, HF1.out, List.length_append, hll]
                exact hown9
              have HB9 : Hid (Below w.heap.size w w9) := (HB1.out.alloc hs1 _).grown hgrow (by simp; omega) (fun j hj => (HO1.out.lt j hj).1)
              clear hown9 hgrow hnil
              go_wp2
              go_roundw
              case rel => exact ⟨k + 1, _, by omega, by go_num, rfl, HOWN9.out, HB9.out⟩
              case measure => simp [intOf]; omega
          · have hd1 : (py + ny == (k : Int)) = false := beq_eq_false_iff_ne.2 q1
            have HN : Hid (mapF f (k + 1) = L ++ [⟨py, ny, cy⟩] ++ [⟨k, 1, q⟩]) := HSTEP.out.trans (if_neg fun h => q1 h.1)
            clear HSTEP q1 HSET
            go_wp2_with fail
            go_quiet (fail)
            have HO1 : Hid ((wr.drewN nq).ownsRow w.heap.size 36 3 (.slice (some ⟨g, 0, none⟩) (L.length + 1) cap') (L.length + 1) (xflat (L ++ [⟨py, ny, cy⟩]))) := HOWN.out
            have HB1 : Hid (Below w.heap.size w (wr.drewN nq)) := ⟨HBEL.out.os, HBEL.out.tape, HBEL.out.output, HBEL.out.size, HBEL.out.block⟩
            have hs1 : w.heap.size ≤ (wr.drewN nq).heap.size := hszr
            generalize hW1 : wr.drewN nq = w1 at *
            clear hW1
            generalize hV : Value.slice (some ⟨g, 0, none⟩) (L.length + 1) cap' = V at *
            clear hV HOWN hx c0 c1 c2 f1
            go_wp2_with (at_builtin; refine wpList_append_own _ rfl (.tmp 63) (.tmp 67) 25 rfl w.heap.size 36 i0 _ 3 24 Try.underlying25 hi hz0 hz1 hz2 rfl (by decide) V (L.length + 1) (xflat (L ++ [⟨py, ny, cy⟩])) rfl ?own ⟨w1.heap.size, 0, none⟩ 1 1 cs rfl ?len ?news hone HC3.out.1 HC3.out.2 ?c5 ?_)
            case own => exact HO1.out.alloc _
            case len => rw [HRC.out]; rfl
            case news =>
              rw [HRC.out]
              intro j u hj
              match j, hj with
              | 0, hj => simp at hj; subst hj; go_simp
              | 1, hj => simp at hj; subst hj; go_simp
              | 2, hj => simp at hj; subst hj; go_simp
            case c5 => simp; omega
            intro v' w9 hown9 hgrow hnil
            have HOWN9 : Hid (w9.ownsRow w.heap.size 36 3 v' (mapF f (k + 1)).length (xflat (mapF f (k + 1)))) := by
              show w9.ownsRow w.heap.size 36 3 v' (mapF f (k + 1)).length (xflat (mapF f (k + 1)))
              rw [HN.out, HF1.out, List.length_append, hll]
              exact hown9
            have HB9 : Hid (Below w.heap.size w w9) := (HB1.out.alloc hs1 _).grown hgrow (by simp; omega) (fun j hj => (HO1.out.lt j hj).1)
            clear hown9 hgrow hnil
            go_wp2
            go_roundw
            case rel => exact ⟨k + 1, _, by omega, by go_num, rfl, HOWN9.out, HB9.out⟩
            case measure => simp [intOf]; omega
    · obtain rfl : k = 16 := by omega
      have HOWN : Hid (wr.ownsRow w.heap.size 36 3 u3 (mapF f 16).length (xflat (mapF f 16))) := hown
      clear hown KP hbel
      go_wp2
      go_ret
      exact ⟨u3, rfl, HOWN.out, HBEL.out⟩
end Go.Proofs.Ytgipkpldlkmdkaa
