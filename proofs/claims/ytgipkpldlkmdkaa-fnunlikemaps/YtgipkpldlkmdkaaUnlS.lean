/- Walk of the model's UnlikeMaps. -/
import Derived.Test.YtgipkpldlkmdkaaUnl
import Derived.Deep.QuietTactic
import Derived.BigQuiet
namespace Go.Proofs.Ytgipkpldlkmdkaa
set_option maxRecDepth 100000
open Go.ChangeShapes Go.WideShapes Go.ChangeAt Go.RowKit G00541
set_option maxHeartbeats 2000000 in
theorem sunl_no (a b : Option Addr) (cap cap' : Nat) (l m : List Sx) (w : World) (hn : l.length ≤ 1048576) (hm : m.length ≤ 1048576) (hZ : Xs w.heap.size a l w) (hY : Xs w.heap.size b m w) (hg : ¬ (goodM l = true ∧ goodM m = true)) :
    Calls Try.prog 23 #[.slice a l.length cap, .slice b m.length cap'] w fun e w' => IntOut [] false w e w' := by
  have HP := hid (sgood_any a cap l w hn hZ)
  have HQ : Hid (∀ v, Below w.heap.size w v → Calls Try.prog 16 #[.slice b m.length cap'] v fun e w' => e = .returned (.bool (goodM m)) ∧ Below v.heap.size v w') := fun v g => sgood_any b cap' m v hm (hY.go g)
  cases hgm : goodM l
  · rw [hgm] at HP
    clear hZ hY hg hgm
    go_enter Try.func23, Try.ntmps23
    go_wp2_with fail
    refine (HP.out).mono ?_
    rintro e w1 ⟨rfl, b1⟩
    have HB1 : Hid (Below w.heap.size w w1) := b1
    clear b1 HP
    go_wp2
    go_ret2
    exact IntOut.no HB1.out
  · have hgx : goodM m = false := by
      cases h : goodM m
      · rfl
      · exact absurd ⟨hgm, h⟩ hg
    rw [hgm] at HP
    rw [hgx] at HQ
    clear hZ hY hg hgm hgx
    go_enter Try.func23, Try.ntmps23
    go_wp2_with fail
    refine (HP.out).mono ?_
    rintro e w1 ⟨rfl, b1⟩
    have HB1 : Hid (Below w.heap.size w w1) := b1
    clear b1 HP
    go_wp2_with fail
    refine (HQ.out _ HB1.out).mono ?_
    rintro e w3 ⟨rfl, b3⟩
    have HB3 : Hid (Below w.heap.size w w3) := HB1.out.trans (b3.mono HB1.out.size)
    clear b3
    go_wp2
    go_ret2
    exact IntOut.no HB3.out
set_option maxHeartbeats 4000000 in
theorem sunl_yes (a b : Option Addr) (cap cap' : Nat) (l m : List Sx) (w : World) (hn : l.length ≤ 1048576) (hm : m.length ≤ 1048576) (hZ : Xs w.heap.size a l w) (hY : Xs w.heap.size b m w) (hg : goodM l = true) (hh : goodM m = true) :
    Calls Try.prog 23 #[.slice a l.length cap, .slice b m.length cap'] w fun e w' => IntOut (diffs (plN l) (plN m) 16) true w e w' := by
  obtain ⟨i0, hi, hz0, hz1, hz2⟩ := info_parts infoInt
  have HP := hid (sgood_any a cap l w hn hZ)
  have HQ : Hid (∀ v, Below w.heap.size w v → Calls Try.prog 16 #[.slice b m.length cap'] v fun e w' => e = .returned (.bool (goodM m)) ∧ Below v.heap.size v w') := fun v g => sgood_any b cap' m v hm (hY.go g)
  have HR : Hid (∀ v, Below w.heap.size w v → Calls Try.prog 45 #[.slice a l.length cap] v fun e w' => ∃ R c, e = .returned (.slice (some ⟨R, 0, none⟩) 16 c) ∧ v.heap.size ≤ R ∧ IRow R (tab (plN l)) w' ∧ Below v.heap.size v w') := fun v g => l4Places_any a cap l v hn (chain_all none l hg) (hZ.go g)
  have HT : Hid (∀ v, Below w.heap.size w v → Calls Try.prog 45 #[.slice b m.length cap'] v fun e w' => ∃ R c, e = .returned (.slice (some ⟨R, 0, none⟩) 16 c) ∧ v.heap.size ≤ R ∧ IRow R (tab (plN m)) w' ∧ Below v.heap.size v w') := fun v g => l4Places_any b cap' m v hm (chain_all none m hh) (hY.go g)
  rw [hg] at HP
  rw [hh] at HQ
  clear hZ hY hg hh
  generalize plN l = F at *
  generalize plN m = G at *
  go_enter Try.func23, Try.ntmps23
  go_wp2_with fail
  refine (HP.out).mono ?_
  rintro e w1 ⟨rfl, b1⟩
  have HB1 : Hid (Below w.heap.size w w1) := b1
  clear b1 HP
  go_wp2_with fail
  refine (HQ.out _ HB1.out).mono ?_
  rintro e w3 ⟨rfl, b3⟩
  have HB3 : Hid (Below w.heap.size w w3) := HB1.out.trans (b3.mono HB1.out.size)
  clear b3 HB1 HQ
  go_wp2_with fail
  refine (HR.out _ HB3.out).mono ?_
  rintro e w4 ⟨R, c4, rfl, hR, hrow, b4⟩
  have HB4 : Hid (Below w.heap.size w w4) := HB3.out.trans (b4.mono HB3.out.size)
  have HROW4 : Hid (IRow R (tab F) w4) := hrow
  have hR4 : R < w4.heap.size := hrow.lt
  have hs3 := HB3.out.size
  clear b4 hrow HB3 HR
  go_wp2_with fail
  refine (HT.out _ HB4.out).mono ?_
  rintro e w5 ⟨T, c5, rfl, hT, hrow, b5⟩
  have HB5 : Hid (Below w.heap.size w w5) := HB4.out.trans (b5.mono HB4.out.size)
  have HROW5 : Hid (IRow R (tab F) w5) := HROW4.out.below b5
  have HTOW5 : Hid (IRow T (tab G) w5) := hrow
  have hT5 : T < w5.heap.size := hrow.lt
  have hs4 := HB4.out.size
  have hs45 := b5.size
  clear b5 hrow HB4 HT HROW4
  go_wp2
  have HF5 : Hid (Below w5.heap.size w5 w5) := Below.refl _ _
  go_loopw [8, 24] (fun o i wr => ∃ (k : Nat) (o1 : Value), k ≤ 16 ∧ i = .int .i64 k ∧ o = o1 ∧ wr.ownsRow w5.heap.size 3 1 o1 (diffs F G k).length (ivals (diffs F G k)) ∧ Below w5.heap.size w5 wr) (fun _ i _ => 16 - (intOf i).toNat)
  case atStart => exact ⟨0, _, by omega, rfl, rfl, World.ownsRow_nil _ _ _ _, HF5.out⟩
  case round =>
    obtain ⟨k, _, hk, rfl, rfl, hown, hbel⟩ := hrel
    have HBEL : Hid (Below w5.heap.size w5 wr) := hbel
    have hszr := hbel.size
    by_cases hlt : k < 16
    · have x0 := (hbel.cell (p := ⟨R, k, none⟩) (by show R < w5.heap.size; omega)).trans (HROW5.out.cell k (by rw [tab_len]; exact hlt))
      have y0 := (hbel.cell (p := ⟨T, k, none⟩) hT5).trans (HTOW5.out.cell k (by rw [tab_len]; exact hlt))
      rw [tab_at] at x0 y0
      have hst := diffs_step F G k
      have hdl := diffs_len F G k
      have hi2 : (k : Int) < 16 := by omega
      generalize diffs F G k = D at *
      have HO : Hid (wr.ownsRow w5.heap.size 3 1 u8 D.length (ivals D)) := hown
      clear hown hbel
      by_cases hne : F k = G k
      · have hd : (F k != G k) = false := by rw [hne]; simp
        have HN : Hid (diffs F G (k + 1) = D) := by
          show diffs F G (k + 1) = D
          rw [hst, hd]; simp
        clear hst hne
        generalize F k = x at *
        generalize G k = y at *
        go_wp2_with fail
        go_quiet (fail)
        have HO1 : Hid ((wr.drewN nq).ownsRow w5.heap.size 3 1 u8 D.length (ivals D)) := HO.out
        have HB1 : Hid (Below w5.heap.size w5 (wr.drewN nq)) := ⟨HBEL.out.os, HBEL.out.tape, HBEL.out.output, HBEL.out.size, HBEL.out.block⟩
        generalize hW1 : wr.drewN nq = w1 at *
        clear hW1 x0 y0
        go_wp2
        go_roundw
        case rel => exact ⟨k + 1, _, by omega, by go_num, rfl, by rw [HN.out]; exact HO1.out, HB1.out⟩
        case measure => simp [intOf]; omega
      · have hd : (F k != G k) = true := by simp [hne]
        have HN : Hid (diffs F G (k + 1) = D ++ [(k : Int)]) := by
          show diffs F G (k + 1) = _
          rw [hst, if_pos hd]
        have HIV : Hid (ivals (D ++ [(k : Int)]) = ivals D ++ [.int .i64 (k : Int)]) := ivals_snoc D k
        have HC3 : Hid (D.length + 1 ≤ maxLen ∧ (D.length + 1) * 8 ≤ 140737488355328) := ⟨by unfold maxLen; omega, by omega⟩
        clear hst hne
        generalize F k = x at *
        generalize G k = y at *
        go_wp2_with fail
        go_quiet (fail)
        have HO1 : Hid ((wr.drewN nq).ownsRow w5.heap.size 3 1 u8 D.length (ivals D)) := HO.out
        have HB1 : Hid (Below w5.heap.size w5 (wr.drewN nq)) := ⟨HBEL.out.os, HBEL.out.tape, HBEL.out.output, HBEL.out.size, HBEL.out.block⟩
        have hs1 : w5.heap.size ≤ (wr.drewN nq).heap.size := hszr
        generalize hW1 : wr.drewN nq = w1 at *
        clear hW1 x0 y0
        go_wp2_with (at_builtin; refine wpList_append_own _ rfl (.tmp 36) (.tmp 38) 23 rfl w5.heap.size 3 i0 _ 1 8 Try.underlying23 hi hz0 hz1 hz2 rfl (by decide) u8 D.length (ivals D) rfl ?own ⟨w1.heap.size, 0, none⟩ 1 1 [.int .i64 (k : Int)] rfl rfl ?news ?one HC3.out.1 HC3.out.2 ?c5 ?_)
        case own => exact HO1.out.alloc _
        case news =>
          intro j u hj
          match j, hj with
          | 0, hj => simp at hj; subst hj; go_simp
        case one => intro u hu; simp at hu; subst hu; rfl
        case c5 => simp; omega
        intro v' w9 hown9 hgrow hnil
        have HOWN9 : Hid (w9.ownsRow w5.heap.size 3 1 v' (diffs F G (k + 1)).length (ivals (diffs F G (k + 1)))) := by
          show w9.ownsRow w5.heap.size 3 1 v' (diffs F G (k + 1)).length (ivals (diffs F G (k + 1)))
          rw [HN.out, HIV.out, List.length_append]
          exact hown9
        have HB9 : Hid (Below w5.heap.size w5 w9) := (HB1.out.alloc hs1 _).grown hgrow (by simp; omega) (fun j hj => (HO1.out.lt j hj).1)
        clear hown9 hgrow hnil
        go_wp2
        go_roundw
        case rel => exact ⟨k + 1, _, by omega, by go_num, rfl, HOWN9.out, HB9.out⟩
        case measure => simp [intOf]; omega
    · obtain rfl : k = 16 := by omega
      have HO : Hid (wr.ownsRow w.heap.size 3 1 u8 (diffs F G 16).length (ivals (diffs F G 16))) := own_le hown HB5.out.size
      have HBW : Hid (Below w.heap.size w wr) := HB5.out.trans (hbel.mono HB5.out.size)
      clear hown hbel
      go_wp2
      go_ret2
      exact IntOut.of HO.out HBW.out
end Go.Proofs.Ytgipkpldlkmdkaa
