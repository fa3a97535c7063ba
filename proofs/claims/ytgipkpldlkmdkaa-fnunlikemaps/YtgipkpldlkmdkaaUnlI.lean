/- Walk of the program's UnlikeMaps. -/
import Derived.Test.YtgipkpldlkmdkaaUnl
import Derived.Deep.QuietTactic
import Derived.BigQuiet
namespace Go.Proofs.Ytgipkpldlkmdkaa
set_option maxRecDepth 100000
open Go.ChangeShapes Go.WideShapes Go.ChangeAt Go.RowKit G00541
set_option maxHeartbeats 2000000 in
theorem iunl_no (a b : Option Addr) (cap cap' : Nat) (l m : List Sx) (w : World) (hn : l.length ≤ 1048576) (hm : m.length ≤ 1048576) (hf : FitM l) (hf' : FitM m) (hZ : Xs w.heap.size a l w) (hY : Xs w.heap.size b m w) (hg : ¬ (goodM l = true ∧ goodM m = true)) :
    Calls Try.prog 22 #[.slice a l.length cap, .slice b m.length cap'] w fun e w' => IntOut [] false w e w' := by
  have hany : ∀ (q : Option Addr) (d : Nat) (n : List Sx) (v : World), n.length ≤ 1048576 → FitM n → Xs v.heap.size q n v → Calls Try.prog 38 #[.slice q n.length d] v fun e w' => (∃ F, e = .returned (.tuple #[.agg (arr F), .bool (goodM n)])) ∧ Below v.heap.size v w' := fun q d n v h1 h2 h3 => by
    cases h : goodM n
    · exact placesIn_no q d n v h1 h2 h3 h
    · exact (placesIn_yes q d n v h2 h3 h).mono fun _ _ ⟨he, hb⟩ => ⟨⟨_, he⟩, hb⟩
  have HP := hid (hany a cap l w hn hf hZ)
  have HQ : Hid (∀ v, Below w.heap.size w v → Calls Try.prog 38 #[.slice b m.length cap'] v fun e w' => (∃ F, e = .returned (.tuple #[.agg (arr F), .bool (goodM m)])) ∧ Below v.heap.size v w') := fun v g => hany b cap' m v hm hf' (hY.go g)
  have HG : Hid (goodM l = true → goodM m = false) := fun h => by
    cases h2 : goodM m
    · rfl
    · exact absurd ⟨h, h2⟩ hg
  clear hZ hY hg hany
  generalize goodM l = x at *
  generalize goodM m = y at *
  cases x
  · go_enter Try.func22, Try.ntmps22
    go_wp2_with fail
    refine (HP.out).mono ?_
    rintro e w1 ⟨⟨F, rfl⟩, b1⟩
    have HA : Hid (Ar w1.heap.size (fun _ => 0) (w1.alloc (.cells (arr fun _ => 0) 61))) := Ar.new w1 _ 61
    have HB1 : Hid (Below w.heap.size w w1) := b1
    clear b1 HP
    go_wp2_with (first | (refine wpList_store_ar HA.out rfl _ _ rfl rfl rfl ?_; intro w2 ha2 hb2) | fail)
    have HB2 : Hid (Below w.heap.size w w2) := (HB1.out.alloc HB1.out.size _).trans (hb2.out.below HB1.out.size (by have := HB1.out.size; simp; omega))
    clear ha2 hb2 HB1 HA
    refine (HQ.out _ HB2.out).mono ?_
    rintro e w3 ⟨⟨G, rfl⟩, b3⟩
    have HA : Hid (Ar w3.heap.size (fun _ => 0) (w3.alloc (.cells (arr fun _ => 0) 61))) := Ar.new w3 _ 61
    have HB3 : Hid (Below w.heap.size w w3) := HB2.out.trans (b3.mono HB2.out.size)
    clear b3 HB2
    go_wp2_with (refine wpList_store_ar HA.out rfl _ _ rfl rfl rfl ?_; intro w4 ha4 hb4)
    have HB4 : Hid (Below w.heap.size w w4) := (HB3.out.alloc HB3.out.size _).trans (hb4.out.below HB3.out.size (by have := HB3.out.size; simp; omega))
    clear ha4 hb4
    go_ret2
    exact IntOut.no HB4.out
  · rw [HG.out rfl] at HQ
    go_enter Try.func22, Try.ntmps22
    go_wp2_with fail
    refine (HP.out).mono ?_
    rintro e w1 ⟨⟨F, rfl⟩, b1⟩
    have HA : Hid (Ar w1.heap.size (fun _ => 0) (w1.alloc (.cells (arr fun _ => 0) 61))) := Ar.new w1 _ 61
    have HB1 : Hid (Below w.heap.size w w1) := b1
    clear b1 HP
    go_wp2_with (first | (refine wpList_store_ar HA.out rfl _ _ rfl rfl rfl ?_; intro w2 ha2 hb2) | fail)
    have HB2 : Hid (Below w.heap.size w w2) := (HB1.out.alloc HB1.out.size _).trans (hb2.out.below HB1.out.size (by have := HB1.out.size; simp; omega))
    clear ha2 hb2 HB1 HA
    refine (HQ.out _ HB2.out).mono ?_
    rintro e w3 ⟨⟨G, rfl⟩, b3⟩
    have HA : Hid (Ar w3.heap.size (fun _ => 0) (w3.alloc (.cells (arr fun _ => 0) 61))) := Ar.new w3 _ 61
    have HB3 : Hid (Below w.heap.size w w3) := HB2.out.trans (b3.mono HB2.out.size)
    clear b3 HB2
    go_wp2_with (refine wpList_store_ar HA.out rfl _ _ rfl rfl rfl ?_; intro w4 ha4 hb4)
    have HB4 : Hid (Below w.heap.size w w4) := (HB3.out.alloc HB3.out.size _).trans (hb4.out.below HB3.out.size (by have := HB3.out.size; simp; omega))
    clear ha4 hb4
    go_ret2
    exact IntOut.no HB4.out
theorem guardBP : Try.prog.eqGuardType Try.prog.depth 61 = false := by kernel_rfl
set_option maxHeartbeats 4000000 in
theorem iunl_yes (a b : Option Addr) (cap cap' : Nat) (l m : List Sx) (w : World) (hf : FitM l) (hf' : FitM m) (hZ : Xs w.heap.size a l w) (hY : Xs w.heap.size b m w) (hg : goodM l = true) (hh : goodM m = true) :
    Calls Try.prog 22 #[.slice a l.length cap, .slice b m.length cap'] w fun e w' => IntOut (diffs (plN l) (plN m) 16) true w e w' := by
  obtain ⟨i0, hi, hz0, hz1, hz2⟩ := info_parts infoInt
  have HP := hid (placesIn_yes a cap l w hf hZ hg)
  have HQ : Hid (∀ v, Below w.heap.size w v → Calls Try.prog 38 #[.slice b m.length cap'] v fun e w' => e = .returned (.tuple #[.agg (arr (plN m)), .bool true]) ∧ Below v.heap.size v w') := fun v g => placesIn_yes b cap' m v hf' (hY.go g) hh
  have hgd := guardBP
  clear hZ hY hg hh
  generalize plN l = F at *
  generalize plN m = G at *
  go_enter Try.func22, Try.ntmps22
  go_wp2_with fail
  refine (HP.out).mono ?_
  rintro e w1 ⟨rfl, b1⟩
  have HA : Hid (Ar w1.heap.size (fun _ => 0) (w1.alloc (.cells (arr fun _ => 0) 61))) := Ar.new w1 _ 61
  have HB1 : Hid (Below w.heap.size w w1) := b1
  have hs1 := b1.size
  clear b1 HP
  go_wp2_with (first | (refine wpList_store_ar HA.out rfl _ _ rfl rfl rfl ?_; intro w2 ha2 hb2) | fail)
  have HB2 : Hid (Below w.heap.size w w2) := (HB1.out.alloc HB1.out.size _).trans (hb2.out.below HB1.out.size (by have := HB1.out.size; simp; omega))
  have hs2 : w1.heap.size < w2.heap.size := by have := hb2.out.size; simp at this; omega
  clear hb2 HB1 HA
  refine (HQ.out _ HB2.out).mono ?_
  rintro e w3 ⟨rfl, b3⟩
  have HA : Hid (Ar w3.heap.size (fun _ => 0) (w3.alloc (.cells (arr fun _ => 0) 61))) := Ar.new w3 _ 61
  have HB3 : Hid (Below w.heap.size w w3) := HB2.out.trans (b3.mono HB2.out.size)
  have HF3 : Hid (Ar w1.heap.size F w3) := ha2.out.below b3
  have hs3 := b3.size
  clear b3 HB2 ha2 HQ
  go_wp2_with (first | (refine wpList_store_ar HA.out rfl _ _ rfl rfl rfl ?_; intro w4 ha4 hb4) | fail)
  have HB4 : Hid (Below w.heap.size w w4) := (HB3.out.alloc HB3.out.size _).trans (hb4.out.below HB3.out.size (by have := HB3.out.size; simp; omega))
  have HF4 : Hid (Ar w1.heap.size F w4) := (HF3.out.alloc _).but hb4.out (by omega)
  have hs4 : w3.heap.size < w4.heap.size := by have := hb4.out.size; simp at this; omega
  clear hb4 HB3 HA HF3
  generalize w1.heap.size = P1 at *
  generalize w3.heap.size = P3 at *
  have h0 : mendF F G 0 = G := by funext b; unfold mendF; rw [if_neg (by omega)]
  go_loopw [10, 11] (fun o i wr => ∃ (k : Nat) (o1 : Value), k ≤ 16 ∧ i = .int .i64 k ∧ o = o1 ∧ Ar P1 F wr ∧ Ar P3 (mendF F G k) wr ∧ wr.ownsRow w4.heap.size 3 1 o1 (diffs F G k).length (ivals (diffs F G k)) ∧ Below w.heap.size w wr ∧ w4.heap.size ≤ wr.heap.size) (fun _ i _ => 16 - (intOf i).toNat)
  case atStart => exact ⟨0, _, by omega, rfl, rfl, HF4.out, by rw [h0]; exact ha4.out, World.ownsRow_nil _ _ _ _, HB4.out, Nat.le_refl _⟩
  case round =>
    clear ha4 HF4 HB4 h0
    obtain ⟨k, _, hk, rfl, rfl, hp, hq, hown, hbel, hszr⟩ := hrel
    have HBEL : Hid (Below w.heap.size w wr) := hbel
    have HPP : Hid (Ar P1 F wr) := hp
    have HQQ : Hid (Ar P3 (mendF F G k) wr) := hq
    have hEq := eq_ar F (mendF F G k)
    have hszw := hbel.size
    cases hv : sameF F (mendF F G k)
    · rw [hv] at hEq
      have hlt : k < 16 := by
        rcases Nat.lt_or_ge k 16 with h | h
        · exact h
        · obtain rfl : k = 16 := by omega
          rw [mend_end] at hv; cases hv
      have x0 := hp.cell k hlt
      have y0 := hq.cell k hlt
      have f0 := hq.free k
      have HME : Hid (upd (mendF F G k) k (F k) = mendF F G (k + 1)) := mend_step F G k
      have HMS : Hid (F k = G k → mendF F G k = mendF F G (k + 1)) := mend_skip F G k
      rw [mend_at] at y0
      have hst := diffs_step F G k
      have hdl := diffs_len F G k
      have hi2 : (k : Int) < 16 := by omega
      generalize diffs F G k = D at *
      have HO : Hid (wr.ownsRow w4.heap.size 3 1 u10 D.length (ivals D)) := hown
      clear hown hbel hp hq hv
      by_cases hne : F k = G k
      · have hd : (F k != G k) = false := by rw [hne]; simp
        have HN : Hid (diffs F G (k + 1) = D) := by
          show diffs F G (k + 1) = D
          rw [hst, hd]; simp
        have HM2 : Hid (mendF F G k = mendF F G (k + 1)) := HMS.out hne
        clear hst hne HMS HME
        generalize mendF F G k = M at *
        generalize F k = x at *
        generalize G k = y at *
        go_wp2_with (first | refine wpList_load_ar HPP.out rfl _ rfl rfl ?_ | refine wpList_load_ar HQQ.out rfl _ rfl rfl ?_ | fail)
        go_quiet (fail)
        have HO1 : Hid ((wr.drewN nq).ownsRow w4.heap.size 3 1 u10 D.length (ivals D)) := HO.out
        have HB1 : Hid (Below w.heap.size w (wr.drewN nq)) := ⟨HBEL.out.os, HBEL.out.tape, HBEL.out.output, HBEL.out.size, HBEL.out.block⟩
        have HP1 : Hid (Ar P1 F (wr.drewN nq)) := HPP.out
        have HQ1 : Hid (Ar P3 M (wr.drewN nq)) := HQQ.out
        have hs1 : w4.heap.size ≤ (wr.drewN nq).heap.size := hszr
        generalize hW1 : wr.drewN nq = w1 at *
        clear hW1 x0 y0
        go_wp2
        go_roundw
        case rel => exact ⟨k + 1, _, by omega, by go_num, rfl, HP1.out, by rw [← HM2.out]; exact HQ1.out, by rw [HN.out]; exact HO1.out, HB1.out, hs1⟩
        case measure => simp [intOf]; omega
      · have hd : (F k != G k) = true := by simp [hne]
        have HN : Hid (diffs F G (k + 1) = D ++ [(k : Int)]) := by
          show diffs F G (k + 1) = _
          rw [hst, if_pos hd]
        have HIV : Hid (ivals (D ++ [(k : Int)]) = ivals D ++ [.int .i64 (k : Int)]) := ivals_snoc D k
        have HC3 : Hid (D.length + 1 ≤ maxLen ∧ (D.length + 1) * 8 ≤ 140737488355328) := ⟨by unfold maxLen; omega, by omega⟩
        clear hst hne HMS
        generalize mendF F G k = M at *
        generalize hFk : F k = x at *
        generalize G k = y at *
        have HFK : Hid (F k = x) := hFk
        clear hFk
        go_wp2_with (first | refine wpList_load_ar HPP.out rfl _ rfl rfl ?_ | refine wpList_load_ar HQQ.out rfl _ rfl rfl ?_ | fail)
        go_quiet (fail)
        have HO1 : Hid ((wr.drewN nq).ownsRow w4.heap.size 3 1 u10 D.length (ivals D)) := HO.out
        have HB1 : Hid (Below w.heap.size w (wr.drewN nq)) := ⟨HBEL.out.os, HBEL.out.tape, HBEL.out.output, HBEL.out.size, HBEL.out.block⟩
        have HP1 : Hid (Ar P1 F (wr.drewN nq)) := HPP.out
        have HQ1 : Hid (Ar P3 M (wr.drewN nq)) := HQQ.out
        have hs1 : w4.heap.size ≤ (wr.drewN nq).heap.size := hszr
        generalize hW1 : wr.drewN nq = w1 at *
        clear hW1 x0 y0
        go_wp2_with (at_builtin; refine wpList_append_own _ rfl (.tmp 40) (.tmp 42) 23 rfl w4.heap.size 3 i0 _ 1 8 Try.underlying23 hi hz0 hz1 hz2 rfl (by decide) u10 D.length (ivals D) rfl ?own ⟨w1.heap.size, 0, none⟩ 1 1 [.int .i64 (k : Int)] rfl rfl ?news ?one HC3.out.1 HC3.out.2 ?c5 ?_)
        case own => exact HO1.out.alloc _
        case news =>
          intro j u hj
          match j, hj with
          | 0, hj => simp at hj; subst hj; go_simp
        case one => intro u hu; simp at hu; subst hu; rfl
        case c5 => simp; omega
        intro v' w9 hown9 hgrow hnil
        have hb9 : Below w4.heap.size (w1.alloc (.cells #[.int .i64 (k : Int)] 3)) w9 := (Below.refl _ _).grown hgrow (by simp; omega) (fun j hj => (HO1.out.lt j hj).1)
        have HOWN9 : Hid (w9.ownsRow w4.heap.size 3 1 v' (diffs F G (k + 1)).length (ivals (diffs F G (k + 1)))) := by
          show w9.ownsRow w4.heap.size 3 1 v' (diffs F G (k + 1)).length (ivals (diffs F G (k + 1)))
          rw [HN.out, HIV.out, List.length_append]
          exact hown9
        have hp9 : Ar P1 F w9 := (HP1.out.alloc _).same (hb9.block P1 (by omega))
        have hq9 : Ar P3 M w9 := (HQ1.out.alloc _).same (hb9.block P3 (by omega))
        have HB9 : Hid (Below w.heap.size w w9) := (HB1.out.alloc HB1.out.size _).trans (hb9.mono (by omega))
        have hs9 : w4.heap.size ≤ w9.heap.size := Nat.le_trans (by simp; omega) hb9.size
        have x9 := hp9.cell k hlt
        rw [HFK.out] at x9
        have y9 := hq9.cell k hlt
        have f9 := hq9.free k
        have HP9 : Hid (Ar P1 F w9) := hp9
        have HQ9 : Hid (Ar P3 M w9) := hq9
        clear hown9 hgrow hnil hb9 hp9 hq9 f0
        have HOS : Hid (∀ u : Value, (w9.setCell ⟨P3, k, none⟩ u).ownsRow w4.heap.size 3 1 v' (diffs F G (k + 1)).length (ivals (diffs F G (k + 1)))) := fun u => ownsRow_setCell_below HOWN9.out (by show P3 < w4.heap.size; omega) u
        go_wp2
        go_roundw
        case rel => exact ⟨k + 1, _, by omega, by go_num, rfl, HP9.out.same (Below.heap_setCell _ _ _ _ (by show P1 ≠ P3; omega)), by rw [← HME.out]; exact HQ9.out.set k x, HOS.out _, HB9.out.setCell (by show w.heap.size ≤ P3; omega) _, by simpa [World.setCell] using hs9⟩
        case measure => simp [intOf]; omega
    · rw [hv] at hEq
      have HD : Hid (diffs F G k = diffs F G 16) := mend_same F G k hk hv
      have HO : Hid (wr.ownsRow w.heap.size 3 1 u10 (diffs F G k).length (ivals (diffs F G k))) := own_le hown (by omega)
      clear hown hbel hp hq hv
      generalize mendF F G k = M at *
      go_wp2_with (first | refine wpList_load_ar HPP.out rfl _ rfl rfl ?_ | refine wpList_load_ar HQQ.out rfl _ rfl rfl ?_ | fail)
      go_ret2
      rw [← HD.out]
      exact IntOut.of HO.out HBEL.out
end Go.Proofs.Ytgipkpldlkmdkaa
