/- Walks of the program's hasSeg, liveBlocks. -/
import Derived.Test.YtohkhcjdjjlfbaaHA
import Derived.Test.YtohkhcjdjjlfbaaIGh
namespace Go.Proofs.Ytohkhcjdjjlfbaa
set_option maxRecDepth 100000
open Go.ChangeShapes Go.WideShapes Go.ChangeAt Go.RowKit G00541
theorem hasSeg_any (aS aL : Option Addr) (kS kL nS nL : Nat) (k : Int) (w : World) :
    Calls Try.prog 31 #[.agg #[.slice aS nS kS, .slice aL nL kL], .int .i64 k] w fun e w' => e = .returned (.bool (decide (0 ≤ k ∧ k < nS))) ∧ Below w.heap.size w w' := by
  have HB : Hid (Below w.heap.size w (w.alloc (.cells #[.slice aS nS kS, .slice aL nL kL] 26))) := boxB w _
  by_cases h0 : 0 ≤ k
  · have hd : decide (0 ≤ k) = true := decide_eq_true h0
    go_enter Try.func31, Try.ntmps31
    go_wp2_with fail
    go_ret
    refine ⟨ret_bd ?_, HB.out⟩
    by_cases h1 : k < nS
    · rw [decide_eq_true h1, decide_eq_true ⟨h0, h1⟩]
    · rw [decide_eq_false h1, decide_eq_false (fun h => h1 h.2)]
  · have hd : decide (0 ≤ k) = false := decide_eq_false h0
    have HF : Hid (decide (0 ≤ k ∧ k < nS) = false) := decide_eq_false (fun h => h0 h.1)
    go_enter Try.func31, Try.ntmps31
    go_wp2_with fail
    go_ret
    exact ⟨by first | rfl | exact ret_bd HF.out.symm, HB.out⟩
/-- a segment's live blocks in order -/
def livB (l : List Int) (v : List Bool) : List Int := ((l.zip v).filter (·.2)).map (·.1)
theorem livB_step (l : List Int) (v : List Bool) (n : Nat) (h : n < l.length) (g : n < v.length) : livB (l.take (n + 1)) (v.take (n + 1)) = livB (l.take n) (v.take n) ++ (if v[n] then [l[n]] else []) := by
  unfold livB
  rw [List.take_succ_eq_append_getElem h, List.take_succ_eq_append_getElem g, List.zip_append (by simp; omega), List.filter_append, List.map_append]
  cases v[n] <;> simp
theorem livB_len (l : List Int) (v : List Bool) : (livB l v).length ≤ l.length := by
  unfold livB
  rw [List.length_map]
  refine Nat.le_trans (List.length_filter_le _ _) ?_
  rw [List.length_zip]; omega
theorem livB_cnt (l : List Int) (v : List Bool) (h : v.length = l.length) : (livB l v).length = v.countP id := by
  unfold livB
  rw [List.length_map, ← List.countP_eq_length_filter]
  have : v = (l.zip v).map (·.2) := by rw [List.map_snd_zip (by omega)]
  conv => rhs; rw [this]
  rw [List.countP_map]
  rfl
set_option maxHeartbeats 2000000 in
theorem liveBlocks_any (aS aL : Option Addr) (kS kL : Nat) (S : List Sg) (L : List (List Bool)) (k : Nat) (w : World) (hk : k < S.length) (hm : S.length ≤ 8) (hl : L.length = S.length) (h6 : S[k].bl.length ≤ 6) (hv : (L[k]'(by omega)).length = S[k].bl.length) (hG : Gs w.heap.size aS S w) (hV : Vs w.heap.size aL L w) :
    Calls Try.prog 32 #[.agg #[.slice aS S.length kS, .slice aL L.length kL], .int .i64 k] w fun e w' => ∃ b c, e = .returned (.slice b (livB S[k].bl (L[k]'(by omega))).length c) ∧ OwnI w.heap.size w'.heap.size b (livB S[k].bl (L[k]'(by omega))) w' ∧ Below w.heap.size w w' := by
  obtain ⟨i0, hi, hz0, hz1, hz2⟩ := info_parts infoI
  have HB : Hid (Below w.heap.size w (w.alloc (.cells #[.slice aS S.length kS, .slice aL L.length kL] 26))) := boxB w _
  obtain ⟨b, off, rfl, hb, hcl⟩ := hG (by omega)
  obtain ⟨p, c, c0, _, hI⟩ := hcl k hk
  obtain ⟨b', off', rfl, hb', hcv⟩ := hV (by omega)
  obtain ⟨p', c', c2, hJ⟩ := hcv k (by omega)
  have y0 : (w.alloc (.cells #[.slice (some ⟨b, off, none⟩) S.length kS, .slice (some ⟨b', off', none⟩) L.length kL] 26)).cell? ⟨w.heap.size, 0, none⟩ = some (.slice (some ⟨b, off, none⟩) S.length kS) := by go_simp
  have y1 : (w.alloc (.cells #[.slice (some ⟨b, off, none⟩) S.length kS, .slice (some ⟨b', off', none⟩) L.length kL] 26)).cell? ⟨w.heap.size, 1, none⟩ = some (.slice (some ⟨b', off', none⟩) L.length kL) := by go_simp
  have hsz : (w.alloc (.cells #[.slice (some ⟨b, off, none⟩) S.length kS, .slice (some ⟨b', off', none⟩) L.length kL] 26)).heap.size = w.heap.size + 1 := heap_size _ _
  rw [← HB.out.cell (p := ⟨b, off + k * 2, none⟩) hb] at c0
  rw [← HB.out.cell (p := ⟨b', off' + k, none⟩) hb'] at c2
  have HI := hid (hI.below HB.out)
  have HJ := hid (hJ.below HB.out)
  clear hI hJ hcl hcv hG hV
  generalize L[k]'(by omega) = v at *
  generalize S[k] = s at *
  obtain ⟨l, age⟩ := s
  simp only at c0 h6 hv HI ⊢
  rw [hv] at c2
  rw [hl] at y1 ⊢
  rw [hl] at HB hsz c0 c2 y0 HI HJ
  generalize hW : w.alloc (.cells #[.slice (some ⟨b, off, none⟩) S.length kS, .slice (some ⟨b', off', none⟩) S.length kL] 26) = W at *
  obtain ⟨B, hB⟩ : ∃ B, B = w.heap.size + 1 := ⟨_, rfl⟩
  rw [← hB] at hsz
  have hB1 : w.heap.size < B := by omega
  clear hB
  go_enter Try.func32, Try.ntmps32
  go_wp2_with fail
  go_loopw [5, 15] (fun o i wr => ∃ (n : Nat) (o1 : Value), n ≤ l.length ∧ i = .int .i64 n ∧ o = o1 ∧ wr.ownsRow B 3 1 o1 (livB (l.take n) (v.take n)).length (ivals (livB (l.take n) (v.take n))) ∧ Below B W wr) (fun _ i _ => l.length - (intOf i).toNat)
  case atStart => exact ⟨0, _, Nat.zero_le _, rfl, rfl, World.ownsRow_nil _ _ _ _, Below.refl _ _⟩
  case round =>
    obtain ⟨n, _, hn, rfl, rfl, hown, hbel⟩ := hrel
    have HBEL := hid hbel
    have HO := hid hown
    by_cases hlt : n < l.length
    · obtain ⟨bp, op, rfl, hbp, hcp⟩ := HI.out.cell (by omega)
      obtain ⟨bq, oq, rfl, hbq, hcq⟩ := HJ.out.cell (by omega)
      have x0 := (hbel.cell (p := ⟨bp, op + n, none⟩) (show bp < B by omega)).trans (hcp n hlt)
      have x1 := (hbel.cell (p := ⟨bq, oq + n, none⟩) (show bq < B by omega)).trans (hcq n (by omega))
      rw [← hbel.cell (p := ⟨w.heap.size, 1, none⟩) (show w.heap.size < B by omega)] at y1
      rw [← hbel.cell (p := ⟨b', off' + k, none⟩) (show b' < B by omega)] at c2
      have HST := hid (livB_step l v n hlt (by omega))
      have hle : (livB (l.take n) (v.take n)).length ≤ 6 := Nat.le_trans (livB_len _ _) (by simp; omega)
      have hs1 : B ≤ wr.heap.size := by have := hbel.size; omega
      clear hcp hcq hbel hown hW
      generalize l[n] = x at *
      generalize v[n]'(by omega) = t at *
      generalize livB (l.take n) (v.take n) = D at *
      cases t
      · go_wp2_with fail
        go_roundw
        case rel => exact ⟨n + 1, _, by omega, by go_num, rfl, by rw [HST.out]; simpa using HO.out, HBEL.out⟩
        case measure => simp [intOf]; omega
      · have HIV := hid (ivals_snoc D x)
        have HC3 : Hid (D.length + 1 ≤ maxLen ∧ (D.length + 1) * 8 ≤ 140737488355328) := ⟨by unfold maxLen; omega, by omega⟩
        go_wp2_with (at_builtin; refine wpList_append_own _ rfl (.tmp 28) (.tmp 30) 35 rfl B 3 i0 _ 1 8 Try.underlying35 hi hz0 hz1 hz2 rfl (by decide) u5 D.length (ivals D) rfl ?own ⟨wr.heap.size, 0, none⟩ 1 1 [.int .i64 x] rfl rfl ?news ?one HC3.out.1 HC3.out.2 ?c5 ?_)
        case own => exact HO.out.alloc _
        case one => first | rfl | (intro u hu; simp at hu; subst hu; rfl)
        case c5 => first | omega | (simp; omega)
        intro v' w9 hown9 hgrow hnil
        have hb9 : Below B (wr.alloc (.cells #[.int .i64 x] 3)) w9 := (Below.refl _ _).grown hgrow (by simp; omega) (fun j hj => (HO.out.lt j hj).1)
        have HOWN9 : Hid (w9.ownsRow B 3 1 v' (D ++ [x]).length (ivals (D ++ [x]))) := by
          show w9.ownsRow B 3 1 v' (D ++ [x]).length (ivals (D ++ [x]))
          rw [HIV.out, List.length_append]
          exact hown9
        have HB9 : Hid (Below B W w9) := (HBEL.out.alloc (by omega) _).trans hb9
        clear hown9 hgrow hnil hb9 x0 x1 y1 c2
        go_wp2
        go_roundw
        case rel => exact ⟨n + 1, _, by omega, by go_num, rfl, by rw [HST.out]; exact HOWN9.out, HB9.out⟩
        case measure => simp [intOf]; omega
    · have HT : Hid (livB (l.take n) (v.take n) = livB l v) := by
        show livB (l.take n) (v.take n) = livB l v
        rw [List.take_of_length_le (by omega), List.take_of_length_le (by omega)]
      clear hbel hown hW
      go_wp2_with fail
      go_ret
      obtain ⟨b9, c9, he, ho⟩ := own_ints (w := W) (by rw [HT.out] at HO; exact HO.out) hsz.symm
      refine ⟨b9, c9, congrArg Ending.returned he, ?_, HB.out.trans (HBEL.out.mono (by omega))⟩
      rcases ho with ho | ⟨R, h1, h2, h3, h4⟩
      · exact Or.inl ho
      · exact Or.inr ⟨R, by omega, h2, h3, h4⟩
end Go.Proofs.Ytohkhcjdjjlfbaa
