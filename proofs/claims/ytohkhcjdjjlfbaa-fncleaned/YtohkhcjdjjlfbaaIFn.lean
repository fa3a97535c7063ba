/- Walks of the program's closures of writeAnew and of firstSeg, as CleanSeg has them. -/
import Derived.Test.YtohkhcjdjjlfbaaIFs
namespace Go.Proofs.Ytohkhcjdjjlfbaa
set_option maxRecDepth 100000
open Go.ChangeShapes Go.WideShapes Go.ChangeAt Go.RowKit G00541
theorem notSelf_any (BK : Nat) (no k : Int) (w : World) (h : w.cell? ⟨BK, 0, none⟩ = some (.int .i64 no)) : Calls Try.prog 33 #[.int .i64 k, .pointer (some ⟨BK, 0, none⟩)] w fun e w' => e = .returned (.bool (decide (k ≠ no))) ∧ w' = w := by
  go_enter Try.func33, Try.ntmps33
  go_wp2_with fail
  go_ret
  refine ⟨ret_bd ?_, rfl⟩
  by_cases e : k = no
  · subst e; simp
  · simp [e]
/-- what the closures read -/
structure CN (BK BM BH : Nat) (no : Int) (aS : Option Addr) (kS : Nat) (S : List Sg) (w : World) : Prop where
  cv : CV BM BH (.func (.func 33) #[] #[.pointer (some ⟨BK, 0, none⟩)]) aS kS S w
  nk : w.cell? ⟨BK, 0, none⟩ = some (.int .i64 no)
  bk : BK < w.heap.size
theorem CN.on {BK BM BH : Nat} {no : Int} {aS : Option Addr} {kS : Nat} {S : List Sg} {w w' : World} (h : CN BK BM BH no aS kS S w) (g : Below w.heap.size w w') : CN BK BM BH no aS kS S w' :=
  ⟨h.cv.on g, (g.cell (p := ⟨BK, 0, none⟩) h.bk).trans h.nk, Nat.lt_of_lt_of_le h.bk g.size⟩
theorem begun_n (BK BM BH : Nat) (no : Int) (aS : Option Addr) (kS : Nat) (S : List Sg) (k : Nat) (w : World) (hk : k < S.length) (hl : (S[k]).bl.length ≤ 1000) (h : CN BK BM BH no aS kS S w) :
    Calls Try.prog 61 #[.int .i64 k, .pointer (some ⟨BM, 0, none⟩), .pointer (some ⟨BH, 0, none⟩)] w fun e w' => e = .returned (.bool (roomP S no k)) ∧ w' = w := by
  obtain ⟨⟨m1, s1, -, -, hG⟩, n1, -⟩ := h
  obtain ⟨b, off, rfl, hb, hcl⟩ := hG (by omega)
  obtain ⟨p, c, c0, _, _⟩ := hcl k hk
  have HC := hid (notSelf_any BK no (k : Int) w n1)
  clear hcl hG n1
  by_cases hno : (k : Int) = no
  · have HR : Hid (roomP S no k = false) := by
      show roomP S no k = _
      unfold roomP
      exact decide_eq_false (fun h => h.1 hno)
    have hdn : decide ((k : Int) ≠ no) = false := decide_eq_false (fun h => h hno)
    rw [hdn] at HC
    rw [HR.out]
    clear HR hdn hno
    go_enter Try.func61, Try.ntmps61
    go_wp2_with fail
    refine HC.out.mono ?_
    rintro e w2 ⟨rfl, hw2⟩
    rw [hw2]
    clear hw2
    go_wp2_with fail
    go_ret
    exact ⟨rfl, rfl⟩
  have hdn : decide ((k : Int) ≠ no) = true := decide_eq_true hno
  rw [hdn] at HC
  have HR : Hid (roomP S no k = decide (1 ≤ S[k].bl.length ∧ S[k].bl.length ≤ 5)) := by
    show roomP S no k = _
    unfold roomP
    rw [lenAt_eq S k hk]
    simp [hno]
  rw [HR.out]
  clear HR hno hdn
  generalize S[k] = s at *
  obtain ⟨l, age⟩ := s
  simp only at c0 hl ⊢
  generalize l.length = n at *
  by_cases h1 : 1 ≤ n
  · have hd1 : decide ((0 : Int) < (n : Int)) = true := decide_eq_true (by omega)
    have hd1n : decide (0 < n) = true := decide_eq_true (by omega)
    have HE : Hid (decide (1 ≤ n ∧ n ≤ 5) = decide (n < 6)) := by
      show decide _ = decide _
      rw [decide_eq_decide]; omega
    go_enter Try.func61, Try.ntmps61
    go_wp2_with fail
    refine HC.out.mono ?_
    rintro e w2 ⟨rfl, hw2⟩
    rw [hw2]
    clear hw2
    go_wp2_with fail
    go_ret
    exact ⟨ret_bd (by rw [HE.out]; first | rfl | (congr 1; simp; omega)), rfl⟩
  · have hd1 : decide ((0 : Int) < (n : Int)) = false := decide_eq_false (by omega)
    have hd1n : decide (0 < n) = false := decide_eq_false (by omega)
    have HE : Hid (decide (1 ≤ n ∧ n ≤ 5) = false) := decide_eq_false (by omega)
    go_enter Try.func61, Try.ntmps61
    go_wp2_with fail
    refine HC.out.mono ?_
    rintro e w2 ⟨rfl, hw2⟩
    rw [hw2]
    clear hw2
    go_wp2_with fail
    go_ret
    exact ⟨ret_bd (by rw [HE.out]), rfl⟩
theorem free_n (BK BM BH : Nat) (no : Int) (aS : Option Addr) (kS : Nat) (S : List Sg) (k : Nat) (w : World) (hk : k < S.length) (hl : (S[k]).bl.length ≤ 1000) (h : CN BK BM BH no aS kS S w) :
    Calls Try.prog 62 #[.int .i64 k, .pointer (some ⟨BM, 0, none⟩), .pointer (some ⟨BH, 0, none⟩)] w fun e w' => e = .returned (.bool (roomQ S no k)) ∧ w' = w := by
  obtain ⟨⟨m1, s1, -, -, hG⟩, n1, -⟩ := h
  obtain ⟨b, off, rfl, hb, hcl⟩ := hG (by omega)
  obtain ⟨p, c, c0, _, _⟩ := hcl k hk
  have HC := hid (notSelf_any BK no (k : Int) w n1)
  clear hcl hG n1
  by_cases hno : (k : Int) = no
  · have HR : Hid (roomQ S no k = false) := by
      show roomQ S no k = _
      unfold roomQ
      exact decide_eq_false (fun h => h.1 hno)
    have hdn : decide ((k : Int) ≠ no) = false := decide_eq_false (fun h => h hno)
    rw [hdn] at HC
    rw [HR.out]
    clear HR hdn hno
    go_enter Try.func62, Try.ntmps62
    go_wp2_with fail
    refine HC.out.mono ?_
    rintro e w2 ⟨rfl, hw2⟩
    rw [hw2]
    clear hw2
    go_wp2_with fail
    go_ret
    exact ⟨rfl, rfl⟩
  have hdn : decide ((k : Int) ≠ no) = true := decide_eq_true hno
  rw [hdn] at HC
  have HR : Hid (roomQ S no k = decide (S[k].bl.length = 0)) := by
    show roomQ S no k = _
    unfold roomQ
    rw [lenAt_eq S k hk]
    simp [hno]
  rw [HR.out]
  clear HR hno hdn
  generalize S[k] = s at *
  obtain ⟨l, age⟩ := s
  simp only at c0 hl ⊢
  generalize l.length = n at *
  go_enter Try.func62, Try.ntmps62
  go_wp2_with fail
  refine HC.out.mono ?_
  rintro e w2 ⟨rfl, hw2⟩
  rw [hw2]
  clear hw2
  go_wp2_with fail
  go_ret
  refine ⟨ret_bd ?_, rfl⟩
  by_cases h0 : n = 0
  · subst h0; rfl
  · rw [decide_eq_false h0]
    exact beq_eq_false_iff_ne.2 (by omega)
set_option maxHeartbeats 4000000 in
theorem firstSeg_n (BK BM BH BW : Nat) (no : Int) (aS aL : Option Addr) (kS kL nL : Nat) (S : List Sg) (w : World) (hm : S.length ≤ 8) (hl : ∀ k (h : k < S.length), S[k].bl.length ≤ 1000) (h : CN BK BM BH no aS kS S w) (hw : BW < w.heap.size)
    (w0 : w.cell? ⟨BW, 0, none⟩ = some (.func (.func 61) #[] #[.pointer (some ⟨BM, 0, none⟩), .pointer (some ⟨BH, 0, none⟩)])) (w1 : w.cell? ⟨BW, 1, none⟩ = some (.func (.func 62) #[] #[.pointer (some ⟨BM, 0, none⟩), .pointer (some ⟨BH, 0, none⟩)])) :
    Calls Try.prog 63 #[.agg #[.slice aS S.length kS, .slice aL nL kL], .slice (some ⟨BW, 0, none⟩) 2 2] w fun e w' => e = segOf (roomH S no) ∧ Below w.heap.size w w' := by
  have HB : Hid (Below w.heap.size w (w.alloc (.cells #[.slice aS S.length kS, .slice aL nL kL] 26))) := boxB w _
  have y0 : (w.alloc (.cells #[.slice aS S.length kS, .slice aL nL kL] 26)).cell? ⟨w.heap.size, 0, none⟩ = some (.slice aS S.length kS) := by go_simp
  have HC := hid (h.on HB.out)
  rw [← HB.out.cell (p := ⟨BW, 0, none⟩) hw] at w0
  rw [← HB.out.cell (p := ⟨BW, 1, none⟩) hw] at w1
  have HLS := hid hl
  clear h hl
  generalize hW : w.alloc (.cells #[.slice aS S.length kS, .slice aL nL kL] 26) = W at *
  have HP : Hid (∀ k (h : k < S.length), Calls Try.prog 61 #[.int .i64 k, .pointer (some ⟨BM, 0, none⟩), .pointer (some ⟨BH, 0, none⟩)] W fun e w' => e = .returned (.bool (roomP S no k)) ∧ w' = W) := fun k hk => begun_n BK BM BH no aS kS S k W hk (HLS.out k hk) HC.out
  have HQ : Hid (∀ k (h : k < S.length), Calls Try.prog 62 #[.int .i64 k, .pointer (some ⟨BM, 0, none⟩), .pointer (some ⟨BH, 0, none⟩)] W fun e w' => e = .returned (.bool (roomQ S no k)) ∧ w' = W) := fun k hk => free_n BK BM BH no aS kS S k W hk (HLS.out k hk) HC.out
  clear HC HLS
  go_enter Try.func63, Try.ntmps63
  go_wp2_with fail
  go_loopw [11] (fun i wr => wr = W ∧ (i = .int .i64 0 ∨ (i = .int .i64 1 ∧ ∀ j, j < S.length → roomP S no j = false) ∨ (i = .int .i64 2 ∧ (∀ j, j < S.length → roomP S no j = false) ∧ ∀ j, j < S.length → roomQ S no j = false))) (fun i _ => 2 - (intOf i).toNat)
  case atStart => exact ⟨rfl, Or.inl rfl⟩
  case round =>
    obtain ⟨hwr, hcase⟩ := hrel
    obtain rfl := hwr.symm
    rcases hcase with rfl | ⟨rfl, hp⟩ | ⟨rfl, hp, hq⟩
    · clear hW
      go_wp2_with fail
      go_loopw [18] (fun i wr => ∃ k : Nat, k ≤ S.length ∧ i = .int .i64 k ∧ (∀ j, j < k → roomP S no j = false) ∧ wr = W) (fun i _ => S.length - (intOf i).toNat)
      case atStart => exact ⟨0, Nat.zero_le _, rfl, (fun _ h => absurd h (Nat.not_lt_zero _)), rfl⟩
      case round =>
        obtain ⟨k, hk, rfl, hno, hwr2⟩ := hrel
        obtain rfl := hwr2.symm
        have HNO := hid hno
        clear hno
        by_cases hlt : k < S.length
        · have HCk := hid (HP.out k hlt)
          have HYES : Hid (roomP S no k = true → roomH S no = some k) := fun h => roomH_p S no k hlt h HNO.out
          have HNX : Hid (roomP S no k = false → ∀ j, j < k + 1 → roomP S no j = false) := fun h j hj => by
            by_cases e : j = k
            · subst e; exact h
            · exact HNO.out j (by omega)
          clear HNO
          generalize roomP S no k = b at *
          cases b
          · have HN := hid (HNX.out rfl)
            clear HNX HYES
            go_wp2_with fail
            refine HCk.out.mono ?_
            rintro e w9 ⟨rfl, hw9⟩
            rw [hw9]
            clear hw9
            go_wp2_with fail
            go_roundw
            case rel => exact ⟨k + 1, by omega, by go_num, HN.out, by trivial⟩
            case measure => simp [intOf]; omega
          · have HY := hid (HYES.out rfl)
            clear HNX HYES
            go_wp2_with fail
            refine HCk.out.mono ?_
            rintro e w9 ⟨rfl, hw9⟩
            rw [hw9]
            clear hw9
            go_wp2_with fail
            go_ret2
            exact ⟨by rw [HY.out]; rfl, HB.out⟩
        · have HALL : Hid (∀ j, j < S.length → roomP S no j = false) := fun j hj => HNO.out j (by omega)
          clear HNO
          go_wp2_with fail
          go_roundw
          case rel => exact ⟨by trivial, Or.inr (Or.inl ⟨by first | rfl | go_num, HALL.out⟩)⟩
          case measure => simp [intOf]
    · clear hW
      have HPP := hid hp
      clear hp
      go_wp2_with fail
      go_loopw [18] (fun i wr => ∃ k : Nat, k ≤ S.length ∧ i = .int .i64 k ∧ (∀ j, j < k → roomQ S no j = false) ∧ wr = W) (fun i _ => S.length - (intOf i).toNat)
      case atStart => exact ⟨0, Nat.zero_le _, rfl, (fun _ h => absurd h (Nat.not_lt_zero _)), rfl⟩
      case round =>
        obtain ⟨k, hk, rfl, hno, hwr2⟩ := hrel
        obtain rfl := hwr2.symm
        have HNO := hid hno
        clear hno
        by_cases hlt : k < S.length
        · have HCk := hid (HQ.out k hlt)
          have HYES : Hid (roomQ S no k = true → roomH S no = some k) := fun h => roomH_q S no HPP.out k hlt h HNO.out
          have HNX : Hid (roomQ S no k = false → ∀ j, j < k + 1 → roomQ S no j = false) := fun h j hj => by
            by_cases e : j = k
            · subst e; exact h
            · exact HNO.out j (by omega)
          clear HNO
          generalize roomQ S no k = b at *
          cases b
          · have HN := hid (HNX.out rfl)
            clear HNX HYES
            go_wp2_with fail
            refine HCk.out.mono ?_
            rintro e w9 ⟨rfl, hw9⟩
            rw [hw9]
            clear hw9
            go_wp2_with fail
            go_roundw
            case rel => exact ⟨k + 1, by omega, by go_num, HN.out, by trivial⟩
            case measure => simp [intOf]; omega
          · have HY := hid (HYES.out rfl)
            clear HNX HYES
            go_wp2_with fail
            refine HCk.out.mono ?_
            rintro e w9 ⟨rfl, hw9⟩
            rw [hw9]
            clear hw9
            go_wp2_with fail
            go_ret2
            exact ⟨by rw [HY.out]; rfl, HB.out⟩
        · have HALL : Hid (∀ j, j < S.length → roomQ S no j = false) := fun j hj => HNO.out j (by omega)
          clear HNO
          go_wp2_with fail
          go_roundw
          case rel => exact ⟨by trivial, Or.inr (Or.inr ⟨by first | rfl | go_num, HPP.out, HALL.out⟩)⟩
          case measure => simp [intOf]
    · have HN := hid (roomH_no S no hp hq)
      clear hp hq hW
      go_wp2_with fail
      go_ret2
      exact ⟨by rw [HN.out]; rfl, HB.out⟩
end Go.Proofs.Ytohkhcjdjjlfbaa
