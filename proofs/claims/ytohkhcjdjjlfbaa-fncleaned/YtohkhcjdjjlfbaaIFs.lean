/- Walks of the program's closures of writeAnew and of firstSeg, as WriteBlock has them. -/
import Derived.Test.YtohkhcjdjjlfbaaHA
import Derived.Test.YtohkhcjdjjlfbaaIGs
namespace Go.Proofs.Ytohkhcjdjjlfbaa
set_option maxRecDepth 100000
open Go.ChangeShapes Go.WideShapes Go.ChangeAt Go.RowKit G00541
theorem wany_any (k : Int) (w : World) : Calls Try.prog 57 #[.int .i64 k] w fun e w' => e = .returned (.bool true) ∧ w' = w := by
  go_enter Try.func57, Try.ntmps57
  go_wp2_with fail
  go_ret
  exact ⟨rfl, rfl⟩
/-- what the closures read -/
structure CV (BM BH : Nat) (m : Value) (aS : Option Addr) (kS : Nat) (S : List Sg) (w : World) : Prop where
  may : w.cell? ⟨BM, 0, none⟩ = some m
  seg : w.cell? ⟨BH, 0, none⟩ = some (.slice aS S.length kS)
  bm : BM < w.heap.size
  bh : BH < w.heap.size
  gs : Gs w.heap.size aS S w
theorem CV.on {BM BH : Nat} {m : Value} {aS : Option Addr} {kS : Nat} {S : List Sg} {w w' : World} (h : CV BM BH m aS kS S w) (g : Below w.heap.size w w') : CV BM BH m aS kS S w' :=
  ⟨(g.cell (p := ⟨BM, 0, none⟩) h.bm).trans h.may, (g.cell (p := ⟨BH, 0, none⟩) h.bh).trans h.seg, Nat.lt_of_lt_of_le h.bm g.size, Nat.lt_of_lt_of_le h.bh g.size, (h.gs.below g).mono g.size⟩
theorem begun_w (BM BH : Nat) (aS : Option Addr) (kS : Nat) (S : List Sg) (k : Nat) (w : World) (hk : k < S.length) (hl : (S[k]).bl.length ≤ 1000) (h : CV BM BH (.func (.func 57) #[] #[]) aS kS S w) :
    Calls Try.prog 61 #[.int .i64 k, .pointer (some ⟨BM, 0, none⟩), .pointer (some ⟨BH, 0, none⟩)] w fun e w' => e = .returned (.bool (roomP S (-1) k)) ∧ w' = w := by
  obtain ⟨m1, s1, -, -, hG⟩ := h
  obtain ⟨b, off, rfl, hb, hcl⟩ := hG (by omega)
  obtain ⟨p, c, c0, _, _⟩ := hcl k hk
  have HC := hid (fun v => wany_any (k : Int) v)
  have HR : Hid (roomP S (-1) k = decide (1 ≤ S[k].bl.length ∧ S[k].bl.length ≤ 5)) := by
    show roomP S (-1) k = _
    unfold roomP
    rw [lenAt_eq S k hk]
    have : (k : Int) ≠ -1 := by omega
    simp [this]
  clear hcl hG
  rw [HR.out]
  clear HR
  generalize S[k] = s at *
  obtain ⟨l, age⟩ := s
  simp only at c0 hl ⊢
  generalize l.length = n at *
  by_cases h1 : 1 ≤ n
  · have hd1 : decide ((0 : Int) < (n : Int)) = true := decide_eq_true (by omega)
    have hd1n : decide (0 < n) = true := decide_eq_true (by omega)
    have HE : Hid (decide (1 ≤ n ∧ n ≤ 5) = decide (n < 6)) := by
      show decide _ = decide _
      rw [decide_eq_decide]; omega
    go_enter Try.func61, Try.ntmps61
    go_wp2_with fail
    refine (HC.out _).mono ?_
    rintro e w2 ⟨rfl, hw2⟩
    rw [hw2]
    clear hw2
    go_wp2_with fail
    go_ret
    exact ⟨ret_bd (by rw [HE.out]; first | rfl | (congr 1; simp; omega)), rfl⟩
  · have hd1 : decide ((0 : Int) < (n : Int)) = false := decide_eq_false (by omega)
    have hd1n : decide (0 < n) = false := decide_eq_false (by omega)
    have HE : Hid (decide (1 ≤ n ∧ n ≤ 5) = false) := decide_eq_false (by omega)
    go_enter Try.func61, Try.ntmps61
    go_wp2_with fail
    refine (HC.out _).mono ?_
    rintro e w2 ⟨rfl, hw2⟩
    rw [hw2]
    clear hw2
    go_wp2_with fail
    go_ret
    exact ⟨ret_bd (by rw [HE.out]), rfl⟩
theorem free_w (BM BH : Nat) (aS : Option Addr) (kS : Nat) (S : List Sg) (k : Nat) (w : World) (hk : k < S.length) (hl : (S[k]).bl.length ≤ 1000) (h : CV BM BH (.func (.func 57) #[] #[]) aS kS S w) :
    Calls Try.prog 62 #[.int .i64 k, .pointer (some ⟨BM, 0, none⟩), .pointer (some ⟨BH, 0, none⟩)] w fun e w' => e = .returned (.bool (roomQ S (-1) k)) ∧ w' = w := by
  obtain ⟨m1, s1, -, -, hG⟩ := h
  obtain ⟨b, off, rfl, hb, hcl⟩ := hG (by omega)
  obtain ⟨p, c, c0, _, _⟩ := hcl k hk
  have HC := hid (fun v => wany_any (k : Int) v)
  have HR : Hid (roomQ S (-1) k = decide (S[k].bl.length = 0)) := by
    show roomQ S (-1) k = _
    unfold roomQ
    rw [lenAt_eq S k hk]
    have : (k : Int) ≠ -1 := by omega
    simp [this]
  clear hcl hG
  rw [HR.out]
  clear HR
  generalize S[k] = s at *
  obtain ⟨l, age⟩ := s
  simp only at c0 hl ⊢
  generalize l.length = n at *
  go_enter Try.func62, Try.ntmps62
  go_wp2_with fail
  refine (HC.out _).mono ?_
  rintro e w2 ⟨rfl, hw2⟩
  rw [hw2]
  clear hw2
  go_wp2_with fail
  go_ret
  refine ⟨ret_bd ?_, rfl⟩
  by_cases h0 : n = 0
  · subst h0; rfl
  · rw [decide_eq_false h0]
    exact beq_eq_false_iff_ne.2 (by omega)
/-- a segment and true, or nothing and false -/
def segOf : Option Nat → Ending
  | some k => .returned (.tuple #[.int .i64 (k : Int), .bool true])
  | none => .returned (.tuple #[.int .i64 0, .bool false])
set_option maxHeartbeats 4000000 in
theorem firstSeg_w (BM BH BW : Nat) (aS aL : Option Addr) (kS kL nL : Nat) (S : List Sg) (w : World) (hm : S.length ≤ 8) (hl : ∀ k (h : k < S.length), S[k].bl.length ≤ 1000) (h : CV BM BH (.func (.func 57) #[] #[]) aS kS S w) (hw : BW < w.heap.size)
    (w0 : w.cell? ⟨BW, 0, none⟩ = some (.func (.func 61) #[] #[.pointer (some ⟨BM, 0, none⟩), .pointer (some ⟨BH, 0, none⟩)])) (w1 : w.cell? ⟨BW, 1, none⟩ = some (.func (.func 62) #[] #[.pointer (some ⟨BM, 0, none⟩), .pointer (some ⟨BH, 0, none⟩)])) :
    Calls Try.prog 63 #[.agg #[.slice aS S.length kS, .slice aL nL kL], .slice (some ⟨BW, 0, none⟩) 2 2] w fun e w' => e = segOf (roomH S (-1)) ∧ Below w.heap.size w w' := by
  have HB : Hid (Below w.heap.size w (w.alloc (.cells #[.slice aS S.length kS, .slice aL nL kL] 26))) := boxB w _
  have y0 : (w.alloc (.cells #[.slice aS S.length kS, .slice aL nL kL] 26)).cell? ⟨w.heap.size, 0, none⟩ = some (.slice aS S.length kS) := by go_simp
  have HC := hid (h.on HB.out)
  rw [← HB.out.cell (p := ⟨BW, 0, none⟩) hw] at w0
  rw [← HB.out.cell (p := ⟨BW, 1, none⟩) hw] at w1
  have HLS := hid hl
  clear h hl
  generalize hW : w.alloc (.cells #[.slice aS S.length kS, .slice aL nL kL] 26) = W at *
  have HP : Hid (∀ k (h : k < S.length), Calls Try.prog 61 #[.int .i64 k, .pointer (some ⟨BM, 0, none⟩), .pointer (some ⟨BH, 0, none⟩)] W fun e w' => e = .returned (.bool (roomP S (-1) k)) ∧ w' = W) := fun k hk => begun_w BM BH aS kS S k W hk (HLS.out k hk) HC.out
  have HQ : Hid (∀ k (h : k < S.length), Calls Try.prog 62 #[.int .i64 k, .pointer (some ⟨BM, 0, none⟩), .pointer (some ⟨BH, 0, none⟩)] W fun e w' => e = .returned (.bool (roomQ S (-1) k)) ∧ w' = W) := fun k hk => free_w BM BH aS kS S k W hk (HLS.out k hk) HC.out
  clear HC HLS
  go_enter Try.func63, Try.ntmps63
  go_wp2_with fail
  go_loopw [11] (fun i wr => wr = W ∧ (i = .int .i64 0 ∨ (i = .int .i64 1 ∧ ∀ j, j < S.length → roomP S (-1) j = false) ∨ (i = .int .i64 2 ∧ (∀ j, j < S.length → roomP S (-1) j = false) ∧ ∀ j, j < S.length → roomQ S (-1) j = false))) (fun i _ => 2 - (intOf i).toNat)
  case atStart => exact ⟨rfl, Or.inl rfl⟩
  case round =>
    obtain ⟨hwr, hcase⟩ := hrel
    obtain rfl := hwr.symm
    rcases hcase with rfl | ⟨rfl, hp⟩ | ⟨rfl, hp, hq⟩
    · clear hW
      go_wp2_with fail
      go_loopw [18] (fun i wr => ∃ k : Nat, k ≤ S.length ∧ i = .int .i64 k ∧ (∀ j, j < k → roomP S (-1) j = false) ∧ wr = W) (fun i _ => S.length - (intOf i).toNat)
      case atStart => exact ⟨0, Nat.zero_le _, rfl, (fun _ h => absurd h (Nat.not_lt_zero _)), rfl⟩
      case round =>
        obtain ⟨k, hk, rfl, hno, hwr2⟩ := hrel
        obtain rfl := hwr2.symm
        have HNO := hid hno
        clear hno
        by_cases hlt : k < S.length
        · have HCk := hid (HP.out k hlt)
          have HYES : Hid (roomP S (-1) k = true → roomH S (-1) = some k) := fun h => roomH_p S (-1) k hlt h HNO.out
          have HNX : Hid (roomP S (-1) k = false → ∀ j, j < k + 1 → roomP S (-1) j = false) := fun h j hj => by
            by_cases e : j = k
            · subst e; exact h
            · exact HNO.out j (by omega)
          clear HNO
          generalize roomP S (-1) k = b at *
          cases b
          · have HN := hid (HNX.out rfl)
            clear HNX HYES
            go_wp2_with fail
            refine HCk.out.mono ?_
            rintro e w9 ⟨rfl, hw9⟩
            rw [hw9]
            clear hw9
            go_wp2_with fail
            go_roundw
            case rel => exact ⟨k + 1, by omega, by go_num, HN.out, by trivial⟩
            case measure => simp [intOf]; omega
          · have HY := hid (HYES.out rfl)
            clear HNX HYES
            go_wp2_with fail
            refine HCk.out.mono ?_
            rintro e w9 ⟨rfl, hw9⟩
            rw [hw9]
            clear hw9
            go_wp2_with fail
            go_ret2
            exact ⟨by rw [HY.out]; rfl, HB.out⟩
        · have HALL : Hid (∀ j, j < S.length → roomP S (-1) j = false) := fun j hj => HNO.out j (by omega)
          clear HNO
          go_wp2_with fail
          go_roundw
          case rel => exact ⟨by trivial, Or.inr (Or.inl ⟨by first | rfl | go_num, HALL.out⟩)⟩
          case measure => simp [intOf]
    · clear hW
      have HPP := hid hp
      clear hp
      go_wp2_with fail
      go_loopw [18] (fun i wr => ∃ k : Nat, k ≤ S.length ∧ i = .int .i64 k ∧ (∀ j, j < k → roomQ S (-1) j = false) ∧ wr = W) (fun i _ => S.length - (intOf i).toNat)
      case atStart => exact ⟨0, Nat.zero_le _, rfl, (fun _ h => absurd h (Nat.not_lt_zero _)), rfl⟩
      case round =>
        obtain ⟨k, hk, rfl, hno, hwr2⟩ := hrel
        obtain rfl := hwr2.symm
        have HNO := hid hno
        clear hno
        by_cases hlt : k < S.length
        · have HCk := hid (HQ.out k hlt)
          have HYES : Hid (roomQ S (-1) k = true → roomH S (-1) = some k) := fun h => roomH_q S (-1) HPP.out k hlt h HNO.out
          have HNX : Hid (roomQ S (-1) k = false → ∀ j, j < k + 1 → roomQ S (-1) j = false) := fun h j hj => by
            by_cases e : j = k
            · subst e; exact h
            · exact HNO.out j (by omega)
          clear HNO
          generalize roomQ S (-1) k = b at *
          cases b
          · have HN := hid (HNX.out rfl)
            clear HNX HYES
            go_wp2_with fail
            refine HCk.out.mono ?_
            rintro e w9 ⟨rfl, hw9⟩
            rw [hw9]
            clear hw9
            go_wp2_with fail
            go_roundw
            case rel => exact ⟨k + 1, by omega, by go_num, HN.out, by trivial⟩
            case measure => simp [intOf]; omega
          · have HY := hid (HYES.out rfl)
            clear HNX HYES
            go_wp2_with fail
            refine HCk.out.mono ?_
            rintro e w9 ⟨rfl, hw9⟩
            rw [hw9]
            clear hw9
            go_wp2_with fail
            go_ret2
            exact ⟨by rw [HY.out]; rfl, HB.out⟩
        · have HALL : Hid (∀ j, j < S.length → roomQ S (-1) j = false) := fun j hj => HNO.out j (by omega)
          clear HNO
          go_wp2_with fail
          go_roundw
          case rel => exact ⟨by trivial, Or.inr (Or.inr ⟨by first | rfl | go_num, HPP.out, HALL.out⟩)⟩
          case measure => simp [intOf]
    · have HN := hid (roomH_no S (-1) hp hq)
      clear hp hq hW
      go_wp2_with fail
      go_ret2
      exact ⟨by rw [HN.out]; rfl, HB.out⟩
end Go.Proofs.Ytohkhcjdjjlfbaa
