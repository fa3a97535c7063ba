/- Walk of the program's liveAt. -/
import Derived.Test.YtohkhcjdjjlfbaaHA
import Derived.Test.YtohkhcjdjjlfbaaIGh
namespace Go.Proofs.Ytohkhcjdjjlfbaa
set_option maxRecDepth 100000
open Go.ChangeShapes Go.WideShapes Go.ChangeAt Go.RowKit G00541
/-- a place and true, or nothing and false -/
def whereOf : Option (Nat × Nat) → Ending
  | some (k, i) => .returned (.tuple #[.int .i64 (k : Int), .int .i64 (i : Int), .bool true])
  | none => .returned (.tuple #[.int .i64 0, .int .i64 0, .bool false])
set_option maxHeartbeats 1000000 in
theorem liveAt_any (aS aL : Option Addr) (kS kL : Nat) (S : List Sg) (L : List (List Bool)) (x : Int) (w : World) (hm : S.length ≤ 1048576) (hl : L.length = S.length)
    (hv : ∀ k (h : k < S.length), (L[k]'(by omega)).length = S[k].bl.length ∧ S[k].bl.length ≤ 1048576) (hG : Gs w.heap.size aS S w) (hV : Vs w.heap.size aL L w) :
    Calls Try.prog 46 #[.agg #[.slice aS S.length kS, .slice aL L.length kL], .int .i64 x] w fun e w' => e = whereOf (whereH S L x) ∧ Below w.heap.size w w' := by
  have HG := hid hG
  have HV := hid hV
  have HL := hid hv
  rw [hl]
  have HB : Hid (Bx w (.cells #[.slice aS S.length kS, .slice aL S.length kL] 26) (w.alloc (.cells #[.slice aS S.length kS, .slice aL S.length kL] 26))) := Bx.start _ _
  clear hG hV hv
  go_enter Try.func46, Try.ntmps46
  go_wp2_with fail
  go_loopw [14] (fun i wr => ∃ k : Nat, k ≤ S.length ∧ i = .int .i64 k ∧ (∀ j, j < k → segW S L x j = none) ∧ Bx w (.cells #[.slice aS S.length kS, .slice aL S.length kL] 26) wr) (fun i _ => S.length - (intOf i).toNat)
  case atStart => exact ⟨0, Nat.zero_le _, rfl, (fun _ h => absurd h (Nat.not_lt_zero _)), HB.out⟩
  case round =>
    clear HB
    obtain ⟨k, hk, rfl, hno, hbx⟩ := hrel
    have HNO := hid hno
    have HBX := hid hbx
    clear hno
    by_cases hlt : k < S.length
    · obtain ⟨b, off, rfl, hb, hcl⟩ := HG.out (by omega)
      obtain ⟨p, c, c0, c1, hI⟩ := hcl k hlt
      rw [← hbx.below.cell (p := ⟨b, off + k * 2, none⟩) hb] at c0
      rw [← hbx.below.cell (p := ⟨b, off + k * 2 + 1, none⟩) hb] at c1
      obtain ⟨b', off', rfl, hb', hcv⟩ := HV.out (by omega)
      obtain ⟨p', c', c2, hJ⟩ := hcv k (by omega)
      have HV0 := hid c2
      obtain ⟨hve, hvm⟩ := HL.out k hlt
      have HI := hid hI
      have HJ := hid hJ
      have hse : segW S L x k = whereS S[k] (L[k]'(by omega)) x := segW_eq S L x k hlt (by omega)
      have HSE := hid hse
      have HYES : Hid (∀ i, segW S L x k = some i → whereH S L x = some (k, i)) := fun i h => whereH_at S L x k i hlt h HNO.out
      have HNX : Hid (segW S L x k = none → ∀ j, j < k + 1 → segW S L x j = none) := fun h j hj => by
        by_cases e : j = k
        · subst e; exact h
        · exact HNO.out j (by omega)
      clear hcl hcv hse HNO hbx c2 hI hJ
      generalize L[k]'(by omega) = v at *
      generalize S[k] = s at *
      obtain ⟨l, age⟩ := s
      simp only at c0 c1 hve hvm HI HV0
      rw [hve] at HV0
      have HB2 := hid (HBX.out.on (boxB wr (.cells #[.slice p l.length c, .int .i64 age] 40)))
      clear HBX
      go_wp2_with fail
      go_loopw [22] (fun i wr => ∃ n : Nat, n ≤ l.length ∧ i = .int .i64 n ∧ (∀ j, j < n → atP ⟨l, age⟩ v x j = false) ∧ Bx w (.cells #[.slice (some ⟨b, off, none⟩) S.length kS, .slice (some ⟨b', off', none⟩) S.length kL] 26) wr) (fun i _ => l.length - (intOf i).toNat)
      case atStart => exact ⟨0, Nat.zero_le _, rfl, (fun _ h => absurd h (Nat.not_lt_zero _)), HB2.out⟩
      case round =>
        clear HB2 c0 c1
        obtain ⟨n, hn, rfl, hno, hbx⟩ := hrel
        have HNO := hid hno
        have HBX := hid hbx
        clear hno
        by_cases hi : n < l.length
        · obtain ⟨bp, op, rfl, hbp, hcp⟩ := HI.out.cell (by omega)
          obtain ⟨bq, oq, rfl, hbq, hcq⟩ := HJ.out.cell (by omega)
          have x0 := (hbx.below.cell (p := ⟨bp, op + n, none⟩) hbp).trans (hcp n hi)
          have x1 := (hbx.below.cell (p := ⟨bq, oq + n, none⟩) hbq).trans (hcq n (by omega))
          have x2 := (hbx.below.cell (p := ⟨b', off' + k, none⟩) hb').trans HV0.out
          have y1 := box_cell hbx.box 1
          have HAP := hid (atP_eq ⟨l, age⟩ v x n hi (by omega))
          have HY2 : Hid (atP ⟨l, age⟩ v x n = true → whereH S L x = some (k, n)) := fun h => HYES.out n (by rw [HSE.out]; exact find_at _ _ n hi h HNO.out)
          have HN2 : Hid (atP ⟨l, age⟩ v x n = false → ∀ j, j < n + 1 → atP ⟨l, age⟩ v x j = false) := fun h j hj => by
            by_cases e : j = n
            · subst e; exact h
            · exact HNO.out j (by omega)
          clear hcp hcq hbx HNO
          generalize l[n] = z at *
          generalize v[n]'(by omega) = t at *
          by_cases q0 : z = x
          · have hd1 : (z == x) = true := beq_iff_eq.2 q0
            cases t
            · have HN := hid (HN2.out (by rw [HAP.out]; exact Bool.and_false _))
              clear HN2 HY2 HAP q0
              go_wp2_with fail
              go_roundw
              case rel => exact ⟨n + 1, by omega, by go_num, HN.out, HBX.out⟩
              case measure => simp [intOf]; omega
            · have HE := hid (HY2.out (by rw [HAP.out]; exact (Bool.and_true _).trans hd1))
              clear HN2 HY2 HAP q0
              go_wp2_with fail
              go_ret3
              exact ⟨by rw [HE.out]; rfl, HBX.out.below⟩
          · have hd1 : (z == x) = false := beq_eq_false_iff_ne.2 q0
            have HN := hid (HN2.out (by rw [HAP.out]; show (z == x && t) = false; rw [hd1]; rfl))
            clear HN2 HY2 HAP q0
            go_wp2_with fail
            go_roundw
            case rel => exact ⟨n + 1, by omega, by go_num, HN.out, HBX.out⟩
            case measure => simp [intOf]; omega
        · have HN := hid (HNX.out (by rw [HSE.out]; exact find_no _ _ (fun j (hj : j < l.length) => HNO.out j (by omega))))
          clear hbx HNO
          go_wp2_with fail
          go_roundw
          case rel => exact ⟨k + 1, by omega, by go_num, HN.out, HBX.out⟩
          case measure => simp [intOf]; omega
    · have HE : Hid (whereH S L x = none) := whereH_no S L x (fun j hj => HNO.out j (by omega))
      clear hbx HNO
      go_wp2_with fail
      go_ret3
      exact ⟨by rw [HE.out]; rfl, HBX.out.below⟩
end Go.Proofs.Ytohkhcjdjjlfbaa
