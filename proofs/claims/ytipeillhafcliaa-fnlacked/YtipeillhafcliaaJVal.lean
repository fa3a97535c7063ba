/- The value of a product of differences: the program and the model. -/
import Derived.Test.YtipeillhafcliaaJGood
namespace Go.Proofs.Ytipeillhafcliaa
set_option maxRecDepth 100000
open Go Go.ChangeShapes Go.WideShapes Go.ChangeAt Go.RowKit
/-- the value, gone on from v with the sign s -/
def valF (x : Int) : Int → Int → List Int → Int
  | v, _, [] => v
  | v, s, t :: r => valF x (v * x + (-s) * t) (-s) r
def valE (e : List Int) (x : Int) : Int := valF x 1 1 e
theorem valF_step (x v s : Int) (l : List Int) (k : Nat) (h : k < l.length) : valF x v s (l.drop k) = valF x (v * x + (-s) * l[k]) (-s) (l.drop (k + 1)) := by
  rw [List.drop_eq_getElem_cons h]; rfl
theorem valF_end (x v s : Int) (l : List Int) : valF x v s (l.drop l.length) = v := by rw [List.drop_length]; rfl
def vB (k : Nat) : Int := 1000000000 * 61 ^ k
theorem vB_succ (k : Nat) : vB (k + 1) = 61 * vB k := by
  unfold vB; rw [Int.pow_succ]; generalize (61 : Int) ^ k = y; omega
theorem vB_le {k : Nat} (h : k ≤ 4) : 1000000000 ≤ vB k ∧ vB k ≤ 13845841000000000 := by
  have : k = 0 ∨ k = 1 ∨ k = 2 ∨ k = 3 ∨ k = 4 := by omega
  rcases this with rfl | rfl | rfl | rfl | rfl <;> decide
theorem mul60 {v x M : Int} (h1 : -M ≤ v) (h2 : v ≤ M) (h3 : 0 ≤ x) (h4 : x ≤ 60) : -(60 * M) ≤ v * x ∧ v * x ≤ 60 * M := by
  have hM : 0 ≤ M := by omega
  have a := Int.mul_le_mul_of_nonneg_right h2 h3
  have b := Int.mul_le_mul_of_nonneg_left h4 hM
  have c := Int.mul_le_mul_of_nonneg_right h1 h3
  rw [Int.neg_mul] at c
  omega
theorem valF_bnd (x : Int) (h0 : 0 ≤ x) (h1 : x ≤ 60) (v s : Int) (hs : s = 1 ∨ s = -1) (t : Int) (ht : -1000000000 ≤ t ∧ t ≤ 1000000000) (k : Nat) (hk : k < 4) (hv : -vB k ≤ v ∧ v ≤ vB k) :
    (-vB (k + 1) ≤ v * x + (-s) * t ∧ v * x + (-s) * t ≤ vB (k + 1)) ∧ (-830750460000000000 ≤ v * x ∧ v * x ≤ 830750460000000000) := by
  have hb := vB_le (k := k) (by omega)
  rw [vB_succ]
  obtain ⟨m1, m2⟩ := mul60 hv.1 hv.2 h0 h1
  rcases hs with rfl | rfl <;> simp <;> omega
set_option maxHeartbeats 1000000 in
theorem valueAt_any (a : Option Addr) (cap : Nat) (l : List Int) (x : Int) (w : World) (hg : goodN l = true) (h0 : 0 ≤ x) (h1 : x ≤ 60) (hZ : Is w.heap.size a l w) :
    Calls Try.prog 45 #[.slice a l.length cap, .int .i64 x] w fun e w' => e = .returned (.int .i64 (valE l x)) ∧ w' = w := by
  have HZ := hid hZ
  have HG := hid (goodN_at hg)
  have hn := goodN_len hg
  clear hZ hg
  go_enter Try.func45, Try.ntmps45
  go_wp2
  go_loopw [5, 6, 11] (fun v s i wr => ∃ (k : Nat) (vv ss : Int), k ≤ l.length ∧ i = .int .i64 k ∧ v = .int .i64 vv ∧ s = .int .i64 ss ∧ (ss = 1 ∨ ss = -1) ∧ (-vB k ≤ vv ∧ vv ≤ vB k) ∧ valF x vv ss (l.drop k) = valE l x ∧ wr = w) (fun _ _ i _ => l.length - (intOf i).toNat)
  case atStart => exact ⟨0, 1, 1, Nat.zero_le _, rfl, rfl, rfl, Or.inl rfl, by decide, rfl, rfl⟩
  case round =>
    obtain ⟨k, v, s, hk, rfl, rfl, rfl, hs, hv, hval, hwr⟩ := hrel
    subst hwr
    have HV := hid hval
    clear hval
    by_cases hlt : k < l.length
    · obtain ⟨b, off, rfl, hb, hc⟩ := HZ.out.cell (by omega)
      have x0 := hc k hlt
      have ht := HG.out k hlt
      have HB := hid (valF_bnd x h0 h1 v s hs l[k] ht k (by omega) hv)
      have HN : Hid (valF x (v * x + (-s) * l[k]) (-s) (l.drop (k + 1)) = valE l x) := (valF_step x v s l k hlt).symm.trans HV.out
      have hw1 : wrap64 (v * x) = v * x := by unfold wrap64; have := HB.out.2; omega
      have hw0 : wrap64 (-s) = -s := by unfold wrap64; omega
      have hw2 : wrap64 ((-s) * l[k]) = (-s) * l[k] := by rcases hs with rfl | rfl <;> (unfold wrap64; simp; omega)
      have hw3 : wrap64 (v * x + (-s) * l[k]) = v * x + (-s) * l[k] := by unfold wrap64; have := HB.out.1; have := vB_le (k := k + 1) (by omega); omega
      have HS : Hid (-s = 1 ∨ -s = -1) := by show _ ∨ _; omega
      clear hc hs hv HV ht
      generalize l[k] = t at *
      go_wp2
      go_roundw
      case rel =>
        refine ⟨k + 1, _, _, by omega, by go_num, rfl, rfl, ?_⟩
        rw [hw0, hw3]
        exact ⟨HS.out, HB.out.1, HN.out, by trivial⟩
      case measure => simp [intOf]; omega
    · obtain rfl : k = l.length := by omega
      rw [valF_end] at HV
      clear hv hs
      go_wp2
      go_ret
      first
        | exact ⟨congrArg (fun n => Ending.returned (.int .i64 n)) HV.out, rfl⟩
        | exact ⟨HV.out, rfl⟩
set_option maxHeartbeats 1000000 in
theorem l12Value_any (a : Option Addr) (cap : Nat) (l : List Int) (x : Int) (w : World) (hg : goodN l = true) (h0 : 0 ≤ x) (h1 : x ≤ 60) (hZ : Is w.heap.size a l w) :
    Calls Try.prog 50 #[.slice a l.length cap, .int .i64 x] w fun e w' => e = .returned (.int .i64 (valE l x)) ∧ w' = w := by
  have HZ := hid hZ
  have HG := hid (goodN_at hg)
  have hn := goodN_len hg
  clear hZ hg
  go_enter Try.func50, Try.ntmps50
  go_wp2
  go_loopw [5, 6, 11] (fun v s i wr => ∃ (k : Nat) (vv ss : Int), k ≤ l.length ∧ i = .int .i64 k ∧ v = .int .i64 vv ∧ s = .int .i64 ss ∧ (ss = 1 ∨ ss = -1) ∧ (-vB k ≤ vv ∧ vv ≤ vB k) ∧ valF x vv (-ss) (l.drop k) = valE l x ∧ wr = w) (fun _ _ i _ => l.length - (intOf i).toNat)
  case atStart => exact ⟨0, 1, -1, Nat.zero_le _, rfl, rfl, rfl, Or.inr rfl, by decide, rfl, rfl⟩
  case round =>
    obtain ⟨k, v, s, hk, rfl, rfl, rfl, hs, hv, hval, hwr⟩ := hrel
    subst hwr
    have HV := hid hval
    clear hval
    by_cases hlt : k < l.length
    · obtain ⟨b, off, rfl, hb, hc⟩ := HZ.out.cell (by omega)
      have x0 := hc k hlt
      have ht := HG.out k hlt
      have HB := hid (valF_bnd x h0 h1 v (-s) (by omega) l[k] ht k (by omega) hv)
      have HN : Hid (valF x (v * x + (- -s) * l[k]) (- -s) (l.drop (k + 1)) = valE l x) := (valF_step x v (-s) l k hlt).symm.trans HV.out
      rw [Int.neg_neg] at HB HN
      have hw1 : wrap64 (v * x) = v * x := by unfold wrap64; have := HB.out.2; omega
      have hw0 : wrap64 (-s) = -s := by unfold wrap64; omega
      have hw2 : wrap64 (s * l[k]) = s * l[k] := by rcases hs with rfl | rfl <;> (unfold wrap64; simp; omega)
      have hw3 : wrap64 (v * x + s * l[k]) = v * x + s * l[k] := by unfold wrap64; have := HB.out.1; have := vB_le (k := k + 1) (by omega); omega
      have HS : Hid (-s = 1 ∨ -s = -1) := by show _ ∨ _; omega
      have HN2 : Hid (valF x (v * x + s * l[k]) (- -s) (l.drop (k + 1)) = valE l x) := by show _ = _; rw [Int.neg_neg]; exact HN.out
      clear hc hs hv HV ht HN
      generalize l[k] = t at *
      go_wp2
      go_roundw
      case rel =>
        refine ⟨k + 1, _, _, by omega, by go_num, rfl, rfl, ?_⟩
        rw [hw0, hw3]
        exact ⟨HS.out, HB.out.1, HN2.out, by trivial⟩
      case measure => simp [intOf]; omega
    · obtain rfl : k = l.length := by omega
      rw [valF_end] at HV
      clear hv hs
      go_wp2
      go_ret
      first
        | exact ⟨congrArg (fun n => Ending.returned (.int .i64 n)) HV.out, rfl⟩
        | exact ⟨HV.out, rfl⟩
end Go.Proofs.Ytipeillhafcliaa
