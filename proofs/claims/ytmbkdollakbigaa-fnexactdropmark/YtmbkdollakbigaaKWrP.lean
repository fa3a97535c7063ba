/- A block written into the last layer: plain, and layers parted in memory. -/
import Derived.Test.YtmbkdollakbigaaKPp
import Derived.Test.YtmbkdollakbigaaKCopy
import Derived.Test.YtmbkdollakbigaaKUp
import Derived.Test.YtmbkdollakbigaaKFind
namespace Go.Proofs.Ytmbkdollakbigaa
set_option maxRecDepth 100000
open Go Go.ChangeShapes Go.WideShapes Go.ChangeAt Go.RowKit
def putT (z : Ly) (b : Int) (s : ByteArray) (y : Int) : ByteArray := if b = y then s else atB z.bl z.dt y ⟨#[0, 0]⟩ z.bl.length
/-- a layer with a block written -/
def putLy (z : Ly) (b : Int) (s : ByteArray) : Ly := ⟨z.mark, insU b z.bl, (insU b z.bl).map (putT z b s)⟩
def WrOk (S : List Ly) (b : Int) (s : ByteArray) : Prop := GoodK S ∧ (0 ≤ b ∧ b ≤ 15) ∧ s.size = 2
instance (S : List Ly) (b : Int) (s : ByteArray) : Decidable (WrOk S b s) := by unfold WrOk; infer_instance
def wrK (S : List Ly) (b : Int) (s : ByteArray) : Option (List Ly) := if WrOk S b s then some (S.dropLast ++ [putLy (S.getLastD ⟨0, [], []⟩) b s]) else none
theorem wrK_no {S : List Ly} {b : Int} {s : ByteArray} (h : ¬ WrOk S b s) : wrK S b s = none := if_neg h
theorem wrK_yes {S0 : List Ly} {z : Ly} {b : Int} {s : ByteArray} (h : WrOk (S0 ++ [z]) b s) : wrK (S0 ++ [z]) b s = some (S0 ++ [putLy z b s]) := by
  unfold wrK
  rw [if_pos h]
  simp
theorem atL_one (z : Ly) : (fun y => atL [z] y 1) = fun y => atB z.bl z.dt y ⟨#[0, 0]⟩ z.bl.length := by
  funext y
  rw [atL_at [z] y 0 (by simp)]
  rfl
theorem rises_b {l : List Int} (h : RiseOk l) : ∀ d i (g : i + d + 1 < l.length), l[i] < l[i + d + 1]
  | 0, i, g => by
    have h1 := (h (i + 1) g).1
    rw [aheadI_at l i (by omega)] at h1
    exact h1
  | d + 1, i, g => by
    have h1 := rises_b h d i (by omega)
    have h2 := (h (i + d + 1 + 1) g).1
    rw [aheadI_at l (i + d + 1) (by omega)] at h2
    exact Int.lt_trans h1 h2
theorem rise_pw {l : List Int} (h : RiseOk l) : l.Pairwise (· < ·) := by
  rw [List.pairwise_iff_getElem]
  intro i j hi hj hij
  have := rises_b h (j - i - 1) i (by omega)
  have e : i + (j - i - 1) + 1 = j := by omega
  simpa only [e] using this
theorem insU_len (b : Int) : ∀ l : List Int, (insU b l).length ≤ l.length + 1
  | [] => Nat.le_refl _
  | x :: r => by
    have := insU_len b r
    show (if x < b then x :: insU b r else if x = b then x :: r else b :: x :: r).length ≤ r.length + 1 + 1
    split
    · show (insU b r).length + 1 ≤ _; omega
    · split
      · show r.length + 1 ≤ _; omega
      · exact Nat.le_refl _
theorem rise_ge {l : List Int} (h : RiseOk l) : ∀ i (g : i < l.length), (i : Int) ≤ l[i]
  | 0, g => by have := (h 0 g).2.1; omega
  | i + 1, g => by
    have h1 := rise_ge h i (by omega)
    have h2 := (h (i + 1) g).1
    rw [aheadI_at l i (by omega)] at h2
    omega
theorem rise_few {l : List Int} (h : RiseOk l) : l.length ≤ 16 := by
  rcases Nat.lt_or_ge 16 l.length with g | g
  · have h1 := rise_ge h 16 g
    have h2 := (h 16 g).2.2
    omega
  · exact g
theorem atB_size2 {bl : List Int} {dt : List ByteArray} (h2 : TwoOk dt) (hl : dt.length = bl.length) (y : Int) : ∀ j, j ≤ bl.length → (atB bl dt y ⟨#[0, 0]⟩ j).size = 2
  | 0, _ => rfl
  | j + 1, h => by
    have ih := atB_size2 h2 hl y j (by omega)
    by_cases e : bl[j]'(by omega) = y
    · rw [← atB_yes bl dt y ⟨#[0, 0]⟩ j (by omega) (by omega) e]; exact h2 j (by omega)
    · rw [← atB_no bl dt y ⟨#[0, 0]⟩ j (by omega) e]; exact ih
theorem putT_size {z : Ly} (h : lyOk z) (b : Int) {s : ByteArray} (hs : s.size = 2) (y : Int) : (putT z b s y).size = 2 := by
  unfold putT
  split
  · exact hs
  · exact atB_size2 h.2.2 h.2.1 y _ (Nat.le_refl _)
/-- layers parted: all but the last, and the last -/
theorem Ys.ends {B : Nat} {a : Option Addr} {S0 : List Ly} {z : Ly} {w : World} (h : Ys B a (S0 ++ [z]) w) :
    ∃ b off, a = some ⟨b, off, none⟩ ∧ b < B ∧ w.cell? ⟨b, off + S0.length * 3, none⟩ = some (.int .i64 z.mark) ∧ Ys B (some ⟨b, off + S0.length * 3, none⟩) [z] w ∧ Ys B (some ⟨b, off, none⟩) S0 w := by
  obtain ⟨b, off, rfl, hb, hc⟩ := h (by simp)
  obtain ⟨p, c, q, d, c0, c1, c2, c3, c4⟩ := hc S0.length (by simp)
  have e : (S0 ++ [z])[S0.length]'(by simp) = z := by simp
  rw [e] at c0 c1 c2 c3 c4
  refine ⟨b, off, rfl, hb, c0, fun _ => ⟨b, off + S0.length * 3, rfl, hb, fun i hi => ?_⟩, fun _ => ⟨b, off, rfl, hb, fun i hi => ?_⟩⟩
  · obtain rfl : i = 0 := by simpa using hi
    exact ⟨p, c, q, d, by simpa using c0, by simpa using c1, by simpa using c2, c3, c4⟩
  · obtain ⟨p, c, q, d, g0, g1, g2, g3, g4⟩ := hc i (by simp; omega)
    have e' : (S0 ++ [z])[i]'(by simp; omega) = S0[i] := List.getElem_append_left hi
    rw [e'] at g0 g1 g2 g3 g4
    exact ⟨p, c, q, d, g0, g1, g2, g3, g4⟩
theorem SmallK.ends {S0 : List Ly} {z : Ly} (h : SmallK (S0 ++ [z])) : SmallK S0 := by
  have hl : (S0 ++ [z]).length = S0.length + 1 := by simp
  refine ⟨by have := h.n; omega, fun k hk => ?_, fun k hk => ?_, fun k hk j hj => ?_⟩
  · have := h.bl k (by omega); rwa [List.getElem_append_left hk] at this
  · have := h.dt k (by omega); rwa [List.getElem_append_left hk] at this
  · have e : (S0 ++ [z])[k]'(by omega) = S0[k] := List.getElem_append_left hk
    have := h.sz k (by omega)
    rw [e] at this
    exact this j hj
end Go.Proofs.Ytmbkdollakbigaa
