/- Parts of slices of numbers and of texts. -/
import Derived.Test.YtmbkdollakbigaaKZ
namespace Go.Proofs.Ytmbkdollakbigaa
set_option maxRecDepth 100000
open Go Go.ChangeShapes Go.WideShapes Go.ChangeAt Go.RowKit

theorem Is.takeK {B : Nat} {a : Option Addr} {l : List Int} {w : World} (h : Is B a l w) (n : Nat) : Is B a (l.take n) w := by
  refine ⟨fun h0 => ?_⟩
  have hl : 0 < l.length := by rw [List.length_map, List.length_take] at h0; omega
  obtain ⟨b, off, e, hb, hc⟩ := h.cell hl
  refine ⟨b, off, e, hb, fun i hi j hj => ?_⟩
  rw [List.length_map, List.length_take] at hi
  obtain rfl : j = 0 := by omega
  rw [List.getElem_map, List.getElem_take]
  have := hc i (by omega)
  rw [Nat.mul_one, Nat.add_zero]
  exact this
theorem Is.dropK {B b off : Nat} {l : List Int} {w : World} (h : Is B (some ⟨b, off, none⟩) l w) (n : Nat) : Is B (some ⟨b, off + n, none⟩) (l.drop n) w := by
  refine ⟨fun h0 => ?_⟩
  have hl : n < l.length := by rw [List.length_map, List.length_drop] at h0; omega
  obtain ⟨b', off', e, hb, hc⟩ := h.cell (by omega)
  cases e
  refine ⟨b, off + n, rfl, hb, fun i hi j hj => ?_⟩
  rw [List.length_map, List.length_drop] at hi
  obtain rfl : j = 0 := by omega
  rw [List.getElem_map, List.getElem_drop]
  have := hc (n + i) (by omega)
  rw [Nat.mul_one, Nat.add_zero, Nat.add_assoc]
  exact this
theorem cut_lowKI (a : Option Addr) (k : Nat) (l : List Int) (m n : Nat) (hm : m = l.length) (hn : n ≤ l.length) (hk : l.length ≤ k) : ∃ c, ∀ v, Sem.run Try.prog (Instr.slice 26 (.slice a m k) none (some (.int .i64 (n : Int))) none) v = .ok (.slice a (l.take n).length c) v := by
  subst hm
  have hz : ∀ v, Sem.run Try.prog (Go.sizeOf (Try.prog.elem 26)) v = .ok 1 v := fun v => by kernel_rfl
  refine ⟨k, fun v => ?_⟩
  have h := run_slice_h (P := Try.prog) v 26 a l.length k (by kernel_rfl) .i64 (n : Int) (by omega) (by omega)
  rw [h, hz]
  have e : (l.take n).length = n := by rw [List.length_take]; omega
  rw [e]
  simp only [Result.andThen, sliced, Int.toNat_natCast, Nat.sub_zero, Nat.zero_mul]
  congr 2
  split
  · rfl
  · cases a with
    | none => rfl
    | some a => simp [Addr.add]
theorem cut_highKI (a : Option Addr) (k : Nat) (l : List Int) (m n : Nat) (hm : m = l.length) (hn : n ≤ l.length) (hk : l.length ≤ k) {B : Nat} {w : World} (hL : Is B a l w) : ∃ a2 c, (∀ v, Sem.run Try.prog (Instr.slice 26 (.slice a m k) (some (.int .i64 (n : Int))) none none) v = .ok (.slice a2 (l.drop n).length c) v) ∧ (∀ (B' : Nat) (w' : World), Is B' a l w' → Is B' a2 (l.drop n) w') := by
  subst hm
  have hz : ∀ v, Sem.run Try.prog (Go.sizeOf (Try.prog.elem 26)) v = .ok 1 v := fun v => by kernel_rfl
  refine ⟨if k = n then a else a.map (·.add (n * 1)), k - n, fun v => ?_, fun B' w' hL' => ?_⟩
  · have h := run_slice_l (P := Try.prog) v 26 a l.length k (by kernel_rfl) .i64 (n : Int) (by omega) (by omega)
    rw [h, hz]
    have e : (l.drop n).length = l.length - n := by rw [List.length_drop]
    rw [e]
    simp only [Result.andThen, sliced, Int.toNat_natCast]
  · by_cases h0 : n < l.length
    · rw [if_neg (by omega)]
      obtain ⟨b, off, rfl, hb, hc⟩ := hL.cell (by omega)
      have e : (some (⟨b, off, none⟩ : Addr)).map (·.add (n * 1)) = some ⟨b, off + n, none⟩ := by
        simp [Addr.add]
      rw [e]
      exact hL'.dropK n
    · have : l.drop n = [] := List.drop_of_length_le (by omega)
      rw [this]
      exact ⟨fun h => absurd h (by simp)⟩

theorem Ss.takeK {B : Nat} {a : Option Addr} {l : List ByteArray} {w : World} (h : Ss B a l w) (n : Nat) : Ss B a (l.take n) w := by
  refine ⟨fun h0 => ?_⟩
  have hl : 0 < l.length := by rw [List.length_map, List.length_take] at h0; omega
  obtain ⟨b, off, e, hb, hc⟩ := h.cell hl
  refine ⟨b, off, e, hb, fun i hi j hj => ?_⟩
  rw [List.length_map, List.length_take] at hi
  obtain rfl : j = 0 := by omega
  rw [List.getElem_map, List.getElem_take]
  have := hc i (by omega)
  rw [Nat.mul_one, Nat.add_zero]
  exact this
theorem Ss.dropK {B b off : Nat} {l : List ByteArray} {w : World} (h : Ss B (some ⟨b, off, none⟩) l w) (n : Nat) : Ss B (some ⟨b, off + n, none⟩) (l.drop n) w := by
  refine ⟨fun h0 => ?_⟩
  have hl : n < l.length := by rw [List.length_map, List.length_drop] at h0; omega
  obtain ⟨b', off', e, hb, hc⟩ := h.cell (by omega)
  cases e
  refine ⟨b, off + n, rfl, hb, fun i hi j hj => ?_⟩
  rw [List.length_map, List.length_drop] at hi
  obtain rfl : j = 0 := by omega
  rw [List.getElem_map, List.getElem_drop]
  have := hc (n + i) (by omega)
  rw [Nat.mul_one, Nat.add_zero, Nat.add_assoc]
  exact this
theorem cut_lowKS (a : Option Addr) (k : Nat) (l : List ByteArray) (m n : Nat) (hm : m = l.length) (hn : n ≤ l.length) (hk : l.length ≤ k) : ∃ c, ∀ v, Sem.run Try.prog (Instr.slice 62 (.slice a m k) none (some (.int .i64 (n : Int))) none) v = .ok (.slice a (l.take n).length c) v := by
  subst hm
  have hz : ∀ v, Sem.run Try.prog (Go.sizeOf (Try.prog.elem 62)) v = .ok 1 v := fun v => by kernel_rfl
  refine ⟨k, fun v => ?_⟩
  have h := run_slice_h (P := Try.prog) v 62 a l.length k (by kernel_rfl) .i64 (n : Int) (by omega) (by omega)
  rw [h, hz]
  have e : (l.take n).length = n := by rw [List.length_take]; omega
  rw [e]
  simp only [Result.andThen, sliced, Int.toNat_natCast, Nat.sub_zero, Nat.zero_mul]
  congr 2
  split
  · rfl
  · cases a with
    | none => rfl
    | some a => simp [Addr.add]
theorem cut_highKS (a : Option Addr) (k : Nat) (l : List ByteArray) (m n : Nat) (hm : m = l.length) (hn : n ≤ l.length) (hk : l.length ≤ k) {B : Nat} {w : World} (hL : Ss B a l w) : ∃ a2 c, (∀ v, Sem.run Try.prog (Instr.slice 62 (.slice a m k) (some (.int .i64 (n : Int))) none none) v = .ok (.slice a2 (l.drop n).length c) v) ∧ (∀ (B' : Nat) (w' : World), Ss B' a l w' → Ss B' a2 (l.drop n) w') := by
  subst hm
  have hz : ∀ v, Sem.run Try.prog (Go.sizeOf (Try.prog.elem 62)) v = .ok 1 v := fun v => by kernel_rfl
  refine ⟨if k = n then a else a.map (·.add (n * 1)), k - n, fun v => ?_, fun B' w' hL' => ?_⟩
  · have h := run_slice_l (P := Try.prog) v 62 a l.length k (by kernel_rfl) .i64 (n : Int) (by omega) (by omega)
    rw [h, hz]
    have e : (l.drop n).length = l.length - n := by rw [List.length_drop]
    rw [e]
    simp only [Result.andThen, sliced, Int.toNat_natCast]
  · by_cases h0 : n < l.length
    · rw [if_neg (by omega)]
      obtain ⟨b, off, rfl, hb, hc⟩ := hL.cell (by omega)
      have e : (some (⟨b, off, none⟩ : Addr)).map (·.add (n * 1)) = some ⟨b, off + n, none⟩ := by
        simp [Addr.add]
      rw [e]
      exact hL'.dropK n
    · have : l.drop n = [] := List.drop_of_length_le (by omega)
      rw [this]
      exact ⟨fun h => absurd h (by simp)⟩
end Go.Proofs.Ytmbkdollakbigaa
