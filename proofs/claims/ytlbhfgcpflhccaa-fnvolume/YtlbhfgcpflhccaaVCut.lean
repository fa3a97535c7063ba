/- Slices of records, cut. -/
import Derived.Test.YtlbhfgcpflhccaaVDo
namespace Go.Proofs.Ytlbhfgcpflhccaa
set_option maxRecDepth 100000
open Go Go.ChangeShapes Go.WideShapes Go.ChangeAt Go.RowKit G00541
theorem Rs.take {B : Nat} {a : Option Addr} {L : List Rc} {w : World} (h : Rs B a L w) (n : Nat) : Rs B a (L.take n) w := by
  refine ⟨fun h0 => ?_⟩
  have h0' : 0 < L.length := by
    rw [List.length_map, List.length_take] at h0; omega
  obtain ⟨b, off, e, hb, hc⟩ := GSl.cell h (by rw [List.length_map]; exact h0')
  refine ⟨b, off, e, hb, fun i hi j hj => ?_⟩
  have hi' : i < L.length := by rw [List.length_map, List.length_take] at hi; omega
  have := hc i (by rw [List.length_map]; exact hi') j hj
  rw [this, List.getElem_map, List.getElem_map, List.getElem_take]
theorem Rs.drop {B b off : Nat} {L : List Rc} {w : World} (h : Rs B (some ⟨b, off, none⟩) L w) (n : Nat) : Rs B (some ⟨b, off + n * 4, none⟩) (L.drop n) w := by
  refine ⟨fun h0 => ?_⟩
  have hn : n < L.length := by
    rw [List.length_map, List.length_drop] at h0; omega
  obtain ⟨b', off', e, hb, hc⟩ := GSl.cell h (by rw [List.length_map]; omega)
  have e1 : b = b' ∧ off = off' := by
    injection e with e
    injection e with e1 e2
    exact ⟨e1, e2⟩
  obtain ⟨rfl, rfl⟩ := e1
  refine ⟨b, off + n * 4, rfl, hb, fun i hi j hj => ?_⟩
  have hi' : n + i < L.length := by rw [List.length_map, List.length_drop] at hi; omega
  have := hc (n + i) (by rw [List.length_map]; exact hi') j hj
  rw [List.getElem_map, List.getElem_drop]
  rw [List.getElem_map] at this
  rw [← this]
  congr 2
  rw [Nat.add_mul]; omega
theorem Rs.nil (B : Nat) (a : Option Addr) (w : World) : Rs B a [] w := ⟨fun h => absurd h (by simp)⟩
theorem cut_low (aL : Option Addr) (kL : Nat) (L : List Rc) (n : Nat) (s : Int) (hs : s = n) (hn : n ≤ L.length) (hk : L.length ≤ kL) : ∃ c, ∀ v, Sem.run Try.prog (Instr.slice 26 (.slice aL L.length kL) none (some (.int .i64 s)) none) v = .ok (.slice aL (L.take n).length c) v := by
  subst hs
  have hz : ∀ v, Sem.run Try.prog (Go.sizeOf (Try.prog.elem 26)) v = .ok 4 v := fun v => by kernel_rfl
  refine ⟨kL, fun v => ?_⟩
  have h := run_slice_h (P := Try.prog) v 26 aL L.length kL (by kernel_rfl) .i64 (n : Int) (by omega) (by omega)
  rw [h, hz]
  have e : (L.take n).length = n := by rw [List.length_take]; omega
  rw [e]
  simp only [Result.andThen, sliced, Int.toNat_natCast, Nat.sub_zero, Nat.zero_mul]
  congr 2
  split
  · rfl
  · cases aL with
    | none => rfl
    | some a => simp [Addr.add]
theorem cut_high (aL : Option Addr) (kL : Nat) (L : List Rc) (n : Nat) (s : Int) (hs : s = n) (hn : n ≤ L.length) (hk : L.length ≤ kL) {B : Nat} {w : World} (hL : Rs B aL L w) : ∃ a c, (∀ v, Sem.run Try.prog (Instr.slice 26 (.slice aL L.length kL) (some (.int .i64 s)) none none) v = .ok (.slice a (L.drop n).length c) v) ∧ Rs B a (L.drop n) w := by
  subst hs
  have hz : ∀ v, Sem.run Try.prog (Go.sizeOf (Try.prog.elem 26)) v = .ok 4 v := fun v => by kernel_rfl
  refine ⟨if kL = n then aL else aL.map (·.add (n * 4)), kL - n, fun v => ?_, ?_⟩
  · have h := run_slice_l (P := Try.prog) v 26 aL L.length kL (by kernel_rfl) .i64 (n : Int) (by omega) (by omega)
    rw [h, hz]
    have e : (L.drop n).length = L.length - n := by rw [List.length_drop]
    rw [e]
    simp only [Result.andThen, sliced, Int.toNat_natCast]
  · by_cases h0 : n < L.length
    · rw [if_neg (by omega)]
      obtain ⟨b, off, rfl, hb, hc⟩ := hL.cell (by omega)
      have e : (some (⟨b, off, none⟩ : Addr)).map (·.add (n * 4)) = some ⟨b, off + n * 4, none⟩ := by
        simp [Addr.add]
      rw [e]
      exact hL.drop n
    · have : L.drop n = [] := List.drop_of_length_le (by omega)
      rw [this]
      exact Rs.nil _ _ _
end Go.Proofs.Ytlbhfgcpflhccaa
