/- Walks of the laws' own makers of volumes, and their comparing. -/
import Derived.Test.YtlbhfgcpflhccaaVSz
import Derived.Test.YtlbhfgcpflhccaaStrS
import Derived.Test.YtlbhfgcpflhccaaHRecS
namespace Go.Proofs.Ytlbhfgcpflhccaa
set_option maxRecDepth 100000
open Go.ChangeShapes Go.WideShapes Go.ChangeAt Go.RowKit G00541
theorem SRow.madeV (w : World) (n : Nat) : SRow w.heap.size (List.replicate n ⟨#[]⟩) (w.alloc (.cells (madeCells (Value.string ⟨#[]⟩).cells n) 9)) := by
  have := GRow.made w 9 n #[.string ⟨#[]⟩]
  unfold SRow
  rw [List.map_replicate]
  have e : n * (#[Value.string ⟨#[]⟩] : Array Value).size = n := Nat.mul_one n
  rw [e] at this
  exact this
theorem infoStrV : (Try.prog.info? 9).map (fun i => (i.zero, i.size, i.bytes)) = some (some (.string ⟨#[]⟩), 1, 16) := by kernel_rfl
theorem make_strsV (n : Nat) (hn : n ≤ 1048576) (W : World) : (Instr.makeSlice 25 (.int .i64 (n : Int)) (.int .i64 (n : Int))).run Try.prog W =
    .ok (.slice (some ⟨W.heap.size, 0, none⟩) n n) (W.alloc (.cells (madeCells (Value.string ⟨#[]⟩).cells n) 9)) := by
  obtain ⟨i0, hi, hz0, hz1, hz2⟩ := info_parts infoStrV
  have h := run_make (P := Try.prog) W 25 9 i0 _ Try.underlying25 hi hz0 .i64 .i64 (n : Int) (n : Int) (by omega) (by omega) (by rw [hz2]; omega) (by omega)
  rw [hz1] at h
  simpa using h
/-- a volume in memory of its own: its texts in blocks lo .. mid - 1, its records in mid .. hi - 1 -/
def OwnV (lo hi : Nat) (aB : Option Addr) (B : List ByteArray) (aL : Option Addr) (L : List Rc) (w : World) : Prop := ∃ mid, lo ≤ mid ∧ mid ≤ hi ∧ OwnS lo mid aB B w ∧ OwnR mid hi aL L w
theorem OwnV.below {lo hi : Nat} {aB : Option Addr} {B : List ByteArray} {aL : Option Addr} {L : List Rc} {w w' : World} (h : OwnV lo hi aB B aL L w) (g : Below w.heap.size w w') : OwnV lo hi aB B aL L w' := by
  obtain ⟨mid, h1, h2, h3, h4⟩ := h
  exact ⟨mid, h1, h2, h3.below g, h4.below g⟩
theorem OwnV.read {lo hi : Nat} {aB : Option Addr} {B : List ByteArray} {aL : Option Addr} {L : List Rc} {w : World} (h : OwnV lo hi aB B aL L w) : Ss w.heap.size aB B w ∧ Rs w.heap.size aL L w := by
  obtain ⟨mid, h1, h2, h3, h4⟩ := h
  exact ⟨h3.ss, h4.rs⟩
theorem OwnV.none (lo hi : Nat) (hh : lo ≤ hi) (a b : Option Addr) (w : World) : OwnV lo hi a [] b [] w := ⟨lo, Nat.le_refl _, hh, Or.inl rfl, Or.inl rfl⟩
theorem OwnV.mono {lo hi hi' : Nat} {aB : Option Addr} {B : List ByteArray} {aL : Option Addr} {L : List Rc} {w : World} (h : OwnV lo hi aB B aL L w) (hh : hi ≤ hi') : OwnV lo hi' aB B aL L w := by
  obtain ⟨mid, h1, h2, h3, h4⟩ := h
  refine ⟨mid, h1, by omega, h3, ?_⟩
  rcases h4 with e | ⟨R, r1, r2, r3, r4⟩
  · exact Or.inl e
  · exact Or.inr ⟨R, r1, by omega, r3, r4⟩
end Go.Proofs.Ytlbhfgcpflhccaa
