/- Walks of the laws' own makers of volumes, and their comparing. -/
import Derived.Test.YtlaafcmfddidnaaVSz
import Derived.Test.YtlaafcmfddidnaaStrS
import Derived.Test.YtlaafcmfddidnaaHRecS
namespace Go.Proofs.Ytlaafcmfddidnaa
set_option maxRecDepth 100000
open Go.ChangeShapes Go.WideShapes Go.ChangeAt Go.RowKit G00541
theorem SRow.madeV (w : World) (n : Nat) : SRow w.heap.size (List.replicate n ⟨#[]⟩) (w.alloc (.cells (madeCells (Value.string ⟨#[]⟩).cells n) 9)) := by
  have := GRow.made w 9 n #[.string ⟨#[]⟩]
  unfold SRow
  rw [List.map_replicate]
  have e : n * (#[Value.string ⟨#[]⟩] : Array Value).size = n := Nat.mul_one n
  rw [e] at this
  exact this
theorem infoStrV : (Try.prog.info? 9).map (fun i => (i.zero, i.size, i.bytes)) = some (some (.string ⟨#[]⟩), 1, 16) := by kernel_rfl
theorem make_strsV (n : Nat) (hn : n ≤ 1048576) (W : World) : (Instr.makeSlice 24 (.int .i64 (n : Int)) (.int .i64 (n : Int))).run Try.prog W =
    .ok (.slice (some ⟨W.heap.size, 0, none⟩) n n) (W.alloc (.cells (madeCells (Value.string ⟨#[]⟩).cells n) 9)) := by
  obtain ⟨i0, hi, hz0, hz1, hz2⟩ := info_parts infoStrV
  have h := run_make (P := Try.prog) W 24 9 i0 _ Try.underlying24 hi hz0 .i64 .i64 (n : Int) (n : Int) (by omega) (by omega) (by rw [hz2]; omega) (by omega)
  rw [hz1] at h
  simpa using h
/-- a volume in memory of its own: its texts in blocks lo .. mid - 1, its records in mid .. hi - 1 -/
def OwnV (lo hi : Nat) (aB : Option Addr) (B : List ByteArray) (aL : Option Addr) (L : List Rc) (w : World) : Prop := ∃ mid, lo ≤ mid ∧ mid ≤ hi ∧ OwnS lo mid aB B w ∧ OwnR mid hi aL L w
theorem OwnV.below {lo hi : Nat} {aB : Option Addr} {B : List ByteArray} {aL : Option Addr} {L : List Rc} {w w' : World} (h : OwnV lo hi aB B aL L w) (g : Below w.heap.size w w') : OwnV lo hi aB B aL L w' := by
  obtain ⟨mid, h1, h2, h3, h4⟩ := h
  exact ⟨mid, h1, h2, h3.below g, h4.below g⟩
theorem OwnV.read {lo hi : Nat} {aB : Option Addr} {B : List ByteArray} {aL : Option Addr} {L : List Rc} {w : World} (h : OwnV lo hi aB B aL L w) : Ss w.heap.size aB B w ∧ Rs w.heap.size aL L w := by
  obtain ⟨mid, h1, h2, h3, h4⟩ := h
  exact ⟨h3.ss, h4.rs⟩
theorem OwnV.none (lo hi : Nat) (hh : lo ≤ hi) (a b : Option Addr) (w : World) : OwnV lo hi a [] b [] w := ⟨lo, Nat.le_refl _, hh, Or.inl rfl, Or.inl rfl⟩
theorem OwnV.mono {lo hi hi' : Nat} {aB : Option Addr} {B : List ByteArray} {aL : Option Addr} {L : List Rc} {w : World} (h : OwnV lo hi aB B aL L w) (hh : hi ≤ hi') : OwnV lo hi' aB B aL L w := by
  obtain ⟨mid, h1, h2, h3, h4⟩ := h
  refine ⟨mid, h1, by omega, h3, ?_⟩
  rcases h4 with e | ⟨R, r1, r2, r3, r4⟩
  · exact Or.inl e
  · exact Or.inr ⟨R, r1, by omega, r3, r4⟩
set_option maxHeartbeats 4000000 in
theorem eqVolume_same (aB aL bB bL : Option Addr) (kB kL cB cL : Nat) (B : List ByteArray) (F : Int) (L : List Rc) (s : Int) (w : World) (hf : FitV B L) (hB : Ss w.heap.size aB B w) (hL : Rs w.heap.size aL L w) (gB : Ss w.heap.size bB B w) (gL : Rs w.heap.size bL L w) :
    Calls Try.prog 8 #[.agg #[.slice aB B.length kB, .int .i64 F, .slice aL L.length kL, .int .i64 s], .agg #[.slice bB B.length cB, .int .i64 F, .slice bL L.length cL, .int .i64 s]] w fun e w' => e = .returned (.bool true) ∧ Below w.heap.size w w' := by
  have HB0 : Hid (Below w.heap.size w ((w.alloc (.cells #[.slice aB B.length kB, .int .i64 F, .slice aL L.length kL, .int .i64 s] 27)).alloc (.cells #[.slice bB B.length cB, .int .i64 F, .slice bL L.length cL, .int .i64 s] 27))) := ((Below.refl _ _).alloc (Nat.le_refl _) _).alloc (by simp) _
  have HC1 : Hid (∀ v, Below w.heap.size w v → Calls Try.prog 23 #[.slice aB B.length kB, .slice bB B.length cB] v fun e w' => e = .returned (.bool true) ∧ Below v.heap.size v w') := fun v g => eqStringS_same aB bB kB cB B v hf.1 ((hB.below g).mono g.size) ((gB.below g).mono g.size)
  have HC2 : Hid (∀ v, Below w.heap.size w v → Calls Try.prog 24 #[.slice aL L.length kL, .slice bL L.length cL] v fun e w' => e = .returned (.bool true) ∧ Below v.heap.size v w') := fun v g => eqRecordS_same aL bL kL cL L v hf.2 ((hL.below g).mono g.size) ((gL.below g).mono g.size)
  have HX : Hid (∀ v, Below ((w.alloc (.cells #[.slice aB B.length kB, .int .i64 F, .slice aL L.length kL, .int .i64 s] 27)).alloc (.cells #[.slice bB B.length cB, .int .i64 F, .slice bL L.length cL, .int .i64 s] 27)).heap.size ((w.alloc (.cells #[.slice aB B.length kB, .int .i64 F, .slice aL L.length kL, .int .i64 s] 27)).alloc (.cells #[.slice bB B.length cB, .int .i64 F, .slice bL L.length cL, .int .i64 s] 27)) v →
      (v.cell? ⟨w.heap.size, 1, none⟩ = some (.int .i64 F) ∧ v.cell? ⟨w.heap.size, 2, none⟩ = some (.slice aL L.length kL) ∧ v.cell? ⟨w.heap.size, 3, none⟩ = some (.int .i64 s)) ∧ v.cell? ⟨w.heap.size + 1, 1, none⟩ = some (.int .i64 F) ∧ v.cell? ⟨w.heap.size + 1, 2, none⟩ = some (.slice bL L.length cL) ∧ v.cell? ⟨w.heap.size + 1, 3, none⟩ = some (.int .i64 s)) := fun v g => by
    have hc : ∀ i, v.cell? ⟨w.heap.size, i, none⟩ = _ := fun i => g.cell (p := ⟨w.heap.size, i, none⟩) (by simp; omega)
    have hd : ∀ i, v.cell? ⟨w.heap.size + 1, i, none⟩ = _ := fun i => g.cell (p := ⟨w.heap.size + 1, i, none⟩) (by simp)
    exact ⟨⟨by rw [hc]; go_simp, by rw [hc]; go_simp, by rw [hc]; go_simp⟩, by rw [hd]; go_simp, by rw [hd]; go_simp, by rw [hd]; go_simp⟩
  clear hB hL gB gL hf
  go_enter Try.func8, Try.ntmps8
  go_wp2_with fail
  generalize (w.alloc (.cells #[.slice aB B.length kB, .int .i64 F, .slice aL L.length kL, .int .i64 s] 27)).alloc (.cells #[.slice bB B.length cB, .int .i64 F, .slice bL L.length cL, .int .i64 s] 27) = W at *
  refine (HC1.out W HB0.out).mono ?_
  rintro e w2 ⟨rfl, b2⟩
  obtain ⟨⟨x1, x2, x3⟩, y1, y2, y3⟩ := HX.out w2 b2
  have HB2 : Hid (Below w.heap.size w w2) := HB0.out.trans (b2.mono HB0.out.size)
  have HW2 : Hid (Below W.heap.size W w2) := b2
  clear b2 HC1
  go_wp2_with fail
  refine (HC2.out w2 HB2.out).mono ?_
  rintro e w3 ⟨rfl, b3⟩
  have HW3 : Hid (Below W.heap.size W w3) := HW2.out.trans (b3.mono HW2.out.size)
  have HB3 : Hid (Below w.heap.size w w3) := HB2.out.trans (b3.mono HB2.out.size)
  clear x1 x2 x3 y1 y2 y3 b3
  obtain ⟨⟨x1, x2, x3⟩, y1, y2, y3⟩ := HX.out w3 HW3.out
  go_wp2_with fail
  go_ret
  exact ⟨rfl, HB3.out⟩
end Go.Proofs.Ytlaafcmfddidnaa
