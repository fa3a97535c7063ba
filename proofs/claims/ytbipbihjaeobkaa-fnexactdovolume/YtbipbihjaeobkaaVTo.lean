/- Walks of the laws' own makers of volumes, and their comparing. -/
import Derived.Test.YtbipbihjaeobkaaVSz
import Derived.Test.YtbipbihjaeobkaaStrS
import Derived.Test.YtbipbihjaeobkaaHRecS
namespace Go.Proofs.Ytbipbihjaeobkaa
set_option maxRecDepth 100000
open Go.ChangeShapes Go.WideShapes Go.ChangeAt Go.RowKit G00541
theorem SRow.madeV (w : World) (n : Nat) : SRow w.heap.size (List.replicate n ⟨#[]⟩) (w.alloc (.cells (madeCells (Value.string ⟨#[]⟩).cells n) 9)) := by
  have := GRow.made w 9 n #[.string ⟨#[]⟩]
  unfold SRow
  rw [List.map_replicate]
  have e : n * (#[Value.string ⟨#[]⟩] : Array Value).size = n := Nat.mul_one n
  rw [e] at this
  exact this
theorem infoStrV : (Try.prog.info? 9).map (fun i => (i.zero, i.size, i.bytes)) = some (some (.string ⟨#[]⟩), 1, 16) := by kernel_rfl
theorem make_strsV (n : Nat) (hn : n ≤ 1048576) (W : World) : (Instr.makeSlice 22 (.int .i64 (n : Int)) (.int .i64 (n : Int))).run Try.prog W =
    .ok (.slice (some ⟨W.heap.size, 0, none⟩) n n) (W.alloc (.cells (madeCells (Value.string ⟨#[]⟩).cells n) 9)) := by
  obtain ⟨i0, hi, hz0, hz1, hz2⟩ := info_parts infoStrV
  have h := run_make (P := Try.prog) W 22 9 i0 _ Try.underlying22 hi hz0 .i64 .i64 (n : Int) (n : Int) (by omega) (by omega) (by rw [hz2]; omega) (by omega)
  rw [hz1] at h
  simpa using h
set_option maxHeartbeats 1000000 in
theorem toStringS_any (a : Option Addr) (cap : Nat) (l : List ByteArray) (w : World) (hn : l.length ≤ 1048576) (hZ : Ss w.heap.size a l w) :
    Calls Try.prog 48 #[.slice a l.length cap] w fun e w' => e = .returned (.slice (some ⟨w.heap.size, 0, none⟩) l.length l.length) ∧ SRow w.heap.size l w' ∧ Below w.heap.size w w' := by
  have HZ : Hid (Ss w.heap.size a l w) := hZ
  clear hZ
  have hmk := make_strsV l.length hn
  have hr0 := SRow.madeV w l.length
  generalize madeCells (Value.string ⟨#[]⟩).cells l.length = M at *
  have HR : Hid (SRow w.heap.size (List.replicate l.length ⟨#[]⟩) (w.alloc (.cells M 9))) := hr0
  clear hr0
  go_enter Try.func48, Try.ntmps48
  go_wp2
  go_loopw [4] (fun i wr => ∃ (k : Nat) (ys : List ByteArray), k ≤ l.length ∧ i = .int .i64 k ∧ ys.length = l.length ∧ ys.take k = l.take k ∧ SRow w.heap.size ys wr ∧ Below w.heap.size w wr) (fun i _ => l.length - (intOf i).toNat)
  case atStart => exact ⟨0, List.replicate l.length ⟨#[]⟩, Nat.zero_le _, rfl, by simp, rfl, HR.out, (Below.refl _ _).alloc (Nat.le_refl _) _⟩
  case round =>
    obtain ⟨k, ys, hk, rfl, hy, htk, hrow, hbel⟩ := hrel
    have HROW : Hid (SRow w.heap.size ys wr) := hrow
    have HBEL : Hid (Below w.heap.size w wr) := hbel
    have HTK : Hid (ys.take k = l.take k) := htk
    by_cases hlt : k < l.length
    · obtain ⟨b, off, rfl, hb, hcells⟩ := HZ.out.cell (by omega)
      have c0 := (hbel.cell (p := ⟨b, off + k, none⟩) hb).trans (hcells k hlt)
      have y0 := hrow.cell k (by omega)
      have f0 := hrow.free k (by omega)
      clear hrow hbel htk hcells
      have HLK : Hid (l.take (k + 1) = l.take k ++ [l[k]]) := take_snoc l k hlt
      generalize l[k] = D at *
      go_wp2_with fail
      go_roundw
      case rel =>
        refine ⟨k + 1, ys.set k D, by omega, by go_num, by simpa using hy, ?_, HROW.out.set k (by omega) D, HBEL.out.setCell (Nat.le_refl _) _⟩
        have hky : k < ys.length := by omega
        rw [take_snoc _ k (by simpa using hky), HLK.out, List.take_set_of_le (Nat.le_refl _), HTK.out, List.getElem_set_self]
      case measure => simp [intOf]; omega
    · obtain rfl : k = l.length := by omega
      rw [List.take_length, List.take_of_length_le (by omega)] at htk
      subst htk
      clear hrow hbel
      go_wp2
      go_ret
      exact ⟨rfl, HROW.out, HBEL.out⟩
/-- a volume in memory of its own: its texts in blocks lo .. mid - 1, its records in mid .. hi - 1 -/
def OwnV (lo hi : Nat) (aB : Option Addr) (B : List ByteArray) (aL : Option Addr) (L : List Rc) (w : World) : Prop := ∃ mid, lo ≤ mid ∧ mid ≤ hi ∧ OwnS lo mid aB B w ∧ OwnR mid hi aL L w
theorem OwnV.below {lo hi : Nat} {aB : Option Addr} {B : List ByteArray} {aL : Option Addr} {L : List Rc} {w w' : World} (h : OwnV lo hi aB B aL L w) (g : Below w.heap.size w w') : OwnV lo hi aB B aL L w' := by
  obtain ⟨mid, h1, h2, h3, h4⟩ := h
  exact ⟨mid, h1, h2, h3.below g, h4.below g⟩
theorem OwnV.read {lo hi : Nat} {aB : Option Addr} {B : List ByteArray} {aL : Option Addr} {L : List Rc} {w : World} (h : OwnV lo hi aB B aL L w) : Ss w.heap.size aB B w ∧ Rs w.heap.size aL L w := by
  obtain ⟨mid, h1, h2, h3, h4⟩ := h
  exact ⟨h3.ss, h4.rs⟩
theorem OwnV.none (lo hi : Nat) (hh : lo ≤ hi) (a b : Option Addr) (w : World) : OwnV lo hi a [] b [] w := ⟨lo, Nat.le_refl _, hh, Or.inl rfl, Or.inl rfl⟩
theorem OwnV.mono {lo hi hi' : Nat} {aB : Option Addr} {B : List ByteArray} {aL : Option Addr} {L : List Rc} {w : World} (h : OwnV lo hi aB B aL L w) (hh : hi ≤ hi') : OwnV lo hi' aB B aL L w := by
  obtain ⟨mid, h1, h2, h3, h4⟩ := h
  refine ⟨mid, h1, by omega, h3, ?_⟩
  rcases h4 with e | ⟨R, r1, r2, r3, r4⟩
  · exact Or.inl e
  · exact Or.inr ⟨R, r1, by omega, r3, r4⟩
/-- what toVolume keeps: three boxes -/
structure TV (w : World) (X Z Y : Array Value) (wr : World) : Prop where
  below : Below w.heap.size w wr
  x : wr.heap[w.heap.size]? = some (.cells X 32)
  z : wr.heap[w.heap.size + 1]? = some (.cells Z 25)
  y : wr.heap[w.heap.size + 1 + 1]? = some (.cells Y 25)
theorem TV.size {w : World} {X Z Y : Array Value} {wr : World} (h : TV w X Z Y wr) : w.heap.size + 3 ≤ wr.heap.size := by
  rcases Nat.lt_or_ge (w.heap.size + 1 + 1) wr.heap.size with h' | h'
  · omega
  · have := h.y
    rw [Array.getElem?_eq_none h'] at this; cases this
theorem TV.on {w : World} {X Z Y : Array Value} {wr w' : World} (h : TV w X Z Y wr) (g : Below wr.heap.size wr w') : TV w X Z Y w' := by
  have hs := h.size
  exact ⟨h.below.trans (g.mono (by omega)), (g.block _ (by omega)).trans h.x, (g.block _ (by omega)).trans h.z, (g.block _ (by omega)).trans h.y⟩
theorem TV.setY {w : World} {X Z Y : Array Value} {wr : World} (h : TV w X Z Y wr) (i : Nat) (u : Value) : TV w X Z (Y.setIfInBounds i u) (wr.setCell ⟨w.heap.size + 1 + 1, i, none⟩ u) :=
  ⟨setB h.below _ _ (by omega) _, (keepB _ _ _ _ _ (by omega)).trans h.x, (keepB _ _ _ _ _ (by omega)).trans h.z, box_set h.y i u⟩
theorem TV.setZ {w : World} {X Z Y : Array Value} {wr : World} (h : TV w X Z Y wr) (i : Nat) (u : Value) : TV w X (Z.setIfInBounds i u) Y (wr.setCell ⟨w.heap.size + 1, i, none⟩ u) :=
  ⟨setB h.below _ _ (by omega) _, (keepB _ _ _ _ _ (by omega)).trans h.x, box_set h.z i u, (keepB _ _ _ _ _ (by omega)).trans h.y⟩
set_option maxHeartbeats 4000000 in
theorem toVolume_any (aB aL : Option Addr) (kB kL : Nat) (B : List ByteArray) (F : Int) (L : List Rc) (s : Int) (w : World) (hf : FitV B L) (hB : Ss w.heap.size aB B w) (hL : Rs w.heap.size aL L w) :
    Calls Try.prog 16 #[.agg #[.slice aB B.length kB, .int .i64 F, .slice aL L.length kL, .int .i64 s]] w fun e w' => ∃ bB cB bL cL, e = .returned (.agg #[.slice bB B.length cB, .int .i64 F, .slice bL L.length cL, .int .i64 s]) ∧ OwnV w.heap.size w'.heap.size bB B bL L w' ∧ Below w.heap.size w w' := by
  have HK0 : Hid (TV w #[.slice aB B.length kB, .int .i64 F, .slice aL L.length kL, .int .i64 s] #[.slice none 0 0, .int .i64 0, .slice none 0 0, .int .i64 0] #[.slice none 0 0, .int .i64 0, .slice none 0 0, .int .i64 0] (((w.alloc (.cells #[.slice aB B.length kB, .int .i64 F, .slice aL L.length kL, .int .i64 s] 32)).alloc (.cells #[.slice none 0 0, .int .i64 0, .slice none 0 0, .int .i64 0] 25)).alloc (.cells #[.slice none 0 0, .int .i64 0, .slice none 0 0, .int .i64 0] 25))) := by
    refine ⟨(((Below.refl _ _).alloc (Nat.le_refl _) _).alloc (by simp) _).alloc (by simp; omega) _, ?_, ?_, heap_last3 _ _ _ _⟩
    · rw [Below.heap_alloc _ _ _ (by simp; omega), Below.heap_alloc _ _ _ (by simp)]
      exact heap_last _ _
    · rw [Below.heap_alloc _ _ _ (by simp)]
      exact heap_last2 _ _ _
  have HC1 : Hid (∀ v, Below w.heap.size w v → Calls Try.prog 48 #[.slice aB B.length kB] v fun e w' => e = .returned (.slice (some ⟨v.heap.size, 0, none⟩) B.length B.length) ∧ SRow v.heap.size B w' ∧ Below v.heap.size v w') := fun v g => toStringS_any aB kB B v hf.1 ((hB.below g).mono g.size)
  have HC2 : Hid (∀ v, Below w.heap.size w v → Calls Try.prog 49 #[.slice aL L.length kL] v fun e w' => e = .returned (.slice (some ⟨v.heap.size, 0, none⟩) L.length L.length) ∧ RRow v.heap.size L w' ∧ Below v.heap.size v w') := fun v g => toRecordS_any aL kL L v hf.2 ((hL.below g).mono g.size)
  clear hB hL hf
  go_enter Try.func16, Try.ntmps16
  go_wp2_with fail
  generalize ((w.alloc (.cells #[.slice aB B.length kB, .int .i64 F, .slice aL L.length kL, .int .i64 s] 32)).alloc (.cells #[.slice none 0 0, .int .i64 0, .slice none 0 0, .int .i64 0] 25)).alloc (.cells #[.slice none 0 0, .int .i64 0, .slice none 0 0, .int .i64 0] 25) = W at *
  refine (HC1.out W HK0.out.below).mono ?_
  rintro e w2 ⟨rfl, r2, b2⟩
  have hK2 := HK0.out.on b2
  have hW3 := HK0.out.size
  have HS2 := hid r2
  have hlt2 := r2.lt
  have HLo : Hid (w.heap.size ≤ W.heap.size) := HK0.out.below.size
  clear HC1 r2 b2 HK0
  generalize W.heap.size = R1 at *
  have x1 : w2.cell? ⟨w.heap.size, 1, none⟩ = some (.int .i64 F) := box_cell hK2.x 1
  have y0 : w2.cell? ⟨w.heap.size + 1 + 1, 0, none⟩ = some (.slice none 0 0) := box_cell hK2.y 0
  have y1 : w2.cell? ⟨w.heap.size + 1 + 1, 1, none⟩ = some (.int .i64 0) := box_cell hK2.y 1
  have f0 := box_free hK2.y 0
  have f1 := box_free hK2.y 1
  have HK3 := hid ((hK2.setY 0 (.slice (some ⟨R1, 0, none⟩) B.length B.length)).setY 1 (.int .i64 F))
  have HS3 : Hid (SRow R1 B ((w2.setCell ⟨w.heap.size + 1 + 1, 0, none⟩ (.slice (some ⟨R1, 0, none⟩) B.length B.length)).setCell ⟨w.heap.size + 1 + 1, 1, none⟩ (.int .i64 F))) := by
    refine HS2.out.same (by simp [World.setCell]) ?_
    rw [keepB _ _ _ _ _ (by omega), keepB _ _ _ _ _ (by omega)]
  have x2 : ((w2.setCell ⟨w.heap.size + 1 + 1, 0, none⟩ (.slice (some ⟨R1, 0, none⟩) B.length B.length)).setCell ⟨w.heap.size + 1 + 1, 1, none⟩ (.int .i64 F)).cell? ⟨w.heap.size, 2, none⟩ = some (.slice aL L.length kL) := box_cell HK3.out.x 2
  clear hK2 HS2
  go_wp2_with fail
  generalize (w2.setCell ⟨w.heap.size + 1 + 1, 0, none⟩ (.slice (some ⟨R1, 0, none⟩) B.length B.length)).setCell ⟨w.heap.size + 1 + 1, 1, none⟩ (.int .i64 F) = W3 at *
  refine (HC2.out W3 HK3.out.below).mono ?_
  rintro e w4 ⟨rfl, r4, b4⟩
  have hK4 := HK3.out.on b4
  have HS4 := hid (HS3.out.below b4)
  have hlt3 : R1 < W3.heap.size := HS3.out.lt
  have HR4 := hid r4
  have hlt4 := r4.lt
  clear HC2 r4 b4 HK3 HS3 x1 x2 y0 y1 f0 f1 hlt2
  generalize W3.heap.size = R2 at *
  have x3 : w4.cell? ⟨w.heap.size, 3, none⟩ = some (.int .i64 s) := box_cell hK4.x 3
  have y0 : w4.cell? ⟨w.heap.size + 1 + 1, 0, none⟩ = some (.slice (some ⟨R1, 0, none⟩) B.length B.length) := box_cell hK4.y 0
  have y1 : w4.cell? ⟨w.heap.size + 1 + 1, 1, none⟩ = some (.int .i64 F) := box_cell hK4.y 1
  have y2 : w4.cell? ⟨w.heap.size + 1 + 1, 2, none⟩ = some (.slice none 0 0) := box_cell hK4.y 2
  have y3 : w4.cell? ⟨w.heap.size + 1 + 1, 3, none⟩ = some (.int .i64 0) := box_cell hK4.y 3
  have f2 := box_free hK4.y 2
  have f3 := box_free hK4.y 3
  have z0 : w4.cell? ⟨w.heap.size + 1, 0, none⟩ = some (.slice none 0 0) := box_cell hK4.z 0
  have z1 : w4.cell? ⟨w.heap.size + 1, 1, none⟩ = some (.int .i64 0) := box_cell hK4.z 1
  have z2 : w4.cell? ⟨w.heap.size + 1, 2, none⟩ = some (.slice none 0 0) := box_cell hK4.z 2
  have z3 : w4.cell? ⟨w.heap.size + 1, 3, none⟩ = some (.int .i64 0) := box_cell hK4.z 3
  have g0 := box_free hK4.z 0
  have g1 := box_free hK4.z 1
  have g2 := box_free hK4.z 2
  have g3 := box_free hK4.z 3
  have HK5 := hid ((hK4.setY 2 (.slice (some ⟨R2, 0, none⟩) L.length L.length)).setY 3 (.int .i64 s))
  clear hK4
  go_wp2_with fail
  have hK6 := (((HK5.out.setZ 0 (.slice (some ⟨R1, 0, none⟩) B.length B.length)).setZ 1 (.int .i64 F)).setZ 2 (.slice (some ⟨R2, 0, none⟩) L.length L.length)).setZ 3 (.int .i64 s)
  have e0 := box_cell hK6.z 0
  have e1 := box_cell hK6.z 1
  have e2 := box_cell hK6.z 2
  have e3 := box_cell hK6.z 3
  have HO : Hid (OwnV w.heap.size ((((((w4.setCell ⟨w.heap.size + 1 + 1, 2, none⟩ (.slice (some ⟨R2, 0, none⟩) L.length L.length)).setCell ⟨w.heap.size + 1 + 1, 3, none⟩ (.int .i64 s)).setCell ⟨w.heap.size + 1, 0, none⟩ (.slice (some ⟨R1, 0, none⟩) B.length B.length)).setCell ⟨w.heap.size + 1, 1, none⟩ (.int .i64 F)).setCell ⟨w.heap.size + 1, 2, none⟩ (.slice (some ⟨R2, 0, none⟩) L.length L.length)).setCell ⟨w.heap.size + 1, 3, none⟩ (.int .i64 s)).heap.size (some ⟨R1, 0, none⟩) B (some ⟨R2, 0, none⟩) L ((((((w4.setCell ⟨w.heap.size + 1 + 1, 2, none⟩ (.slice (some ⟨R2, 0, none⟩) L.length L.length)).setCell ⟨w.heap.size + 1 + 1, 3, none⟩ (.int .i64 s)).setCell ⟨w.heap.size + 1, 0, none⟩ (.slice (some ⟨R1, 0, none⟩) B.length B.length)).setCell ⟨w.heap.size + 1, 1, none⟩ (.int .i64 F)).setCell ⟨w.heap.size + 1, 2, none⟩ (.slice (some ⟨R2, 0, none⟩) L.length L.length)).setCell ⟨w.heap.size + 1, 3, none⟩ (.int .i64 s))) := by
    refine ⟨R2, by have := HLo.out; omega, by simp [World.setCell]; omega, Or.inr ⟨R1, HLo.out, hlt3, rfl, ?_⟩, Or.inr ⟨R2, Nat.le_refl _, by simp [World.setCell]; omega, rfl, ?_⟩⟩
    · refine HS4.out.same (by simp [World.setCell]) ?_
      rw [keepB _ _ _ _ _ (by omega), keepB _ _ _ _ _ (by omega), keepB _ _ _ _ _ (by omega), keepB _ _ _ _ _ (by omega), keepB _ _ _ _ _ (by omega), keepB _ _ _ _ _ (by omega)]
    · refine HR4.out.same (by simp [World.setCell]) ?_
      rw [keepB _ _ _ _ _ (by omega), keepB _ _ _ _ _ (by omega), keepB _ _ _ _ _ (by omega), keepB _ _ _ _ _ (by omega), keepB _ _ _ _ _ (by omega), keepB _ _ _ _ _ (by omega)]
  have HB6 := hid hK6.below
  clear hK6
  generalize (((((w4.setCell ⟨w.heap.size + 1 + 1, 2, none⟩ (.slice (some ⟨R2, 0, none⟩) L.length L.length)).setCell ⟨w.heap.size + 1 + 1, 3, none⟩ (.int .i64 s)).setCell ⟨w.heap.size + 1, 0, none⟩ (.slice (some ⟨R1, 0, none⟩) B.length B.length)).setCell ⟨w.heap.size + 1, 1, none⟩ (.int .i64 F)).setCell ⟨w.heap.size + 1, 2, none⟩ (.slice (some ⟨R2, 0, none⟩) L.length L.length)).setCell ⟨w.heap.size + 1, 3, none⟩ (.int .i64 s) = W6 at *
  have e0' : W6.cell? ⟨w.heap.size + 1, 0, none⟩ = some (.slice (some ⟨R1, 0, none⟩) B.length B.length) := e0
  have e1' : W6.cell? ⟨w.heap.size + 1, 1, none⟩ = some (.int .i64 F) := e1
  have e2' : W6.cell? ⟨w.heap.size + 1, 2, none⟩ = some (.slice (some ⟨R2, 0, none⟩) L.length L.length) := e2
  have e3' : W6.cell? ⟨w.heap.size + 1, 3, none⟩ = some (.int .i64 s) := e3
  refine bodyPost_ret (v := .agg #[.slice (some ⟨R1, 0, none⟩) B.length B.length, .int .i64 F, .slice (some ⟨R2, 0, none⟩) L.length L.length, .int .i64 s]) (by simp [results, Try.results16, go_sem, e0', e1', e2', e3']) rfl ?_
  exact ⟨_, _, _, _, rfl, HO.out, HB6.out⟩
set_option maxHeartbeats 4000000 in
theorem eqVolume_same (aB aL bB bL : Option Addr) (kB kL cB cL : Nat) (B : List ByteArray) (F : Int) (L : List Rc) (s : Int) (w : World) (hf : FitV B L) (hB : Ss w.heap.size aB B w) (hL : Rs w.heap.size aL L w) (gB : Ss w.heap.size bB B w) (gL : Rs w.heap.size bL L w) :
    Calls Try.prog 11 #[.agg #[.slice aB B.length kB, .int .i64 F, .slice aL L.length kL, .int .i64 s], .agg #[.slice bB B.length cB, .int .i64 F, .slice bL L.length cL, .int .i64 s]] w fun e w' => e = .returned (.bool true) ∧ Below w.heap.size w w' := by
  have HB0 : Hid (Below w.heap.size w ((w.alloc (.cells #[.slice aB B.length kB, .int .i64 F, .slice aL L.length kL, .int .i64 s] 25)).alloc (.cells #[.slice bB B.length cB, .int .i64 F, .slice bL L.length cL, .int .i64 s] 25))) := ((Below.refl _ _).alloc (Nat.le_refl _) _).alloc (by simp) _
  have HC1 : Hid (∀ v, Below w.heap.size w v → Calls Try.prog 35 #[.slice aB B.length kB, .slice bB B.length cB] v fun e w' => e = .returned (.bool true) ∧ Below v.heap.size v w') := fun v g => eqStringS_same aB bB kB cB B v hf.1 ((hB.below g).mono g.size) ((gB.below g).mono g.size)
  have HC2 : Hid (∀ v, Below w.heap.size w v → Calls Try.prog 40 #[.slice aL L.length kL, .slice bL L.length cL] v fun e w' => e = .returned (.bool true) ∧ Below v.heap.size v w') := fun v g => eqRecordS_same aL bL kL cL L v hf.2 ((hL.below g).mono g.size) ((gL.below g).mono g.size)
  have HX : Hid (∀ v, Below ((w.alloc (.cells #[.slice aB B.length kB, .int .i64 F, .slice aL L.length kL, .int .i64 s] 25)).alloc (.cells #[.slice bB B.length cB, .int .i64 F, .slice bL L.length cL, .int .i64 s] 25)).heap.size ((w.alloc (.cells #[.slice aB B.length kB, .int .i64 F, .slice aL L.length kL, .int .i64 s] 25)).alloc (.cells #[.slice bB B.length cB, .int .i64 F, .slice bL L.length cL, .int .i64 s] 25)) v →
      (v.cell? ⟨w.heap.size, 1, none⟩ = some (.int .i64 F) ∧ v.cell? ⟨w.heap.size, 2, none⟩ = some (.slice aL L.length kL) ∧ v.cell? ⟨w.heap.size, 3, none⟩ = some (.int .i64 s)) ∧ v.cell? ⟨w.heap.size + 1, 1, none⟩ = some (.int .i64 F) ∧ v.cell? ⟨w.heap.size + 1, 2, none⟩ = some (.slice bL L.length cL) ∧ v.cell? ⟨w.heap.size + 1, 3, none⟩ = some (.int .i64 s)) := fun v g => by
    have hc : ∀ i, v.cell? ⟨w.heap.size, i, none⟩ = _ := fun i => g.cell (p := ⟨w.heap.size, i, none⟩) (by simp; omega)
    have hd : ∀ i, v.cell? ⟨w.heap.size + 1, i, none⟩ = _ := fun i => g.cell (p := ⟨w.heap.size + 1, i, none⟩) (by simp)
    exact ⟨⟨by rw [hc]; go_simp, by rw [hc]; go_simp, by rw [hc]; go_simp⟩, by rw [hd]; go_simp, by rw [hd]; go_simp, by rw [hd]; go_simp⟩
  clear hB hL gB gL hf
  go_enter Try.func11, Try.ntmps11
  go_wp2_with fail
  generalize (w.alloc (.cells #[.slice aB B.length kB, .int .i64 F, .slice aL L.length kL, .int .i64 s] 25)).alloc (.cells #[.slice bB B.length cB, .int .i64 F, .slice bL L.length cL, .int .i64 s] 25) = W at *
  refine (HC1.out W HB0.out).mono ?_
  rintro e w2 ⟨rfl, b2⟩
  obtain ⟨⟨x1, x2, x3⟩, y1, y2, y3⟩ := HX.out w2 b2
  have HB2 : Hid (Below w.heap.size w w2) := HB0.out.trans (b2.mono HB0.out.size)
  have HW2 : Hid (Below W.heap.size W w2) := b2
  clear b2 HC1
  go_wp2_with fail
  refine (HC2.out w2 HB2.out).mono ?_
  rintro e w3 ⟨rfl, b3⟩
  have HW3 : Hid (Below W.heap.size W w3) := HW2.out.trans (b3.mono HW2.out.size)
  have HB3 : Hid (Below w.heap.size w w3) := HB2.out.trans (b3.mono HB2.out.size)
  clear x1 x2 x3 y1 y2 y3 b3
  obtain ⟨⟨x1, x2, x3⟩, y1, y2, y3⟩ := HX.out w3 HW3.out
  go_wp2_with fail
  go_ret
  exact ⟨rfl, HB3.out⟩
end Go.Proofs.Ytbipbihjaeobkaa
