/- Walk of the model's DoVolume. -/
import Derived.Test.YtlbhfgcpflhccaaVDo
import Derived.Test.YtlbhfgcpflhccaaVCut
import Derived.Test.YtlbhfgcpflhccaaSIn
import Derived.Test.YtlbhfgcpflhccaaOForS
import Derived.Test.YtlbhfgcpflhccaaIFold
import Derived.Test.YtlbhfgcpflhccaaIDo
import Derived.BigQuiet
import Derived.Deep.QuietTactic
import Derived.Deep.RegionHeld
import Derived.Deep.DeepCutAuto
namespace Go.Proofs.Ytlbhfgcpflhccaa
set_option maxRecDepth 100000
open Go Go.ChangeShapes Go.WideShapes Go.ChangeAt Go.RowKit G00541
/-- all blocks but those of P are as they were -/
structure Kp (P : Nat → Prop) (w w' : World) : Prop where
  os : w'.os = w.os
  tape : w'.tape = w.tape
  output : w'.output = w.output
  size : w.heap.size ≤ w'.heap.size
  block : ∀ k, k < w.heap.size → ¬ P k → w'.heap[k]? = w.heap[k]?
theorem Kp.trans {P : Nat → Prop} {w w1 w2 : World} (h : Kp P w w1) (g : Kp P w1 w2) : Kp P w w2 := ⟨g.os.trans h.os, g.tape.trans h.tape, g.output.trans h.output, Nat.le_trans h.size g.size, fun k hk hP => (g.block k (Nat.lt_of_lt_of_le hk h.size) hP).trans (h.block k hk hP)⟩
theorem Kp.ofBelow {P : Nat → Prop} {w w' : World} (g : Below w.heap.size w w') : Kp P w w' := ⟨g.os, g.tape, g.output, g.size, fun k hk _ => g.block k hk⟩
theorem Kp.ofBut {P : Nat → Prop} {R : Nat} {w w' : World} (g : But R w w') (h : P R) : Kp P w w' := ⟨g.os, g.tape, g.output, g.size, fun k hk hP => g.block k hk (fun e => hP (by rw [e]; exact h))⟩
theorem Kp.set {P : Nat → Prop} {w w' : World} (h : Kp P w w') (X i : Nat) (u : Value) (hX : w.heap.size ≤ X) : Kp P w (w'.setCell ⟨X, i, none⟩ u) := ⟨by rw [← h.os]; rfl, by rw [← h.tape]; rfl, by rw [← h.output]; rfl, by have := h.size; simpa [World.setCell] using this, fun k hk hP => (keepB _ _ _ _ _ (by omega)).trans (h.block k hk hP)⟩
theorem Kp.below {P : Nat → Prop} {w w' : World} (h : Kp P w w') (lo : Nat) (hP : ∀ k, P k → lo ≤ k) (hlo : lo ≤ w.heap.size) : Below lo w w' := ⟨h.os, h.tape, h.output, h.size, fun k hk => h.block k (by omega) (fun e => by have := hP k e; omega)⟩
/-- the blocks of a volume -/
def volP (aB : Option Addr) (kB nB : Nat) (aL : Option Addr) (kL nL : Nat) (k : Nat) : Prop := (Value.slice aB nB kB).ownBlock = some k ∨ (Value.slice aL nL kL).ownBlock = some k
/-- what l6Do answers, over a volume of one's own in the blocks of P -/
def SdOut (P : Nat → Prop) (x : Value) (o : Option Vol) (w : World) (e : Ending) (w' : World) : Prop := match o with
  | some v => ∃ aB kB aL kL, e = .returned (.tuple #[.agg #[.slice aB v.1.length kB, .int .i64 v.2.1, .slice aL v.2.2.1.length kL, .int .i64 v.2.2.2], .bool true]) ∧ Ss w'.heap.size aB v.1 w' ∧ Rs w'.heap.size aL v.2.2.1 w' ∧ Kp P w w'
  | none => e = .returned (.tuple #[x, .bool false]) ∧ Kp P w w'
/-- three boxes: the volume, the op, the answer -/
structure SB (w : World) (P : Nat → Prop) (X O Z : Array Value) (wr : World) : Prop where
  below : Kp P w wr
  x : wr.heap[w.heap.size]? = some (.cells X 28)
  o : wr.heap[w.heap.size + 1]? = some (.cells O 35)
  z : wr.heap[w.heap.size + 1 + 1]? = some (.cells Z 28)
theorem SB.start (w : World) (P : Nat → Prop) (X O Z : Array Value) : SB w P X O Z (((w.alloc (.cells X 28)).alloc (.cells O 35)).alloc (.cells Z 28)) := by
  have h := DK.start w X O Z
  exact ⟨Kp.ofBelow h.below, h.x, h.o, h.z⟩
section
variable {w : World} {P : Nat → Prop} {X O Z : Array Value} {wr w' : World}
theorem SB.size (h : SB w P X O Z wr) : w.heap.size + 3 ≤ wr.heap.size := by
  rcases Nat.lt_or_ge (w.heap.size + 1 + 1) wr.heap.size with h' | h'
  · omega
  · have := h.z
    rw [Array.getElem?_eq_none h'] at this; cases this
theorem SB.on (h : SB w P X O Z wr) (g : Below wr.heap.size wr w') : SB w P X O Z w' := by
  have := h.size
  exact ⟨h.below.trans (Kp.ofBelow g), (g.block _ (by omega)).trans h.x, (g.block _ (by omega)).trans h.o, (g.block _ (by omega)).trans h.z⟩
theorem SB.but {R : Nat} (h : SB w P X O Z wr) (h1 : P R) (h2 : R < w.heap.size) (g : But R wr w') : SB w P X O Z w' := by
  have := h.size
  exact ⟨h.below.trans (Kp.ofBut g h1), (g.block _ (by omega) (by omega)).trans h.x, (g.block _ (by omega) (by omega)).trans h.o, (g.block _ (by omega) (by omega)).trans h.z⟩
theorem SB.setX (h : SB w P X O Z wr) (i : Nat) (u : Value) : SB w P (X.setIfInBounds i u) O Z (wr.setCell ⟨w.heap.size, i, none⟩ u) :=
  ⟨h.below.set _ _ _ (Nat.le_refl _), box_set h.x i u, (keepB _ _ _ _ _ (by omega)).trans h.o, (keepB _ _ _ _ _ (by omega)).trans h.z⟩
theorem SB.setZ (h : SB w P X O Z wr) (i : Nat) (u : Value) : SB w P X O (Z.setIfInBounds i u) (wr.setCell ⟨w.heap.size + 1 + 1, i, none⟩ u) :=
  ⟨h.below.set _ _ _ (by omega), (keepB _ _ _ _ _ (by omega)).trans h.x, (keepB _ _ _ _ _ (by omega)).trans h.o, box_set h.z i u⟩
end
theorem SB.fill {w : World} {P : Nat → Prop} {X O : Array Value} {z0 z1 z2 z3 : Value} {wr : World} (h : SB w P X O #[z0, z1, z2, z3] wr) (a b c d : Value) : SB w P X O #[a, b, c, d] ((((wr.setCell ⟨w.heap.size + 1 + 1, 0, none⟩ a).setCell ⟨w.heap.size + 1 + 1, 1, none⟩ b).setCell ⟨w.heap.size + 1 + 1, 2, none⟩ c).setCell ⟨w.heap.size + 1 + 1, 3, none⟩ d) := by
  have := (((h.setZ 0 a).setZ 1 b).setZ 2 c).setZ 3 d
  simpa using this
theorem SB.cells {w : World} {P : Nat → Prop} {X O : Array Value} {wr : World} (h : SB w P X O #[.slice none 0 0, .int .i64 0, .slice none 0 0, .int .i64 0] wr) : (wr.cell? ⟨w.heap.size + 1 + 1, 0, none⟩ = some (.slice none 0 0) ∧ wr.cell? ⟨w.heap.size + 1 + 1, 1, none⟩ = some (.int .i64 0) ∧ wr.cell? ⟨w.heap.size + 1 + 1, 2, none⟩ = some (.slice none 0 0) ∧ wr.cell? ⟨w.heap.size + 1 + 1, 3, none⟩ = some (.int .i64 0)) ∧ wr.frozen? ⟨w.heap.size + 1 + 1, 0, none⟩ = false ∧ wr.frozen? ⟨w.heap.size + 1 + 1, 1, none⟩ = false ∧ wr.frozen? ⟨w.heap.size + 1 + 1, 2, none⟩ = false ∧ wr.frozen? ⟨w.heap.size + 1 + 1, 3, none⟩ = false :=
  ⟨⟨box_cell h.z 0, box_cell h.z 1, box_cell h.z 2, box_cell h.z 3⟩, box_free h.z 0, box_free h.z 1, box_free h.z 2, box_free h.z 3⟩
theorem SB.vol {w : World} {P : Nat → Prop} {a b c d : Value} {O Z : Array Value} {wr : World} (h : SB w P #[a, b, c, d] O Z wr) : (wr.cell? ⟨w.heap.size, 0, none⟩ = some a ∧ wr.cell? ⟨w.heap.size, 1, none⟩ = some b ∧ wr.cell? ⟨w.heap.size, 2, none⟩ = some c ∧ wr.cell? ⟨w.heap.size, 3, none⟩ = some d) ∧ wr.frozen? ⟨w.heap.size, 0, none⟩ = false ∧ wr.frozen? ⟨w.heap.size, 1, none⟩ = false ∧ wr.frozen? ⟨w.heap.size, 2, none⟩ = false ∧ wr.frozen? ⟨w.heap.size, 3, none⟩ = false := ⟨⟨box_cell h.x 0, box_cell h.x 1, box_cell h.x 2, box_cell h.x 3⟩, box_free h.x 0, box_free h.x 1, box_free h.x 2, box_free h.x 3⟩
theorem SB.op {w : World} {P : Nat → Prop} {X Z : Array Value} {a b c d e : Value} {wr : World} (h : SB w P X #[a, b, c, d, e] Z wr) : wr.cell? ⟨w.heap.size + 1, 0, none⟩ = some a ∧ wr.cell? ⟨w.heap.size + 1, 1, none⟩ = some b ∧ wr.cell? ⟨w.heap.size + 1, 2, none⟩ = some c ∧ wr.cell? ⟨w.heap.size + 1, 3, none⟩ = some d ∧ wr.cell? ⟨w.heap.size + 1, 4, none⟩ = some e := ⟨box_cell h.o 0, box_cell h.o 1, box_cell h.o 2, box_cell h.o 3, box_cell h.o 4⟩
theorem dempty {D : ByteArray} (h : D.data.toList = []) : D = ⟨#[]⟩ := by
  cases D with | mk d => simp only at h; congr; exact Array.toList_inj.1 (by simpa using h)
end Go.Proofs.Ytlbhfgcpflhccaa
namespace Go.Proofs.Ytlbhfgcpflhccaa
set_option maxRecDepth 100000
open Go.ChangeShapes Go.WideShapes Go.ChangeAt Go.RowKit G00541
set_option maxHeartbeats 8000000 in
theorem l6Do_p (lo mid : Nat) (aB aL : Option Addr) (kB kL : Nat) (B : List ByteArray) (F : Int) (L : List Rc) (s : Int) (k p n m : Int) (D : ByteArray) (w : World) (hO : OV lo mid aB kB B aL kL L w) (hk : ¬ (1 ≤ k ∧ k ≤ 3)) (hp : p ≠ 0) :
    Calls Try.prog 31 #[.agg #[.slice aB B.length kB, .int .i64 F, .slice aL L.length kL, .int .i64 s], .agg #[.int .i64 k, .int .i64 p, .int .i64 n, .string D, .int .i64 m]] w fun e w' => e = .returned (.tuple #[.agg #[.slice aB B.length kB, .int .i64 F, .slice aL L.length kL, .int .i64 s], .bool false]) ∧ Kp (volP aB kB B.length aL kL L.length) w w' := by
  have hlo : lo ≤ w.heap.size := Nat.le_trans hO.lm hO.mh
  have HK := hid (SB.start w (volP aB kB B.length aL kL L.length) #[.slice aB B.length kB, .int .i64 F, .slice aL L.length kL, .int .i64 s] #[.int .i64 k, .int .i64 p, .int .i64 n, .string D, .int .i64 m] #[.slice none 0 0, .int .i64 0, .slice none 0 0, .int .i64 0])
  have HB0 := hid (DK.start w #[.slice aB B.length kB, .int .i64 F, .slice aL L.length kL, .int .i64 s] #[.int .i64 k, .int .i64 p, .int .i64 n, .string D, .int .i64 m] #[.slice none 0 0, .int .i64 0, .slice none 0 0, .int .i64 0]).below
  have dp1 : (p == 0) = false := beq_eq_false_iff_ne.2 (by omega)
  have dp2 : decide (p = 0) = false := decide_eq_false (by omega)
  have dp3 : (p != 0) = true := by rw [bne, dp1]; rfl
  generalize hW : (((w.alloc (.cells #[.slice aB B.length kB, .int .i64 F, .slice aL L.length kL, .int .i64 s] 28)).alloc (.cells #[.int .i64 k, .int .i64 p, .int .i64 n, .string D, .int .i64 m] 35)).alloc (.cells #[.slice none 0 0, .int .i64 0, .slice none 0 0, .int .i64 0] 28)) = W at *
  obtain ⟨⟨x0, x1, x2, x3⟩, y0, y1, y2, y3⟩ := HK.out.vol
  obtain ⟨o0, o1, o2, o3, o4⟩ := HK.out.op
  go_enter Try.func31, Try.ntmps31
  go_wp2_with fail
  clear hW
  refine (l1In_no k 1 3 _ (by omega)).mono ?_
  rintro e w2 ⟨rfl, hw2⟩
  rw [hw2]
  clear hw2
  have hKz := HK.out.fill (.slice aB B.length kB) (.int .i64 F) (.slice aL L.length kL) (.int .i64 s)
  have ez0 : ((((W.setCell ⟨w.heap.size + 1 + 1, 0, none⟩ (.slice aB B.length kB)).setCell ⟨w.heap.size + 1 + 1, 1, none⟩ (.int .i64 F)).setCell ⟨w.heap.size + 1 + 1, 2, none⟩ (.slice aL L.length kL)).setCell ⟨w.heap.size + 1 + 1, 3, none⟩ (.int .i64 s)).cell? ⟨w.heap.size + 1 + 1, 0, none⟩ = some (.slice aB B.length kB) := box_cell hKz.z 0
  have ez1 : ((((W.setCell ⟨w.heap.size + 1 + 1, 0, none⟩ (.slice aB B.length kB)).setCell ⟨w.heap.size + 1 + 1, 1, none⟩ (.int .i64 F)).setCell ⟨w.heap.size + 1 + 1, 2, none⟩ (.slice aL L.length kL)).setCell ⟨w.heap.size + 1 + 1, 3, none⟩ (.int .i64 s)).cell? ⟨w.heap.size + 1 + 1, 1, none⟩ = some (.int .i64 F) := box_cell hKz.z 1
  have ez2 : ((((W.setCell ⟨w.heap.size + 1 + 1, 0, none⟩ (.slice aB B.length kB)).setCell ⟨w.heap.size + 1 + 1, 1, none⟩ (.int .i64 F)).setCell ⟨w.heap.size + 1 + 1, 2, none⟩ (.slice aL L.length kL)).setCell ⟨w.heap.size + 1 + 1, 3, none⟩ (.int .i64 s)).cell? ⟨w.heap.size + 1 + 1, 2, none⟩ = some (.slice aL L.length kL) := box_cell hKz.z 2
  have ez3 : ((((W.setCell ⟨w.heap.size + 1 + 1, 0, none⟩ (.slice aB B.length kB)).setCell ⟨w.heap.size + 1 + 1, 1, none⟩ (.int .i64 F)).setCell ⟨w.heap.size + 1 + 1, 2, none⟩ (.slice aL L.length kL)).setCell ⟨w.heap.size + 1 + 1, 3, none⟩ (.int .i64 s)).cell? ⟨w.heap.size + 1 + 1, 3, none⟩ = some (.int .i64 s) := box_cell hKz.z 3
  have HBz := hid hKz.below
  obtain ⟨⟨z0, z1, z2, z3⟩, f0, f1, f2, f3⟩ := HK.out.cells
  clear hKz
  go_wp2_with fail
  generalize ((((W.setCell ⟨w.heap.size + 1 + 1, 0, none⟩ (.slice aB B.length kB)).setCell ⟨w.heap.size + 1 + 1, 1, none⟩ (.int .i64 F)).setCell ⟨w.heap.size + 1 + 1, 2, none⟩ (.slice aL L.length kL)).setCell ⟨w.heap.size + 1 + 1, 3, none⟩ (.int .i64 s)) = XX at *
  refine bodyPost_ret (v := .tuple #[.agg #[.slice aB B.length kB, .int .i64 F, .slice aL L.length kL, .int .i64 s], .bool false]) (by simp [results, Try.results31, go_sem, ez0, ez1, ez2, ez3]) rfl ?_
  exact ⟨rfl, HBz.out⟩
set_option maxHeartbeats 8000000 in
theorem l6Do_n (lo mid : Nat) (aB aL : Option Addr) (kB kL : Nat) (B : List ByteArray) (F : Int) (L : List Rc) (s : Int) (k n m : Int) (D : ByteArray) (w : World) (hO : OV lo mid aB kB B aL kL L w) (hk : ¬ (1 ≤ k ∧ k ≤ 3)) (hn : n ≠ 0) :
    Calls Try.prog 31 #[.agg #[.slice aB B.length kB, .int .i64 F, .slice aL L.length kL, .int .i64 s], .agg #[.int .i64 k, .int .i64 0, .int .i64 n, .string D, .int .i64 m]] w fun e w' => e = .returned (.tuple #[.agg #[.slice aB B.length kB, .int .i64 F, .slice aL L.length kL, .int .i64 s], .bool false]) ∧ Kp (volP aB kB B.length aL kL L.length) w w' := by
  have hlo : lo ≤ w.heap.size := Nat.le_trans hO.lm hO.mh
  have HK := hid (SB.start w (volP aB kB B.length aL kL L.length) #[.slice aB B.length kB, .int .i64 F, .slice aL L.length kL, .int .i64 s] #[.int .i64 k, .int .i64 0, .int .i64 n, .string D, .int .i64 m] #[.slice none 0 0, .int .i64 0, .slice none 0 0, .int .i64 0])
  have HB0 := hid (DK.start w #[.slice aB B.length kB, .int .i64 F, .slice aL L.length kL, .int .i64 s] #[.int .i64 k, .int .i64 0, .int .i64 n, .string D, .int .i64 m] #[.slice none 0 0, .int .i64 0, .slice none 0 0, .int .i64 0]).below
  have dn1 : (n == 0) = false := beq_eq_false_iff_ne.2 (by omega)
  have dn2 : decide (n = 0) = false := decide_eq_false (by omega)
  have dn3 : (n != 0) = true := by rw [bne, dn1]; rfl
  generalize hW : (((w.alloc (.cells #[.slice aB B.length kB, .int .i64 F, .slice aL L.length kL, .int .i64 s] 28)).alloc (.cells #[.int .i64 k, .int .i64 0, .int .i64 n, .string D, .int .i64 m] 35)).alloc (.cells #[.slice none 0 0, .int .i64 0, .slice none 0 0, .int .i64 0] 28)) = W at *
  obtain ⟨⟨x0, x1, x2, x3⟩, y0, y1, y2, y3⟩ := HK.out.vol
  obtain ⟨o0, o1, o2, o3, o4⟩ := HK.out.op
  go_enter Try.func31, Try.ntmps31
  go_wp2_with fail
  clear hW
  refine (l1In_no k 1 3 _ (by omega)).mono ?_
  rintro e w2 ⟨rfl, hw2⟩
  rw [hw2]
  clear hw2
  have hKz := HK.out.fill (.slice aB B.length kB) (.int .i64 F) (.slice aL L.length kL) (.int .i64 s)
  have ez0 : ((((W.setCell ⟨w.heap.size + 1 + 1, 0, none⟩ (.slice aB B.length kB)).setCell ⟨w.heap.size + 1 + 1, 1, none⟩ (.int .i64 F)).setCell ⟨w.heap.size + 1 + 1, 2, none⟩ (.slice aL L.length kL)).setCell ⟨w.heap.size + 1 + 1, 3, none⟩ (.int .i64 s)).cell? ⟨w.heap.size + 1 + 1, 0, none⟩ = some (.slice aB B.length kB) := box_cell hKz.z 0
  have ez1 : ((((W.setCell ⟨w.heap.size + 1 + 1, 0, none⟩ (.slice aB B.length kB)).setCell ⟨w.heap.size + 1 + 1, 1, none⟩ (.int .i64 F)).setCell ⟨w.heap.size + 1 + 1, 2, none⟩ (.slice aL L.length kL)).setCell ⟨w.heap.size + 1 + 1, 3, none⟩ (.int .i64 s)).cell? ⟨w.heap.size + 1 + 1, 1, none⟩ = some (.int .i64 F) := box_cell hKz.z 1
  have ez2 : ((((W.setCell ⟨w.heap.size + 1 + 1, 0, none⟩ (.slice aB B.length kB)).setCell ⟨w.heap.size + 1 + 1, 1, none⟩ (.int .i64 F)).setCell ⟨w.heap.size + 1 + 1, 2, none⟩ (.slice aL L.length kL)).setCell ⟨w.heap.size + 1 + 1, 3, none⟩ (.int .i64 s)).cell? ⟨w.heap.size + 1 + 1, 2, none⟩ = some (.slice aL L.length kL) := box_cell hKz.z 2
  have ez3 : ((((W.setCell ⟨w.heap.size + 1 + 1, 0, none⟩ (.slice aB B.length kB)).setCell ⟨w.heap.size + 1 + 1, 1, none⟩ (.int .i64 F)).setCell ⟨w.heap.size + 1 + 1, 2, none⟩ (.slice aL L.length kL)).setCell ⟨w.heap.size + 1 + 1, 3, none⟩ (.int .i64 s)).cell? ⟨w.heap.size + 1 + 1, 3, none⟩ = some (.int .i64 s) := box_cell hKz.z 3
  have HBz := hid hKz.below
  obtain ⟨⟨z0, z1, z2, z3⟩, f0, f1, f2, f3⟩ := HK.out.cells
  clear hKz
  go_wp2_with fail
  generalize ((((W.setCell ⟨w.heap.size + 1 + 1, 0, none⟩ (.slice aB B.length kB)).setCell ⟨w.heap.size + 1 + 1, 1, none⟩ (.int .i64 F)).setCell ⟨w.heap.size + 1 + 1, 2, none⟩ (.slice aL L.length kL)).setCell ⟨w.heap.size + 1 + 1, 3, none⟩ (.int .i64 s)) = XX at *
  refine bodyPost_ret (v := .tuple #[.agg #[.slice aB B.length kB, .int .i64 F, .slice aL L.length kL, .int .i64 s], .bool false]) (by simp [results, Try.results31, go_sem, ez0, ez1, ez2, ez3]) rfl ?_
  exact ⟨rfl, HBz.out⟩
set_option maxHeartbeats 8000000 in
theorem l6Do_d (lo mid : Nat) (aB aL : Option Addr) (kB kL : Nat) (B : List ByteArray) (F : Int) (L : List Rc) (s : Int) (k m : Int) (D : ByteArray) (w : World) (hO : OV lo mid aB kB B aL kL L w) (hk : ¬ (1 ≤ k ∧ k ≤ 3)) (hD : D.data.toList ≠ []) :
    Calls Try.prog 31 #[.agg #[.slice aB B.length kB, .int .i64 F, .slice aL L.length kL, .int .i64 s], .agg #[.int .i64 k, .int .i64 0, .int .i64 0, .string D, .int .i64 m]] w fun e w' => e = .returned (.tuple #[.agg #[.slice aB B.length kB, .int .i64 F, .slice aL L.length kL, .int .i64 s], .bool false]) ∧ Kp (volP aB kB B.length aL kL L.length) w w' := by
  have hlo : lo ≤ w.heap.size := Nat.le_trans hO.lm hO.mh
  have HK := hid (SB.start w (volP aB kB B.length aL kL L.length) #[.slice aB B.length kB, .int .i64 F, .slice aL L.length kL, .int .i64 s] #[.int .i64 k, .int .i64 0, .int .i64 0, .string D, .int .i64 m] #[.slice none 0 0, .int .i64 0, .slice none 0 0, .int .i64 0])
  have HB0 := hid (DK.start w #[.slice aB B.length kB, .int .i64 F, .slice aL L.length kL, .int .i64 s] #[.int .i64 k, .int .i64 0, .int .i64 0, .string D, .int .i64 m] #[.slice none 0 0, .int .i64 0, .slice none 0 0, .int .i64 0]).below
  have hD1 : ¬ D.toList = [] := fun g => hD ((empty_iff D).1 g)
  have hD2 : decide (D.toList = []) = false := decide_eq_false hD1
  generalize hW : (((w.alloc (.cells #[.slice aB B.length kB, .int .i64 F, .slice aL L.length kL, .int .i64 s] 28)).alloc (.cells #[.int .i64 k, .int .i64 0, .int .i64 0, .string D, .int .i64 m] 35)).alloc (.cells #[.slice none 0 0, .int .i64 0, .slice none 0 0, .int .i64 0] 28)) = W at *
  obtain ⟨⟨x0, x1, x2, x3⟩, y0, y1, y2, y3⟩ := HK.out.vol
  obtain ⟨o0, o1, o2, o3, o4⟩ := HK.out.op
  go_enter Try.func31, Try.ntmps31
  go_wp2_with fail
  clear hW
  refine (l1In_no k 1 3 _ (by omega)).mono ?_
  rintro e w2 ⟨rfl, hw2⟩
  rw [hw2]
  clear hw2
  have hKz := HK.out.fill (.slice aB B.length kB) (.int .i64 F) (.slice aL L.length kL) (.int .i64 s)
  have ez0 : ((((W.setCell ⟨w.heap.size + 1 + 1, 0, none⟩ (.slice aB B.length kB)).setCell ⟨w.heap.size + 1 + 1, 1, none⟩ (.int .i64 F)).setCell ⟨w.heap.size + 1 + 1, 2, none⟩ (.slice aL L.length kL)).setCell ⟨w.heap.size + 1 + 1, 3, none⟩ (.int .i64 s)).cell? ⟨w.heap.size + 1 + 1, 0, none⟩ = some (.slice aB B.length kB) := box_cell hKz.z 0
  have ez1 : ((((W.setCell ⟨w.heap.size + 1 + 1, 0, none⟩ (.slice aB B.length kB)).setCell ⟨w.heap.size + 1 + 1, 1, none⟩ (.int .i64 F)).setCell ⟨w.heap.size + 1 + 1, 2, none⟩ (.slice aL L.length kL)).setCell ⟨w.heap.size + 1 + 1, 3, none⟩ (.int .i64 s)).cell? ⟨w.heap.size + 1 + 1, 1, none⟩ = some (.int .i64 F) := box_cell hKz.z 1
  have ez2 : ((((W.setCell ⟨w.heap.size + 1 + 1, 0, none⟩ (.slice aB B.length kB)).setCell ⟨w.heap.size + 1 + 1, 1, none⟩ (.int .i64 F)).setCell ⟨w.heap.size + 1 + 1, 2, none⟩ (.slice aL L.length kL)).setCell ⟨w.heap.size + 1 + 1, 3, none⟩ (.int .i64 s)).cell? ⟨w.heap.size + 1 + 1, 2, none⟩ = some (.slice aL L.length kL) := box_cell hKz.z 2
  have ez3 : ((((W.setCell ⟨w.heap.size + 1 + 1, 0, none⟩ (.slice aB B.length kB)).setCell ⟨w.heap.size + 1 + 1, 1, none⟩ (.int .i64 F)).setCell ⟨w.heap.size + 1 + 1, 2, none⟩ (.slice aL L.length kL)).setCell ⟨w.heap.size + 1 + 1, 3, none⟩ (.int .i64 s)).cell? ⟨w.heap.size + 1 + 1, 3, none⟩ = some (.int .i64 s) := box_cell hKz.z 3
  have HBz := hid hKz.below
  obtain ⟨⟨z0, z1, z2, z3⟩, f0, f1, f2, f3⟩ := HK.out.cells
  clear hKz
  go_wp2_with fail
  generalize ((((W.setCell ⟨w.heap.size + 1 + 1, 0, none⟩ (.slice aB B.length kB)).setCell ⟨w.heap.size + 1 + 1, 1, none⟩ (.int .i64 F)).setCell ⟨w.heap.size + 1 + 1, 2, none⟩ (.slice aL L.length kL)).setCell ⟨w.heap.size + 1 + 1, 3, none⟩ (.int .i64 s)) = XX at *
  refine bodyPost_ret (v := .tuple #[.agg #[.slice aB B.length kB, .int .i64 F, .slice aL L.length kL, .int .i64 s], .bool false]) (by simp [results, Try.results31, go_sem, ez0, ez1, ez2, ez3]) rfl ?_
  exact ⟨rfl, HBz.out⟩
set_option maxHeartbeats 8000000 in
theorem l6Do_m (lo mid : Nat) (aB aL : Option Addr) (kB kL : Nat) (B : List ByteArray) (F : Int) (L : List Rc) (s : Int) (k m : Int) (w : World) (hO : OV lo mid aB kB B aL kL L w) (hk : ¬ (1 ≤ k ∧ k ≤ 3)) (h5 : k ≠ 5) (hm : m ≠ 0) :
    Calls Try.prog 31 #[.agg #[.slice aB B.length kB, .int .i64 F, .slice aL L.length kL, .int .i64 s], .agg #[.int .i64 k, .int .i64 0, .int .i64 0, .string ⟨#[]⟩, .int .i64 m]] w fun e w' => e = .returned (.tuple #[.agg #[.slice aB B.length kB, .int .i64 F, .slice aL L.length kL, .int .i64 s], .bool false]) ∧ Kp (volP aB kB B.length aL kL L.length) w w' := by
  have hlo : lo ≤ w.heap.size := Nat.le_trans hO.lm hO.mh
  have HK := hid (SB.start w (volP aB kB B.length aL kL L.length) #[.slice aB B.length kB, .int .i64 F, .slice aL L.length kL, .int .i64 s] #[.int .i64 k, .int .i64 0, .int .i64 0, .string ⟨#[]⟩, .int .i64 m] #[.slice none 0 0, .int .i64 0, .slice none 0 0, .int .i64 0])
  have HB0 := hid (DK.start w #[.slice aB B.length kB, .int .i64 F, .slice aL L.length kL, .int .i64 s] #[.int .i64 k, .int .i64 0, .int .i64 0, .string ⟨#[]⟩, .int .i64 m] #[.slice none 0 0, .int .i64 0, .slice none 0 0, .int .i64 0]).below
  have dk1 : (k == 5) = false := beq_eq_false_iff_ne.2 (by omega)
  have dk2 : decide (k = 5) = false := decide_eq_false (by omega)
  have dk3 : (k != 5) = true := by rw [bne, dk1]; rfl
  have dm1 : (m == 0) = false := beq_eq_false_iff_ne.2 (by omega)
  have dm2 : decide (m = 0) = false := decide_eq_false (by omega)
  have dm3 : (m != 0) = true := by rw [bne, dm1]; rfl
  generalize hW : (((w.alloc (.cells #[.slice aB B.length kB, .int .i64 F, .slice aL L.length kL, .int .i64 s] 28)).alloc (.cells #[.int .i64 k, .int .i64 0, .int .i64 0, .string ⟨#[]⟩, .int .i64 m] 35)).alloc (.cells #[.slice none 0 0, .int .i64 0, .slice none 0 0, .int .i64 0] 28)) = W at *
  obtain ⟨⟨x0, x1, x2, x3⟩, y0, y1, y2, y3⟩ := HK.out.vol
  obtain ⟨o0, o1, o2, o3, o4⟩ := HK.out.op
  go_enter Try.func31, Try.ntmps31
  go_wp2_with fail
  clear hW
  refine (l1In_no k 1 3 _ (by omega)).mono ?_
  rintro e w2 ⟨rfl, hw2⟩
  rw [hw2]
  clear hw2
  have hKz := HK.out.fill (.slice aB B.length kB) (.int .i64 F) (.slice aL L.length kL) (.int .i64 s)
  have ez0 : ((((W.setCell ⟨w.heap.size + 1 + 1, 0, none⟩ (.slice aB B.length kB)).setCell ⟨w.heap.size + 1 + 1, 1, none⟩ (.int .i64 F)).setCell ⟨w.heap.size + 1 + 1, 2, none⟩ (.slice aL L.length kL)).setCell ⟨w.heap.size + 1 + 1, 3, none⟩ (.int .i64 s)).cell? ⟨w.heap.size + 1 + 1, 0, none⟩ = some (.slice aB B.length kB) := box_cell hKz.z 0
  have ez1 : ((((W.setCell ⟨w.heap.size + 1 + 1, 0, none⟩ (.slice aB B.length kB)).setCell ⟨w.heap.size + 1 + 1, 1, none⟩ (.int .i64 F)).setCell ⟨w.heap.size + 1 + 1, 2, none⟩ (.slice aL L.length kL)).setCell ⟨w.heap.size + 1 + 1, 3, none⟩ (.int .i64 s)).cell? ⟨w.heap.size + 1 + 1, 1, none⟩ = some (.int .i64 F) := box_cell hKz.z 1
  have ez2 : ((((W.setCell ⟨w.heap.size + 1 + 1, 0, none⟩ (.slice aB B.length kB)).setCell ⟨w.heap.size + 1 + 1, 1, none⟩ (.int .i64 F)).setCell ⟨w.heap.size + 1 + 1, 2, none⟩ (.slice aL L.length kL)).setCell ⟨w.heap.size + 1 + 1, 3, none⟩ (.int .i64 s)).cell? ⟨w.heap.size + 1 + 1, 2, none⟩ = some (.slice aL L.length kL) := box_cell hKz.z 2
  have ez3 : ((((W.setCell ⟨w.heap.size + 1 + 1, 0, none⟩ (.slice aB B.length kB)).setCell ⟨w.heap.size + 1 + 1, 1, none⟩ (.int .i64 F)).setCell ⟨w.heap.size + 1 + 1, 2, none⟩ (.slice aL L.length kL)).setCell ⟨w.heap.size + 1 + 1, 3, none⟩ (.int .i64 s)).cell? ⟨w.heap.size + 1 + 1, 3, none⟩ = some (.int .i64 s) := box_cell hKz.z 3
  have HBz := hid hKz.below
  obtain ⟨⟨z0, z1, z2, z3⟩, f0, f1, f2, f3⟩ := HK.out.cells
  clear hKz
  go_wp2_with fail
  generalize ((((W.setCell ⟨w.heap.size + 1 + 1, 0, none⟩ (.slice aB B.length kB)).setCell ⟨w.heap.size + 1 + 1, 1, none⟩ (.int .i64 F)).setCell ⟨w.heap.size + 1 + 1, 2, none⟩ (.slice aL L.length kL)).setCell ⟨w.heap.size + 1 + 1, 3, none⟩ (.int .i64 s)) = XX at *
  refine bodyPost_ret (v := .tuple #[.agg #[.slice aB B.length kB, .int .i64 F, .slice aL L.length kL, .int .i64 s], .bool false]) (by simp [results, Try.results31, go_sem, ez0, ez1, ez2, ez3]) rfl ?_
  exact ⟨rfl, HBz.out⟩
set_option maxHeartbeats 8000000 in
theorem l6Do_other (lo mid : Nat) (aB aL : Option Addr) (kB kL : Nat) (B : List ByteArray) (F : Int) (L : List Rc) (s : Int) (k : Int) (w : World) (hO : OV lo mid aB kB B aL kL L w) (hk : ¬ (1 ≤ k ∧ k ≤ 6)) :
    Calls Try.prog 31 #[.agg #[.slice aB B.length kB, .int .i64 F, .slice aL L.length kL, .int .i64 s], .agg #[.int .i64 k, .int .i64 0, .int .i64 0, .string ⟨#[]⟩, .int .i64 0]] w fun e w' => e = .returned (.tuple #[.agg #[.slice aB B.length kB, .int .i64 F, .slice aL L.length kL, .int .i64 s], .bool false]) ∧ Kp (volP aB kB B.length aL kL L.length) w w' := by
  have hlo : lo ≤ w.heap.size := Nat.le_trans hO.lm hO.mh
  have HK := hid (SB.start w (volP aB kB B.length aL kL L.length) #[.slice aB B.length kB, .int .i64 F, .slice aL L.length kL, .int .i64 s] #[.int .i64 k, .int .i64 0, .int .i64 0, .string ⟨#[]⟩, .int .i64 0] #[.slice none 0 0, .int .i64 0, .slice none 0 0, .int .i64 0])
  have HB0 := hid (DK.start w #[.slice aB B.length kB, .int .i64 F, .slice aL L.length kL, .int .i64 s] #[.int .i64 k, .int .i64 0, .int .i64 0, .string ⟨#[]⟩, .int .i64 0] #[.slice none 0 0, .int .i64 0, .slice none 0 0, .int .i64 0]).below
  have dk41 : (k == 4) = false := beq_eq_false_iff_ne.2 (by omega)
  have dk42 : decide (k = 4) = false := decide_eq_false (by omega)
  have dk43 : (k != 4) = true := by rw [bne, dk41]; rfl
  have dk51 : (k == 5) = false := beq_eq_false_iff_ne.2 (by omega)
  have dk52 : decide (k = 5) = false := decide_eq_false (by omega)
  have dk53 : (k != 5) = true := by rw [bne, dk51]; rfl
  have dk61 : (k == 6) = false := beq_eq_false_iff_ne.2 (by omega)
  have dk62 : decide (k = 6) = false := decide_eq_false (by omega)
  have dk63 : (k != 6) = true := by rw [bne, dk61]; rfl
  generalize hW : (((w.alloc (.cells #[.slice aB B.length kB, .int .i64 F, .slice aL L.length kL, .int .i64 s] 28)).alloc (.cells #[.int .i64 k, .int .i64 0, .int .i64 0, .string ⟨#[]⟩, .int .i64 0] 35)).alloc (.cells #[.slice none 0 0, .int .i64 0, .slice none 0 0, .int .i64 0] 28)) = W at *
  obtain ⟨⟨x0, x1, x2, x3⟩, y0, y1, y2, y3⟩ := HK.out.vol
  obtain ⟨o0, o1, o2, o3, o4⟩ := HK.out.op
  go_enter Try.func31, Try.ntmps31
  go_wp2_with fail
  clear hW
  refine (l1In_no k 1 3 _ (by omega)).mono ?_
  rintro e w2 ⟨rfl, hw2⟩
  rw [hw2]
  clear hw2
  have hKz := HK.out.fill (.slice aB B.length kB) (.int .i64 F) (.slice aL L.length kL) (.int .i64 s)
  have ez0 : ((((W.setCell ⟨w.heap.size + 1 + 1, 0, none⟩ (.slice aB B.length kB)).setCell ⟨w.heap.size + 1 + 1, 1, none⟩ (.int .i64 F)).setCell ⟨w.heap.size + 1 + 1, 2, none⟩ (.slice aL L.length kL)).setCell ⟨w.heap.size + 1 + 1, 3, none⟩ (.int .i64 s)).cell? ⟨w.heap.size + 1 + 1, 0, none⟩ = some (.slice aB B.length kB) := box_cell hKz.z 0
  have ez1 : ((((W.setCell ⟨w.heap.size + 1 + 1, 0, none⟩ (.slice aB B.length kB)).setCell ⟨w.heap.size + 1 + 1, 1, none⟩ (.int .i64 F)).setCell ⟨w.heap.size + 1 + 1, 2, none⟩ (.slice aL L.length kL)).setCell ⟨w.heap.size + 1 + 1, 3, none⟩ (.int .i64 s)).cell? ⟨w.heap.size + 1 + 1, 1, none⟩ = some (.int .i64 F) := box_cell hKz.z 1
  have ez2 : ((((W.setCell ⟨w.heap.size + 1 + 1, 0, none⟩ (.slice aB B.length kB)).setCell ⟨w.heap.size + 1 + 1, 1, none⟩ (.int .i64 F)).setCell ⟨w.heap.size + 1 + 1, 2, none⟩ (.slice aL L.length kL)).setCell ⟨w.heap.size + 1 + 1, 3, none⟩ (.int .i64 s)).cell? ⟨w.heap.size + 1 + 1, 2, none⟩ = some (.slice aL L.length kL) := box_cell hKz.z 2
  have ez3 : ((((W.setCell ⟨w.heap.size + 1 + 1, 0, none⟩ (.slice aB B.length kB)).setCell ⟨w.heap.size + 1 + 1, 1, none⟩ (.int .i64 F)).setCell ⟨w.heap.size + 1 + 1, 2, none⟩ (.slice aL L.length kL)).setCell ⟨w.heap.size + 1 + 1, 3, none⟩ (.int .i64 s)).cell? ⟨w.heap.size + 1 + 1, 3, none⟩ = some (.int .i64 s) := box_cell hKz.z 3
  have HBz := hid hKz.below
  obtain ⟨⟨z0, z1, z2, z3⟩, f0, f1, f2, f3⟩ := HK.out.cells
  clear hKz
  go_wp2_with fail
  generalize ((((W.setCell ⟨w.heap.size + 1 + 1, 0, none⟩ (.slice aB B.length kB)).setCell ⟨w.heap.size + 1 + 1, 1, none⟩ (.int .i64 F)).setCell ⟨w.heap.size + 1 + 1, 2, none⟩ (.slice aL L.length kL)).setCell ⟨w.heap.size + 1 + 1, 3, none⟩ (.int .i64 s)) = XX at *
  refine bodyPost_ret (v := .tuple #[.agg #[.slice aB B.length kB, .int .i64 F, .slice aL L.length kL, .int .i64 s], .bool false]) (by simp [results, Try.results31, go_sem, ez0, ez1, ez2, ez3]) rfl ?_
  exact ⟨rfl, HBz.out⟩
end Go.Proofs.Ytlbhfgcpflhccaa
namespace Go.Proofs.Ytlbhfgcpflhccaa
set_option maxRecDepth 100000
open Go.ChangeShapes Go.WideShapes Go.ChangeAt Go.RowKit G00541
set_option maxHeartbeats 8000000 in
theorem l6Do_five_no (lo mid : Nat) (aB aL : Option Addr) (kB kL : Nat) (B : List ByteArray) (F : Int) (L : List Rc) (s : Int) (m : Int) (w : World) (hO : OV lo mid aB kB B aL kL L w) (hm : m < s ∨ (L.length : Int) < m) :
    Calls Try.prog 31 #[.agg #[.slice aB B.length kB, .int .i64 F, .slice aL L.length kL, .int .i64 s], .agg #[.int .i64 5, .int .i64 0, .int .i64 0, .string ⟨#[]⟩, .int .i64 m]] w fun e w' => e = .returned (.tuple #[.agg #[.slice aB B.length kB, .int .i64 F, .slice aL L.length kL, .int .i64 s], .bool false]) ∧ Kp (volP aB kB B.length aL kL L.length) w w' := by
  have hlo : lo ≤ w.heap.size := Nat.le_trans hO.lm hO.mh
  have HK := hid (SB.start w (volP aB kB B.length aL kL L.length) #[.slice aB B.length kB, .int .i64 F, .slice aL L.length kL, .int .i64 s] #[.int .i64 5, .int .i64 0, .int .i64 0, .string ⟨#[]⟩, .int .i64 m] #[.slice none 0 0, .int .i64 0, .slice none 0 0, .int .i64 0])
  have HB0 := hid (DK.start w #[.slice aB B.length kB, .int .i64 F, .slice aL L.length kL, .int .i64 s] #[.int .i64 5, .int .i64 0, .int .i64 0, .string ⟨#[]⟩, .int .i64 m] #[.slice none 0 0, .int .i64 0, .slice none 0 0, .int .i64 0]).below
  have HIN : Hid (∀ v, Calls Try.prog 51 #[.int .i64 m, .int .i64 s, .int .i64 (L.length : Int)] v fun e w' => e = .returned (.bool false) ∧ w' = v) := fun v => l1In_no m s L.length v hm
  clear hm
  generalize hW : (((w.alloc (.cells #[.slice aB B.length kB, .int .i64 F, .slice aL L.length kL, .int .i64 s] 28)).alloc (.cells #[.int .i64 5, .int .i64 0, .int .i64 0, .string ⟨#[]⟩, .int .i64 m] 35)).alloc (.cells #[.slice none 0 0, .int .i64 0, .slice none 0 0, .int .i64 0] 28)) = W at *
  obtain ⟨⟨x0, x1, x2, x3⟩, y0, y1, y2, y3⟩ := HK.out.vol
  obtain ⟨o0, o1, o2, o3, o4⟩ := HK.out.op
  go_enter Try.func31, Try.ntmps31
  go_wp2_with fail
  clear hW
  refine (l1In_no 5 1 3 _ (by omega)).mono ?_
  rintro e w2 ⟨rfl, hw2⟩
  rw [hw2]
  clear hw2
  go_wp2_with fail
  refine (HIN.out _).mono ?_
  rintro e w2 ⟨rfl, hw2⟩
  rw [hw2]
  clear hw2
  have hKz := HK.out.fill (.slice aB B.length kB) (.int .i64 F) (.slice aL L.length kL) (.int .i64 s)
  have ez0 : ((((W.setCell ⟨w.heap.size + 1 + 1, 0, none⟩ (.slice aB B.length kB)).setCell ⟨w.heap.size + 1 + 1, 1, none⟩ (.int .i64 F)).setCell ⟨w.heap.size + 1 + 1, 2, none⟩ (.slice aL L.length kL)).setCell ⟨w.heap.size + 1 + 1, 3, none⟩ (.int .i64 s)).cell? ⟨w.heap.size + 1 + 1, 0, none⟩ = some (.slice aB B.length kB) := box_cell hKz.z 0
  have ez1 : ((((W.setCell ⟨w.heap.size + 1 + 1, 0, none⟩ (.slice aB B.length kB)).setCell ⟨w.heap.size + 1 + 1, 1, none⟩ (.int .i64 F)).setCell ⟨w.heap.size + 1 + 1, 2, none⟩ (.slice aL L.length kL)).setCell ⟨w.heap.size + 1 + 1, 3, none⟩ (.int .i64 s)).cell? ⟨w.heap.size + 1 + 1, 1, none⟩ = some (.int .i64 F) := box_cell hKz.z 1
  have ez2 : ((((W.setCell ⟨w.heap.size + 1 + 1, 0, none⟩ (.slice aB B.length kB)).setCell ⟨w.heap.size + 1 + 1, 1, none⟩ (.int .i64 F)).setCell ⟨w.heap.size + 1 + 1, 2, none⟩ (.slice aL L.length kL)).setCell ⟨w.heap.size + 1 + 1, 3, none⟩ (.int .i64 s)).cell? ⟨w.heap.size + 1 + 1, 2, none⟩ = some (.slice aL L.length kL) := box_cell hKz.z 2
  have ez3 : ((((W.setCell ⟨w.heap.size + 1 + 1, 0, none⟩ (.slice aB B.length kB)).setCell ⟨w.heap.size + 1 + 1, 1, none⟩ (.int .i64 F)).setCell ⟨w.heap.size + 1 + 1, 2, none⟩ (.slice aL L.length kL)).setCell ⟨w.heap.size + 1 + 1, 3, none⟩ (.int .i64 s)).cell? ⟨w.heap.size + 1 + 1, 3, none⟩ = some (.int .i64 s) := box_cell hKz.z 3
  have HBz := hid hKz.below
  obtain ⟨⟨z0, z1, z2, z3⟩, f0, f1, f2, f3⟩ := HK.out.cells
  clear hKz
  go_wp2_with fail
  generalize ((((W.setCell ⟨w.heap.size + 1 + 1, 0, none⟩ (.slice aB B.length kB)).setCell ⟨w.heap.size + 1 + 1, 1, none⟩ (.int .i64 F)).setCell ⟨w.heap.size + 1 + 1, 2, none⟩ (.slice aL L.length kL)).setCell ⟨w.heap.size + 1 + 1, 3, none⟩ (.int .i64 s)) = XX at *
  refine bodyPost_ret (v := .tuple #[.agg #[.slice aB B.length kB, .int .i64 F, .slice aL L.length kL, .int .i64 s], .bool false]) (by simp [results, Try.results31, go_sem, ez0, ez1, ez2, ez3]) rfl ?_
  exact ⟨rfl, HBz.out⟩
set_option maxHeartbeats 8000000 in
theorem l6Do_five (lo mid : Nat) (aB aL : Option Addr) (kB kL : Nat) (B : List ByteArray) (F : Int) (L : List Rc) (s : Int) (q : Int) (w : World) (hO : OV lo mid aB kB B aL kL L w) (hg : GoodV B F L s) (hm : s ≤ q ∧ q ≤ L.length) :
    Calls Try.prog 31 #[.agg #[.slice aB B.length kB, .int .i64 F, .slice aL L.length kL, .int .i64 s], .agg #[.int .i64 5, .int .i64 0, .int .i64 0, .string ⟨#[]⟩, .int .i64 q]] w fun e w' => SdOut (volP aB kB B.length aL kL L.length) (.agg #[.slice aB B.length kB, .int .i64 F, .slice aL L.length kL, .int .i64 s]) (some (B, F, L.take q.toNat, q)) w e w' := by
  have hlo : lo ≤ w.heap.size := Nat.le_trans hO.lm hO.mh
  have HK := hid (SB.start w (volP aB kB B.length aL kL L.length) #[.slice aB B.length kB, .int .i64 F, .slice aL L.length kL, .int .i64 s] #[.int .i64 5, .int .i64 0, .int .i64 0, .string ⟨#[]⟩, .int .i64 q] #[.slice none 0 0, .int .i64 0, .slice none 0 0, .int .i64 0])
  have HB0 := hid (DK.start w #[.slice aB B.length kB, .int .i64 F, .slice aL L.length kL, .int .i64 s] #[.int .i64 5, .int .i64 0, .int .i64 0, .string ⟨#[]⟩, .int .i64 q] #[.slice none 0 0, .int .i64 0, .slice none 0 0, .int .i64 0]).below
  obtain ⟨r, rfl⟩ : ∃ r : Nat, q = r := ⟨q.toNat, by have := hg.s0; omega⟩
  have hr : r ≤ L.length := by omega
  obtain ⟨c, hcut⟩ := cut_low aL kL L r r rfl hr (rw_cap hO.log).1
  have HIN : Hid (∀ v, Calls Try.prog 51 #[.int .i64 (r : Int), .int .i64 s, .int .i64 (L.length : Int)] v fun e w' => e = .returned (.bool true) ∧ w' = v) := fun v => l1In_yes r s L.length v hm.1 (by omega)
  have hnq : (L.take r).length = r := by rw [List.length_take]; omega
  rw [hnq] at hcut
  have HNQ := hid hnq
  have HO := hid hO
  clear hO hnq hm hr hg
  generalize hW : (((w.alloc (.cells #[.slice aB B.length kB, .int .i64 F, .slice aL L.length kL, .int .i64 s] 28)).alloc (.cells #[.int .i64 5, .int .i64 0, .int .i64 0, .string ⟨#[]⟩, .int .i64 (r : Int)] 35)).alloc (.cells #[.slice none 0 0, .int .i64 0, .slice none 0 0, .int .i64 0] 28)) = W at *
  obtain ⟨⟨x0, x1, x2, x3⟩, y0, y1, y2, y3⟩ := HK.out.vol
  obtain ⟨o0, o1, o2, o3, o4⟩ := HK.out.op
  go_enter Try.func31, Try.ntmps31
  go_wp2_with fail
  clear hW
  refine (l1In_no 5 1 3 _ (by omega)).mono ?_
  rintro e w2 ⟨rfl, hw2⟩
  rw [hw2]
  clear hw2
  go_wp2_with fail
  refine (HIN.out _).mono ?_
  rintro e w2 ⟨rfl, hw2⟩
  rw [hw2]
  clear hw2
  have hK2 := (HK.out.setX 2 (.slice aL r c)).setX 3 (.int .i64 (r : Int))
  simp only [List.setIfInBounds_toArray, List.set_cons_succ, List.set_cons_zero] at hK2
  have HR2 : Hid (Ss ((W.setCell ⟨w.heap.size, 2, none⟩ (.slice aL r c)).setCell ⟨w.heap.size, 3, none⟩ (.int .i64 (r : Int))).heap.size aB B ((W.setCell ⟨w.heap.size, 2, none⟩ (.slice aL r c)).setCell ⟨w.heap.size, 3, none⟩ (.int .i64 (r : Int))) ∧ Rs ((W.setCell ⟨w.heap.size, 2, none⟩ (.slice aL r c)).setCell ⟨w.heap.size, 3, none⟩ (.int .i64 (r : Int))).heap.size aL L ((W.setCell ⟨w.heap.size, 2, none⟩ (.slice aL r c)).setCell ⟨w.heap.size, 3, none⟩ (.int .i64 (r : Int)))) := by
    have g := setB (setB HB0.out w.heap.size 2 (Nat.le_refl _) (.slice aL r c)) w.heap.size 3 (Nat.le_refl _) (.int .i64 (r : Int))
    exact ⟨(HO.out.read.1.below g).mono g.size, (HO.out.read.2.below g).mono g.size⟩
  have hsz : ((((((W.setCell ⟨w.heap.size, 2, none⟩ (.slice aL r c)).setCell ⟨w.heap.size, 3, none⟩ (.int .i64 (r : Int))).setCell ⟨w.heap.size + 1 + 1, 0, none⟩ (.slice aB B.length kB)).setCell ⟨w.heap.size + 1 + 1, 1, none⟩ (.int .i64 F)).setCell ⟨w.heap.size + 1 + 1, 2, none⟩ (.slice aL r c)).setCell ⟨w.heap.size + 1 + 1, 3, none⟩ (.int .i64 (r : Int))).heap.size = ((W.setCell ⟨w.heap.size, 2, none⟩ (.slice aL r c)).setCell ⟨w.heap.size, 3, none⟩ (.int .i64 (r : Int))).heap.size := by simp [World.setCell]
  have HR3 : Hid (Ss ((((((W.setCell ⟨w.heap.size, 2, none⟩ (.slice aL r c)).setCell ⟨w.heap.size, 3, none⟩ (.int .i64 (r : Int))).setCell ⟨w.heap.size + 1 + 1, 0, none⟩ (.slice aB B.length kB)).setCell ⟨w.heap.size + 1 + 1, 1, none⟩ (.int .i64 F)).setCell ⟨w.heap.size + 1 + 1, 2, none⟩ (.slice aL r c)).setCell ⟨w.heap.size + 1 + 1, 3, none⟩ (.int .i64 (r : Int))).heap.size aB B ((((((W.setCell ⟨w.heap.size, 2, none⟩ (.slice aL r c)).setCell ⟨w.heap.size, 3, none⟩ (.int .i64 (r : Int))).setCell ⟨w.heap.size + 1 + 1, 0, none⟩ (.slice aB B.length kB)).setCell ⟨w.heap.size + 1 + 1, 1, none⟩ (.int .i64 F)).setCell ⟨w.heap.size + 1 + 1, 2, none⟩ (.slice aL r c)).setCell ⟨w.heap.size + 1 + 1, 3, none⟩ (.int .i64 (r : Int))) ∧ Rs ((((((W.setCell ⟨w.heap.size, 2, none⟩ (.slice aL r c)).setCell ⟨w.heap.size, 3, none⟩ (.int .i64 (r : Int))).setCell ⟨w.heap.size + 1 + 1, 0, none⟩ (.slice aB B.length kB)).setCell ⟨w.heap.size + 1 + 1, 1, none⟩ (.int .i64 F)).setCell ⟨w.heap.size + 1 + 1, 2, none⟩ (.slice aL r c)).setCell ⟨w.heap.size + 1 + 1, 3, none⟩ (.int .i64 (r : Int))).heap.size aL L ((((((W.setCell ⟨w.heap.size, 2, none⟩ (.slice aL r c)).setCell ⟨w.heap.size, 3, none⟩ (.int .i64 (r : Int))).setCell ⟨w.heap.size + 1 + 1, 0, none⟩ (.slice aB B.length kB)).setCell ⟨w.heap.size + 1 + 1, 1, none⟩ (.int .i64 F)).setCell ⟨w.heap.size + 1 + 1, 2, none⟩ (.slice aL r c)).setCell ⟨w.heap.size + 1 + 1, 3, none⟩ (.int .i64 (r : Int)))) := by
    have g := setB (setB (setB (setB (setB (setB HB0.out w.heap.size 2 (Nat.le_refl _) (.slice aL r c)) w.heap.size 3 (Nat.le_refl _) (.int .i64 (r : Int))) (w.heap.size + 1 + 1) 0 (by omega) (.slice aB B.length kB)) (w.heap.size + 1 + 1) 1 (by omega) (.int .i64 F)) (w.heap.size + 1 + 1) 2 (by omega) (.slice aL r c)) (w.heap.size + 1 + 1) 3 (by omega) (.int .i64 (r : Int))
    exact ⟨(HO.out.read.1.below g).mono g.size, (HO.out.read.2.below g).mono g.size⟩
  have hKz := hK2.fill (.slice aB B.length kB) (.int .i64 F) (.slice aL r c) (.int .i64 (r : Int))
  have ez0 : ((((((W.setCell ⟨w.heap.size, 2, none⟩ (.slice aL r c)).setCell ⟨w.heap.size, 3, none⟩ (.int .i64 (r : Int))).setCell ⟨w.heap.size + 1 + 1, 0, none⟩ (.slice aB B.length kB)).setCell ⟨w.heap.size + 1 + 1, 1, none⟩ (.int .i64 F)).setCell ⟨w.heap.size + 1 + 1, 2, none⟩ (.slice aL r c)).setCell ⟨w.heap.size + 1 + 1, 3, none⟩ (.int .i64 (r : Int))).cell? ⟨w.heap.size + 1 + 1, 0, none⟩ = some (.slice aB B.length kB) := box_cell hKz.z 0
  have ez1 : ((((((W.setCell ⟨w.heap.size, 2, none⟩ (.slice aL r c)).setCell ⟨w.heap.size, 3, none⟩ (.int .i64 (r : Int))).setCell ⟨w.heap.size + 1 + 1, 0, none⟩ (.slice aB B.length kB)).setCell ⟨w.heap.size + 1 + 1, 1, none⟩ (.int .i64 F)).setCell ⟨w.heap.size + 1 + 1, 2, none⟩ (.slice aL r c)).setCell ⟨w.heap.size + 1 + 1, 3, none⟩ (.int .i64 (r : Int))).cell? ⟨w.heap.size + 1 + 1, 1, none⟩ = some (.int .i64 F) := box_cell hKz.z 1
  have ez2 : ((((((W.setCell ⟨w.heap.size, 2, none⟩ (.slice aL r c)).setCell ⟨w.heap.size, 3, none⟩ (.int .i64 (r : Int))).setCell ⟨w.heap.size + 1 + 1, 0, none⟩ (.slice aB B.length kB)).setCell ⟨w.heap.size + 1 + 1, 1, none⟩ (.int .i64 F)).setCell ⟨w.heap.size + 1 + 1, 2, none⟩ (.slice aL r c)).setCell ⟨w.heap.size + 1 + 1, 3, none⟩ (.int .i64 (r : Int))).cell? ⟨w.heap.size + 1 + 1, 2, none⟩ = some (.slice aL r c) := box_cell hKz.z 2
  have ez3 : ((((((W.setCell ⟨w.heap.size, 2, none⟩ (.slice aL r c)).setCell ⟨w.heap.size, 3, none⟩ (.int .i64 (r : Int))).setCell ⟨w.heap.size + 1 + 1, 0, none⟩ (.slice aB B.length kB)).setCell ⟨w.heap.size + 1 + 1, 1, none⟩ (.int .i64 F)).setCell ⟨w.heap.size + 1 + 1, 2, none⟩ (.slice aL r c)).setCell ⟨w.heap.size + 1 + 1, 3, none⟩ (.int .i64 (r : Int))).cell? ⟨w.heap.size + 1 + 1, 3, none⟩ = some (.int .i64 (r : Int)) := box_cell hKz.z 3
  have HBz := hid hKz.below
  obtain ⟨⟨z0, z1, z2, z3⟩, f0, f1, f2, f3⟩ := hK2.cells
  clear hKz hK2 hsz
  go_wp2_with fail
  generalize ((((((W.setCell ⟨w.heap.size, 2, none⟩ (.slice aL r c)).setCell ⟨w.heap.size, 3, none⟩ (.int .i64 (r : Int))).setCell ⟨w.heap.size + 1 + 1, 0, none⟩ (.slice aB B.length kB)).setCell ⟨w.heap.size + 1 + 1, 1, none⟩ (.int .i64 F)).setCell ⟨w.heap.size + 1 + 1, 2, none⟩ (.slice aL r c)).setCell ⟨w.heap.size + 1 + 1, 3, none⟩ (.int .i64 (r : Int))) = XX at *
  refine bodyPost_ret (v := .tuple #[.agg #[.slice aB B.length kB, .int .i64 F, .slice aL r c, .int .i64 (r : Int)], .bool true]) (by simp [results, Try.results31, go_sem, ez0, ez1, ez2, ez3]) rfl ?_
  refine ⟨aB, kB, aL, c, ?_, HR3.out.1, (by rw [Int.toNat_natCast]; exact HR3.out.2.take r), HBz.out⟩
  show _ = Ending.returned (.tuple #[.agg #[.slice aB B.length kB, .int .i64 F, .slice aL (L.take (r : Int).toNat).length c, .int .i64 (r : Int)], .bool true])
  rw [Int.toNat_natCast, HNQ.out]
set_option maxHeartbeats 8000000 in
theorem l6Do_four (lo mid : Nat) (aB aL : Option Addr) (kB kL : Nat) (B : List ByteArray) (F : Int) (L : List Rc) (s : Int) (w : World) (hO : OV lo mid aB kB B aL kL L w)  :
    Calls Try.prog 31 #[.agg #[.slice aB B.length kB, .int .i64 F, .slice aL L.length kL, .int .i64 s], .agg #[.int .i64 4, .int .i64 0, .int .i64 0, .string ⟨#[]⟩, .int .i64 0]] w fun e w' => SdOut (volP aB kB B.length aL kL L.length) (.agg #[.slice aB B.length kB, .int .i64 F, .slice aL L.length kL, .int .i64 s]) (some (B, F, L, (L.length : Int))) w e w' := by
  have hlo : lo ≤ w.heap.size := Nat.le_trans hO.lm hO.mh
  have HK := hid (SB.start w (volP aB kB B.length aL kL L.length) #[.slice aB B.length kB, .int .i64 F, .slice aL L.length kL, .int .i64 s] #[.int .i64 4, .int .i64 0, .int .i64 0, .string ⟨#[]⟩, .int .i64 0] #[.slice none 0 0, .int .i64 0, .slice none 0 0, .int .i64 0])
  have HB0 := hid (DK.start w #[.slice aB B.length kB, .int .i64 F, .slice aL L.length kL, .int .i64 s] #[.int .i64 4, .int .i64 0, .int .i64 0, .string ⟨#[]⟩, .int .i64 0] #[.slice none 0 0, .int .i64 0, .slice none 0 0, .int .i64 0]).below
  have HO := hid hO
  clear hO
  generalize hW : (((w.alloc (.cells #[.slice aB B.length kB, .int .i64 F, .slice aL L.length kL, .int .i64 s] 28)).alloc (.cells #[.int .i64 4, .int .i64 0, .int .i64 0, .string ⟨#[]⟩, .int .i64 0] 35)).alloc (.cells #[.slice none 0 0, .int .i64 0, .slice none 0 0, .int .i64 0] 28)) = W at *
  obtain ⟨⟨x0, x1, x2, x3⟩, y0, y1, y2, y3⟩ := HK.out.vol
  obtain ⟨o0, o1, o2, o3, o4⟩ := HK.out.op
  go_enter Try.func31, Try.ntmps31
  go_wp2_with fail
  clear hW
  refine (l1In_no 4 1 3 _ (by omega)).mono ?_
  rintro e w2 ⟨rfl, hw2⟩
  rw [hw2]
  clear hw2
  have hK2 := HK.out.setX 3 (.int .i64 (L.length : Int))
  simp only [List.setIfInBounds_toArray, List.set_cons_succ, List.set_cons_zero] at hK2
  have HR3 : Hid (Ss (((((W.setCell ⟨w.heap.size, 3, none⟩ (.int .i64 (L.length : Int))).setCell ⟨w.heap.size + 1 + 1, 0, none⟩ (.slice aB B.length kB)).setCell ⟨w.heap.size + 1 + 1, 1, none⟩ (.int .i64 F)).setCell ⟨w.heap.size + 1 + 1, 2, none⟩ (.slice aL L.length kL)).setCell ⟨w.heap.size + 1 + 1, 3, none⟩ (.int .i64 (L.length : Int))).heap.size aB B (((((W.setCell ⟨w.heap.size, 3, none⟩ (.int .i64 (L.length : Int))).setCell ⟨w.heap.size + 1 + 1, 0, none⟩ (.slice aB B.length kB)).setCell ⟨w.heap.size + 1 + 1, 1, none⟩ (.int .i64 F)).setCell ⟨w.heap.size + 1 + 1, 2, none⟩ (.slice aL L.length kL)).setCell ⟨w.heap.size + 1 + 1, 3, none⟩ (.int .i64 (L.length : Int))) ∧ Rs (((((W.setCell ⟨w.heap.size, 3, none⟩ (.int .i64 (L.length : Int))).setCell ⟨w.heap.size + 1 + 1, 0, none⟩ (.slice aB B.length kB)).setCell ⟨w.heap.size + 1 + 1, 1, none⟩ (.int .i64 F)).setCell ⟨w.heap.size + 1 + 1, 2, none⟩ (.slice aL L.length kL)).setCell ⟨w.heap.size + 1 + 1, 3, none⟩ (.int .i64 (L.length : Int))).heap.size aL L (((((W.setCell ⟨w.heap.size, 3, none⟩ (.int .i64 (L.length : Int))).setCell ⟨w.heap.size + 1 + 1, 0, none⟩ (.slice aB B.length kB)).setCell ⟨w.heap.size + 1 + 1, 1, none⟩ (.int .i64 F)).setCell ⟨w.heap.size + 1 + 1, 2, none⟩ (.slice aL L.length kL)).setCell ⟨w.heap.size + 1 + 1, 3, none⟩ (.int .i64 (L.length : Int)))) := by
    have g := setB (setB (setB (setB (setB HB0.out w.heap.size 3 (Nat.le_refl _) (.int .i64 (L.length : Int))) (w.heap.size + 1 + 1) 0 (by omega) (.slice aB B.length kB)) (w.heap.size + 1 + 1) 1 (by omega) (.int .i64 F)) (w.heap.size + 1 + 1) 2 (by omega) (.slice aL L.length kL)) (w.heap.size + 1 + 1) 3 (by omega) (.int .i64 (L.length : Int))
    exact ⟨(HO.out.read.1.below g).mono g.size, (HO.out.read.2.below g).mono g.size⟩
  have hKz := hK2.fill (.slice aB B.length kB) (.int .i64 F) (.slice aL L.length kL) (.int .i64 (L.length : Int))
  have ez0 : (((((W.setCell ⟨w.heap.size, 3, none⟩ (.int .i64 (L.length : Int))).setCell ⟨w.heap.size + 1 + 1, 0, none⟩ (.slice aB B.length kB)).setCell ⟨w.heap.size + 1 + 1, 1, none⟩ (.int .i64 F)).setCell ⟨w.heap.size + 1 + 1, 2, none⟩ (.slice aL L.length kL)).setCell ⟨w.heap.size + 1 + 1, 3, none⟩ (.int .i64 (L.length : Int))).cell? ⟨w.heap.size + 1 + 1, 0, none⟩ = some (.slice aB B.length kB) := box_cell hKz.z 0
  have ez1 : (((((W.setCell ⟨w.heap.size, 3, none⟩ (.int .i64 (L.length : Int))).setCell ⟨w.heap.size + 1 + 1, 0, none⟩ (.slice aB B.length kB)).setCell ⟨w.heap.size + 1 + 1, 1, none⟩ (.int .i64 F)).setCell ⟨w.heap.size + 1 + 1, 2, none⟩ (.slice aL L.length kL)).setCell ⟨w.heap.size + 1 + 1, 3, none⟩ (.int .i64 (L.length : Int))).cell? ⟨w.heap.size + 1 + 1, 1, none⟩ = some (.int .i64 F) := box_cell hKz.z 1
  have ez2 : (((((W.setCell ⟨w.heap.size, 3, none⟩ (.int .i64 (L.length : Int))).setCell ⟨w.heap.size + 1 + 1, 0, none⟩ (.slice aB B.length kB)).setCell ⟨w.heap.size + 1 + 1, 1, none⟩ (.int .i64 F)).setCell ⟨w.heap.size + 1 + 1, 2, none⟩ (.slice aL L.length kL)).setCell ⟨w.heap.size + 1 + 1, 3, none⟩ (.int .i64 (L.length : Int))).cell? ⟨w.heap.size + 1 + 1, 2, none⟩ = some (.slice aL L.length kL) := box_cell hKz.z 2
  have ez3 : (((((W.setCell ⟨w.heap.size, 3, none⟩ (.int .i64 (L.length : Int))).setCell ⟨w.heap.size + 1 + 1, 0, none⟩ (.slice aB B.length kB)).setCell ⟨w.heap.size + 1 + 1, 1, none⟩ (.int .i64 F)).setCell ⟨w.heap.size + 1 + 1, 2, none⟩ (.slice aL L.length kL)).setCell ⟨w.heap.size + 1 + 1, 3, none⟩ (.int .i64 (L.length : Int))).cell? ⟨w.heap.size + 1 + 1, 3, none⟩ = some (.int .i64 (L.length : Int)) := box_cell hKz.z 3
  have HBz := hid hKz.below
  obtain ⟨⟨z0, z1, z2, z3⟩, f0, f1, f2, f3⟩ := hK2.cells
  clear hKz hK2
  go_wp2_with fail
  generalize (((((W.setCell ⟨w.heap.size, 3, none⟩ (.int .i64 (L.length : Int))).setCell ⟨w.heap.size + 1 + 1, 0, none⟩ (.slice aB B.length kB)).setCell ⟨w.heap.size + 1 + 1, 1, none⟩ (.int .i64 F)).setCell ⟨w.heap.size + 1 + 1, 2, none⟩ (.slice aL L.length kL)).setCell ⟨w.heap.size + 1 + 1, 3, none⟩ (.int .i64 (L.length : Int))) = XX at *
  refine bodyPost_ret (v := .tuple #[.agg #[.slice aB B.length kB, .int .i64 F, .slice aL L.length kL, .int .i64 (L.length : Int)], .bool true]) (by simp [results, Try.results31, go_sem, ez0, ez1, ez2, ez3]) rfl ?_
  exact ⟨aB, kB, aL, kL, rfl, HR3.out.1, HR3.out.2, HBz.out⟩
end Go.Proofs.Ytlbhfgcpflhccaa
namespace Go.Proofs.Ytlbhfgcpflhccaa
set_option maxRecDepth 100000
open Go.ChangeShapes Go.WideShapes Go.ChangeAt Go.RowKit G00541
set_option maxHeartbeats 8000000 in
theorem l6Do_six (lo mid : Nat) (aB aL : Option Addr) (kB kL : Nat) (B : List ByteArray) (F : Int) (L : List Rc) (s : Int) (w : World) (hO : OV lo mid aB kB B aL kL L w) (hg : GoodV B F L s) :
    Calls Try.prog 31 #[.agg #[.slice aB B.length kB, .int .i64 F, .slice aL L.length kL, .int .i64 s], .agg #[.int .i64 6, .int .i64 0, .int .i64 0, .string ⟨#[]⟩, .int .i64 0]] w fun e w' => SdOut (volP aB kB B.length aL kL L.length) (.agg #[.slice aB B.length kB, .int .i64 F, .slice aL L.length kL, .int .i64 s]) (foldDo B F L s) w e w' := by
  have hlo : lo ≤ w.heap.size := Nat.le_trans hO.lm hO.mh
  have HK := hid (SB.start w (volP aB kB B.length aL kL L.length) #[.slice aB B.length kB, .int .i64 F, .slice aL L.length kL, .int .i64 s] #[.int .i64 6, .int .i64 0, .int .i64 0, .string ⟨#[]⟩, .int .i64 0] #[.slice none 0 0, .int .i64 0, .slice none 0 0, .int .i64 0])
  have HB0 := hid (DK.start w #[.slice aB B.length kB, .int .i64 F, .slice aL L.length kL, .int .i64 s] #[.int .i64 6, .int .i64 0, .int .i64 0, .string ⟨#[]⟩, .int .i64 0] #[.slice none 0 0, .int .i64 0, .slice none 0 0, .int .i64 0]).below
  obtain ⟨n, rfl⟩ : ∃ n : Nat, s = n := ⟨s.toNat, by have := hg.s0; omega⟩
  have hn : n ≤ L.length := by have := hg.s1; omega
  obtain ⟨c1, hcut⟩ := cut_low aL kL L n n rfl hn (rw_cap hO.log).1
  have h16 := goodBs_len hg.bs
  obtain ⟨R, cB, eB, hR0, hrow, hcB⟩ := own_srow hO.base (by omega)
  injection eB with eB1 eB2 eB3
  subst eB1
  subst eB3
  have hRm : R < mid := hO.low R rfl
  have hRw : R < w.heap.size := hrow.lt
  have hnq : (L.take n).length = n := by rw [List.length_take]; omega
  rw [hnq] at hcut
  have HG := hid hg.recs
  have H16 := hid h16
  have HROW := hid (hrow.below HB0.out)
  have HLOG := hid (rw_below hO.log HB0.out)
  have hml : mid ≤ w.heap.size := hO.mh
  have hl40 := hg.len
  have hmlo : lo ≤ mid := hO.lm
  have HLB : Hid (∀ j, (Value.slice aL L.length kL).ownBlock = some j → j < w.heap.size) := fun j hj => (hO.log.lt j hj).2
  clear hO hg hrow hnq h16
  generalize hW : (((w.alloc (.cells #[.slice (some ⟨R, 0, none⟩) B.length kB, .int .i64 F, .slice aL L.length kL, .int .i64 (n : Int)] 28)).alloc (.cells #[.int .i64 6, .int .i64 0, .int .i64 0, .string ⟨#[]⟩, .int .i64 0] 35)).alloc (.cells #[.slice none 0 0, .int .i64 0, .slice none 0 0, .int .i64 0] 28)) = W at *
  obtain ⟨⟨x0, x1, x2, x3⟩, y0, y1, y2, y3⟩ := HK.out.vol
  obtain ⟨o0, o1, o2, o3, o4⟩ := HK.out.op
  go_enter Try.func31, Try.ntmps31
  go_wp2_with fail
  clear hW
  refine (l1In_no 6 1 3 _ (by omega)).mono ?_
  rintro e w2 ⟨rfl, hw2⟩
  rw [hw2]
  clear hw2
  go_wp2_with fail
  clear x0 x1 x2 x3 y0 y1 y2 y3 o0 o1 o2 o3 o4
  go_loopw [113] (fun i wr => ∃ k : Nat, k ≤ n ∧ i = .int .i64 k ∧ SRow R (doL B (L.take k)) wr ∧ wr.ownsRow mid 37 4 (.slice aL L.length kL) L.length (rvals L) ∧ SB w (volP (some ⟨R, 0, none⟩) kB B.length aL kL L.length) #[.slice (some ⟨R, 0, none⟩) B.length kB, .int .i64 (markF F (L.take k)), .slice aL L.length kL, .int .i64 (n : Int)] #[.int .i64 6, .int .i64 0, .int .i64 0, .string ⟨#[]⟩, .int .i64 0] #[.slice none 0 0, .int .i64 0, .slice none 0 0, .int .i64 0] wr) (fun i _ => n - (intOf i).toNat)
  case atStart => exact ⟨0, Nat.zero_le _, rfl, HROW.out, HLOG.out, HK.out⟩
  case round =>
    clear HROW HLOG HK HB0
    obtain ⟨k, hk, rfl, hrow, hlog, hK⟩ := hrel
    have HROW := hid hrow
    have HLOG := hid hlog
    have HK := hid hK
    have hsz := hK.size
    clear hrow hlog hK
    by_cases hlt : k < n
    · have hltL : k < L.length := by omega
      obtain ⟨bL, cL, eL, hOR⟩ := own_recs HLOG.out
      injection eL with eL1 eL2 eL3
      subst eL1
      obtain ⟨b, off, rfl, hb, hcells⟩ := hOR.rs.cell (by omega)
      obtain ⟨c0, c1', c2, c3⟩ := hcells k hltL
      have hgk := good_at HG.out k hltL
      have HC : Hid (∀ v, SRow R (doL B (L.take k)) v → Calls Try.prog 60 #[.slice (some ⟨R, 0, none⟩) B.length kB, .agg #[.int .i64 L[k].kind, .int .i64 L[k].place, .int .i64 L[k].long, .string (str L[k].data)]] v fun e w' => e = .returned (.tuple #[]) ∧ SRow R (doL B (L.take (k + 1))) w' ∧ But R v w') := fun v hv => by
        rw [doL_snoc B L k hltL, H16.out]
        exact l3do_rec R kB _ L[k] v (by rw [doL_len]; exact H16.out) hgk hv
      obtain ⟨⟨x0, x1, x2, x3⟩, y0, y1, y2, y3⟩ := HK.out.vol
      have HMY := hid (markF_snoc_yes F L k hltL)
      have HMN := hid (markF_snoc_no F L k hltL)
      clear hgk hcells hOR eL2 eL3
      generalize hrk : L[k].kind = rk at *
      generalize hrp : L[k].place = rp at *
      generalize hrn : L[k].long = rn at *
      generalize hrd : str L[k].data = rd at *
      clear hrk hrp hrn hrd
      have hlt0 : w.heap.size < wr.heap.size := by omega
      have x0a : (wr.alloc (.cells #[.int .i64 rk, .int .i64 rp, .int .i64 rn, .string rd] 37)).cell? ⟨w.heap.size, 0, none⟩ = some (.slice (some ⟨R, 0, none⟩) B.length kB) := ((boxB wr _).cell (p := ⟨w.heap.size, 0, none⟩) hlt0).trans x0
      go_wp2_with fail
      have bx := boxB wr (.cells #[.int .i64 rk, .int .i64 rp, .int .i64 rn, .string rd] 37)
      refine (HC.out _ (HROW.out.below bx)).mono ?_
      rintro e w3 ⟨rfl, hrow3, but3⟩
      have HROW3 := hid hrow3
      have hz3 : (wr.alloc (.cells #[.int .i64 rk, .int .i64 rp, .int .i64 rn, .string rd] 37)).heap.size = wr.heap.size + 1 := heap_size _ _
      have HK3 := hid ((HK.out.on bx).but (Or.inl rfl) hRw but3)
      have HLOG3 : Hid (w3.ownsRow mid 37 4 _ L.length (rvals L)) := rw_keep (rw_below HLOG.out bx) (fun j hj => but3.block j (((rw_below HLOG.out bx).lt j hj).2) (by have := (HLOG.out.lt j hj).1; omega))
      have hbx3 : w3.heap[wr.heap.size]? = some (.cells #[.int .i64 rk, .int .i64 rp, .int .i64 rn, .string rd] 37) := (but3.block _ (by omega) (by omega)).trans (heap_last _ _)
      have t0 : w3.cell? ⟨wr.heap.size, 0, none⟩ = some (.int .i64 rk) := box_cell hbx3 0
      have t1 : w3.cell? ⟨wr.heap.size, 1, none⟩ = some (.int .i64 rp) := box_cell hbx3 1
      obtain ⟨⟨x0, x1, x2, x3⟩, y0, y1, y2, y3⟩ := HK3.out.vol
      clear hrow3 but3 bx hz3 hbx3 HC
      by_cases h3 : rk = 3
      · subst h3
        have HNX := hid (HMY.out rfl)
        have hK4 := HK3.out.setX 1 (.int .i64 rp)
        simp only [List.setIfInBounds_toArray, List.set_cons_succ, List.set_cons_zero] at hK4
        have HK4 := hid hK4
        have HR4 : Hid (SRow R (doL B (L.take (k + 1))) (w3.setCell ⟨w.heap.size, 1, none⟩ (.int .i64 rp))) := HROW3.out.same (by simp [World.setCell]) (keepB _ _ _ _ _ (by omega))
        have HL4 : Hid ((w3.setCell ⟨w.heap.size, 1, none⟩ (.int .i64 rp)).ownsRow mid 37 4 _ L.length (rvals L)) := rw_keep HLOG3.out (fun j hj => keepB _ _ _ _ _ (by have := HLB.out j hj; omega))
        clear hK4 HMY HMN
        go_wp2_with fail
        go_roundw
        case rel => exact ⟨k + 1, by omega, by go_num, HR4.out, HL4.out, by rw [HNX.out]; exact HK4.out⟩
        case measure => simp [intOf]; omega
      · have HNX := hid (HMN.out h3)
        have d1 : (rk == 3) = false := beq_eq_false_iff_ne.2 h3
        have d2 : decide (rk = 3) = false := decide_eq_false h3
        clear HMY HMN h3
        go_wp2_with fail
        go_roundw
        case rel => exact ⟨k + 1, by omega, by go_num, HROW3.out, HLOG3.out, by rw [HNX.out]; exact HK3.out⟩
        case measure => simp [intOf]; omega
    · obtain rfl : k = n := by omega
      obtain ⟨⟨x0, x1, x2, x3⟩, y0, y1, y2, y3⟩ := HK.out.vol
      have hRs : Rs w.heap.size aL L wr := by
        by_cases h0 : 0 < L.length
        · obtain ⟨RL, cL, eL, _, hrr⟩ := own_rrow HLOG.out h0
          injection eL with eL1 eL2 eL3
          subst eL1
          exact hrr.sl (HLB.out RL rfl)
        · have : L = [] := List.length_eq_zero_iff.1 (by omega)
          rw [this]; exact Rs.nil _ _ _
      obtain ⟨a2, c2, hcut2, hR2⟩ := cut_high aL kL L k k rfl hn (rw_cap HLOG.out).1 hRs
      have HR2 := hid hR2
      have HD16 : Hid ((doL B (L.take k)).length = B.length) := doL_len B _
      generalize hF9 : markF F (L.take k) = mk at *
      generalize hB9 : doL B (L.take k) = B9 at *
      generalize hn2 : (L.drop k).length = n2 at *
      have HDO : Hid (foldDo B F L (k : Int) = some (B9, mk, L.drop k, 0)) := by
        show foldDo B F L (k : Int) = _
        unfold foldDo; rw [Int.toNat_natCast, hB9, hF9]
      have HN2 := hid hn2
      clear hRs hR2 hF9 hB9 hn2
      have hK2 := (HK.out.setX 2 (.slice a2 n2 c2)).setX 3 (.int .i64 0)
      simp only [List.setIfInBounds_toArray, List.set_cons_succ, List.set_cons_zero] at hK2
      have gg : Below w.heap.size wr ((((((wr.setCell ⟨w.heap.size, 2, none⟩ (.slice a2 n2 c2)).setCell ⟨w.heap.size, 3, none⟩ (.int .i64 0)).setCell ⟨w.heap.size + 1 + 1, 0, none⟩ (.slice (some ⟨R, 0, none⟩) B.length kB)).setCell ⟨w.heap.size + 1 + 1, 1, none⟩ (.int .i64 mk)).setCell ⟨w.heap.size + 1 + 1, 2, none⟩ (.slice a2 n2 c2)).setCell ⟨w.heap.size + 1 + 1, 3, none⟩ (.int .i64 0)) := setB (setB (setB (setB (setB (setB (Below.refl _ _) w.heap.size 2 (Nat.le_refl _) (.slice a2 n2 c2)) w.heap.size 3 (Nat.le_refl _) (.int .i64 0)) (w.heap.size + 1 + 1) 0 (by omega) (.slice (some ⟨R, 0, none⟩) B.length kB)) (w.heap.size + 1 + 1) 1 (by omega) (.int .i64 mk)) (w.heap.size + 1 + 1) 2 (by omega) (.slice a2 n2 c2)) (w.heap.size + 1 + 1) 3 (by omega) (.int .i64 0)
      have hsz9 : ((((((wr.setCell ⟨w.heap.size, 2, none⟩ (.slice a2 n2 c2)).setCell ⟨w.heap.size, 3, none⟩ (.int .i64 0)).setCell ⟨w.heap.size + 1 + 1, 0, none⟩ (.slice (some ⟨R, 0, none⟩) B.length kB)).setCell ⟨w.heap.size + 1 + 1, 1, none⟩ (.int .i64 mk)).setCell ⟨w.heap.size + 1 + 1, 2, none⟩ (.slice a2 n2 c2)).setCell ⟨w.heap.size + 1 + 1, 3, none⟩ (.int .i64 0)).heap.size = wr.heap.size := by simp [World.setCell]
      have HS9 : Hid (Ss ((((((wr.setCell ⟨w.heap.size, 2, none⟩ (.slice a2 n2 c2)).setCell ⟨w.heap.size, 3, none⟩ (.int .i64 0)).setCell ⟨w.heap.size + 1 + 1, 0, none⟩ (.slice (some ⟨R, 0, none⟩) B.length kB)).setCell ⟨w.heap.size + 1 + 1, 1, none⟩ (.int .i64 mk)).setCell ⟨w.heap.size + 1 + 1, 2, none⟩ (.slice a2 n2 c2)).setCell ⟨w.heap.size + 1 + 1, 3, none⟩ (.int .i64 0)).heap.size (some ⟨R, 0, none⟩) B9 ((((((wr.setCell ⟨w.heap.size, 2, none⟩ (.slice a2 n2 c2)).setCell ⟨w.heap.size, 3, none⟩ (.int .i64 0)).setCell ⟨w.heap.size + 1 + 1, 0, none⟩ (.slice (some ⟨R, 0, none⟩) B.length kB)).setCell ⟨w.heap.size + 1 + 1, 1, none⟩ (.int .i64 mk)).setCell ⟨w.heap.size + 1 + 1, 2, none⟩ (.slice a2 n2 c2)).setCell ⟨w.heap.size + 1 + 1, 3, none⟩ (.int .i64 0))) := (HROW.out.same (by rw [hsz9]; exact Nat.le_refl _) (gg.block R hRw)).sl (by rw [hsz9]; omega)
      have HR9 : Hid (Rs ((((((wr.setCell ⟨w.heap.size, 2, none⟩ (.slice a2 n2 c2)).setCell ⟨w.heap.size, 3, none⟩ (.int .i64 0)).setCell ⟨w.heap.size + 1 + 1, 0, none⟩ (.slice (some ⟨R, 0, none⟩) B.length kB)).setCell ⟨w.heap.size + 1 + 1, 1, none⟩ (.int .i64 mk)).setCell ⟨w.heap.size + 1 + 1, 2, none⟩ (.slice a2 n2 c2)).setCell ⟨w.heap.size + 1 + 1, 3, none⟩ (.int .i64 0)).heap.size a2 (L.drop k) ((((((wr.setCell ⟨w.heap.size, 2, none⟩ (.slice a2 n2 c2)).setCell ⟨w.heap.size, 3, none⟩ (.int .i64 0)).setCell ⟨w.heap.size + 1 + 1, 0, none⟩ (.slice (some ⟨R, 0, none⟩) B.length kB)).setCell ⟨w.heap.size + 1 + 1, 1, none⟩ (.int .i64 mk)).setCell ⟨w.heap.size + 1 + 1, 2, none⟩ (.slice a2 n2 c2)).setCell ⟨w.heap.size + 1 + 1, 3, none⟩ (.int .i64 0))) := (HR2.out.below gg).mono (by rw [hsz9]; omega)
      have hKz := hK2.fill (.slice (some ⟨R, 0, none⟩) B.length kB) (.int .i64 mk) (.slice a2 n2 c2) (.int .i64 0)
      have ez0 : ((((((wr.setCell ⟨w.heap.size, 2, none⟩ (.slice a2 n2 c2)).setCell ⟨w.heap.size, 3, none⟩ (.int .i64 0)).setCell ⟨w.heap.size + 1 + 1, 0, none⟩ (.slice (some ⟨R, 0, none⟩) B.length kB)).setCell ⟨w.heap.size + 1 + 1, 1, none⟩ (.int .i64 mk)).setCell ⟨w.heap.size + 1 + 1, 2, none⟩ (.slice a2 n2 c2)).setCell ⟨w.heap.size + 1 + 1, 3, none⟩ (.int .i64 0)).cell? ⟨w.heap.size + 1 + 1, 0, none⟩ = some (.slice (some ⟨R, 0, none⟩) B.length kB) := box_cell hKz.z 0
      have ez1 : ((((((wr.setCell ⟨w.heap.size, 2, none⟩ (.slice a2 n2 c2)).setCell ⟨w.heap.size, 3, none⟩ (.int .i64 0)).setCell ⟨w.heap.size + 1 + 1, 0, none⟩ (.slice (some ⟨R, 0, none⟩) B.length kB)).setCell ⟨w.heap.size + 1 + 1, 1, none⟩ (.int .i64 mk)).setCell ⟨w.heap.size + 1 + 1, 2, none⟩ (.slice a2 n2 c2)).setCell ⟨w.heap.size + 1 + 1, 3, none⟩ (.int .i64 0)).cell? ⟨w.heap.size + 1 + 1, 1, none⟩ = some (.int .i64 mk) := box_cell hKz.z 1
      have ez2 : ((((((wr.setCell ⟨w.heap.size, 2, none⟩ (.slice a2 n2 c2)).setCell ⟨w.heap.size, 3, none⟩ (.int .i64 0)).setCell ⟨w.heap.size + 1 + 1, 0, none⟩ (.slice (some ⟨R, 0, none⟩) B.length kB)).setCell ⟨w.heap.size + 1 + 1, 1, none⟩ (.int .i64 mk)).setCell ⟨w.heap.size + 1 + 1, 2, none⟩ (.slice a2 n2 c2)).setCell ⟨w.heap.size + 1 + 1, 3, none⟩ (.int .i64 0)).cell? ⟨w.heap.size + 1 + 1, 2, none⟩ = some (.slice a2 n2 c2) := box_cell hKz.z 2
      have ez3 : ((((((wr.setCell ⟨w.heap.size, 2, none⟩ (.slice a2 n2 c2)).setCell ⟨w.heap.size, 3, none⟩ (.int .i64 0)).setCell ⟨w.heap.size + 1 + 1, 0, none⟩ (.slice (some ⟨R, 0, none⟩) B.length kB)).setCell ⟨w.heap.size + 1 + 1, 1, none⟩ (.int .i64 mk)).setCell ⟨w.heap.size + 1 + 1, 2, none⟩ (.slice a2 n2 c2)).setCell ⟨w.heap.size + 1 + 1, 3, none⟩ (.int .i64 0)).cell? ⟨w.heap.size + 1 + 1, 3, none⟩ = some (.int .i64 0) := box_cell hKz.z 3
      have HBz := hid hKz.below
      obtain ⟨⟨z0, z1, z2, z3⟩, f0, f1, f2, f3⟩ := hK2.cells
      clear hKz hK2 gg hsz9
      go_wp2_with fail
      generalize ((((((wr.setCell ⟨w.heap.size, 2, none⟩ (.slice a2 n2 c2)).setCell ⟨w.heap.size, 3, none⟩ (.int .i64 0)).setCell ⟨w.heap.size + 1 + 1, 0, none⟩ (.slice (some ⟨R, 0, none⟩) B.length kB)).setCell ⟨w.heap.size + 1 + 1, 1, none⟩ (.int .i64 mk)).setCell ⟨w.heap.size + 1 + 1, 2, none⟩ (.slice a2 n2 c2)).setCell ⟨w.heap.size + 1 + 1, 3, none⟩ (.int .i64 0)) = XX at *
      refine bodyPost_ret (v := .tuple #[.agg #[.slice (some ⟨R, 0, none⟩) B.length kB, .int .i64 mk, .slice a2 n2 c2, .int .i64 0], .bool true]) (by simp [results, Try.results31, go_sem, ez0, ez1, ez2, ez3]) rfl ?_
      rw [HDO.out]
      refine ⟨some ⟨R, 0, none⟩, kB, a2, c2, ?_, HS9.out, HR9.out, HBz.out⟩
      show _ = Ending.returned (.tuple #[.agg #[.slice (some ⟨R, 0, none⟩) B9.length kB, .int .i64 mk, .slice a2 (L.drop k).length c2, .int .i64 0], .bool true])
      rw [HD16.out, HN2.out]
end Go.Proofs.Ytlbhfgcpflhccaa
namespace Go.Proofs.Ytlbhfgcpflhccaa
set_option maxRecDepth 100000
open Go.ChangeShapes Go.WideShapes Go.ChangeAt Go.RowKit G00541
set_option maxHeartbeats 8000000 in
theorem l6Do_rec_no (lo mid : Nat) (aB aL : Option Addr) (kB kL : Nat) (B : List ByteArray) (F : Int) (L : List Rc) (s : Int) (k p n m : Int) (D : ByteArray) (w : World) (hO : OV lo mid aB kB B aL kL L w) (hk : 1 ≤ k ∧ k ≤ 3) (hr : recOk ⟨k, p, n, D, m⟩ = false) :
    Calls Try.prog 31 #[.agg #[.slice aB B.length kB, .int .i64 F, .slice aL L.length kL, .int .i64 s], .agg #[.int .i64 k, .int .i64 p, .int .i64 n, .string D, .int .i64 m]] w fun e w' => e = .returned (.tuple #[.agg #[.slice aB B.length kB, .int .i64 F, .slice aL L.length kL, .int .i64 s], .bool false]) ∧ Kp (volP aB kB B.length aL kL L.length) w w' := by
  have hlo : lo ≤ w.heap.size := Nat.le_trans hO.lm hO.mh
  have HK := hid (SB.start w (volP aB kB B.length aL kL L.length) #[.slice aB B.length kB, .int .i64 F, .slice aL L.length kL, .int .i64 s] #[.int .i64 k, .int .i64 p, .int .i64 n, .string D, .int .i64 m] #[.slice none 0 0, .int .i64 0, .slice none 0 0, .int .i64 0])
  have HB0 := hid (DK.start w #[.slice aB B.length kB, .int .i64 F, .slice aL L.length kL, .int .i64 s] #[.int .i64 k, .int .i64 p, .int .i64 n, .string D, .int .i64 m] #[.slice none 0 0, .int .i64 0, .slice none 0 0, .int .i64 0]).below
  have HRK := hid hr
  clear hr
  have HRF : Hid (∀ v, Calls Try.prog 27 #[.agg #[.int .i64 k, .int .i64 p, .int .i64 n, .string D, .int .i64 m]] v fun e w' => ForOut ⟨k, p, n, D, m⟩ v e w') := fun v => srec_any k p n m D v
  generalize hW : (((w.alloc (.cells #[.slice aB B.length kB, .int .i64 F, .slice aL L.length kL, .int .i64 s] 28)).alloc (.cells #[.int .i64 k, .int .i64 p, .int .i64 n, .string D, .int .i64 m] 35)).alloc (.cells #[.slice none 0 0, .int .i64 0, .slice none 0 0, .int .i64 0] 28)) = W at *
  obtain ⟨⟨x0, x1, x2, x3⟩, y0, y1, y2, y3⟩ := HK.out.vol
  obtain ⟨o0, o1, o2, o3, o4⟩ := HK.out.op
  go_enter Try.func31, Try.ntmps31
  go_wp2_with fail
  clear hW
  refine (l1In_yes k 1 3 _ (by omega) (by omega)).mono ?_
  rintro e w2 ⟨rfl, hw2⟩
  rw [hw2]
  clear hw2
  clear hk
  go_wp2_with fail
  refine (HRF.out _).mono ?_
  rintro e w3 ⟨rfl, b3⟩
  rw [recV_no HRK.out, HRK.out]
  have hK3 := HK.out.on b3
  have b4 := boxB w3 (.cells #[.int .i64 0, .int .i64 0, .int .i64 0, .string ⟨#[]⟩] 37)
  have HK4 := hid (hK3.on b4)
  have HR4 : Hid ((w3.alloc (.cells #[.int .i64 0, .int .i64 0, .int .i64 0, .string ⟨#[]⟩] 37)).heap[w3.heap.size]? = some (.cells #[.int .i64 0, .int .i64 0, .int .i64 0, .string ⟨#[]⟩] 37)) := heap_last _ _
  have hz4 : (w3.alloc (.cells #[.int .i64 0, .int .i64 0, .int .i64 0, .string ⟨#[]⟩] 37)).heap.size = w3.heap.size + 1 := heap_size _ _
  have hs3 := hK3.size
  have HB4 := hid (HB0.out.trans ((b3.trans (b4.mono b3.size)).mono HB0.out.size))
  clear b3 b4 hK3 HB0 HK HRF x0 x1 x2 x3 y0 y1 y2 y3 o0 o1 o2 o3 o4
  go_wp2_with fail
  generalize w3.alloc (.cells #[.int .i64 0, .int .i64 0, .int .i64 0, .string ⟨#[]⟩] 37) = W4 at *
  obtain ⟨⟨x0, x1, x2, x3⟩, y0, y1, y2, y3⟩ := HK4.out.vol
  obtain ⟨o0, o1, o2, o3, o4⟩ := HK4.out.op
  go_quiet (fail)
  clear x0 x1 x2 x3 y0 y1 y2 y3 o0 o1 o2 o3 o4
  have HK5 := hid (HK4.out.on (belowN W4 nq))
  have HB5 := hid (HB4.out.trans ((belowN W4 nq).mono HB4.out.size))
  have HR5 : Hid ((W4.drewN nq).heap[w3.heap.size]? = _) := HR4.out
  have hz5 : (W4.drewN nq).heap.size = w3.heap.size + 1 := hz4
  clear HK4 HB4 HR4 hz4
  generalize W4.drewN nq = W5 at *
  obtain ⟨⟨x0, x1, x2, x3⟩, y0, y1, y2, y3⟩ := HK5.out.vol
  clear HR5 HB5
  have hKz := HK5.out.fill (.slice aB B.length kB) (.int .i64 F) (.slice aL L.length kL) (.int .i64 s)
  have ez0 : ((((W5.setCell ⟨w.heap.size + 1 + 1, 0, none⟩ (.slice aB B.length kB)).setCell ⟨w.heap.size + 1 + 1, 1, none⟩ (.int .i64 F)).setCell ⟨w.heap.size + 1 + 1, 2, none⟩ (.slice aL L.length kL)).setCell ⟨w.heap.size + 1 + 1, 3, none⟩ (.int .i64 s)).cell? ⟨w.heap.size + 1 + 1, 0, none⟩ = some (.slice aB B.length kB) := box_cell hKz.z 0
  have ez1 : ((((W5.setCell ⟨w.heap.size + 1 + 1, 0, none⟩ (.slice aB B.length kB)).setCell ⟨w.heap.size + 1 + 1, 1, none⟩ (.int .i64 F)).setCell ⟨w.heap.size + 1 + 1, 2, none⟩ (.slice aL L.length kL)).setCell ⟨w.heap.size + 1 + 1, 3, none⟩ (.int .i64 s)).cell? ⟨w.heap.size + 1 + 1, 1, none⟩ = some (.int .i64 F) := box_cell hKz.z 1
  have ez2 : ((((W5.setCell ⟨w.heap.size + 1 + 1, 0, none⟩ (.slice aB B.length kB)).setCell ⟨w.heap.size + 1 + 1, 1, none⟩ (.int .i64 F)).setCell ⟨w.heap.size + 1 + 1, 2, none⟩ (.slice aL L.length kL)).setCell ⟨w.heap.size + 1 + 1, 3, none⟩ (.int .i64 s)).cell? ⟨w.heap.size + 1 + 1, 2, none⟩ = some (.slice aL L.length kL) := box_cell hKz.z 2
  have ez3 : ((((W5.setCell ⟨w.heap.size + 1 + 1, 0, none⟩ (.slice aB B.length kB)).setCell ⟨w.heap.size + 1 + 1, 1, none⟩ (.int .i64 F)).setCell ⟨w.heap.size + 1 + 1, 2, none⟩ (.slice aL L.length kL)).setCell ⟨w.heap.size + 1 + 1, 3, none⟩ (.int .i64 s)).cell? ⟨w.heap.size + 1 + 1, 3, none⟩ = some (.int .i64 s) := box_cell hKz.z 3
  have HBz := hid hKz.below
  obtain ⟨⟨z0, z1, z2, z3⟩, f0, f1, f2, f3⟩ := HK5.out.cells
  clear hKz
  go_wp2_with fail
  generalize ((((W5.setCell ⟨w.heap.size + 1 + 1, 0, none⟩ (.slice aB B.length kB)).setCell ⟨w.heap.size + 1 + 1, 1, none⟩ (.int .i64 F)).setCell ⟨w.heap.size + 1 + 1, 2, none⟩ (.slice aL L.length kL)).setCell ⟨w.heap.size + 1 + 1, 3, none⟩ (.int .i64 s)) = XX at *
  refine bodyPost_ret (v := .tuple #[.agg #[.slice aB B.length kB, .int .i64 F, .slice aL L.length kL, .int .i64 s], .bool false]) (by simp [results, Try.results31, go_sem, ez0, ez1, ez2, ez3]) rfl ?_
  exact ⟨rfl, HBz.out⟩
set_option maxHeartbeats 8000000 in
theorem l6Do_rec_full (lo mid : Nat) (aB aL : Option Addr) (kB kL : Nat) (B : List ByteArray) (F : Int) (L : List Rc) (s : Int) (k p n m : Int) (D : ByteArray) (w : World) (hO : OV lo mid aB kB B aL kL L w) (hk : 1 ≤ k ∧ k ≤ 3) (hr : recOk ⟨k, p, n, D, m⟩ = true) (h40 : L.length = 40) :
    Calls Try.prog 31 #[.agg #[.slice aB B.length kB, .int .i64 F, .slice aL L.length kL, .int .i64 s], .agg #[.int .i64 k, .int .i64 p, .int .i64 n, .string D, .int .i64 m]] w fun e w' => e = .returned (.tuple #[.agg #[.slice aB B.length kB, .int .i64 F, .slice aL L.length kL, .int .i64 s], .bool false]) ∧ Kp (volP aB kB B.length aL kL L.length) w w' := by
  have hlo : lo ≤ w.heap.size := Nat.le_trans hO.lm hO.mh
  have HK := hid (SB.start w (volP aB kB B.length aL kL L.length) #[.slice aB B.length kB, .int .i64 F, .slice aL L.length kL, .int .i64 s] #[.int .i64 k, .int .i64 p, .int .i64 n, .string D, .int .i64 m] #[.slice none 0 0, .int .i64 0, .slice none 0 0, .int .i64 0])
  have HB0 := hid (DK.start w #[.slice aB B.length kB, .int .i64 F, .slice aL L.length kL, .int .i64 s] #[.int .i64 k, .int .i64 p, .int .i64 n, .string D, .int .i64 m] #[.slice none 0 0, .int .i64 0, .slice none 0 0, .int .i64 0]).below
  have HRK := hid hr
  clear hr
  have HRF : Hid (∀ v, Calls Try.prog 27 #[.agg #[.int .i64 k, .int .i64 p, .int .i64 n, .string D, .int .i64 m]] v fun e w' => ForOut ⟨k, p, n, D, m⟩ v e w') := fun v => srec_any k p n m D v
  have q40 : ((L.length : Int) == 40) = true := by rw [h40]; rfl
  have q41 : decide ((L.length : Int) = 40) = true := decide_eq_true (by omega)
  have q42 : decide (L.length = 40) = true := decide_eq_true h40
  have q43 : (L.length == 40) = true := by rw [h40]; rfl
  clear h40
  generalize hW : (((w.alloc (.cells #[.slice aB B.length kB, .int .i64 F, .slice aL L.length kL, .int .i64 s] 28)).alloc (.cells #[.int .i64 k, .int .i64 p, .int .i64 n, .string D, .int .i64 m] 35)).alloc (.cells #[.slice none 0 0, .int .i64 0, .slice none 0 0, .int .i64 0] 28)) = W at *
  obtain ⟨⟨x0, x1, x2, x3⟩, y0, y1, y2, y3⟩ := HK.out.vol
  obtain ⟨o0, o1, o2, o3, o4⟩ := HK.out.op
  go_enter Try.func31, Try.ntmps31
  go_wp2_with fail
  clear hW
  refine (l1In_yes k 1 3 _ (by omega) (by omega)).mono ?_
  rintro e w2 ⟨rfl, hw2⟩
  rw [hw2]
  clear hw2
  clear hk
  go_wp2_with fail
  refine (HRF.out _).mono ?_
  rintro e w3 ⟨rfl, b3⟩
  rw [recV_yes HRK.out, HRK.out]
  have hK3 := HK.out.on b3
  have b4 := boxB w3 (.cells #[.int .i64 k, .int .i64 p, .int .i64 n, .string D] 37)
  have HK4 := hid (hK3.on b4)
  have HR4 : Hid ((w3.alloc (.cells #[.int .i64 k, .int .i64 p, .int .i64 n, .string D] 37)).heap[w3.heap.size]? = some (.cells #[.int .i64 k, .int .i64 p, .int .i64 n, .string D] 37)) := heap_last _ _
  have hz4 : (w3.alloc (.cells #[.int .i64 k, .int .i64 p, .int .i64 n, .string D] 37)).heap.size = w3.heap.size + 1 := heap_size _ _
  have hs3 := hK3.size
  have HB4 := hid (HB0.out.trans ((b3.trans (b4.mono b3.size)).mono HB0.out.size))
  clear b3 b4 hK3 HB0 HK HRF x0 x1 x2 x3 y0 y1 y2 y3 o0 o1 o2 o3 o4
  go_wp2_with fail
  generalize w3.alloc (.cells #[.int .i64 k, .int .i64 p, .int .i64 n, .string D] 37) = W4 at *
  obtain ⟨⟨x0, x1, x2, x3⟩, y0, y1, y2, y3⟩ := HK4.out.vol
  obtain ⟨o0, o1, o2, o3, o4⟩ := HK4.out.op
  go_quiet (fail)
  clear x0 x1 x2 x3 y0 y1 y2 y3 o0 o1 o2 o3 o4
  have HK5 := hid (HK4.out.on (belowN W4 nq))
  have HB5 := hid (HB4.out.trans ((belowN W4 nq).mono HB4.out.size))
  have HR5 : Hid ((W4.drewN nq).heap[w3.heap.size]? = _) := HR4.out
  have hz5 : (W4.drewN nq).heap.size = w3.heap.size + 1 := hz4
  clear HK4 HB4 HR4 hz4
  generalize W4.drewN nq = W5 at *
  obtain ⟨⟨x0, x1, x2, x3⟩, y0, y1, y2, y3⟩ := HK5.out.vol
  clear HR5 HB5
  have hKz := HK5.out.fill (.slice aB B.length kB) (.int .i64 F) (.slice aL L.length kL) (.int .i64 s)
  have ez0 : ((((W5.setCell ⟨w.heap.size + 1 + 1, 0, none⟩ (.slice aB B.length kB)).setCell ⟨w.heap.size + 1 + 1, 1, none⟩ (.int .i64 F)).setCell ⟨w.heap.size + 1 + 1, 2, none⟩ (.slice aL L.length kL)).setCell ⟨w.heap.size + 1 + 1, 3, none⟩ (.int .i64 s)).cell? ⟨w.heap.size + 1 + 1, 0, none⟩ = some (.slice aB B.length kB) := box_cell hKz.z 0
  have ez1 : ((((W5.setCell ⟨w.heap.size + 1 + 1, 0, none⟩ (.slice aB B.length kB)).setCell ⟨w.heap.size + 1 + 1, 1, none⟩ (.int .i64 F)).setCell ⟨w.heap.size + 1 + 1, 2, none⟩ (.slice aL L.length kL)).setCell ⟨w.heap.size + 1 + 1, 3, none⟩ (.int .i64 s)).cell? ⟨w.heap.size + 1 + 1, 1, none⟩ = some (.int .i64 F) := box_cell hKz.z 1
  have ez2 : ((((W5.setCell ⟨w.heap.size + 1 + 1, 0, none⟩ (.slice aB B.length kB)).setCell ⟨w.heap.size + 1 + 1, 1, none⟩ (.int .i64 F)).setCell ⟨w.heap.size + 1 + 1, 2, none⟩ (.slice aL L.length kL)).setCell ⟨w.heap.size + 1 + 1, 3, none⟩ (.int .i64 s)).cell? ⟨w.heap.size + 1 + 1, 2, none⟩ = some (.slice aL L.length kL) := box_cell hKz.z 2
  have ez3 : ((((W5.setCell ⟨w.heap.size + 1 + 1, 0, none⟩ (.slice aB B.length kB)).setCell ⟨w.heap.size + 1 + 1, 1, none⟩ (.int .i64 F)).setCell ⟨w.heap.size + 1 + 1, 2, none⟩ (.slice aL L.length kL)).setCell ⟨w.heap.size + 1 + 1, 3, none⟩ (.int .i64 s)).cell? ⟨w.heap.size + 1 + 1, 3, none⟩ = some (.int .i64 s) := box_cell hKz.z 3
  have HBz := hid hKz.below
  obtain ⟨⟨z0, z1, z2, z3⟩, f0, f1, f2, f3⟩ := HK5.out.cells
  clear hKz
  go_wp2_with fail
  generalize ((((W5.setCell ⟨w.heap.size + 1 + 1, 0, none⟩ (.slice aB B.length kB)).setCell ⟨w.heap.size + 1 + 1, 1, none⟩ (.int .i64 F)).setCell ⟨w.heap.size + 1 + 1, 2, none⟩ (.slice aL L.length kL)).setCell ⟨w.heap.size + 1 + 1, 3, none⟩ (.int .i64 s)) = XX at *
  refine bodyPost_ret (v := .tuple #[.agg #[.slice aB B.length kB, .int .i64 F, .slice aL L.length kL, .int .i64 s], .bool false]) (by simp [results, Try.results31, go_sem, ez0, ez1, ez2, ez3]) rfl ?_
  exact ⟨rfl, HBz.out⟩
set_option maxHeartbeats 8000000 in
theorem l6Do_rec_yes (lo mid : Nat) (aB aL : Option Addr) (kB kL : Nat) (B : List ByteArray) (F : Int) (L : List Rc) (s : Int) (k p n m : Int) (D : ByteArray) (w : World) (hO : OV lo mid aB kB B aL kL L w) (hk : 1 ≤ k ∧ k ≤ 2) (hr : recOk ⟨k, p, n, D, m⟩ = true) (hl : L.length ≤ 40) (h40 : L.length ≠ 40) :
    Calls Try.prog 31 #[.agg #[.slice aB B.length kB, .int .i64 F, .slice aL L.length kL, .int .i64 s], .agg #[.int .i64 k, .int .i64 p, .int .i64 n, .string D, .int .i64 m]] w fun e w' => SdOut (volP aB kB B.length aL kL L.length) (.agg #[.slice aB B.length kB, .int .i64 F, .slice aL L.length kL, .int .i64 s]) (some (B, F, L ++ [opR ⟨k, p, n, D, m⟩], s)) w e w' := by
  have hlo : lo ≤ w.heap.size := Nat.le_trans hO.lm hO.mh
  have HK := hid (SB.start w (volP aB kB B.length aL kL L.length) #[.slice aB B.length kB, .int .i64 F, .slice aL L.length kL, .int .i64 s] #[.int .i64 k, .int .i64 p, .int .i64 n, .string D, .int .i64 m] #[.slice none 0 0, .int .i64 0, .slice none 0 0, .int .i64 0])
  have HB0 := hid (DK.start w #[.slice aB B.length kB, .int .i64 F, .slice aL L.length kL, .int .i64 s] #[.int .i64 k, .int .i64 p, .int .i64 n, .string D, .int .i64 m] #[.slice none 0 0, .int .i64 0, .slice none 0 0, .int .i64 0]).below
  have HRK := hid hr
  have HO := hid hO
  clear hr hO
  have HRF : Hid (∀ v, Calls Try.prog 27 #[.agg #[.int .i64 k, .int .i64 p, .int .i64 n, .string D, .int .i64 m]] v fun e w' => ForOut ⟨k, p, n, D, m⟩ v e w') := fun v => srec_any k p n m D v
  have dk1 : (k == 3) = false := beq_eq_false_iff_ne.2 (by omega)
  have dk2 : decide (k = 3) = false := decide_eq_false (by omega)
  have dk3 : (k != 3) = true := by rw [bne, dk1]; rfl
  have q40 : ((L.length : Int) == 40) = false := beq_eq_false_iff_ne.2 (by omega)
  have q41 : decide ((L.length : Int) = 40) = false := decide_eq_false (by omega)
  have q42 : decide (L.length = 40) = false := decide_eq_false h40
  have q43 : (L.length == 40) = false := beq_eq_false_iff_ne.2 h40
  clear h40
  generalize hW : (((w.alloc (.cells #[.slice aB B.length kB, .int .i64 F, .slice aL L.length kL, .int .i64 s] 28)).alloc (.cells #[.int .i64 k, .int .i64 p, .int .i64 n, .string D, .int .i64 m] 35)).alloc (.cells #[.slice none 0 0, .int .i64 0, .slice none 0 0, .int .i64 0] 28)) = W at *
  obtain ⟨⟨x0, x1, x2, x3⟩, y0, y1, y2, y3⟩ := HK.out.vol
  obtain ⟨o0, o1, o2, o3, o4⟩ := HK.out.op
  go_enter Try.func31, Try.ntmps31
  go_wp2_with fail
  clear hW
  refine (l1In_yes k 1 3 _ (by omega) (by omega)).mono ?_
  rintro e w2 ⟨rfl, hw2⟩
  rw [hw2]
  clear hw2
  clear hk
  go_wp2_with fail
  refine (HRF.out _).mono ?_
  rintro e w3 ⟨rfl, b3⟩
  rw [recV_yes HRK.out, HRK.out]
  have hK3 := HK.out.on b3
  have b4 := boxB w3 (.cells #[.int .i64 k, .int .i64 p, .int .i64 n, .string D] 37)
  have HK4 := hid (hK3.on b4)
  have HR4 : Hid ((w3.alloc (.cells #[.int .i64 k, .int .i64 p, .int .i64 n, .string D] 37)).heap[w3.heap.size]? = some (.cells #[.int .i64 k, .int .i64 p, .int .i64 n, .string D] 37)) := heap_last _ _
  have hz4 : (w3.alloc (.cells #[.int .i64 k, .int .i64 p, .int .i64 n, .string D] 37)).heap.size = w3.heap.size + 1 := heap_size _ _
  have hs3 := hK3.size
  have HB4 := hid (HB0.out.trans ((b3.trans (b4.mono b3.size)).mono HB0.out.size))
  clear b3 b4 hK3 HB0 HK HRF x0 x1 x2 x3 y0 y1 y2 y3 o0 o1 o2 o3 o4
  go_wp2_with fail
  generalize w3.alloc (.cells #[.int .i64 k, .int .i64 p, .int .i64 n, .string D] 37) = W4 at *
  obtain ⟨⟨x0, x1, x2, x3⟩, y0, y1, y2, y3⟩ := HK4.out.vol
  obtain ⟨o0, o1, o2, o3, o4⟩ := HK4.out.op
  go_quiet (fail)
  clear x0 x1 x2 x3 y0 y1 y2 y3 o0 o1 o2 o3 o4
  have HK5 := hid (HK4.out.on (belowN W4 nq))
  have HB5 := hid (HB4.out.trans ((belowN W4 nq).mono HB4.out.size))
  have HR5 : Hid ((W4.drewN nq).heap[w3.heap.size]? = _) := HR4.out
  have hz5 : (W4.drewN nq).heap.size = w3.heap.size + 1 := hz4
  clear HK4 HB4 HR4 hz4
  generalize W4.drewN nq = W5 at *
  obtain ⟨⟨x0, x1, x2, x3⟩, y0, y1, y2, y3⟩ := HK5.out.vol
  have hO5 := HO.out.below HB5.out
  have hRs : Rs (W5.alloc (.cells #[.int .i64 k, .int .i64 p, .int .i64 n, .string D] 37)).heap.size (some ⟨W5.heap.size, 0, none⟩) [opR ⟨k, p, n, D, m⟩] (W5.alloc (.cells #[.int .i64 k, .int .i64 p, .int .i64 n, .string D] 37)) := by
    have := rrow_one W5 (opR ⟨k, p, n, D, m⟩)
    have hD : str (opR ⟨k, p, n, D, m⟩).data = D := str_back D
    rw [hD] at this
    exact this
  have b8 := boxB W5 (.cells #[.int .i64 k, .int .i64 p, .int .i64 n, .string D] 37)
  have hz8 : (W5.alloc (.cells #[.int .i64 k, .int .i64 p, .int .i64 n, .string D] 37)).heap.size = W5.heap.size + 1 := heap_size _ _
  obtain ⟨v9, w9, r9, o9, g9, gb9⟩ := app_rec (W5.alloc (.cells #[.int .i64 k, .int .i64 p, .int .i64 n, .string D] 37)) mid (.slice aL L.length kL) L.length (rvals L) (rw_below hO5.log b8) (some ⟨W5.heap.size, 0, none⟩) 1 [opR ⟨k, p, n, D, m⟩] hRs (by show L.length + 1 ≤ 10000; omega) (by have := hO5.mh; omega)
  obtain ⟨a9, c9, rfl⟩ := rw_form o9
  have hlm : lo ≤ mid := hO5.lm
  have hLB : ∀ j, (Value.slice aL L.length kL).ownBlock = some j → mid ≤ j ∧ j < w.heap.size := fun j hj => HO.out.log.lt j hj
  have g9b := below_of_grown (lo := mid) g9 (by have := hO5.mh; omega) (fun j hj => (hLB j hj).1)
  have hs5 := HK5.out.size
  have hK8 := HK5.out.on b8
  have hne : ∀ j, w.heap.size ≤ j → ¬ some j = (Value.slice aL L.length kL).ownBlock := fun j hj e9 => by have := (hLB j e9.symm).2; omega
  have hK9 : SB w (volP aB kB B.length aL kL L.length) _ _ _ w9 := ⟨hK8.below.trans ⟨g9.os, g9.tape, g9.output, g9.size, fun k hk hP => g9.block k hk (fun e9 => hP (Or.inr e9.symm))⟩, (g9.block _ (by omega) (hne _ (by omega))).trans hK8.x, (g9.block _ (by omega) (hne _ (by omega))).trans hK8.o, (g9.block _ (by omega) (hne _ (by omega))).trans hK8.z⟩
  have hl1 : (L ++ [opR ⟨k, p, n, D, m⟩]).length = L.length + 1 := by rw [List.length_append]; rfl
  have hO9 : OV lo mid aB kB B a9 c9 (L ++ [opR ⟨k, p, n, D, m⟩]) w9 := by
    refine ⟨hlm, by have := hO5.mh; have := g9.size; omega, rw_keep (rw_below hO5.base b8) (fun g hg => g9.block g (((rw_below hO5.base b8).lt g hg).2) (fun e9 => ?_)), hO5.low, ?_⟩
    · have h8 := hO5.low g hg
      have h9 := (hLB g e9.symm).1
      omega
    · rw [hl1, rvals_snoc]; exact o9
  have hX1 : ∀ X, w.heap.size ≤ X → X ≤ w.heap.size + 2 → (∀ g, (Value.slice aB B.length kB).ownBlock = some g → g ≠ X) := fun X h1 _ g hg => by have := (HO.out.base.lt g hg).2; omega
  have hX2 : ∀ X, w.heap.size ≤ X → X ≤ w.heap.size + 2 → (∀ g, (Value.slice a9 (L ++ [opR ⟨k, p, n, D, m⟩]).length c9).ownBlock = some g → g ≠ X) := fun X h1 h2 g hg => by
    rw [hl1] at hg
    rcases gb9 with h8 | h8
    · have := (hLB g (by rw [← h8]; exact hg)).2
      omega
    · have h7 : (Value.slice a9 (L.length + 1) c9).ownBlock = some g := hg
      have h6 := h8.symm.trans h7
      injection h6 with h6
      omega
  have HOr := hid (((((hO9.apart w.heap.size 2 (.slice a9 (L.length + 1) c9) (hX1 _ (by omega) (by omega)) (hX2 _ (by omega) (by omega))).apart (w.heap.size + 1 + 1) 0 (.slice aB B.length kB) (hX1 _ (by omega) (by omega)) (hX2 _ (by omega) (by omega))).apart (w.heap.size + 1 + 1) 1 (.int .i64 F) (hX1 _ (by omega) (by omega)) (hX2 _ (by omega) (by omega))).apart (w.heap.size + 1 + 1) 2 (.slice a9 (L.length + 1) c9) (hX1 _ (by omega) (by omega)) (hX2 _ (by omega) (by omega))).apart (w.heap.size + 1 + 1) 3 (.int .i64 s) (hX1 _ (by omega) (by omega)) (hX2 _ (by omega) (by omega))).read
  have hK10 := hK9.setX 2 (.slice a9 (L.length + 1) c9)
  simp only [List.setIfInBounds_toArray, List.set_cons_succ, List.set_cons_zero] at hK10
  have HDO : Hid (∀ e w', (∃ aB' kB' aL' kL', e = .returned (.tuple #[.agg #[.slice aB' B.length kB', .int .i64 F, .slice aL' (L.length + 1) kL', .int .i64 s], .bool true]) ∧ (Ss w'.heap.size aB' B w' ∧ Rs w'.heap.size aL' (L ++ [opR ⟨k, p, n, D, m⟩]) w') ∧ Kp (volP aB kB B.length aL kL L.length) w w') → SdOut (volP aB kB B.length aL kL L.length) (.agg #[.slice aB B.length kB, .int .i64 F, .slice aL L.length kL, .int .i64 s]) (some (B, F, L ++ [opR ⟨k, p, n, D, m⟩], s)) w e w') := fun e w' h => by
    obtain ⟨x1, x2, x3, x4, h1, h2, h3⟩ := h
    exact ⟨x1, x2, x3, x4, by rw [h1, hl1], h2.1, h2.2, h3⟩
  obtain ⟨⟨yx0, yx1, yx2, yx3⟩, yf0, yf1, yf2, yf3⟩ := hK9.vol
  have rr0 : W5.cell? ⟨w3.heap.size, 0, none⟩ = some (.int .i64 k) := box_cell HR5.out 0
  have rr1 : W5.cell? ⟨w3.heap.size, 1, none⟩ = some (.int .i64 p) := box_cell HR5.out 1
  have rr2 : W5.cell? ⟨w3.heap.size, 2, none⟩ = some (.int .i64 n) := box_cell HR5.out 2
  have rr3 : W5.cell? ⟨w3.heap.size, 3, none⟩ = some (.string D) := box_cell HR5.out 3
  have hKz := hK10.fill (.slice aB B.length kB) (.int .i64 F) (.slice a9 (L.length + 1) c9) (.int .i64 s)
  have ez0 : (((((w9.setCell ⟨w.heap.size, 2, none⟩ (.slice a9 (L.length + 1) c9)).setCell ⟨w.heap.size + 1 + 1, 0, none⟩ (.slice aB B.length kB)).setCell ⟨w.heap.size + 1 + 1, 1, none⟩ (.int .i64 F)).setCell ⟨w.heap.size + 1 + 1, 2, none⟩ (.slice a9 (L.length + 1) c9)).setCell ⟨w.heap.size + 1 + 1, 3, none⟩ (.int .i64 s)).cell? ⟨w.heap.size + 1 + 1, 0, none⟩ = some (.slice aB B.length kB) := box_cell hKz.z 0
  have ez1 : (((((w9.setCell ⟨w.heap.size, 2, none⟩ (.slice a9 (L.length + 1) c9)).setCell ⟨w.heap.size + 1 + 1, 0, none⟩ (.slice aB B.length kB)).setCell ⟨w.heap.size + 1 + 1, 1, none⟩ (.int .i64 F)).setCell ⟨w.heap.size + 1 + 1, 2, none⟩ (.slice a9 (L.length + 1) c9)).setCell ⟨w.heap.size + 1 + 1, 3, none⟩ (.int .i64 s)).cell? ⟨w.heap.size + 1 + 1, 1, none⟩ = some (.int .i64 F) := box_cell hKz.z 1
  have ez2 : (((((w9.setCell ⟨w.heap.size, 2, none⟩ (.slice a9 (L.length + 1) c9)).setCell ⟨w.heap.size + 1 + 1, 0, none⟩ (.slice aB B.length kB)).setCell ⟨w.heap.size + 1 + 1, 1, none⟩ (.int .i64 F)).setCell ⟨w.heap.size + 1 + 1, 2, none⟩ (.slice a9 (L.length + 1) c9)).setCell ⟨w.heap.size + 1 + 1, 3, none⟩ (.int .i64 s)).cell? ⟨w.heap.size + 1 + 1, 2, none⟩ = some (.slice a9 (L.length + 1) c9) := box_cell hKz.z 2
  have ez3 : (((((w9.setCell ⟨w.heap.size, 2, none⟩ (.slice a9 (L.length + 1) c9)).setCell ⟨w.heap.size + 1 + 1, 0, none⟩ (.slice aB B.length kB)).setCell ⟨w.heap.size + 1 + 1, 1, none⟩ (.int .i64 F)).setCell ⟨w.heap.size + 1 + 1, 2, none⟩ (.slice a9 (L.length + 1) c9)).setCell ⟨w.heap.size + 1 + 1, 3, none⟩ (.int .i64 s)).cell? ⟨w.heap.size + 1 + 1, 3, none⟩ = some (.int .i64 s) := box_cell hKz.z 3
  have HBz := hid hKz.below
  obtain ⟨⟨z0, z1, z2, z3⟩, f0, f1, f2, f3⟩ := hK10.cells
  clear hKz hK10 hO9 hX1 hX2 o9 g9 gb9 g9b hK9 hK8 hne hLB hRs b8 hO5 hl1 HR5 HB5 HK5 hz5 hz8 hs5 hlm
  go_wp2_with (at_builtin; refine wpList_append_run rfl (.tmp 41) (.tmp 43) 26 rfl _ _ rfl rfl _ _ r9 ?_)
  generalize (((((w9.setCell ⟨w.heap.size, 2, none⟩ (.slice a9 (L.length + 1) c9)).setCell ⟨w.heap.size + 1 + 1, 0, none⟩ (.slice aB B.length kB)).setCell ⟨w.heap.size + 1 + 1, 1, none⟩ (.int .i64 F)).setCell ⟨w.heap.size + 1 + 1, 2, none⟩ (.slice a9 (L.length + 1) c9)).setCell ⟨w.heap.size + 1 + 1, 3, none⟩ (.int .i64 s)) = XX at *
  refine bodyPost_ret (v := .tuple #[.agg #[.slice aB B.length kB, .int .i64 F, .slice a9 (L.length + 1) c9, .int .i64 s], .bool true]) (by simp [results, Try.results31, go_sem, ez0, ez1, ez2, ez3]) rfl ?_
  exact HDO.out _ _ ⟨_, _, _, _, rfl, HOr.out, HBz.out⟩
end Go.Proofs.Ytlbhfgcpflhccaa
namespace Go.Proofs.Ytlbhfgcpflhccaa
set_option maxRecDepth 100000
open Go.ChangeShapes Go.WideShapes Go.ChangeAt Go.RowKit G00541
set_option maxHeartbeats 8000000 in
theorem l6Do_mark_yes (lo mid : Nat) (aB aL : Option Addr) (kB kL : Nat) (B : List ByteArray) (F : Int) (L : List Rc) (s : Int) (p n m : Int) (D : ByteArray) (w : World) (hO : OV lo mid aB kB B aL kL L w) (hr : recOk ⟨3, p, n, D, m⟩ = true) (hl : L.length ≤ 40) (h40 : L.length ≠ 40) (hM : 0 ≤ markF F L ∧ markF F L ≤ 200) (hp : p = markF F L + 1) :
    Calls Try.prog 31 #[.agg #[.slice aB B.length kB, .int .i64 F, .slice aL L.length kL, .int .i64 s], .agg #[.int .i64 3, .int .i64 p, .int .i64 n, .string D, .int .i64 m]] w fun e w' => SdOut (volP aB kB B.length aL kL L.length) (.agg #[.slice aB B.length kB, .int .i64 F, .slice aL L.length kL, .int .i64 s]) (some (B, F, L ++ [opR ⟨3, p, n, D, m⟩], s)) w e w' := by
  have hlo : lo ≤ w.heap.size := Nat.le_trans hO.lm hO.mh
  have HK := hid (SB.start w (volP aB kB B.length aL kL L.length) #[.slice aB B.length kB, .int .i64 F, .slice aL L.length kL, .int .i64 s] #[.int .i64 3, .int .i64 p, .int .i64 n, .string D, .int .i64 m] #[.slice none 0 0, .int .i64 0, .slice none 0 0, .int .i64 0])
  have HB0 := hid (DK.start w #[.slice aB B.length kB, .int .i64 F, .slice aL L.length kL, .int .i64 s] #[.int .i64 3, .int .i64 p, .int .i64 n, .string D, .int .i64 m] #[.slice none 0 0, .int .i64 0, .slice none 0 0, .int .i64 0]).below
  have HRK := hid hr
  have HO := hid hO
  have HMK : Hid (∀ v, Below w.heap.size w v → Calls Try.prog 56 #[.agg #[.slice aB B.length kB, .int .i64 F, .slice aL L.length kL, .int .i64 s]] v fun e w' => e = .returned (.int .i64 (markF F L)) ∧ Below v.heap.size v w') := fun v g => l6Mark_any aB aL kB kL B F L s v (by omega) ((hO.read.2.below g).mono g.size)
  obtain ⟨mk, hmk⟩ : ∃ mk, markF F L = mk := ⟨_, rfl⟩
  rw [hmk] at HMK hM hp
  obtain ⟨m0, m1⟩ := hM
  have hwr : IntKind.i64.wrap (mk + 1) = mk + 1 := by rw [IntKind.wrap_i64]; omega
  have e1 : (p == mk + 1) = true := by rw [hp]; exact beq_self_eq_true _
  have e2 : decide (p = mk + 1) = true := decide_eq_true hp
  have e3 : (p != mk + 1) = false := by rw [bne, e1]; rfl
  clear hr hO hmk hp
  have HRF : Hid (∀ v, Calls Try.prog 27 #[.agg #[.int .i64 3, .int .i64 p, .int .i64 n, .string D, .int .i64 m]] v fun e w' => ForOut ⟨3, p, n, D, m⟩ v e w') := fun v => srec_any 3 p n m D v
  have q40 : ((L.length : Int) == 40) = false := beq_eq_false_iff_ne.2 (by omega)
  have q41 : decide ((L.length : Int) = 40) = false := decide_eq_false (by omega)
  have q42 : decide (L.length = 40) = false := decide_eq_false h40
  have q43 : (L.length == 40) = false := beq_eq_false_iff_ne.2 h40
  clear h40
  generalize hW : (((w.alloc (.cells #[.slice aB B.length kB, .int .i64 F, .slice aL L.length kL, .int .i64 s] 28)).alloc (.cells #[.int .i64 3, .int .i64 p, .int .i64 n, .string D, .int .i64 m] 35)).alloc (.cells #[.slice none 0 0, .int .i64 0, .slice none 0 0, .int .i64 0] 28)) = W at *
  obtain ⟨⟨x0, x1, x2, x3⟩, y0, y1, y2, y3⟩ := HK.out.vol
  obtain ⟨o0, o1, o2, o3, o4⟩ := HK.out.op
  go_enter Try.func31, Try.ntmps31
  go_wp2_with fail
  clear hW
  refine (l1In_yes 3 1 3 _ (by omega) (by omega)).mono ?_
  rintro e w2 ⟨rfl, hw2⟩
  rw [hw2]
  clear hw2
  go_wp2_with fail
  refine (HRF.out _).mono ?_
  rintro e w3 ⟨rfl, b3⟩
  rw [recV_yes HRK.out, HRK.out]
  have hK3 := HK.out.on b3
  have b4 := boxB w3 (.cells #[.int .i64 3, .int .i64 p, .int .i64 n, .string D] 37)
  have HK4 := hid (hK3.on b4)
  have HR4 : Hid ((w3.alloc (.cells #[.int .i64 3, .int .i64 p, .int .i64 n, .string D] 37)).heap[w3.heap.size]? = some (.cells #[.int .i64 3, .int .i64 p, .int .i64 n, .string D] 37)) := heap_last _ _
  have hz4 : (w3.alloc (.cells #[.int .i64 3, .int .i64 p, .int .i64 n, .string D] 37)).heap.size = w3.heap.size + 1 := heap_size _ _
  have hs3 := hK3.size
  have HB4 := hid (HB0.out.trans ((b3.trans (b4.mono b3.size)).mono HB0.out.size))
  clear b3 b4 hK3 HB0 HK HRF x0 x1 x2 x3 y0 y1 y2 y3 o0 o1 o2 o3 o4
  go_wp2_with fail
  generalize w3.alloc (.cells #[.int .i64 3, .int .i64 p, .int .i64 n, .string D] 37) = W4 at *
  obtain ⟨⟨x0, x1, x2, x3⟩, y0, y1, y2, y3⟩ := HK4.out.vol
  obtain ⟨o0, o1, o2, o3, o4⟩ := HK4.out.op
  have HKd := hid (HK4.out.on (Below.refl _ _).drew)
  clear x0 x1 x2 x3 y0 y1 y2 y3 o0 o1 o2 o3 o4
  obtain ⟨⟨x0, x1, x2, x3⟩, -⟩ := HKd.out.vol
  obtain ⟨o0, o1, -⟩ := HKd.out.op
  have HBd := hid (HB4.out.drew)
  have HMd := hid (HMK.out _ HBd.out)
  have hzd : W4.drew.heap.size = w3.heap.size + 1 := hz4
  have HRd : Hid (W4.drew.heap[w3.heap.size]? = _) := HR4.out
  clear HMK HK4 HB4 HR4 hz4
  go_region_held (fun v => (v.cell? ⟨w.heap.size, 0, none⟩ = some (.slice aB B.length kB) ∧ v.cell? ⟨w.heap.size, 1, none⟩ = some (.int .i64 F) ∧ v.cell? ⟨w.heap.size, 2, none⟩ = some (.slice aL L.length kL) ∧ v.cell? ⟨w.heap.size, 3, none⟩ = some (.int .i64 s)) ∧ v.cell? ⟨w.heap.size + 1, 0, none⟩ = some (.int .i64 3) ∧ v.cell? ⟨w.heap.size + 1, 1, none⟩ = some (.int .i64 p)) (first | exact ⟨⟨by with_reducible assumption, by with_reducible assumption, by with_reducible assumption, by with_reducible assumption⟩, by with_reducible assumption, by with_reducible assumption⟩) (first | (go_at_call 56; refine HMd.out.mono ?_; rintro e W5 ⟨rfl, bm⟩; have hK5 := HKd.out.on bm; obtain ⟨⟨u0, u1, u2, u3⟩, -⟩ := hK5.vol; obtain ⟨v0, v1, -⟩ := hK5.op))
  all_goals
    have HK5 := hid hK5
    have HB5 := hid (HBd.out.trans (bm.mono HBd.out.size))
    have HR5 := hid ((bm.block _ (by omega)).trans HRd.out)
    have hz5 := bm.size
    clear x0 x1 x2 x3 o0 o1 u0 u1 u2 u3 v0 v1 hK5 bm HKd HBd HMd HRd hzd
    obtain ⟨⟨x0, x1, x2, x3⟩, y0, y1, y2, y3⟩ := HK5.out.vol
    have hO5 := HO.out.below HB5.out
    have hRs : Rs (W5.alloc (.cells #[.int .i64 3, .int .i64 p, .int .i64 n, .string D] 37)).heap.size (some ⟨W5.heap.size, 0, none⟩) [opR ⟨3, p, n, D, m⟩] (W5.alloc (.cells #[.int .i64 3, .int .i64 p, .int .i64 n, .string D] 37)) := by
      have := rrow_one W5 (opR ⟨3, p, n, D, m⟩)
      have hD : str (opR ⟨3, p, n, D, m⟩).data = D := str_back D
      rw [hD] at this
      exact this
    have b8 := boxB W5 (.cells #[.int .i64 3, .int .i64 p, .int .i64 n, .string D] 37)
    have hz8 : (W5.alloc (.cells #[.int .i64 3, .int .i64 p, .int .i64 n, .string D] 37)).heap.size = W5.heap.size + 1 := heap_size _ _
    obtain ⟨v9, w9, r9, o9, g9, gb9⟩ := app_rec (W5.alloc (.cells #[.int .i64 3, .int .i64 p, .int .i64 n, .string D] 37)) mid (.slice aL L.length kL) L.length (rvals L) (rw_below hO5.log b8) (some ⟨W5.heap.size, 0, none⟩) 1 [opR ⟨3, p, n, D, m⟩] hRs (by show L.length + 1 ≤ 10000; omega) (by have := hO5.mh; omega)
    obtain ⟨a9, c9, rfl⟩ := rw_form o9
    have hlm : lo ≤ mid := hO5.lm
    have hLB : ∀ j, (Value.slice aL L.length kL).ownBlock = some j → mid ≤ j ∧ j < w.heap.size := fun j hj => HO.out.log.lt j hj
    have g9b := below_of_grown (lo := mid) g9 (by have := hO5.mh; omega) (fun j hj => (hLB j hj).1)
    have hs5 := HK5.out.size
    have hK8 := HK5.out.on b8
    have hne : ∀ j, w.heap.size ≤ j → ¬ some j = (Value.slice aL L.length kL).ownBlock := fun j hj e9 => by have := (hLB j e9.symm).2; omega
    have hK9 : SB w (volP aB kB B.length aL kL L.length) _ _ _ w9 := ⟨hK8.below.trans ⟨g9.os, g9.tape, g9.output, g9.size, fun k hk hP => g9.block k hk (fun e9 => hP (Or.inr e9.symm))⟩, (g9.block _ (by omega) (hne _ (by omega))).trans hK8.x, (g9.block _ (by omega) (hne _ (by omega))).trans hK8.o, (g9.block _ (by omega) (hne _ (by omega))).trans hK8.z⟩
    have hl1 : (L ++ [opR ⟨3, p, n, D, m⟩]).length = L.length + 1 := by rw [List.length_append]; rfl
    have hO9 : OV lo mid aB kB B a9 c9 (L ++ [opR ⟨3, p, n, D, m⟩]) w9 := by
      refine ⟨hlm, by have := hO5.mh; have := g9.size; omega, rw_keep (rw_below hO5.base b8) (fun g hg => g9.block g (((rw_below hO5.base b8).lt g hg).2) (fun e9 => ?_)), hO5.low, ?_⟩
      · have h8 := hO5.low g hg
        have h9 := (hLB g e9.symm).1
        omega
      · rw [hl1, rvals_snoc]; exact o9
    have hX1 : ∀ X, w.heap.size ≤ X → X ≤ w.heap.size + 2 → (∀ g, (Value.slice aB B.length kB).ownBlock = some g → g ≠ X) := fun X h1 _ g hg => by have := (HO.out.base.lt g hg).2; omega
    have hX2 : ∀ X, w.heap.size ≤ X → X ≤ w.heap.size + 2 → (∀ g, (Value.slice a9 (L ++ [opR ⟨3, p, n, D, m⟩]).length c9).ownBlock = some g → g ≠ X) := fun X h1 h2 g hg => by
      rw [hl1] at hg
      rcases gb9 with h8 | h8
      · have := (hLB g (by rw [← h8]; exact hg)).2
        omega
      · have h7 : (Value.slice a9 (L.length + 1) c9).ownBlock = some g := hg
        have h6 := h8.symm.trans h7
        injection h6 with h6
        omega
    have HOr := hid (((((hO9.apart w.heap.size 2 (.slice a9 (L.length + 1) c9) (hX1 _ (by omega) (by omega)) (hX2 _ (by omega) (by omega))).apart (w.heap.size + 1 + 1) 0 (.slice aB B.length kB) (hX1 _ (by omega) (by omega)) (hX2 _ (by omega) (by omega))).apart (w.heap.size + 1 + 1) 1 (.int .i64 F) (hX1 _ (by omega) (by omega)) (hX2 _ (by omega) (by omega))).apart (w.heap.size + 1 + 1) 2 (.slice a9 (L.length + 1) c9) (hX1 _ (by omega) (by omega)) (hX2 _ (by omega) (by omega))).apart (w.heap.size + 1 + 1) 3 (.int .i64 s) (hX1 _ (by omega) (by omega)) (hX2 _ (by omega) (by omega))).read
    have hK10 := hK9.setX 2 (.slice a9 (L.length + 1) c9)
    simp only [List.setIfInBounds_toArray, List.set_cons_succ, List.set_cons_zero] at hK10
    have HDO : Hid (∀ e w', (∃ aB' kB' aL' kL', e = .returned (.tuple #[.agg #[.slice aB' B.length kB', .int .i64 F, .slice aL' (L.length + 1) kL', .int .i64 s], .bool true]) ∧ (Ss w'.heap.size aB' B w' ∧ Rs w'.heap.size aL' (L ++ [opR ⟨3, p, n, D, m⟩]) w') ∧ Kp (volP aB kB B.length aL kL L.length) w w') → SdOut (volP aB kB B.length aL kL L.length) (.agg #[.slice aB B.length kB, .int .i64 F, .slice aL L.length kL, .int .i64 s]) (some (B, F, L ++ [opR ⟨3, p, n, D, m⟩], s)) w e w') := fun e w' h => by
      obtain ⟨x1, x2, x3, x4, h1, h2, h3⟩ := h
      exact ⟨x1, x2, x3, x4, by rw [h1, hl1], h2.1, h2.2, h3⟩
    obtain ⟨⟨yx0, yx1, yx2, yx3⟩, yf0, yf1, yf2, yf3⟩ := hK9.vol
    have rr0 : W5.cell? ⟨w3.heap.size, 0, none⟩ = some (.int .i64 3) := box_cell HR5.out 0
    have rr1 : W5.cell? ⟨w3.heap.size, 1, none⟩ = some (.int .i64 p) := box_cell HR5.out 1
    have rr2 : W5.cell? ⟨w3.heap.size, 2, none⟩ = some (.int .i64 n) := box_cell HR5.out 2
    have rr3 : W5.cell? ⟨w3.heap.size, 3, none⟩ = some (.string D) := box_cell HR5.out 3
    have hKz := hK10.fill (.slice aB B.length kB) (.int .i64 F) (.slice a9 (L.length + 1) c9) (.int .i64 s)
    have ez0 : (((((w9.setCell ⟨w.heap.size, 2, none⟩ (.slice a9 (L.length + 1) c9)).setCell ⟨w.heap.size + 1 + 1, 0, none⟩ (.slice aB B.length kB)).setCell ⟨w.heap.size + 1 + 1, 1, none⟩ (.int .i64 F)).setCell ⟨w.heap.size + 1 + 1, 2, none⟩ (.slice a9 (L.length + 1) c9)).setCell ⟨w.heap.size + 1 + 1, 3, none⟩ (.int .i64 s)).cell? ⟨w.heap.size + 1 + 1, 0, none⟩ = some (.slice aB B.length kB) := box_cell hKz.z 0
    have ez1 : (((((w9.setCell ⟨w.heap.size, 2, none⟩ (.slice a9 (L.length + 1) c9)).setCell ⟨w.heap.size + 1 + 1, 0, none⟩ (.slice aB B.length kB)).setCell ⟨w.heap.size + 1 + 1, 1, none⟩ (.int .i64 F)).setCell ⟨w.heap.size + 1 + 1, 2, none⟩ (.slice a9 (L.length + 1) c9)).setCell ⟨w.heap.size + 1 + 1, 3, none⟩ (.int .i64 s)).cell? ⟨w.heap.size + 1 + 1, 1, none⟩ = some (.int .i64 F) := box_cell hKz.z 1
    have ez2 : (((((w9.setCell ⟨w.heap.size, 2, none⟩ (.slice a9 (L.length + 1) c9)).setCell ⟨w.heap.size + 1 + 1, 0, none⟩ (.slice aB B.length kB)).setCell ⟨w.heap.size + 1 + 1, 1, none⟩ (.int .i64 F)).setCell ⟨w.heap.size + 1 + 1, 2, none⟩ (.slice a9 (L.length + 1) c9)).setCell ⟨w.heap.size + 1 + 1, 3, none⟩ (.int .i64 s)).cell? ⟨w.heap.size + 1 + 1, 2, none⟩ = some (.slice a9 (L.length + 1) c9) := box_cell hKz.z 2
    have ez3 : (((((w9.setCell ⟨w.heap.size, 2, none⟩ (.slice a9 (L.length + 1) c9)).setCell ⟨w.heap.size + 1 + 1, 0, none⟩ (.slice aB B.length kB)).setCell ⟨w.heap.size + 1 + 1, 1, none⟩ (.int .i64 F)).setCell ⟨w.heap.size + 1 + 1, 2, none⟩ (.slice a9 (L.length + 1) c9)).setCell ⟨w.heap.size + 1 + 1, 3, none⟩ (.int .i64 s)).cell? ⟨w.heap.size + 1 + 1, 3, none⟩ = some (.int .i64 s) := box_cell hKz.z 3
    have HBz := hid hKz.below
    obtain ⟨⟨z0, z1, z2, z3⟩, f0, f1, f2, f3⟩ := hK10.cells
    clear hKz hK10 hO9 hX1 hX2 o9 g9 gb9 g9b hK9 hK8 hne hLB hRs b8 hO5 hl1 HR5 HB5 HK5 hz5 hz8 hs5 hlm
    go_wp2_with (at_builtin; refine wpList_append_run rfl (.tmp 41) (.tmp 43) 26 rfl _ _ rfl rfl _ _ r9 ?_)
    generalize (((((w9.setCell ⟨w.heap.size, 2, none⟩ (.slice a9 (L.length + 1) c9)).setCell ⟨w.heap.size + 1 + 1, 0, none⟩ (.slice aB B.length kB)).setCell ⟨w.heap.size + 1 + 1, 1, none⟩ (.int .i64 F)).setCell ⟨w.heap.size + 1 + 1, 2, none⟩ (.slice a9 (L.length + 1) c9)).setCell ⟨w.heap.size + 1 + 1, 3, none⟩ (.int .i64 s)) = XX at *
    refine bodyPost_ret (v := .tuple #[.agg #[.slice aB B.length kB, .int .i64 F, .slice a9 (L.length + 1) c9, .int .i64 s], .bool true]) (by simp [results, Try.results31, go_sem, ez0, ez1, ez2, ez3]) rfl ?_
    exact HDO.out _ _ ⟨_, _, _, _, rfl, HOr.out, HBz.out⟩
set_option maxHeartbeats 8000000 in
theorem l6Do_mark_no (lo mid : Nat) (aB aL : Option Addr) (kB kL : Nat) (B : List ByteArray) (F : Int) (L : List Rc) (s : Int) (p n m : Int) (D : ByteArray) (w : World) (hO : OV lo mid aB kB B aL kL L w) (hr : recOk ⟨3, p, n, D, m⟩ = true) (hl : L.length ≤ 40) (h40 : L.length ≠ 40) (hM : 0 ≤ markF F L ∧ markF F L ≤ 200) (hp : p ≠ markF F L + 1) :
    Calls Try.prog 31 #[.agg #[.slice aB B.length kB, .int .i64 F, .slice aL L.length kL, .int .i64 s], .agg #[.int .i64 3, .int .i64 p, .int .i64 n, .string D, .int .i64 m]] w fun e w' => e = .returned (.tuple #[.agg #[.slice aB B.length kB, .int .i64 F, .slice aL L.length kL, .int .i64 s], .bool false]) ∧ Kp (volP aB kB B.length aL kL L.length) w w' := by
  have hlo : lo ≤ w.heap.size := Nat.le_trans hO.lm hO.mh
  have HK := hid (SB.start w (volP aB kB B.length aL kL L.length) #[.slice aB B.length kB, .int .i64 F, .slice aL L.length kL, .int .i64 s] #[.int .i64 3, .int .i64 p, .int .i64 n, .string D, .int .i64 m] #[.slice none 0 0, .int .i64 0, .slice none 0 0, .int .i64 0])
  have HB0 := hid (DK.start w #[.slice aB B.length kB, .int .i64 F, .slice aL L.length kL, .int .i64 s] #[.int .i64 3, .int .i64 p, .int .i64 n, .string D, .int .i64 m] #[.slice none 0 0, .int .i64 0, .slice none 0 0, .int .i64 0]).below
  have HRK := hid hr
  have HO := hid hO
  have HMK : Hid (∀ v, Below w.heap.size w v → Calls Try.prog 56 #[.agg #[.slice aB B.length kB, .int .i64 F, .slice aL L.length kL, .int .i64 s]] v fun e w' => e = .returned (.int .i64 (markF F L)) ∧ Below v.heap.size v w') := fun v g => l6Mark_any aB aL kB kL B F L s v (by omega) ((hO.read.2.below g).mono g.size)
  obtain ⟨mk, hmk⟩ : ∃ mk, markF F L = mk := ⟨_, rfl⟩
  rw [hmk] at HMK hM hp
  obtain ⟨m0, m1⟩ := hM
  have hwr : IntKind.i64.wrap (mk + 1) = mk + 1 := by rw [IntKind.wrap_i64]; omega
  have e1 : (p == mk + 1) = false := beq_eq_false_iff_ne.2 hp
  have e2 : decide (p = mk + 1) = false := decide_eq_false hp
  have e3 : (p != mk + 1) = true := by rw [bne, e1]; rfl
  clear hr hO hmk hp
  have HRF : Hid (∀ v, Calls Try.prog 27 #[.agg #[.int .i64 3, .int .i64 p, .int .i64 n, .string D, .int .i64 m]] v fun e w' => ForOut ⟨3, p, n, D, m⟩ v e w') := fun v => srec_any 3 p n m D v
  have q40 : ((L.length : Int) == 40) = false := beq_eq_false_iff_ne.2 (by omega)
  have q41 : decide ((L.length : Int) = 40) = false := decide_eq_false (by omega)
  have q42 : decide (L.length = 40) = false := decide_eq_false h40
  have q43 : (L.length == 40) = false := beq_eq_false_iff_ne.2 h40
  clear h40
  generalize hW : (((w.alloc (.cells #[.slice aB B.length kB, .int .i64 F, .slice aL L.length kL, .int .i64 s] 28)).alloc (.cells #[.int .i64 3, .int .i64 p, .int .i64 n, .string D, .int .i64 m] 35)).alloc (.cells #[.slice none 0 0, .int .i64 0, .slice none 0 0, .int .i64 0] 28)) = W at *
  obtain ⟨⟨x0, x1, x2, x3⟩, y0, y1, y2, y3⟩ := HK.out.vol
  obtain ⟨o0, o1, o2, o3, o4⟩ := HK.out.op
  go_enter Try.func31, Try.ntmps31
  go_wp2_with fail
  clear hW
  refine (l1In_yes 3 1 3 _ (by omega) (by omega)).mono ?_
  rintro e w2 ⟨rfl, hw2⟩
  rw [hw2]
  clear hw2
  go_wp2_with fail
  refine (HRF.out _).mono ?_
  rintro e w3 ⟨rfl, b3⟩
  rw [recV_yes HRK.out, HRK.out]
  have hK3 := HK.out.on b3
  have b4 := boxB w3 (.cells #[.int .i64 3, .int .i64 p, .int .i64 n, .string D] 37)
  have HK4 := hid (hK3.on b4)
  have HR4 : Hid ((w3.alloc (.cells #[.int .i64 3, .int .i64 p, .int .i64 n, .string D] 37)).heap[w3.heap.size]? = some (.cells #[.int .i64 3, .int .i64 p, .int .i64 n, .string D] 37)) := heap_last _ _
  have hz4 : (w3.alloc (.cells #[.int .i64 3, .int .i64 p, .int .i64 n, .string D] 37)).heap.size = w3.heap.size + 1 := heap_size _ _
  have hs3 := hK3.size
  have HB4 := hid (HB0.out.trans ((b3.trans (b4.mono b3.size)).mono HB0.out.size))
  clear b3 b4 hK3 HB0 HK HRF x0 x1 x2 x3 y0 y1 y2 y3 o0 o1 o2 o3 o4
  go_wp2_with fail
  generalize w3.alloc (.cells #[.int .i64 3, .int .i64 p, .int .i64 n, .string D] 37) = W4 at *
  obtain ⟨⟨x0, x1, x2, x3⟩, y0, y1, y2, y3⟩ := HK4.out.vol
  obtain ⟨o0, o1, o2, o3, o4⟩ := HK4.out.op
  have HKd := hid (HK4.out.on (Below.refl _ _).drew)
  clear x0 x1 x2 x3 y0 y1 y2 y3 o0 o1 o2 o3 o4
  obtain ⟨⟨x0, x1, x2, x3⟩, -⟩ := HKd.out.vol
  obtain ⟨o0, o1, -⟩ := HKd.out.op
  have HBd := hid (HB4.out.drew)
  have HMd := hid (HMK.out _ HBd.out)
  have hzd : W4.drew.heap.size = w3.heap.size + 1 := hz4
  have HRd : Hid (W4.drew.heap[w3.heap.size]? = _) := HR4.out
  clear HMK HK4 HB4 HR4 hz4
  go_region_held (fun v => (v.cell? ⟨w.heap.size, 0, none⟩ = some (.slice aB B.length kB) ∧ v.cell? ⟨w.heap.size, 1, none⟩ = some (.int .i64 F) ∧ v.cell? ⟨w.heap.size, 2, none⟩ = some (.slice aL L.length kL) ∧ v.cell? ⟨w.heap.size, 3, none⟩ = some (.int .i64 s)) ∧ v.cell? ⟨w.heap.size + 1, 0, none⟩ = some (.int .i64 3) ∧ v.cell? ⟨w.heap.size + 1, 1, none⟩ = some (.int .i64 p)) (first | exact ⟨⟨by with_reducible assumption, by with_reducible assumption, by with_reducible assumption, by with_reducible assumption⟩, by with_reducible assumption, by with_reducible assumption⟩) (first | (go_at_call 56; refine HMd.out.mono ?_; rintro e W5 ⟨rfl, bm⟩; have hK5 := HKd.out.on bm; obtain ⟨⟨u0, u1, u2, u3⟩, -⟩ := hK5.vol; obtain ⟨v0, v1, -⟩ := hK5.op))
  all_goals
    have HK5 := hid hK5
    have HB5 := hid (HBd.out.trans (bm.mono HBd.out.size))
    have HR5 := hid ((bm.block _ (by omega)).trans HRd.out)
    have hz5 := bm.size
    clear x0 x1 x2 x3 o0 o1 u0 u1 u2 u3 v0 v1 hK5 bm HKd HBd HMd HRd hzd
    obtain ⟨⟨x0, x1, x2, x3⟩, y0, y1, y2, y3⟩ := HK5.out.vol
    clear HR5 HB5
    have hKz := HK5.out.fill (.slice aB B.length kB) (.int .i64 F) (.slice aL L.length kL) (.int .i64 s)
    have ez0 : ((((W5.setCell ⟨w.heap.size + 1 + 1, 0, none⟩ (.slice aB B.length kB)).setCell ⟨w.heap.size + 1 + 1, 1, none⟩ (.int .i64 F)).setCell ⟨w.heap.size + 1 + 1, 2, none⟩ (.slice aL L.length kL)).setCell ⟨w.heap.size + 1 + 1, 3, none⟩ (.int .i64 s)).cell? ⟨w.heap.size + 1 + 1, 0, none⟩ = some (.slice aB B.length kB) := box_cell hKz.z 0
    have ez1 : ((((W5.setCell ⟨w.heap.size + 1 + 1, 0, none⟩ (.slice aB B.length kB)).setCell ⟨w.heap.size + 1 + 1, 1, none⟩ (.int .i64 F)).setCell ⟨w.heap.size + 1 + 1, 2, none⟩ (.slice aL L.length kL)).setCell ⟨w.heap.size + 1 + 1, 3, none⟩ (.int .i64 s)).cell? ⟨w.heap.size + 1 + 1, 1, none⟩ = some (.int .i64 F) := box_cell hKz.z 1
    have ez2 : ((((W5.setCell ⟨w.heap.size + 1 + 1, 0, none⟩ (.slice aB B.length kB)).setCell ⟨w.heap.size + 1 + 1, 1, none⟩ (.int .i64 F)).setCell ⟨w.heap.size + 1 + 1, 2, none⟩ (.slice aL L.length kL)).setCell ⟨w.heap.size + 1 + 1, 3, none⟩ (.int .i64 s)).cell? ⟨w.heap.size + 1 + 1, 2, none⟩ = some (.slice aL L.length kL) := box_cell hKz.z 2
    have ez3 : ((((W5.setCell ⟨w.heap.size + 1 + 1, 0, none⟩ (.slice aB B.length kB)).setCell ⟨w.heap.size + 1 + 1, 1, none⟩ (.int .i64 F)).setCell ⟨w.heap.size + 1 + 1, 2, none⟩ (.slice aL L.length kL)).setCell ⟨w.heap.size + 1 + 1, 3, none⟩ (.int .i64 s)).cell? ⟨w.heap.size + 1 + 1, 3, none⟩ = some (.int .i64 s) := box_cell hKz.z 3
    have HBz := hid hKz.below
    obtain ⟨⟨z0, z1, z2, z3⟩, f0, f1, f2, f3⟩ := HK5.out.cells
    clear hKz
    go_wp2_with fail
    generalize ((((W5.setCell ⟨w.heap.size + 1 + 1, 0, none⟩ (.slice aB B.length kB)).setCell ⟨w.heap.size + 1 + 1, 1, none⟩ (.int .i64 F)).setCell ⟨w.heap.size + 1 + 1, 2, none⟩ (.slice aL L.length kL)).setCell ⟨w.heap.size + 1 + 1, 3, none⟩ (.int .i64 s)) = XX at *
    refine bodyPost_ret (v := .tuple #[.agg #[.slice aB B.length kB, .int .i64 F, .slice aL L.length kL, .int .i64 s], .bool false]) (by simp [results, Try.results31, go_sem, ez0, ez1, ez2, ez3]) rfl ?_
    exact ⟨rfl, HBz.out⟩
end Go.Proofs.Ytlbhfgcpflhccaa
namespace Go.Proofs.Ytlbhfgcpflhccaa
set_option maxRecDepth 100000
open Go Go.ChangeShapes Go.WideShapes Go.ChangeAt Go.RowKit G00541
theorem l6Do_any (lo mid : Nat) (aB aL : Option Addr) (kB kL : Nat) (B : List ByteArray) (F : Int) (L : List Rc) (s : Int) (k p n m : Int) (D : ByteArray) (w : World) (hO : OV lo mid aB kB B aL kL L w) (hg : GoodV B F L s) :
    Calls Try.prog 31 #[.agg #[.slice aB B.length kB, .int .i64 F, .slice aL L.length kL, .int .i64 s], .agg #[.int .i64 k, .int .i64 p, .int .i64 n, .string D, .int .i64 m]] w fun e w' => SdOut (volP aB kB B.length aL kL L.length) (.agg #[.slice aB B.length kB, .int .i64 F, .slice aL L.length kL, .int .i64 s]) (doV B F L s ⟨k, p, n, D, m⟩) w e w' := by
  have hM : 0 ≤ markF F L ∧ markF F L ≤ 200 := by
    have := markF_in F L hg.f0 hg.f1 L.length (Nat.le_refl _) (fun j hj _ => good_at hg.recs j hj)
    rw [markF_all] at this
    exact this
  by_cases h3 : 1 ≤ k ∧ k ≤ 3
  · rw [doV_rec (o := ⟨k, p, n, D, m⟩) h3]
    cases hr : recOk ⟨k, p, n, D, m⟩
    · rw [recDo_no hr]
      exact l6Do_rec_no lo mid aB aL kB kL B F L s k p n m D w hO h3 hr
    · by_cases h40 : L.length = 40
      · have : recDo B F L s ⟨k, p, n, D, m⟩ = none := by unfold recDo; rw [if_neg (fun g => g.2.1 h40)]
        rw [this]
        exact l6Do_rec_full lo mid aB aL kB kL B F L s k p n m D w hO h3 hr h40
      · by_cases hk3 : k = 3
        · subst hk3
          by_cases hp : p = markF F L + 1
          · have : recDo B F L s ⟨3, p, n, D, m⟩ = some (B, F, L ++ [opR ⟨3, p, n, D, m⟩], s) := by unfold recDo; rw [if_pos ⟨hr, h40, fun _ => hp⟩]
            rw [this]
            exact l6Do_mark_yes lo mid aB aL kB kL B F L s p n m D w hO hr hg.len h40 hM hp
          · have : recDo B F L s ⟨3, p, n, D, m⟩ = none := by unfold recDo; rw [if_neg (fun g => hp (g.2.2 rfl))]
            rw [this]
            exact l6Do_mark_no lo mid aB aL kB kL B F L s p n m D w hO hr hg.len h40 hM hp
        · have : recDo B F L s ⟨k, p, n, D, m⟩ = some (B, F, L ++ [opR ⟨k, p, n, D, m⟩], s) := by unfold recDo; rw [if_pos ⟨hr, h40, fun g => absurd g hk3⟩]
          rw [this]
          exact l6Do_rec_yes lo mid aB aL kB kL B F L s k p n m D w hO (by omega) hr hg.len h40
  · by_cases hrest : restOk ⟨k, p, n, D, m⟩
    case neg =>
      rw [doV_rest h3 hrest]
      by_cases hp : p = 0
      case neg => exact l6Do_p lo mid aB aL kB kL B F L s k p n m D w hO h3 hp
      subst hp
      by_cases hn : n = 0
      case neg => exact l6Do_n lo mid aB aL kB kL B F L s k n m D w hO h3 hn
      subst hn
      by_cases hD : D.data.toList = []
      case neg => exact l6Do_d lo mid aB aL kB kL B F L s k m D w hO h3 hD
      obtain rfl := dempty hD
      have h5 : ¬ (k = 5 ∨ m = 0) := fun g => hrest ⟨rfl, rfl, rfl, g⟩
      exact l6Do_m lo mid aB aL kB kL B F L s k m w hO h3 (fun g => h5 (Or.inl g)) (fun g => h5 (Or.inr g))
    obtain ⟨hp, hn, hD, hm⟩ := hrest
    simp only at hp hn hD hm
    subst hp
    subst hn
    obtain rfl := dempty hD
    by_cases k4 : k = 4
    · subst k4
      rcases hm with hm | hm
      · omega
      subst hm
      rw [doV_four rfl ⟨rfl, rfl, rfl, Or.inr rfl⟩]
      exact l6Do_four lo mid aB aL kB kL B F L s w hO
    by_cases k5 : k = 5
    · subst k5
      rw [doV_five rfl ⟨rfl, rfl, rfl, Or.inl rfl⟩]
      by_cases hc : s ≤ m ∧ m ≤ L.length
      · have : crashDo B F L s ⟨5, 0, 0, ⟨#[]⟩, m⟩ = some (B, F, L.take m.toNat, m) := by unfold crashDo; rw [if_pos hc]
        rw [this]
        exact l6Do_five lo mid aB aL kB kL B F L s m w hO hg hc
      · have : crashDo B F L s ⟨5, 0, 0, ⟨#[]⟩, m⟩ = none := by unfold crashDo; rw [if_neg hc]
        rw [this]
        exact l6Do_five_no lo mid aB aL kB kL B F L s m w hO (by omega)
    have hm0 : m = 0 := by rcases hm with hm | hm; exact absurd hm k5; exact hm
    subst hm0
    by_cases k6 : k = 6
    · subst k6
      rw [doV_six rfl ⟨rfl, rfl, rfl, Or.inr rfl⟩]
      exact l6Do_six lo mid aB aL kB kL B F L s w hO hg
    · have hno : ¬ (1 ≤ k ∧ k ≤ 6) := by omega
      rw [doV_other (o := ⟨k, 0, 0, ⟨#[]⟩, 0⟩) hno]
      exact l6Do_other lo mid aB aL kB kL B F L s k w hO hno
end Go.Proofs.Ytlbhfgcpflhccaa
namespace Go.Proofs.Ytlbhfgcpflhccaa
set_option maxRecDepth 100000
open Go.ChangeShapes Go.WideShapes Go.ChangeAt Go.RowKit G00541
/-- what DoVolume makes of any volume -/
def goDo (B : List ByteArray) (F : Int) (L : List Rc) (s : Int) (o : Op) : Option Vol := if goodV B F L s = true then doV B F L s o else none
theorem goDo_no {B : List ByteArray} {F : Int} {L : List Rc} {s : Int} {o : Op} (h : goodV B F L s = false) : goDo B F L s o = none := by unfold goDo; rw [if_neg (by rw [h]; decide)]
theorem goDo_yes {B : List ByteArray} {F : Int} {L : List Rc} {s : Int} {o : Op} (h : goodV B F L s = true) : goDo B F L s o = doV B F L s o := by unfold goDo; rw [if_pos h]
theorem DK.kp {w : World} {P : Nat → Prop} {X O Z : Array Value} {v w' : World} (h : DK w X O Z v) (g : Kp P v w') (hP : ∀ k, P k → w.heap.size + 3 ≤ k) : DK w X O Z w' := h.step (g.below _ hP h.size)
theorem DK.fillQ {w : World} {X O Z : Array Value} {v : World} (h : DK w X O Z v) (Q : Nat) (hQ : w.heap.size + 3 ≤ Q) (a b c d : Value) : DK w X O Z ((((v.setCell ⟨Q, 0, none⟩ a).setCell ⟨Q, 1, none⟩ b).setCell ⟨Q, 2, none⟩ c).setCell ⟨Q, 3, none⟩ d) :=
  h.step (setB (setB (setB (setB (Below.refl _ _) _ _ hQ _) _ _ hQ _) _ _ hQ _) _ _ hQ _)
theorem OV.volP {lo mid : Nat} {aB : Option Addr} {kB : Nat} {B : List ByteArray} {aL : Option Addr} {kL : Nat} {L : List Rc} {w : World} (h : OV lo mid aB kB B aL kL L w) (k : Nat) (g : volP aB kB B.length aL kL L.length k) : lo ≤ k ∧ k < w.heap.size := by
  rcases g with g | g
  · exact h.base.lt k g
  · have := h.log.lt k g; have := h.lm; omega
theorem box4 {w : World} {Q : Nat} {a0 a1 a2 a3 : Value} {t : TypeId} (h : w.heap[Q]? = some (.cells #[a0, a1, a2, a3] t)) : (w.cell? ⟨Q, 0, none⟩ = some a0 ∧ w.cell? ⟨Q, 1, none⟩ = some a1 ∧ w.cell? ⟨Q, 2, none⟩ = some a2 ∧ w.cell? ⟨Q, 3, none⟩ = some a3) ∧ w.frozen? ⟨Q, 0, none⟩ = false ∧ w.frozen? ⟨Q, 1, none⟩ = false ∧ w.frozen? ⟨Q, 2, none⟩ = false ∧ w.frozen? ⟨Q, 3, none⟩ = false := ⟨⟨box_cell h 0, box_cell h 1, box_cell h 2, box_cell h 3⟩, box_free h 0, box_free h 1, box_free h 2, box_free h 3⟩
theorem fill4 {w : World} {Q : Nat} {a0 a1 a2 a3 : Value} {t : TypeId} (h : w.heap[Q]? = some (.cells #[a0, a1, a2, a3] t)) (a b c d : Value) : ((((w.setCell ⟨Q, 0, none⟩ a).setCell ⟨Q, 1, none⟩ b).setCell ⟨Q, 2, none⟩ c).setCell ⟨Q, 3, none⟩ d).heap[Q]? = some (.cells #[a, b, c, d] t) := by
  have := box_set (box_set (box_set (box_set h 0 a) 1 b) 2 c) 3 d
  simpa using this
set_option maxHeartbeats 2500000 in
theorem sdoV_bad (aB aL : Option Addr) (kB kL : Nat) (B : List ByteArray) (F : Int) (L : List Rc) (s : Int) (k p n m : Int) (D : ByteArray) (w : World) (hf : B.length ≤ 1048576 ∧ L.length ≤ 1048576) (hB : Ss w.heap.size aB B w) (hL : Rs w.heap.size aL L w)
    (hg : goodV B F L s = false) : Calls Try.prog 19 #[.agg #[.slice aB B.length kB, .int .i64 F, .slice aL L.length kL, .int .i64 s], .agg #[.int .i64 k, .int .i64 p, .int .i64 n, .string D, .int .i64 m]] w fun e w' => DOut none w e w' := by
  have HK := hid (DK.start w #[.slice aB B.length kB, .int .i64 F, .slice aL L.length kL, .int .i64 s] #[.int .i64 k, .int .i64 p, .int .i64 n, .string D, .int .i64 m] #[.slice none 0 0, .int .i64 0, .slice none 0 0, .int .i64 0])
  have HG : Hid (∀ v, Below w.heap.size w v → Calls Try.prog 20 #[.agg #[.slice aB B.length kB, .int .i64 F, .slice aL L.length kL, .int .i64 s]] v fun e w' => e = .returned (.bool false) ∧ Below v.heap.size v w') := fun v g => by
    have := sgoodV_any aB aL kB kL B F L s v hf ((hB.below g).mono g.size) ((hL.below g).mono g.size)
    rw [hg] at this
    exact this
  clear hB hL hf hg
  generalize hW : (((w.alloc (.cells #[.slice aB B.length kB, .int .i64 F, .slice aL L.length kL, .int .i64 s] 28)).alloc (.cells #[.int .i64 k, .int .i64 p, .int .i64 n, .string D, .int .i64 m] 35)).alloc (.cells #[.slice none 0 0, .int .i64 0, .slice none 0 0, .int .i64 0] 28)) = W at *
  obtain ⟨x0, x1, x2, x3⟩ := HK.out.vol
  go_enter Try.func19, Try.ntmps19
  go_wp2_with fail
  clear hW
  refine (HG.out _ HK.out.below).mono ?_
  rintro e w2 ⟨rfl, b2⟩
  have HK2 := hid (HK.out.on b2)
  clear b2 HK HG x0 x1 x2 x3
  have hKz := HK2.out.fill (.slice none 0 0) (.int .i64 0) (.slice none 0 0) (.int .i64 0)
  have ez0 : ((((w2.setCell ⟨w.heap.size + 1 + 1, 0, none⟩ (.slice none 0 0)).setCell ⟨w.heap.size + 1 + 1, 1, none⟩ (.int .i64 0)).setCell ⟨w.heap.size + 1 + 1, 2, none⟩ (.slice none 0 0)).setCell ⟨w.heap.size + 1 + 1, 3, none⟩ (.int .i64 0)).cell? ⟨w.heap.size + 1 + 1, 0, none⟩ = some (.slice none 0 0) := box_cell hKz.z 0
  have ez1 : ((((w2.setCell ⟨w.heap.size + 1 + 1, 0, none⟩ (.slice none 0 0)).setCell ⟨w.heap.size + 1 + 1, 1, none⟩ (.int .i64 0)).setCell ⟨w.heap.size + 1 + 1, 2, none⟩ (.slice none 0 0)).setCell ⟨w.heap.size + 1 + 1, 3, none⟩ (.int .i64 0)).cell? ⟨w.heap.size + 1 + 1, 1, none⟩ = some (.int .i64 0) := box_cell hKz.z 1
  have ez2 : ((((w2.setCell ⟨w.heap.size + 1 + 1, 0, none⟩ (.slice none 0 0)).setCell ⟨w.heap.size + 1 + 1, 1, none⟩ (.int .i64 0)).setCell ⟨w.heap.size + 1 + 1, 2, none⟩ (.slice none 0 0)).setCell ⟨w.heap.size + 1 + 1, 3, none⟩ (.int .i64 0)).cell? ⟨w.heap.size + 1 + 1, 2, none⟩ = some (.slice none 0 0) := box_cell hKz.z 2
  have ez3 : ((((w2.setCell ⟨w.heap.size + 1 + 1, 0, none⟩ (.slice none 0 0)).setCell ⟨w.heap.size + 1 + 1, 1, none⟩ (.int .i64 0)).setCell ⟨w.heap.size + 1 + 1, 2, none⟩ (.slice none 0 0)).setCell ⟨w.heap.size + 1 + 1, 3, none⟩ (.int .i64 0)).cell? ⟨w.heap.size + 1 + 1, 3, none⟩ = some (.int .i64 0) := box_cell hKz.z 3
  have HBz := hid hKz.below
  obtain ⟨⟨z0, z1, z2, z3⟩, f0, f1, f2, f3⟩ := HK2.out.cells
  clear hKz
  go_wp2_with fail
  generalize ((((w2.setCell ⟨w.heap.size + 1 + 1, 0, none⟩ (.slice none 0 0)).setCell ⟨w.heap.size + 1 + 1, 1, none⟩ (.int .i64 0)).setCell ⟨w.heap.size + 1 + 1, 2, none⟩ (.slice none 0 0)).setCell ⟨w.heap.size + 1 + 1, 3, none⟩ (.int .i64 0)) = XX at *
  refine bodyPost_ret (v := .tuple #[.agg #[.slice none 0 0, .int .i64 0, .slice none 0 0, .int .i64 0], .bool false]) (by simp [results, Try.results19, go_sem, ez0, ez1, ez2, ez3]) rfl ?_
  exact ⟨rfl, HBz.out⟩
set_option maxHeartbeats 2500000 in
theorem sdoV_none (aB aL : Option Addr) (kB kL : Nat) (B : List ByteArray) (F : Int) (L : List Rc) (s : Int) (k p n m : Int) (D : ByteArray) (w : World) (hf : B.length ≤ 1048576 ∧ L.length ≤ 1048576) (hB : Ss w.heap.size aB B w) (hL : Rs w.heap.size aL L w)
    (hg : goodV B F L s = true) (hd : doV B F L s ⟨k, p, n, D, m⟩ = none) : Calls Try.prog 19 #[.agg #[.slice aB B.length kB, .int .i64 F, .slice aL L.length kL, .int .i64 s], .agg #[.int .i64 k, .int .i64 p, .int .i64 n, .string D, .int .i64 m]] w fun e w' => DOut none w e w' := by
  have HK := hid (DK.start w #[.slice aB B.length kB, .int .i64 F, .slice aL L.length kL, .int .i64 s] #[.int .i64 k, .int .i64 p, .int .i64 n, .string D, .int .i64 m] #[.slice none 0 0, .int .i64 0, .slice none 0 0, .int .i64 0])
  have HG : Hid (∀ v, Below w.heap.size w v → Calls Try.prog 20 #[.agg #[.slice aB B.length kB, .int .i64 F, .slice aL L.length kL, .int .i64 s]] v fun e w' => e = .returned (.bool true) ∧ Below v.heap.size v w') := fun v g => by
    have := sgoodV_any aB aL kB kL B F L s v hf ((hB.below g).mono g.size) ((hL.below g).mono g.size)
    rw [hg] at this
    exact this
  have HOWN : Hid (∀ v, Below w.heap.size w v → Calls Try.prog 32 #[.agg #[.slice aB B.length kB, .int .i64 F, .slice aL L.length kL, .int .i64 s]] v fun e w' => CpOut B F L s v e w') := fun v g => l6Own_any aB aL kB kL B F L s v (by have := goodBs_len (goodV_iff.1 hg).bs; omega) (by have := (goodV_iff.1 hg).len; omega) ((hB.below g).mono g.size) ((hL.below g).mono g.size)
  have HDO : Hid (∀ v (lo mid : Nat) (a1 : Option Addr) (c1 : Nat) (a2 : Option Addr) (c2 : Nat), OV lo mid a1 c1 B a2 c2 L v → Calls Try.prog 31 #[.agg #[.slice a1 B.length c1, .int .i64 F, .slice a2 L.length c2, .int .i64 s], .agg #[.int .i64 k, .int .i64 p, .int .i64 n, .string D, .int .i64 m]] v fun e w' => SdOut (volP a1 c1 B.length a2 c2 L.length) (.agg #[.slice a1 B.length c1, .int .i64 F, .slice a2 L.length c2, .int .i64 s]) none v e w') := fun v lo mid a1 c1 a2 c2 h => by
    have := l6Do_any lo mid a1 a2 c1 c2 B F L s k p n m D v h (goodV_iff.1 hg)
    rw [hd] at this
    exact this
  clear hB hL hf hg hd
  generalize hW : (((w.alloc (.cells #[.slice aB B.length kB, .int .i64 F, .slice aL L.length kL, .int .i64 s] 28)).alloc (.cells #[.int .i64 k, .int .i64 p, .int .i64 n, .string D, .int .i64 m] 35)).alloc (.cells #[.slice none 0 0, .int .i64 0, .slice none 0 0, .int .i64 0] 28)) = W at *
  obtain ⟨x0, x1, x2, x3⟩ := HK.out.vol
  go_enter Try.func19, Try.ntmps19
  go_wp2_with fail
  clear hW
  refine (HG.out _ HK.out.below).mono ?_
  rintro e w2 ⟨rfl, b2⟩
  have HK2 := hid (HK.out.on b2)
  clear b2 HK HG x0 x1 x2 x3
  go_upto_region 3 with fail
  go_cut [6, 7] (fun s6 s7 wc => s7 = .bool false ∧ DK w #[.slice aB B.length kB, .int .i64 F, .slice aL L.length kL, .int .i64 s] #[.int .i64 k, .int .i64 p, .int .i64 n, .string D, .int .i64 m] #[.slice none 0 0, .int .i64 0, .slice none 0 0, .int .i64 0] wc)
  case first =>
    have HS : Hid (∀ v, DK w #[.slice aB B.length kB, .int .i64 F, .slice aL L.length kL, .int .i64 s] #[.int .i64 k, .int .i64 p, .int .i64 n, .string D, .int .i64 m] #[.slice none 0 0, .int .i64 0, .slice none 0 0, .int .i64 0] v → (v.cell? ⟨w.heap.size, 0, none⟩ = some (.slice aB B.length kB) ∧ v.cell? ⟨w.heap.size, 1, none⟩ = some (.int .i64 F) ∧ v.cell? ⟨w.heap.size, 2, none⟩ = some (.slice aL L.length kL) ∧ v.cell? ⟨w.heap.size, 3, none⟩ = some (.int .i64 s)) ∧ v.cell? ⟨w.heap.size + 1, 0, none⟩ = some (.int .i64 k) ∧ v.cell? ⟨w.heap.size + 1, 1, none⟩ = some (.int .i64 p) ∧ v.cell? ⟨w.heap.size + 1, 2, none⟩ = some (.int .i64 n) ∧ v.cell? ⟨w.heap.size + 1, 3, none⟩ = some (.string D) ∧ v.cell? ⟨w.heap.size + 1, 4, none⟩ = some (.int .i64 m)) := fun v h => ⟨h.vol, h.op⟩
    have A0 : DK w #[.slice aB B.length kB, .int .i64 F, .slice aL L.length kL, .int .i64 s] #[.int .i64 k, .int .i64 p, .int .i64 n, .string D, .int .i64 m] #[.slice none 0 0, .int .i64 0, .slice none 0 0, .int .i64 0] w2.drew := HK2.out.on (Below.refl _ _).drew
    have A0a : DK w #[.slice aB B.length kB, .int .i64 F, .slice aL L.length kL, .int .i64 s] #[.int .i64 k, .int .i64 p, .int .i64 n, .string D, .int .i64 m] #[.slice none 0 0, .int .i64 0, .slice none 0 0, .int .i64 0] (w2.alloc (.cells #[.slice none 0 0, .int .i64 0, .slice none 0 0, .int .i64 0] 28)).drew := (HK2.out.on (boxB _ _)).on (Below.refl _ _).drew
    obtain ⟨⟨x0, x1, x2, x3⟩, o0, o1, o2, o3, o4⟩ := HS.out _ A0
    obtain ⟨⟨xa0, xa1, xa2, xa3⟩, oa0, oa1, oa2, oa3, oa4⟩ := HS.out _ A0a
    have hsz2 := HK2.out.size
    go_region_held (fun v => (v.cell? ⟨w.heap.size, 0, none⟩ = some (.slice aB B.length kB) ∧ v.cell? ⟨w.heap.size, 1, none⟩ = some (.int .i64 F) ∧ v.cell? ⟨w.heap.size, 2, none⟩ = some (.slice aL L.length kL) ∧ v.cell? ⟨w.heap.size, 3, none⟩ = some (.int .i64 s)) ∧ v.cell? ⟨w.heap.size + 1, 0, none⟩ = some (.int .i64 k) ∧ v.cell? ⟨w.heap.size + 1, 1, none⟩ = some (.int .i64 p) ∧ v.cell? ⟨w.heap.size + 1, 2, none⟩ = some (.int .i64 n) ∧ v.cell? ⟨w.heap.size + 1, 3, none⟩ = some (.string D) ∧ v.cell? ⟨w.heap.size + 1, 4, none⟩ = some (.int .i64 m)) (first | exact HS.out _ (by with_reducible assumption)) (first | (go_at_call 32; refine (HOWN.out _ (by first | exact A0.below | exact A0a.below)).mono ?_; rintro e w3 ⟨mid, a1, c1, a2, c2, rfl, hov, b3⟩; have hs3 := b3.size; have hvp := hov.volP; have hlv : ∀ k, volP a1 c1 B.length a2 c2 L.length k → w.heap.size + 3 ≤ k := fun k hk => Nat.le_trans (by first | exact A0.size | exact A0a.size) (hvp k hk).1; have A3 : DK w #[.slice aB B.length kB, .int .i64 F, .slice aL L.length kL, .int .i64 s] #[.int .i64 k, .int .i64 p, .int .i64 n, .string D, .int .i64 m] #[.slice none 0 0, .int .i64 0, .slice none 0 0, .int .i64 0] w3 := (by first | exact A0.on b3 | exact A0a.on b3); (try (have q3 : w3.heap[w2.heap.size]? = some (.cells #[.slice none 0 0, .int .i64 0, .slice none 0 0, .int .i64 0] 28) := (b3.block _ (show w2.heap.size < (w2.alloc (.cells #[.slice none 0 0, .int .i64 0, .slice none 0 0, .int .i64 0] 28)).heap.size by simp)).trans (heap_last w2 _))); have A3a : DK w #[.slice aB B.length kB, .int .i64 F, .slice aL L.length kL, .int .i64 s] #[.int .i64 k, .int .i64 p, .int .i64 n, .string D, .int .i64 m] #[.slice none 0 0, .int .i64 0, .slice none 0 0, .int .i64 0] (w3.alloc (.cells #[.slice none 0 0, .int .i64 0, .slice none 0 0, .int .i64 0] 28)) := A3.on (boxB _ _)) | (go_at_call 31; refine (HDO.out _ _ _ _ _ _ _ (by first | exact hov | exact hov.below (boxB _ _))).mono ?_; rintro e w4 ⟨rfl, k4⟩; have hs4 := k4.size; have A4 : DK w #[.slice aB B.length kB, .int .i64 F, .slice aL L.length kL, .int .i64 s] #[.int .i64 k, .int .i64 p, .int .i64 n, .string D, .int .i64 m] #[.slice none 0 0, .int .i64 0, .slice none 0 0, .int .i64 0] w4 := (by first | exact A3.kp k4 hlv | exact A3a.kp k4 hlv); have A4a : DK w #[.slice aB B.length kB, .int .i64 F, .slice aL L.length kL, .int .i64 s] #[.int .i64 k, .int .i64 p, .int .i64 n, .string D, .int .i64 m] #[.slice none 0 0, .int .i64 0, .slice none 0 0, .int .i64 0] (w4.alloc (.cells #[.slice none 0 0, .int .i64 0, .slice none 0 0, .int .i64 0] 28)) := A4.on (boxB _ _); have A4b : DK w #[.slice aB B.length kB, .int .i64 F, .slice aL L.length kL, .int .i64 s] #[.int .i64 k, .int .i64 p, .int .i64 n, .string D, .int .i64 m] #[.slice none 0 0, .int .i64 0, .slice none 0 0, .int .i64 0] (w4.alloc (.cells #[.slice a1 B.length c1, .int .i64 F, .slice a2 L.length c2, .int .i64 s] 28)) := A4.on (boxB _ _); have A4c := A4.fillQ w2.heap.size hsz2 (.slice a1 B.length c1) (.int .i64 F) (.slice a2 L.length c2) (.int .i64 s); have A4d := A4.fillQ w3.heap.size (by have := A3.size; omega) (.slice a1 B.length c1) (.int .i64 F) (.slice a2 L.length c2) (.int .i64 s); (try (have q4 : w4.heap[w3.heap.size]? = some (.cells #[.slice none 0 0, .int .i64 0, .slice none 0 0, .int .i64 0] 28) := (k4.block _ (by simp) (fun g => by have := (hvp _ g).2; omega)).trans (heap_last w3 _); obtain ⟨⟨r0, r1, r2, r3⟩, g0, g1, g2, g3⟩ := box4 q4)); (try (have q5 : w4.heap[w2.heap.size]? = some (.cells #[.slice none 0 0, .int .i64 0, .slice none 0 0, .int .i64 0] 28) := (k4.block _ (by have h2 : (w2.alloc (.cells #[.slice none 0 0, .int .i64 0, .slice none 0 0, .int .i64 0] 28)).drew.heap.size = w2.heap.size + 1 := heap_size w2 _; omega) (fun g => by have h1 := (hvp _ g).1; have h2 : (w2.alloc (.cells #[.slice none 0 0, .int .i64 0, .slice none 0 0, .int .i64 0] 28)).drew.heap.size = w2.heap.size + 1 := heap_size w2 _; omega)).trans q3; obtain ⟨⟨t0, t1, t2, t3⟩, u0, u1, u2, u3⟩ := box4 q5))))
    all_goals
      go_wp2_with fail
      go_meet
      case rel =>
        first
          | exact ⟨rfl, A4b⟩
          | exact ⟨rfl, A4d⟩
          | exact ⟨rfl, A4c⟩
  case rest =>
    obtain ⟨rfl, hK3⟩ := hcut
    have HK3 := hid hK3
    clear hK3
    have hKz := HK3.out.fill (.slice none 0 0) (.int .i64 0) (.slice none 0 0) (.int .i64 0)
    have ez0 : ((((wc.setCell ⟨w.heap.size + 1 + 1, 0, none⟩ (.slice none 0 0)).setCell ⟨w.heap.size + 1 + 1, 1, none⟩ (.int .i64 0)).setCell ⟨w.heap.size + 1 + 1, 2, none⟩ (.slice none 0 0)).setCell ⟨w.heap.size + 1 + 1, 3, none⟩ (.int .i64 0)).cell? ⟨w.heap.size + 1 + 1, 0, none⟩ = some (.slice none 0 0) := box_cell hKz.z 0
    have ez1 : ((((wc.setCell ⟨w.heap.size + 1 + 1, 0, none⟩ (.slice none 0 0)).setCell ⟨w.heap.size + 1 + 1, 1, none⟩ (.int .i64 0)).setCell ⟨w.heap.size + 1 + 1, 2, none⟩ (.slice none 0 0)).setCell ⟨w.heap.size + 1 + 1, 3, none⟩ (.int .i64 0)).cell? ⟨w.heap.size + 1 + 1, 1, none⟩ = some (.int .i64 0) := box_cell hKz.z 1
    have ez2 : ((((wc.setCell ⟨w.heap.size + 1 + 1, 0, none⟩ (.slice none 0 0)).setCell ⟨w.heap.size + 1 + 1, 1, none⟩ (.int .i64 0)).setCell ⟨w.heap.size + 1 + 1, 2, none⟩ (.slice none 0 0)).setCell ⟨w.heap.size + 1 + 1, 3, none⟩ (.int .i64 0)).cell? ⟨w.heap.size + 1 + 1, 2, none⟩ = some (.slice none 0 0) := box_cell hKz.z 2
    have ez3 : ((((wc.setCell ⟨w.heap.size + 1 + 1, 0, none⟩ (.slice none 0 0)).setCell ⟨w.heap.size + 1 + 1, 1, none⟩ (.int .i64 0)).setCell ⟨w.heap.size + 1 + 1, 2, none⟩ (.slice none 0 0)).setCell ⟨w.heap.size + 1 + 1, 3, none⟩ (.int .i64 0)).cell? ⟨w.heap.size + 1 + 1, 3, none⟩ = some (.int .i64 0) := box_cell hKz.z 3
    have HBz := hid hKz.below
    obtain ⟨⟨z0, z1, z2, z3⟩, f0, f1, f2, f3⟩ := HK3.out.cells
    clear hKz
    go_wp2_with fail
    generalize ((((wc.setCell ⟨w.heap.size + 1 + 1, 0, none⟩ (.slice none 0 0)).setCell ⟨w.heap.size + 1 + 1, 1, none⟩ (.int .i64 0)).setCell ⟨w.heap.size + 1 + 1, 2, none⟩ (.slice none 0 0)).setCell ⟨w.heap.size + 1 + 1, 3, none⟩ (.int .i64 0)) = XX at *
    refine bodyPost_ret (v := .tuple #[.agg #[.slice none 0 0, .int .i64 0, .slice none 0 0, .int .i64 0], .bool false]) (by simp [results, Try.results19, go_sem, ez0, ez1, ez2, ez3]) rfl ?_
    exact ⟨rfl, HBz.out⟩
theorem ss_fill {w : World} {b : Option Addr} {l : List ByteArray} {Q : Nat} (h : Ss w.heap.size b l w) (hq : w.heap[Q]? = some (.cells #[.slice none 0 0, .int .i64 0, .slice none 0 0, .int .i64 0] 28)) (a c d f : Value) : Ss ((((w.setCell ⟨Q, 0, none⟩ a).setCell ⟨Q, 1, none⟩ c).setCell ⟨Q, 2, none⟩ d).setCell ⟨Q, 3, none⟩ f).heap.size b l ((((w.setCell ⟨Q, 0, none⟩ a).setCell ⟨Q, 1, none⟩ c).setCell ⟨Q, 2, none⟩ d).setCell ⟨Q, 3, none⟩ f) := by
  have hz : ((((w.setCell ⟨Q, 0, none⟩ a).setCell ⟨Q, 1, none⟩ c).setCell ⟨Q, 2, none⟩ d).setCell ⟨Q, 3, none⟩ f).heap.size = w.heap.size := by simp [World.setCell]
  refine ⟨fun h0 => ?_⟩
  obtain ⟨R, off, e, hR, hc⟩ := GSl.cell h h0
  have hne : R ≠ Q := fun e2 => by
    subst e2
    have h1 := hc 0 h0 0 (by decide)
    rw [List.getElem_map, box_cell hq] at h1
    have h2 : (#[.slice none 0 0, .int .i64 0, .slice none 0 0, .int .i64 0] : Array Value)[off]? = some (.string (l[0]'(by simpa using h0))) := by simpa [scell] using h1
    rcases (show off = 0 ∨ off = 1 ∨ off = 2 ∨ off = 3 ∨ 4 ≤ off by omega) with r | r | r | r | r
    · subst r; cases h2
    · subst r; cases h2
    · subst r; cases h2
    · subst r; cases h2
    · rw [Array.getElem?_eq_none (by simpa using r)] at h2; cases h2
  refine ⟨R, off, e, by rw [hz]; exact hR, fun i hi j hj => ?_⟩
  have hb : ((((w.setCell ⟨Q, 0, none⟩ a).setCell ⟨Q, 1, none⟩ c).setCell ⟨Q, 2, none⟩ d).setCell ⟨Q, 3, none⟩ f).heap[R]? = w.heap[R]? := by rw [keepB _ _ _ _ _ hne, keepB _ _ _ _ _ hne, keepB _ _ _ _ _ hne, keepB _ _ _ _ _ hne]
  have : ∀ o, ((((w.setCell ⟨Q, 0, none⟩ a).setCell ⟨Q, 1, none⟩ c).setCell ⟨Q, 2, none⟩ d).setCell ⟨Q, 3, none⟩ f).cell? ⟨R, o, none⟩ = w.cell? ⟨R, o, none⟩ := fun o => by unfold World.cell?; simp only [hb]
  rw [this]
  exact hc i hi j hj
theorem rs_fill {w : World} {b : Option Addr} {l : List Rc} {Q : Nat} (h : Rs w.heap.size b l w) (hq : w.heap[Q]? = some (.cells #[.slice none 0 0, .int .i64 0, .slice none 0 0, .int .i64 0] 28)) (a c d f : Value) : Rs ((((w.setCell ⟨Q, 0, none⟩ a).setCell ⟨Q, 1, none⟩ c).setCell ⟨Q, 2, none⟩ d).setCell ⟨Q, 3, none⟩ f).heap.size b l ((((w.setCell ⟨Q, 0, none⟩ a).setCell ⟨Q, 1, none⟩ c).setCell ⟨Q, 2, none⟩ d).setCell ⟨Q, 3, none⟩ f) := by
  have hz : ((((w.setCell ⟨Q, 0, none⟩ a).setCell ⟨Q, 1, none⟩ c).setCell ⟨Q, 2, none⟩ d).setCell ⟨Q, 3, none⟩ f).heap.size = w.heap.size := by simp [World.setCell]
  refine ⟨fun h0 => ?_⟩
  obtain ⟨R, off, e, hR, hc⟩ := GSl.cell h h0
  have hne : R ≠ Q := fun e2 => by
    subst e2
    have h1 := hc 0 h0 3 (by decide)
    rw [List.getElem_map, box_cell hq] at h1
    have h2 : (#[.slice none 0 0, .int .i64 0, .slice none 0 0, .int .i64 0] : Array Value)[off + 3]? = some (.string (str (l[0]'(by simpa using h0)).data)) := by simpa [rcells] using h1
    rcases (show off = 0 ∨ 1 ≤ off by omega) with r | r
    · subst r; cases h2
    · rw [Array.getElem?_eq_none (by simp; omega)] at h2; cases h2
  refine ⟨R, off, e, by rw [hz]; exact hR, fun i hi j hj => ?_⟩
  have hb : ((((w.setCell ⟨Q, 0, none⟩ a).setCell ⟨Q, 1, none⟩ c).setCell ⟨Q, 2, none⟩ d).setCell ⟨Q, 3, none⟩ f).heap[R]? = w.heap[R]? := by rw [keepB _ _ _ _ _ hne, keepB _ _ _ _ _ hne, keepB _ _ _ _ _ hne, keepB _ _ _ _ _ hne]
  have : ∀ o, ((((w.setCell ⟨Q, 0, none⟩ a).setCell ⟨Q, 1, none⟩ c).setCell ⟨Q, 2, none⟩ d).setCell ⟨Q, 3, none⟩ f).cell? ⟨R, o, none⟩ = w.cell? ⟨R, o, none⟩ := fun o => by unfold World.cell?; simp only [hb]
  rw [this]
  exact hc i hi j hj
set_option maxHeartbeats 2500000 in
theorem sdoV_some (aB aL : Option Addr) (kB kL : Nat) (B : List ByteArray) (F : Int) (L : List Rc) (s : Int) (k p n m : Int) (D : ByteArray) (B9 : List ByteArray) (v1 : Int) (L9 : List Rc) (v3 : Int) (w : World) (hf : B.length ≤ 1048576 ∧ L.length ≤ 1048576) (hB : Ss w.heap.size aB B w) (hL : Rs w.heap.size aL L w)
    (hg : goodV B F L s = true) (hd : doV B F L s ⟨k, p, n, D, m⟩ = some (B9, v1, L9, v3)) (h9 : B9.length ≤ 9999 ∧ L9.length ≤ 9999) : Calls Try.prog 19 #[.agg #[.slice aB B.length kB, .int .i64 F, .slice aL L.length kL, .int .i64 s], .agg #[.int .i64 k, .int .i64 p, .int .i64 n, .string D, .int .i64 m]] w fun e w' => DOut (some (B9, v1, L9, v3)) w e w' := by
  have HK := hid (DK.start w #[.slice aB B.length kB, .int .i64 F, .slice aL L.length kL, .int .i64 s] #[.int .i64 k, .int .i64 p, .int .i64 n, .string D, .int .i64 m] #[.slice none 0 0, .int .i64 0, .slice none 0 0, .int .i64 0])
  have HG : Hid (∀ v, Below w.heap.size w v → Calls Try.prog 20 #[.agg #[.slice aB B.length kB, .int .i64 F, .slice aL L.length kL, .int .i64 s]] v fun e w' => e = .returned (.bool true) ∧ Below v.heap.size v w') := fun v g => by
    have := sgoodV_any aB aL kB kL B F L s v hf ((hB.below g).mono g.size) ((hL.below g).mono g.size)
    rw [hg] at this
    exact this
  have HOWN : Hid (∀ v, Below w.heap.size w v → Calls Try.prog 32 #[.agg #[.slice aB B.length kB, .int .i64 F, .slice aL L.length kL, .int .i64 s]] v fun e w' => CpOut B F L s v e w') := fun v g => l6Own_any aB aL kB kL B F L s v (by have := goodBs_len (goodV_iff.1 hg).bs; omega) (by have := (goodV_iff.1 hg).len; omega) ((hB.below g).mono g.size) ((hL.below g).mono g.size)
  have HDO : Hid (∀ v (lo mid : Nat) (a1 : Option Addr) (c1 : Nat) (a2 : Option Addr) (c2 : Nat), OV lo mid a1 c1 B a2 c2 L v → Calls Try.prog 31 #[.agg #[.slice a1 B.length c1, .int .i64 F, .slice a2 L.length c2, .int .i64 s], .agg #[.int .i64 k, .int .i64 p, .int .i64 n, .string D, .int .i64 m]] v fun e w' => SdOut (volP a1 c1 B.length a2 c2 L.length) (.agg #[.slice a1 B.length c1, .int .i64 F, .slice a2 L.length c2, .int .i64 s]) (some (B9, v1, L9, v3)) v e w') := fun v lo mid a1 c1 a2 c2 h => by
    have := l6Do_any lo mid a1 a2 c1 c2 B F L s k p n m D v h (goodV_iff.1 hg)
    rw [hd] at this
    exact this
  have HO2 : Hid (∀ v (b1 : Option Addr) (j1 : Nat) (b2 : Option Addr) (j2 : Nat), Ss v.heap.size b1 B9 v → Rs v.heap.size b2 L9 v → Calls Try.prog 32 #[.agg #[.slice b1 B9.length j1, .int .i64 v1, .slice b2 L9.length j2, .int .i64 v3]] v fun e w' => CpOut B9 v1 L9 v3 v e w') := fun v b1 j1 b2 j2 h1 h2 => l6Own_any b1 b2 j1 j2 B9 v1 L9 v3 v h9.1 h9.2 h1 h2
  clear hB hL hf hg hd h9
  unfold SdOut at HDO
  unfold CpOut at HO2
  simp only at HDO
  have HDT : Hid (∀ e w', (∃ aB kB aL kL, e = .returned (.tuple #[.agg #[.slice aB B9.length kB, .int .i64 v1, .slice aL L9.length kL, .int .i64 v3], .bool true]) ∧ OwnV w.heap.size w'.heap.size aB B9 aL L9 w' ∧ Below w.heap.size w w') → DOut (some (B9, v1, L9, v3)) w e w') := fun e w' h => h
  generalize hn1 : B9.length = n1 at *
  generalize hn2 : L9.length = n2 at *
  have HN1 := hid hn1
  have HN2 := hid hn2
  clear hn1 hn2
  generalize hW : (((w.alloc (.cells #[.slice aB B.length kB, .int .i64 F, .slice aL L.length kL, .int .i64 s] 28)).alloc (.cells #[.int .i64 k, .int .i64 p, .int .i64 n, .string D, .int .i64 m] 35)).alloc (.cells #[.slice none 0 0, .int .i64 0, .slice none 0 0, .int .i64 0] 28)) = W at *
  obtain ⟨x0, x1, x2, x3⟩ := HK.out.vol
  go_enter Try.func19, Try.ntmps19
  go_wp2_with fail
  clear hW
  refine (HG.out _ HK.out.below).mono ?_
  rintro e w2 ⟨rfl, b2⟩
  have HK2 := hid (HK.out.on b2)
  clear b2 HK HG x0 x1 x2 x3
  go_upto_region 3 with fail
  go_cut [6, 7] (fun s6 s7 wc => ∃ (Q : Nat) (b1 : Option Addr) (j1 : Nat) (b2 : Option Addr) (j2 : Nat), s6 = .pointer (some ⟨Q, 0, none⟩) ∧ s7 = .bool true ∧ wc.heap[Q]? = some (.cells #[.slice b1 n1 j1, .int .i64 v1, .slice b2 n2 j2, .int .i64 v3] 28) ∧ DK w #[.slice aB B.length kB, .int .i64 F, .slice aL L.length kL, .int .i64 s] #[.int .i64 k, .int .i64 p, .int .i64 n, .string D, .int .i64 m] #[.slice none 0 0, .int .i64 0, .slice none 0 0, .int .i64 0] wc ∧ Ss wc.heap.size b1 B9 wc ∧ Rs wc.heap.size b2 L9 wc)
  case first =>
    have HS : Hid (∀ v, DK w #[.slice aB B.length kB, .int .i64 F, .slice aL L.length kL, .int .i64 s] #[.int .i64 k, .int .i64 p, .int .i64 n, .string D, .int .i64 m] #[.slice none 0 0, .int .i64 0, .slice none 0 0, .int .i64 0] v → (v.cell? ⟨w.heap.size, 0, none⟩ = some (.slice aB B.length kB) ∧ v.cell? ⟨w.heap.size, 1, none⟩ = some (.int .i64 F) ∧ v.cell? ⟨w.heap.size, 2, none⟩ = some (.slice aL L.length kL) ∧ v.cell? ⟨w.heap.size, 3, none⟩ = some (.int .i64 s)) ∧ v.cell? ⟨w.heap.size + 1, 0, none⟩ = some (.int .i64 k) ∧ v.cell? ⟨w.heap.size + 1, 1, none⟩ = some (.int .i64 p) ∧ v.cell? ⟨w.heap.size + 1, 2, none⟩ = some (.int .i64 n) ∧ v.cell? ⟨w.heap.size + 1, 3, none⟩ = some (.string D) ∧ v.cell? ⟨w.heap.size + 1, 4, none⟩ = some (.int .i64 m)) := fun v h => ⟨h.vol, h.op⟩
    have A0 : DK w #[.slice aB B.length kB, .int .i64 F, .slice aL L.length kL, .int .i64 s] #[.int .i64 k, .int .i64 p, .int .i64 n, .string D, .int .i64 m] #[.slice none 0 0, .int .i64 0, .slice none 0 0, .int .i64 0] w2.drew := HK2.out.on (Below.refl _ _).drew
    have A0a : DK w #[.slice aB B.length kB, .int .i64 F, .slice aL L.length kL, .int .i64 s] #[.int .i64 k, .int .i64 p, .int .i64 n, .string D, .int .i64 m] #[.slice none 0 0, .int .i64 0, .slice none 0 0, .int .i64 0] (w2.alloc (.cells #[.slice none 0 0, .int .i64 0, .slice none 0 0, .int .i64 0] 28)).drew := (HK2.out.on (boxB _ _)).on (Below.refl _ _).drew
    obtain ⟨⟨x0, x1, x2, x3⟩, o0, o1, o2, o3, o4⟩ := HS.out _ A0
    obtain ⟨⟨xa0, xa1, xa2, xa3⟩, oa0, oa1, oa2, oa3, oa4⟩ := HS.out _ A0a
    have hsz2 := HK2.out.size
    go_region_held (fun v => (v.cell? ⟨w.heap.size, 0, none⟩ = some (.slice aB B.length kB) ∧ v.cell? ⟨w.heap.size, 1, none⟩ = some (.int .i64 F) ∧ v.cell? ⟨w.heap.size, 2, none⟩ = some (.slice aL L.length kL) ∧ v.cell? ⟨w.heap.size, 3, none⟩ = some (.int .i64 s)) ∧ v.cell? ⟨w.heap.size + 1, 0, none⟩ = some (.int .i64 k) ∧ v.cell? ⟨w.heap.size + 1, 1, none⟩ = some (.int .i64 p) ∧ v.cell? ⟨w.heap.size + 1, 2, none⟩ = some (.int .i64 n) ∧ v.cell? ⟨w.heap.size + 1, 3, none⟩ = some (.string D) ∧ v.cell? ⟨w.heap.size + 1, 4, none⟩ = some (.int .i64 m)) (first | exact HS.out _ (by with_reducible assumption)) (first | (go_at_call 32; refine (HOWN.out _ (by first | exact A0.below | exact A0a.below)).mono ?_; rintro e w3 ⟨mid, a1, c1, a2, c2, rfl, hov, b3⟩; have hs3 := b3.size; have hvp := hov.volP; have hlv : ∀ k, volP a1 c1 B.length a2 c2 L.length k → w.heap.size + 3 ≤ k := fun k hk => Nat.le_trans (by first | exact A0.size | exact A0a.size) (hvp k hk).1; have A3 : DK w #[.slice aB B.length kB, .int .i64 F, .slice aL L.length kL, .int .i64 s] #[.int .i64 k, .int .i64 p, .int .i64 n, .string D, .int .i64 m] #[.slice none 0 0, .int .i64 0, .slice none 0 0, .int .i64 0] w3 := (by first | exact A0.on b3 | exact A0a.on b3); (try (have q3 : w3.heap[w2.heap.size]? = some (.cells #[.slice none 0 0, .int .i64 0, .slice none 0 0, .int .i64 0] 28) := (b3.block _ (show w2.heap.size < (w2.alloc (.cells #[.slice none 0 0, .int .i64 0, .slice none 0 0, .int .i64 0] 28)).heap.size by simp)).trans (heap_last w2 _))); have A3a : DK w #[.slice aB B.length kB, .int .i64 F, .slice aL L.length kL, .int .i64 s] #[.int .i64 k, .int .i64 p, .int .i64 n, .string D, .int .i64 m] #[.slice none 0 0, .int .i64 0, .slice none 0 0, .int .i64 0] (w3.alloc (.cells #[.slice none 0 0, .int .i64 0, .slice none 0 0, .int .i64 0] 28)) := A3.on (boxB _ _)) | (go_at_call 31; refine (HDO.out _ _ _ _ _ _ _ (by first | exact hov | exact hov.below (boxB _ _))).mono ?_; rintro e w4 ⟨b1, j1, b2, j2, rfl, hS4, hR4, k4⟩; have hs4 := k4.size; have A4 : DK w #[.slice aB B.length kB, .int .i64 F, .slice aL L.length kL, .int .i64 s] #[.int .i64 k, .int .i64 p, .int .i64 n, .string D, .int .i64 m] #[.slice none 0 0, .int .i64 0, .slice none 0 0, .int .i64 0] w4 := (by first | exact A3.kp k4 hlv | exact A3a.kp k4 hlv); have A4a : DK w #[.slice aB B.length kB, .int .i64 F, .slice aL L.length kL, .int .i64 s] #[.int .i64 k, .int .i64 p, .int .i64 n, .string D, .int .i64 m] #[.slice none 0 0, .int .i64 0, .slice none 0 0, .int .i64 0] (w4.alloc (.cells #[.slice none 0 0, .int .i64 0, .slice none 0 0, .int .i64 0] 28)) := A4.on (boxB _ _); have A4b : DK w #[.slice aB B.length kB, .int .i64 F, .slice aL L.length kL, .int .i64 s] #[.int .i64 k, .int .i64 p, .int .i64 n, .string D, .int .i64 m] #[.slice none 0 0, .int .i64 0, .slice none 0 0, .int .i64 0] (w4.alloc (.cells #[.slice b1 n1 j1, .int .i64 v1, .slice b2 n2 j2, .int .i64 v3] 28)) := A4.on (boxB _ _); have A4c := A4.fillQ w2.heap.size hsz2 (.slice b1 n1 j1) (.int .i64 v1) (.slice b2 n2 j2) (.int .i64 v3); have A4d := A4.fillQ w3.heap.size (by have := A3.size; omega) (.slice b1 n1 j1) (.int .i64 v1) (.slice b2 n2 j2) (.int .i64 v3); (try (have q4 : w4.heap[w3.heap.size]? = some (.cells #[.slice none 0 0, .int .i64 0, .slice none 0 0, .int .i64 0] 28) := (k4.block _ (by simp) (fun g => by have := (hvp _ g).2; omega)).trans (heap_last w3 _); obtain ⟨⟨r0, r1, r2, r3⟩, g0, g1, g2, g3⟩ := box4 q4)); (try (have q5 : w4.heap[w2.heap.size]? = some (.cells #[.slice none 0 0, .int .i64 0, .slice none 0 0, .int .i64 0] 28) := (k4.block _ (by have h2 : (w2.alloc (.cells #[.slice none 0 0, .int .i64 0, .slice none 0 0, .int .i64 0] 28)).drew.heap.size = w2.heap.size + 1 := heap_size w2 _; omega) (fun g => by have h1 := (hvp _ g).1; have h2 : (w2.alloc (.cells #[.slice none 0 0, .int .i64 0, .slice none 0 0, .int .i64 0] 28)).drew.heap.size = w2.heap.size + 1 := heap_size w2 _; omega)).trans q3; obtain ⟨⟨t0, t1, t2, t3⟩, u0, u1, u2, u3⟩ := box4 q5))))
    all_goals
      go_wp2_with fail
      go_meet
      case rel =>
        have ga := boxB w4 (.cells #[.slice b1 n1 j1, .int .i64 v1, .slice b2 n2 j2, .int .i64 v3] 28)
        have gS := (hS4.below ga).mono ga.size
        have gR := (hR4.below ga).mono ga.size
        have hl4 := heap_last w4 (.cells #[.slice b1 n1 j1, .int .i64 v1, .slice b2 n2 j2, .int .i64 v3] 28)
        have m1 := fun q => fill4 (w := w4) (Q := w3.heap.size) (t := 28) (a0 := .slice none 0 0) (a1 := .int .i64 0) (a2 := .slice none 0 0) (a3 := .int .i64 0) q (.slice b1 n1 j1) (.int .i64 v1) (.slice b2 n2 j2) (.int .i64 v3)
        have m2 := fun q => fill4 (w := w4) (Q := w2.heap.size) (t := 28) (a0 := .slice none 0 0) (a1 := .int .i64 0) (a2 := .slice none 0 0) (a3 := .int .i64 0) q (.slice b1 n1 j1) (.int .i64 v1) (.slice b2 n2 j2) (.int .i64 v3)
        have m3 := fun q => ss_fill (Q := w3.heap.size) hS4 q (.slice b1 n1 j1) (.int .i64 v1) (.slice b2 n2 j2) (.int .i64 v3)
        have m4 := fun q => ss_fill (Q := w2.heap.size) hS4 q (.slice b1 n1 j1) (.int .i64 v1) (.slice b2 n2 j2) (.int .i64 v3)
        have m5 := fun q => rs_fill (Q := w3.heap.size) hR4 q (.slice b1 n1 j1) (.int .i64 v1) (.slice b2 n2 j2) (.int .i64 v3)
        have m6 := fun q => rs_fill (Q := w2.heap.size) hR4 q (.slice b1 n1 j1) (.int .i64 v1) (.slice b2 n2 j2) (.int .i64 v3)
        refine ⟨_, b1, j1, b2, j2, rfl, rfl, ?_, ?_, ?_, ?_⟩
        · first | with_reducible exact hl4 | with_reducible exact m1 q4 | with_reducible exact m2 q5
        · first | with_reducible exact A4b | with_reducible exact A4d | with_reducible exact A4c
        · first | with_reducible exact gS | with_reducible exact m3 q4 | with_reducible exact m4 q5
        · first | with_reducible exact gR | with_reducible exact m5 q4 | with_reducible exact m6 q5
  case rest =>
    obtain ⟨Q, b1, j1, b2, j2, rfl, rfl, hQ, hK3, hS3, hR3⟩ := hcut
    have HK3 := hid hK3
    have HC6 := hid (HO2.out _ b1 j1 b2 j2 hS3 hR3)
    obtain ⟨⟨q0, q1, q2, q3⟩, -⟩ := box4 hQ
    clear hK3 hS3 hR3 hQ HO2 HDO HOWN
    go_wp2_with fail
    refine HC6.out.mono ?_
    rintro e w6 ⟨mid, b3, j3, b4, j4, rfl, hov, b6⟩
    have hK6 := HK3.out.on b6
    have hs3 := HK3.out.size
    have hs6 := b6.size
    have hKr := hK6.fill (.slice b3 n1 j3) (.int .i64 v1) (.slice b4 n2 j4) (.int .i64 v3)
    have er0 : ((((w6.setCell ⟨w.heap.size + 1 + 1, 0, none⟩ (.slice b3 n1 j3)).setCell ⟨w.heap.size + 1 + 1, 1, none⟩ (.int .i64 v1)).setCell ⟨w.heap.size + 1 + 1, 2, none⟩ (.slice b4 n2 j4)).setCell ⟨w.heap.size + 1 + 1, 3, none⟩ (.int .i64 v3)).cell? ⟨w.heap.size + 1 + 1, 0, none⟩ = some (.slice b3 n1 j3) := box_cell hKr.z 0
    have er1 : ((((w6.setCell ⟨w.heap.size + 1 + 1, 0, none⟩ (.slice b3 n1 j3)).setCell ⟨w.heap.size + 1 + 1, 1, none⟩ (.int .i64 v1)).setCell ⟨w.heap.size + 1 + 1, 2, none⟩ (.slice b4 n2 j4)).setCell ⟨w.heap.size + 1 + 1, 3, none⟩ (.int .i64 v3)).cell? ⟨w.heap.size + 1 + 1, 1, none⟩ = some (.int .i64 v1) := box_cell hKr.z 1
    have er2 : ((((w6.setCell ⟨w.heap.size + 1 + 1, 0, none⟩ (.slice b3 n1 j3)).setCell ⟨w.heap.size + 1 + 1, 1, none⟩ (.int .i64 v1)).setCell ⟨w.heap.size + 1 + 1, 2, none⟩ (.slice b4 n2 j4)).setCell ⟨w.heap.size + 1 + 1, 3, none⟩ (.int .i64 v3)).cell? ⟨w.heap.size + 1 + 1, 2, none⟩ = some (.slice b4 n2 j4) := box_cell hKr.z 2
    have er3 : ((((w6.setCell ⟨w.heap.size + 1 + 1, 0, none⟩ (.slice b3 n1 j3)).setCell ⟨w.heap.size + 1 + 1, 1, none⟩ (.int .i64 v1)).setCell ⟨w.heap.size + 1 + 1, 2, none⟩ (.slice b4 n2 j4)).setCell ⟨w.heap.size + 1 + 1, 3, none⟩ (.int .i64 v3)).cell? ⟨w.heap.size + 1 + 1, 3, none⟩ = some (.int .i64 v3) := box_cell hKr.z 3
    have HBr := hid hKr.below
    have hO9 : OV wc.heap.size mid b3 j3 B9 b4 j4 L9 w6 := by
      have h1 := HN1.out
      have h2 := HN2.out
      subst h1
      subst h2
      exact hov
    have hOr := (((hO9.set (w.heap.size + 1 + 1) 0 (.slice b3 n1 j3) (by omega)).set (w.heap.size + 1 + 1) 1 (.int .i64 v1) (by omega)).set (w.heap.size + 1 + 1) 2 (.slice b4 n2 j4) (by omega)).set (w.heap.size + 1 + 1) 3 (.int .i64 v3) (by omega)
    have HOr := hid (hOr.lower (show w.heap.size ≤ wc.heap.size by omega)).own
    obtain ⟨⟨z0, z1, z2, z3⟩, f0, f1, f2, f3⟩ := hK6.cells
    clear hKr hOr hov b6 q0 q1 q2 q3 hO9
    go_wp2_with fail
    generalize ((((w6.setCell ⟨w.heap.size + 1 + 1, 0, none⟩ (.slice b3 n1 j3)).setCell ⟨w.heap.size + 1 + 1, 1, none⟩ (.int .i64 v1)).setCell ⟨w.heap.size + 1 + 1, 2, none⟩ (.slice b4 n2 j4)).setCell ⟨w.heap.size + 1 + 1, 3, none⟩ (.int .i64 v3)) = XX at *
    refine bodyPost_ret (v := .tuple #[.agg #[.slice b3 n1 j3, .int .i64 v1, .slice b4 n2 j4, .int .i64 v3], .bool true]) (by simp [results, Try.results19, go_sem, er0, er1, er2, er3]) rfl ?_
    exact HDT.out _ _ ⟨_, _, _, _, rfl, HOr.out, HBr.out⟩
end Go.Proofs.Ytlbhfgcpflhccaa
