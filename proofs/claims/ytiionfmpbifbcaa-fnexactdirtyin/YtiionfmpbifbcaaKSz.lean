/- Walks of the laws' own measures of marks. -/
import Derived.Test.YtiionfmpbifbcaaHA
import Derived.Test.YtiionfmpbifbcaaKInt
import Derived.ProofKit
namespace Go.Proofs.Ytiionfmpbifbcaa
set_option maxRecDepth 100000
open Go Go.ChangeShapes Go.WideShapes Go.ChangeAt Go.RowKit
/-- one box at the world's end -/
structure Bx (w : World) (o : Obj) (wr : World) : Prop where
  below : Below w.heap.size w wr
  box : wr.heap[w.heap.size]? = some o
theorem Bx.start (w : World) (o : Obj) : Bx w o (w.alloc o) := ⟨boxB w o, heap_last w o⟩
theorem Bx.lt {w : World} {o : Obj} {wr : World} (h : Bx w o wr) : w.heap.size < wr.heap.size := by
  rcases Nat.lt_or_ge w.heap.size wr.heap.size with h' | h'
  · exact h'
  · have := h.box
    rw [Array.getElem?_eq_none h'] at this; cases this
theorem Bx.on {w : World} {o : Obj} {wr w' : World} (h : Bx w o wr) (g : Below wr.heap.size wr w') : Bx w o w' :=
  ⟨h.below.trans (g.mono (Nat.le_of_lt h.lt)), (g.block _ h.lt).trans h.box⟩
set_option maxHeartbeats 400000 in
theorem szIntS_l (a : Option Addr) (cap n : Nat) (left : Int) (w : World) (h0 : 0 ≤ left) (h1 : left ≤ 1048576) (hn : n ≤ 9223372036854775807) :
    Calls Try.prog 78 #[.slice a n cap, .int .i64 left] w fun e w' => (∃ r : Int, e = .returned (.int .i64 r) ∧ r ≤ left ∧ -1 ≤ r ∧ (0 ≤ r → r + n ≤ left)) ∧ w' = w := by
  by_cases g : (n : Int) ≤ left
  · have hd : decide (left - (n : Int) < 0) = false := by simp; omega
    go_enter Try.func78, Try.ntmps78
    go_wp2
    go_ret
    exact ⟨⟨_, rfl, by omega, by omega, fun _ => by omega⟩, rfl⟩
  · have hd : decide (left - (n : Int) < 0) = true := by simp; omega
    go_enter Try.func78, Try.ntmps78
    go_wp2
    go_ret
    exact ⟨⟨-1, rfl, by omega, by omega, fun h => by omega⟩, rfl⟩
set_option maxHeartbeats 1000000 in
theorem szStringS_l (a : Option Addr) (cap : Nat) (l : List ByteArray) (left : Int) (w : World) (h0 : 0 ≤ left) (h1 : left ≤ 1048576) (hz : ∀ s ∈ l, s.size ≤ 9223372036854775807) (hn : l.length ≤ 9223372036854775807) (hZ : Ss w.heap.size a l w) :
    Calls Try.prog 79 #[.slice a l.length cap, .int .i64 left] w fun e w' => (∃ r : Int, e = .returned (.int .i64 r) ∧ r ≤ left ∧ -1 ≤ r ∧ (0 ≤ r → r + l.length ≤ left)) ∧ w' = w := by
  have HZ : Hid (Ss w.heap.size a l w) := hZ
  have HS : Hid (∀ s ∈ l, s.size ≤ 9223372036854775807) := hz
  clear hZ hz
  by_cases g : (l.length : Int) ≤ left
  · have hd : decide (left - (l.length : Int) < 0) = false := by simp; omega
    go_enter Try.func79, Try.ntmps79
    go_wp2
    go_loopw [1, 5] (fun t i wr => ∃ (k : Nat) (r : Int), k ≤ l.length ∧ i = .int .i64 k ∧ t = .int .i64 r ∧ 0 ≤ r ∧ r + l.length ≤ left ∧ wr = w) (fun _ i _ => l.length - (intOf i).toNat)
    case atStart => exact ⟨0, _, Nat.zero_le _, rfl, rfl, by omega, by omega, rfl⟩
    case round =>
      obtain ⟨k, r, hk, rfl, rfl, r0, r1, hwr⟩ := hrel
      obtain rfl := hwr.symm
      by_cases hlt : k < l.length
      · obtain ⟨b, off, rfl, hb, hcells⟩ := HZ.out.cell (by omega)
        have c0 := hcells k hlt
        have hsz := HS.out l[k] (List.getElem_mem hlt)
        clear hcells
        generalize l[k] = D at *
        by_cases hq : (D.size : Int) ≤ r
        · have hdq : decide (r - (D.size : Int) < 0) = false := by simp; omega
          go_wp2
          go_roundw
          case rel => exact ⟨k + 1, r - (D.size : Int), by omega, by go_num, by go_num, by omega, by omega, by trivial⟩
          case measure => simp [intOf]; omega
        · have hdq : decide (r - (D.size : Int) < 0) = true := by simp; omega
          go_wp2
          go_ret
          exact ⟨⟨-1, rfl, by omega, by omega, fun h => by omega⟩, rfl⟩
      · go_wp2
        go_ret
        exact ⟨⟨r, rfl, by omega, by omega, fun _ => by omega⟩, rfl⟩
  · have hd : decide (left - (l.length : Int) < 0) = true := by simp; omega
    go_enter Try.func79, Try.ntmps79
    go_wp2
    go_ret
    exact ⟨⟨-1, rfl, by omega, by omega, fun h => by omega⟩, rfl⟩
/-- lengths that a law can count -/
def cntY (y : Ly) : Prop := y.bl.length ≤ 9223372036854775807 ∧ (∀ s ∈ y.dt, s.size ≤ 9223372036854775807) ∧ y.dt.length ≤ 9223372036854775807
/-- what a layer weighs -/
def wtY (y : Ly) : Nat := 1 + y.bl.length + y.dt.length
def wtK (S : List Ly) : Nat := (S.map wtY).sum
theorem wtK_snoc (S : List Ly) (k : Nat) (h : k < S.length) : wtK (S.take (k + 1)) = wtK (S.take k) + wtY S[k] := by
  unfold wtK
  rw [take_snoc S k h, List.map_append, List.sum_append_nat]
  simp
theorem wtK_all (S : List Ly) : wtK (S.take S.length) = wtK S := by rw [List.take_length]
/-- marks of a size that the laws look at -/
def FitK (S : List Ly) : Prop := wtK S ≤ 1048576
theorem wtK_le (S : List Ly) (k : Nat) : wtK (S.take k) ≤ wtK S := by
  unfold wtK
  rw [List.map_take]
  have := List.take_append_drop k (S.map wtY)
  have h : (S.map wtY).sum = ((S.map wtY).take k).sum + ((S.map wtY).drop k).sum := by rw [← List.sum_append_nat, this]
  omega
theorem FitK.at {S : List Ly} (h : FitK S) (k : Nat) (hk : k < S.length) : wtY S[k] ≤ 1048576 := by
  have h1 := wtK_snoc S k hk
  have h2 := wtK_le S (k + 1)
  unfold FitK at h
  omega
theorem FitK.bl {S : List Ly} (h : FitK S) (k : Nat) (hk : k < S.length) : S[k].bl.length ≤ 1048576 := by have := h.at k hk; unfold wtY at this; omega
theorem FitK.dt {S : List Ly} (h : FitK S) (k : Nat) (hk : k < S.length) : S[k].dt.length ≤ 1048576 := by have := h.at k hk; unfold wtY at this; omega
theorem len_wt (S : List Ly) : S.length ≤ wtK S := by
  unfold wtK
  induction S with
  | nil => exact Nat.le_refl _
  | cons y l ih =>
    rw [List.length_cons, List.map_cons, List.sum_cons]
    have : 1 ≤ wtY y := by unfold wtY; omega
    omega
theorem FitK.len {S : List Ly} (h : FitK S) : S.length ≤ 1048576 := Nat.le_trans (len_wt S) h
set_option maxHeartbeats 1000000 in
theorem szLayer_l (p q : Option Addr) (c d : Nat) (y : Ly) (left : Int) (w : World) (h0 : 0 ≤ left) (h1 : left ≤ 1048576) (hc : cntY y) (hQ : Ss w.heap.size q y.dt w) :
    Calls Try.prog 58 #[.agg #[.int .i64 y.mark, .slice p y.bl.length c, .slice q y.dt.length d], .int .i64 left] w fun e w' => (∃ r : Int, e = .returned (.int .i64 r) ∧ r ≤ left ∧ -1 ≤ r ∧ (0 ≤ r → r + y.bl.length + y.dt.length ≤ left)) ∧ Below w.heap.size w w' := by
  obtain ⟨m, bl, dt⟩ := y
  simp only at hQ ⊢
  obtain ⟨c1, c2, c3⟩ := hc
  simp only at c1 c2 c3
  have HB := hid (boxB w (.cells #[.int .i64 m, .slice p bl.length c, .slice q dt.length d] 85))
  have y1 : (w.alloc (.cells #[.int .i64 m, .slice p bl.length c, .slice q dt.length d] 85)).cell? ⟨w.heap.size, 1, none⟩ = some (.slice p bl.length c) := box_cell (heap_last _ _) 1
  have y2 : (w.alloc (.cells #[.int .i64 m, .slice p bl.length c, .slice q dt.length d] 85)).cell? ⟨w.heap.size, 2, none⟩ = some (.slice q dt.length d) := box_cell (heap_last _ _) 2
  have HQ := hid ((hQ.below HB.out).mono HB.out.size)
  have HC := hid (fun v => szIntS_l p c bl.length left v h0 h1 c1)
  have HC2 := hid c2
  clear hQ c2
  generalize hW : w.alloc (.cells #[.int .i64 m, .slice p bl.length c, .slice q dt.length d] 85) = W at *
  go_enter Try.func58, Try.ntmps58
  go_wp2_with fail
  clear hW
  refine (HC.out _).mono ?_
  rintro e w2 ⟨⟨r, rfl, r1, r2, r3⟩, hw2⟩
  rw [hw2]
  clear hw2 HC
  have HR := hid r3
  clear r3
  by_cases g : r < 0
  · have hd : decide (r < 0) = true := decide_eq_true g
    go_wp2_with fail
    go_ret
    exact ⟨⟨-1, rfl, by omega, by omega, fun h => by omega⟩, HB.out⟩
  have hd : decide (r < 0) = false := decide_eq_false g
  have hr3 := HR.out (by omega)
  have HC3 := hid (szStringS_l q d dt r W (by omega) (by omega) HC2.out c3 HQ.out)
  clear HR HQ HC2
  go_wp2_with fail
  refine HC3.out.mono ?_
  rintro e w2 ⟨⟨s, rfl, s1, s2, s3⟩, hw2⟩
  rw [hw2]
  clear hw2 HC3
  have HS := hid s3
  clear s3
  by_cases g2 : s < 0
  · have hd2 : decide (s < 0) = true := decide_eq_true g2
    go_wp2_with fail
    go_ret
    exact ⟨⟨-1, rfl, by omega, by omega, fun h => by omega⟩, HB.out⟩
  · have hd2 : decide (s < 0) = false := decide_eq_false g2
    go_wp2_with fail
    go_ret
    exact ⟨⟨s, rfl, by omega, by omega, fun h => by have := HS.out h; omega⟩, HB.out⟩
set_option maxHeartbeats 1000000 in
theorem szLayerS_l (a : Option Addr) (cap : Nat) (S : List Ly) (w : World) (hn : S.length ≤ 9223372036854775807) (hf : ∀ s ∈ S, cntY s) (hG : Ys w.heap.size a S w) :
    Calls Try.prog 32 #[.slice a S.length cap, .int .i64 1048576] w fun e w' => (∃ r : Int, e = .returned (.int .i64 r) ∧ -1 ≤ r ∧ (0 ≤ r → FitK S)) ∧ Below w.heap.size w w' := by
  have HG := hid hG
  have HF := hid hf
  clear hG hf
  by_cases g : (S.length : Int) ≤ 1048576
  case neg =>
    have hd : decide ((1048576 : Int) - (S.length : Int) < 0) = true := by simp; omega
    go_enter Try.func32, Try.ntmps32
    go_wp2_with fail
    go_ret
    exact ⟨⟨-1, rfl, by omega, fun h => by omega⟩, Below.refl _ _⟩
  have hd : decide ((1048576 : Int) - (S.length : Int) < 0) = false := by simp; omega
  go_enter Try.func32, Try.ntmps32
  go_wp2_with fail
  go_loopw [1, 5] (fun u i wr => ∃ (k : Nat) (r : Int), k ≤ S.length ∧ i = .int .i64 k ∧ u = .int .i64 r ∧ 0 ≤ r ∧ r + S.length + wtK (S.take k) ≤ 1048576 + k ∧ Below w.heap.size w wr) (fun _ i _ => S.length - (intOf i).toNat)
  case atStart => exact ⟨0, 1048576 - S.length, Nat.zero_le _, rfl, rfl, by omega, (by show (1048576 - S.length : Int) + S.length + ((0 : Nat) : Int) ≤ _; omega), Below.refl _ _⟩
  case round =>
    obtain ⟨k, r, hk, rfl, rfl, r0, hsum, hbel⟩ := hrel
    have HBEL := hid hbel
    by_cases hlt : k < S.length
    · obtain ⟨b, off, rfl, hb, hcl⟩ := HG.out (by omega)
      obtain ⟨p, c, q, d, k0, k1, k2, -, hQ⟩ := hcl k hlt
      rw [← hbel.cell (p := ⟨b, off + k * 3, none⟩) hb] at k0
      rw [← hbel.cell (p := ⟨b, off + k * 3 + 1, none⟩) hb] at k1
      rw [← hbel.cell (p := ⟨b, off + k * 3 + 2, none⟩) hb] at k2
      have hf := HF.out S[k] (List.getElem_mem hlt)
      have hsn := wtK_snoc S k hlt
      have hQ1 := (hQ.below hbel).mono hbel.size
      generalize hy : S[k] = y at *
      have HC : Hid (∀ v, Below wr.heap.size wr v → Calls Try.prog 58 #[.agg #[.int .i64 y.mark, .slice p y.bl.length c, .slice q y.dt.length d], .int .i64 r] v fun e w' => (∃ t : Int, e = .returned (.int .i64 t) ∧ t ≤ r ∧ -1 ≤ t ∧ (0 ≤ t → t + y.bl.length + y.dt.length ≤ r)) ∧ Below v.heap.size v w') := fun v g => szLayer_l p q c d y r v r0 (by omega) hf ((hQ1.below g).mono g.size)
      unfold wtY at hsn
      clear hcl hbel hf hQ hQ1 hy
      obtain ⟨m, bl, dt⟩ := y
      simp only at k0 k1 k2 HC hsn
      have hbr := HBEL.out.size
      go_wp2_with fail
      refine (HC.out _ (Below.refl _ _)).mono ?_
      rintro e w2 ⟨⟨t, rfl, t1, t2, t3⟩, hb2⟩
      have HB2 := hid (HBEL.out.trans (hb2.mono hbr))
      have HT := hid t3
      clear HC hb2 k0 k1 k2 t3
      by_cases g : t < 0
      · have hdq : decide (t < 0) = true := decide_eq_true g
        go_wp2_with fail
        go_ret
        exact ⟨⟨-1, rfl, by omega, fun h => by omega⟩, HB2.out⟩
      · have hdq : decide (t < 0) = false := decide_eq_false g
        have ht := HT.out (by omega)
        go_wp2_with fail
        go_roundw
        case rel => exact ⟨k + 1, t, by omega, by go_num, rfl, by omega, by omega, HB2.out⟩
        case measure => simp [intOf]; omega
    · obtain rfl : k = S.length := by omega
      rw [wtK_all] at hsum
      clear hbel
      go_wp2_with fail
      go_ret
      exact ⟨⟨r, rfl, by omega, fun _ => by unfold FitK; omega⟩, HBEL.out⟩
set_option maxHeartbeats 1000000 in
theorem szMarks_l (a : Option Addr) (cap : Nat) (S : List Ly) (w : World) (hn : S.length ≤ 9223372036854775807) (hf : ∀ s ∈ S, cntY s) (hG : Ys w.heap.size a S w) :
    Calls Try.prog 9 #[.agg #[.slice a S.length cap], .int .i64 1048576] w fun e w' => (∃ r : Int, e = .returned (.int .i64 r) ∧ (0 ≤ r → FitK S)) ∧ Below w.heap.size w w' := by
  have HB := hid (Bx.start w (.cells #[.slice a S.length cap] 24))
  have y0 : (w.alloc (.cells #[.slice a S.length cap] 24)).cell? ⟨w.heap.size, 0, none⟩ = some (.slice a S.length cap) := box_cell HB.out.box 0
  have HC := hid (szLayerS_l a cap S _ hn hf ((hG.below HB.out.below).mono HB.out.below.size))
  clear hG hf
  generalize hW : w.alloc (.cells #[.slice a S.length cap] 24) = W at *
  go_enter Try.func9, Try.ntmps9
  go_wp2_with fail
  refine HC.out.mono ?_
  rintro e w2 ⟨⟨r, rfl, r1, r2⟩, b2⟩
  have HB2 := hid (HB.out.on b2)
  have HR := hid r2
  clear b2 r2 hW y0
  by_cases g : r < 0
  · have hdq : decide (r < 0) = true := decide_eq_true g
    go_wp2_with fail
    go_ret
    exact ⟨⟨-1, rfl, fun h => by omega⟩, HB2.out.below⟩
  · have hdq : decide (r < 0) = false := decide_eq_false g
    go_wp2_with fail
    go_ret
    exact ⟨⟨r, rfl, HR.out⟩, HB2.out.below⟩
end Go.Proofs.Ytiionfmpbifbcaa
