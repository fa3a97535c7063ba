/- Notes in memory. -/
import Derived.WalkKit
import Derived.Test.YtgompioaknfjgabFcRM
namespace Go.Proofs.Ytgompioaknfjgab
set_option maxRecDepth 100000
open Go Go.ChangeShapes Go.WideShapes Go.ChangeAt Go.RowKit
structure Nt where
  kd : Int
  wh : Int
  cl : Int
  ws : Int
  is : Int
def zeroNt : Nt := ⟨0, 0, 0, 0, 0⟩
def ntc (f : Nt) : List Value := [.int .i64 f.kd, .int .i64 f.wh, .int .i64 f.cl, .int .i64 f.ws, .int .i64 f.is]
def Nts (B : Nat) (a : Option Addr) (l : List Nt) (w : World) : Prop := GSl B 5 a (l.map ntc) w
theorem Nts.cell {B : Nat} {a : Option Addr} {l : List Nt} {w : World} (h : Nts B a l w) (h0 : 0 < l.length) : ∃ b off, a = some ⟨b, off, none⟩ ∧ b < B ∧ ∀ i (hi : i < l.length), w.cell? ⟨b, off + i * 5, none⟩ = some (.int .i64 l[i].kd) ∧ w.cell? ⟨b, off + i * 5 + 1, none⟩ = some (.int .i64 l[i].wh) ∧ w.cell? ⟨b, off + i * 5 + 2, none⟩ = some (.int .i64 l[i].cl) ∧ w.cell? ⟨b, off + i * 5 + 3, none⟩ = some (.int .i64 l[i].ws) ∧ w.cell? ⟨b, off + i * 5 + 4, none⟩ = some (.int .i64 l[i].is) := by
  obtain ⟨b, off, e, hb, hc⟩ := GSl.cell h (by simpa using h0)
  refine ⟨b, off, e, hb, fun i hi => ?_⟩
  have hi' : i < (l.map ntc).length := by simpa using hi
  have hr : (l.map ntc)[i] = ntc l[i] := List.getElem_map _
  have c0 := hc i hi' 0 (by decide)
  have c1 := hc i hi' 1 (by decide)
  have c2 := hc i hi' 2 (by decide)
  have c3 := hc i hi' 3 (by decide)
  have c4 := hc i hi' 4 (by decide)
  rw [hr] at c0 c1 c2 c3 c4
  exact ⟨c0, c1, c2, c3, c4⟩
theorem Nts.below {B : Nat} {a : Option Addr} {l : List Nt} {w w' : World} (h : Nts B a l w) (g : Below B w w') : Nts B a l w' := GSl.below h g
theorem Nts.mono {B B' : Nat} {a : Option Addr} {l : List Nt} {w : World} (h : Nts B a l w) (hB : B ≤ B') : Nts B' a l w := GSl.mono h hB
def NtRow (R : Nat) (l : List Nt) (w : World) : Prop := GRow R 5 (l.map ntc) w
theorem NtRow.lt {R : Nat} {l : List Nt} {w : World} (h : NtRow R l w) : R < w.heap.size := GRow.lt h
theorem NtRow.cell {R : Nat} {l : List Nt} {w : World} (h : NtRow R l w) (i : Nat) (hi : i < l.length) : w.cell? ⟨R, i * 5, none⟩ = some (.int .i64 l[i].kd) ∧ w.cell? ⟨R, i * 5 + 1, none⟩ = some (.int .i64 l[i].wh) ∧ w.cell? ⟨R, i * 5 + 2, none⟩ = some (.int .i64 l[i].cl) ∧ w.cell? ⟨R, i * 5 + 3, none⟩ = some (.int .i64 l[i].ws) ∧ w.cell? ⟨R, i * 5 + 4, none⟩ = some (.int .i64 l[i].is) := by
  have hi' : i < (l.map ntc).length := by simpa using hi
  have hr : (l.map ntc)[i] = ntc l[i] := List.getElem_map _
  have c0 := GRow.cell h i hi' 0 (by decide)
  have c1 := GRow.cell h i hi' 1 (by decide)
  have c2 := GRow.cell h i hi' 2 (by decide)
  have c3 := GRow.cell h i hi' 3 (by decide)
  have c4 := GRow.cell h i hi' 4 (by decide)
  rw [hr] at c0 c1 c2 c3 c4
  exact ⟨c0, c1, c2, c3, c4⟩
theorem NtRow.free {R : Nat} {l : List Nt} {w : World} (h : NtRow R l w) (j : Nat) (hj : j < l.length * 5) : w.frozen? ⟨R, j, none⟩ = false := GRow.free h j (by simpa using hj)
theorem NtRow.below {R : Nat} {l : List Nt} {w w' : World} (h : NtRow R l w) (hb : Below w.heap.size w w') : NtRow R l w' := GRow.below h hb
theorem NtRow.same {R : Nat} {l : List Nt} {w w' : World} (h : NtRow R l w) (hs : w.heap.size ≤ w'.heap.size) (hb : w'.heap[R]? = w.heap[R]?) : NtRow R l w' := GRow.same h hs hb
theorem NtRow.sl {R B : Nat} {l : List Nt} {w : World} (h : NtRow R l w) (hB : R < B) : Nts B (some ⟨R, 0, none⟩) l w := GRow.sl h hB
theorem ntc_row (l : List Nt) (k : Nat) (hk : k < l.length) (hk' : k < (l.map ntc).length) (j : Nat) (v : Value) (z : Nt) (hz : (ntc l[k]).set j v = ntc z) :
    (l.map ntc).set k ((l.map ntc)[k].set j v) = (l.set k z).map ntc := by
  have hr : (l.map ntc)[k] = ntc l[k] := List.getElem_map _
  rw [hr, hz, List.map_set]
theorem NtRow.setAt {R : Nat} {l : List Nt} {w : World} (h : NtRow R l w) (k j : Nat) (hk : k < l.length) (hj : j < 5) (v : Value) (z : Nt) (hz : (ntc l[k]).set j v = ntc z) :
    NtRow R (l.set k z) (w.setCell ⟨R, k * 5 + j, none⟩ v) := by
  have hk' : k < (l.map ntc).length := by simpa using hk
  have := GRow.set h k j hk' hj v
  rw [ntc_row l k hk hk' j v z hz] at this
  exact this
theorem NtRow.set {R : Nat} {l : List Nt} {w : World} (h : NtRow R l w) (k : Nat) (hk : k < l.length) (z : Nt) :
    NtRow R (l.set k z) (((((w.setCell ⟨R, k * 5, none⟩ (.int .i64 z.kd)).setCell ⟨R, k * 5 + 1, none⟩ (.int .i64 z.wh)).setCell ⟨R, k * 5 + 2, none⟩ (.int .i64 z.cl)).setCell ⟨R, k * 5 + 3, none⟩ (.int .i64 z.ws)).setCell ⟨R, k * 5 + 4, none⟩ (.int .i64 z.is)) := by
  have h1 := h.setAt k 0 hk (by decide) (.int .i64 z.kd) ⟨z.kd, l[k].wh, l[k].cl, l[k].ws, l[k].is⟩ rfl
  have h2 := h1.setAt k 1 (by simpa using hk) (by decide) (.int .i64 z.wh) ⟨z.kd, z.wh, l[k].cl, l[k].ws, l[k].is⟩ (by rw [List.getElem_set_self]; rfl)
  have h3 := h2.setAt k 2 (by simpa using hk) (by decide) (.int .i64 z.cl) ⟨z.kd, z.wh, z.cl, l[k].ws, l[k].is⟩ (by rw [List.getElem_set_self]; rfl)
  have h4 := h3.setAt k 3 (by simpa using hk) (by decide) (.int .i64 z.ws) ⟨z.kd, z.wh, z.cl, z.ws, l[k].is⟩ (by rw [List.getElem_set_self]; rfl)
  have h5 := h4.setAt k 4 (by simpa using hk) (by decide) (.int .i64 z.is) z (by rw [List.getElem_set_self]; rfl)
  simpa using h5
theorem NtRow.made (w : World) (n : Nat) : NtRow w.heap.size (List.replicate n zeroNt) (w.alloc (.cells (madeCells (Value.agg #[.int .i64 0, .int .i64 0, .int .i64 0, .int .i64 0, .int .i64 0]).cells (n * 5)) 47)) := by
  have := GRow.made w 47 n #[.int .i64 0, .int .i64 0, .int .i64 0, .int .i64 0, .int .i64 0]
  unfold NtRow
  rw [List.map_replicate]
  exact this
def MNt (P : Nat → Prop) (a : Option Addr) (l : List Nt) (w : World) : Prop := l = [] ∨ ∃ R, P R ∧ a = some ⟨R, 0, none⟩ ∧ NtRow R l w
theorem MNt.ps {P : Nat → Prop} {a : Option Addr} {l : List Nt} {w : World} (h : MNt P a l w) : Nts w.heap.size a l w := by
  rcases h with rfl | ⟨R, _, rfl, hr⟩
  · exact ⟨fun h0 => absurd h0 (by simp)⟩
  · exact hr.sl hr.lt
theorem MNt.keep {P Q : Nat → Prop} {a : Option Addr} {l : List Nt} {w w' : World} (h : MNt P a l w) (g : OutP Q w w') (hPQ : ∀ k, P k → ¬ Q k) : MNt P a l w' := by
  rcases h with h | ⟨R, h1, e, hr⟩
  · exact Or.inl h
  · exact Or.inr ⟨R, h1, e, hr.same g.size (g.block _ hr.lt (hPQ _ h1))⟩
theorem MNt.wide {P Q : Nat → Prop} {a : Option Addr} {l : List Nt} {w : World} (h : MNt P a l w) (g : ∀ k, P k → Q k) : MNt Q a l w := by
  rcases h with h | ⟨R, h1, e, hr⟩
  · exact Or.inl h
  · exact Or.inr ⟨R, g _ h1, e, hr⟩
def OwnNt (lo hi : Nat) (a : Option Addr) (l : List Nt) (w : World) : Prop := l = [] ∨ ∃ R, lo ≤ R ∧ R < hi ∧ a = some ⟨R, 0, none⟩ ∧ NtRow R l w
theorem OwnNt.out {lo hi l2 h2 : Nat} {a : Option Addr} {l : List Nt} {w w' : World} (h : OwnNt lo hi a l w) (g : Out l2 h2 w w') (hd : hi ≤ l2 ∨ h2 ≤ lo) : OwnNt lo hi a l w' := by
  rcases h with h | ⟨R, h1, h3, e, hr⟩
  · exact Or.inl h
  · exact Or.inr ⟨R, h1, h3, e, hr.same g.size (g.block R hr.lt (by omega))⟩
theorem OwnNt.below {lo hi : Nat} {a : Option Addr} {l : List Nt} {w w' : World} (h : OwnNt lo hi a l w) (g : Below w.heap.size w w') : OwnNt lo hi a l w' := by
  rcases h with h | ⟨R, h1, h3, e, hr⟩
  · exact Or.inl h
  · exact Or.inr ⟨R, h1, h3, e, hr.below g⟩
theorem OwnNt.ps {lo hi : Nat} {a : Option Addr} {l : List Nt} {w : World} (h : OwnNt lo hi a l w) : Nts w.heap.size a l w := by
  rcases h with rfl | ⟨R, h1, h3, rfl, hr⟩
  · exact ⟨fun h0 => absurd h0 (by simp)⟩
  · exact hr.sl hr.lt
theorem OwnNt.mi {lo hi : Nat} {a : Option Addr} {l : List Nt} {w : World} (h : OwnNt lo hi a l w) : MNt (Btw lo hi) a l w := by
  rcases h with h | ⟨R, h1, h2, e, hr⟩
  · exact Or.inl h
  · exact Or.inr ⟨R, ⟨h1, h2⟩, e, hr⟩
set_option maxHeartbeats 400000 in
theorem eqNote_same (n0 n1 n2 n3 n4 : Int) (w : World) :
    Calls Try.prog 32 #[.agg #[.int .i64 n0, .int .i64 n1, .int .i64 n2, .int .i64 n3, .int .i64 n4], .agg #[.int .i64 n0, .int .i64 n1, .int .i64 n2, .int .i64 n3, .int .i64 n4]] w fun e w' => e = .returned (.bool true) ∧ Below w.heap.size w w' := by
  go_enter Try.func32, Try.ntmps32
  go_wp2
  go_ret
  exact ⟨rfl, ((Below.refl _ _).alloc (Nat.le_refl _) _).alloc (by simp) _⟩
set_option maxHeartbeats 400000 in
theorem toNote_any (n0 n1 n2 n3 n4 : Int) (w : World) :
    Calls Try.prog 26 #[.agg #[.int .i64 n0, .int .i64 n1, .int .i64 n2, .int .i64 n3, .int .i64 n4]] w fun e w' => e = .returned (.agg #[.int .i64 n0, .int .i64 n1, .int .i64 n2, .int .i64 n3, .int .i64 n4]) ∧ Below w.heap.size w w' := by
  go_enter Try.func26, Try.ntmps26
  go_wp2
  refine bodyPost_ret (v := .agg #[.int .i64 n0, .int .i64 n1, .int .i64 n2, .int .i64 n3, .int .i64 n4]) (by simp [results, Try.results26, go_sem]) rfl ⟨rfl, ?_⟩
  exact (((Below.refl _ _).alloc (Nat.le_refl _) _).alloc (by simp) _).alloc (by simp; omega) _
theorem infoNt : (Try.prog.info? 47).map (fun i => (i.zero, i.size, i.bytes)) = some (some (.agg #[.int .i64 0, .int .i64 0, .int .i64 0, .int .i64 0, .int .i64 0]), 5, 40) := by kernel_rfl
theorem make_Nt (n : Nat) (hn : n ≤ 1048576) (W : World) : (Instr.makeSlice 29 (.int .i64 (n : Int)) (.int .i64 (n : Int))).run Try.prog W =
    .ok (.slice (some ⟨W.heap.size, 0, none⟩) n n) (W.alloc (.cells (madeCells (Value.agg #[.int .i64 0, .int .i64 0, .int .i64 0, .int .i64 0, .int .i64 0]).cells (n * 5)) 47)) := by
  obtain ⟨i0, hi, hz0, hz1, hz2⟩ := info_parts infoNt
  have h := run_make (P := Try.prog) W 29 47 i0 _ Try.underlying29 hi hz0 .i64 .i64 (n : Int) (n : Int) (by omega) (by omega) (by rw [hz2]; omega) (by omega)
  rw [hz1] at h
  simpa using h
set_option maxHeartbeats 1000000 in
theorem toNoteS_any (a : Option Addr) (cap : Nat) (l : List Nt) (w : World) (hn : l.length ≤ 1048576) (hZ : Nts w.heap.size a l w) :
    Calls Try.prog 15 #[.slice a l.length cap] w fun e w' => e = .returned (.slice (some ⟨w.heap.size, 0, none⟩) l.length l.length) ∧ NtRow w.heap.size l w' ∧ Below w.heap.size w w' := by
  have HZ := hid hZ
  clear hZ
  have hmk := make_Nt l.length hn
  have hr0 := NtRow.made w l.length
  generalize madeCells (Value.agg #[.int .i64 0, .int .i64 0, .int .i64 0, .int .i64 0, .int .i64 0]).cells (l.length * 5) = M at *
  have HR := hid hr0
  clear hr0
  go_enter Try.func15, Try.ntmps15
  go_wp2
  go_loopw [4] (fun i wr => ∃ (k : Nat) (ys : List Nt), k ≤ l.length ∧ i = .int .i64 k ∧ ys.length = l.length ∧ ys.take k = l.take k ∧ NtRow w.heap.size ys wr ∧ Below w.heap.size w wr) (fun i _ => l.length - (intOf i).toNat)
  case atStart => exact ⟨0, List.replicate l.length zeroNt, Nat.zero_le _, rfl, by simp, rfl, HR.out, (Below.refl _ _).alloc (Nat.le_refl _) _⟩
  case round =>
    obtain ⟨k, ys, hk, rfl, hy, htk, hrow, hbel⟩ := hrel
    have HROW := hid hrow
    have HBEL := hid hbel
    have HTK := hid htk
    by_cases hlt : k < l.length
    · obtain ⟨b, off, rfl, hb, hcells⟩ := HZ.out.cell (by omega)
      obtain ⟨c0, c1, c2, c3, c4⟩ := hcells k hlt
      have hb' : ∀ o, wr.cell? ⟨b, o, none⟩ = w.cell? ⟨b, o, none⟩ := fun o => hbel.cell (p := ⟨b, o, none⟩) hb
      rw [← hb'] at c0 c1 c2 c3 c4
      clear hcells hb'
      have HC : Hid (∀ v, Calls Try.prog 26 #[.agg #[.int .i64 l[k].kd, .int .i64 l[k].wh, .int .i64 l[k].cl, .int .i64 l[k].ws, .int .i64 l[k].is]] v fun e w' => e = .returned (.agg #[.int .i64 l[k].kd, .int .i64 l[k].wh, .int .i64 l[k].cl, .int .i64 l[k].ws, .int .i64 l[k].is]) ∧ Below v.heap.size v w') := fun v => toNote_any _ _ _ _ _ v
      obtain ⟨y0, y1, y2, y3, y4⟩ := hrow.cell k (by omega)
      have f0 := hrow.free (k * 5) (by omega)
      have f1 := hrow.free (k * 5 + 1) (by omega)
      have f2 := hrow.free (k * 5 + 2) (by omega)
      have f3 := hrow.free (k * 5 + 3) (by omega)
      have f4 := hrow.free (k * 5 + 4) (by omega)
      have hszr := hbel.size
      have hltr := hrow.lt
      clear hrow hbel htk
      go_wp2_with fail
      refine (HC.out _).mono ?_
      rintro e w1 ⟨rfl, b1⟩
      have hc1 : ∀ o, w1.cell? ⟨w.heap.size, o, none⟩ = wr.cell? ⟨w.heap.size, o, none⟩ := fun o => b1.cell (p := ⟨w.heap.size, o, none⟩) hltr
      have hf1 : ∀ o, w1.frozen? ⟨w.heap.size, o, none⟩ = wr.frozen? ⟨w.heap.size, o, none⟩ := fun o => b1.frozen (p := ⟨w.heap.size, o, none⟩) hltr
      rw [← hc1] at y0 y1 y2 y3 y4
      rw [← hf1] at f0 f1 f2 f3 f4
      clear hc1 hf1
      have HB1 : Hid (Below wr.heap.size wr w1) := b1
      clear b1
      go_wp2
      go_roundw
      case rel =>
        refine ⟨k + 1, ys.set k l[k], by omega, by go_num, by simpa using hy, ?_, (HROW.out.below HB1.out).set k (by omega) l[k], ?_⟩
        · have hky : k < ys.length := by omega
          rw [take_snoc _ k (by simpa using hky), take_snoc l k hlt, List.take_set_of_le (Nat.le_refl _), HTK.out, List.getElem_set_self]
        · exact (((((HBEL.out.trans (HB1.out.mono hszr)).setCell (Nat.le_refl _) _).setCell (Nat.le_refl _) _).setCell (Nat.le_refl _) _).setCell (Nat.le_refl _) _).setCell (Nat.le_refl _) _
      case measure => simp [intOf]; omega
    · obtain rfl : k = l.length := by omega
      rw [List.take_length, List.take_of_length_le (by omega)] at htk
      subst htk
      clear hrow hbel
      go_wp2
      go_ret
      exact ⟨rfl, HROW.out, HBEL.out⟩
theorem to_OwnNt (a : Option Addr) (cap : Nat) (l : List Nt) (w : World) (hn : l.length ≤ 1048576) (hI : Nts w.heap.size a l w) :
    Calls Try.prog 15 #[.slice a l.length cap] w fun e w' => ∃ b c, e = .returned (.slice b l.length c) ∧ OwnNt w.heap.size w'.heap.size b l w' ∧ Below w.heap.size w w' :=
  (toNoteS_any a cap l w hn hI).mono fun _ _ ⟨he, hr, hb⟩ => ⟨_, _, he, Or.inr ⟨_, Nat.le_refl _, hr.lt, rfl, hr⟩, hb⟩
set_option maxHeartbeats 2000000 in
theorem eqNoteS_same (a1 a2 : Option Addr) (c1 c2 : Nat) (l : List Nt) (w : World) (hn : l.length ≤ 1048576) (h1 : Nts w.heap.size a1 l w) (h2 : Nts w.heap.size a2 l w) :
    Calls Try.prog 20 #[.slice a1 l.length c1, .slice a2 l.length c2] w fun e w' => e = .returned (.bool true) ∧ Below w.heap.size w w' := by
  have H1 := hid h1
  have H2 := hid h2
  clear h1 h2
  go_enter Try.func20, Try.ntmps20
  go_wp2
  go_loopw [5] (fun i wr => ∃ k : Nat, k ≤ l.length ∧ i = .int .i64 k ∧ Below w.heap.size w wr) (fun i _ => l.length - (intOf i).toNat)
  case atStart => exact ⟨0, Nat.zero_le _, rfl, Below.refl _ _⟩
  case round =>
    obtain ⟨k, hk, rfl, hbel⟩ := hrel
    have HBEL := hid hbel
    by_cases hlt : k < l.length
    · obtain ⟨b1, o1, rfl, hb1, hc1⟩ := H1.out.cell (by omega)
      obtain ⟨b2, o2, rfl, hb2, hc2⟩ := H2.out.cell (by omega)
      obtain ⟨x0, x1, x2, x3, x4⟩ := hc1 k hlt
      obtain ⟨y0, y1, y2, y3, y4⟩ := hc2 k hlt
      have hb1' : ∀ o, wr.cell? ⟨b1, o, none⟩ = w.cell? ⟨b1, o, none⟩ := fun o => hbel.cell (p := ⟨b1, o, none⟩) hb1
      have hb2' : ∀ o, wr.cell? ⟨b2, o, none⟩ = w.cell? ⟨b2, o, none⟩ := fun o => hbel.cell (p := ⟨b2, o, none⟩) hb2
      rw [← hb1'] at x0 x1 x2 x3 x4
      rw [← hb2'] at y0 y1 y2 y3 y4
      clear hc1 hc2 hb1' hb2' hbel
      generalize l[k].kd = r0 at *
      generalize l[k].wh = r1 at *
      generalize l[k].cl = r2 at *
      generalize l[k].ws = r3 at *
      generalize l[k].is = r4 at *
      go_wp2_with fail
      go_region_with (go_at_call 32; refine (eqNote_same r0 r1 r2 r3 r4 _).mono ?_; rintro e w9 ⟨rfl, b9⟩)
      all_goals
        have HB9 : Hid (Below w.heap.size w w9) := HBEL.out.trans ((show Below wr.heap.size wr w9 from ⟨b9.os, b9.tape, b9.output, b9.size, b9.block⟩).mono HBEL.out.size)
        clear b9
        go_wp2
        go_roundw
        · exact ⟨k + 1, by omega, by go_num, HB9.out⟩
        · simp [intOf]; omega
    · clear hbel
      go_wp2
      go_ret
      exact ⟨rfl, HBEL.out⟩
set_option maxHeartbeats 400000 in
theorem szNoteS_any (a : Option Addr) (cap n : Nat) (left : Int) (w : World) (h0 : 0 ≤ left) (h1 : left ≤ 1048576) (hn : n ≤ 9223372036854775807) :
    Calls Try.prog 10 #[.slice a n cap, .int .i64 left] w fun e w' => (∃ r : Int, e = .returned (.int .i64 r) ∧ r ≤ 1048576 ∧ -1 ≤ r ∧ (0 ≤ r → n ≤ 1048576)) ∧ w' = w := by
  by_cases g : (n : Int) ≤ left
  · have hd : decide (left - (n : Int) < 0) = false := by simp; omega
    go_enter Try.func10, Try.ntmps10
    go_wp2
    go_ret
    exact ⟨⟨_, rfl, by omega, by omega, fun _ => by omega⟩, rfl⟩
  · have hd : decide (left - (n : Int) < 0) = true := by simp; omega
    go_enter Try.func10, Try.ntmps10
    go_wp2
    go_ret
    exact ⟨⟨-1, rfl, by omega, by omega, fun h => by omega⟩, rfl⟩
def mkNt (k : Nat) : Nt := ⟨(k : Int), (k : Int) + 1, (k : Int) + 1 + 1, (k : Int) + 1 + 1 + 1, (k : Int) + 1 + 1 + 1 + 1⟩
def ntcMarks (n k : Nat) : List Nt := (List.range n).map fun i => mkNt (k + 5 * i)
theorem ntcMarks_len (n k : Nat) : (ntcMarks n k).length = n := by simp [ntcMarks]
theorem ntcMarks_at (n k i : Nat) (h : i < (ntcMarks n k).length) : (ntcMarks n k)[i] = mkNt (k + 5 * i) := by simp [ntcMarks]
theorem val_iNt {k : IntKind} {a b : Int} (h : a = b) : Value.int k a = .int k b := by rw [h]
end Go.Proofs.Ytgompioaknfjgab
