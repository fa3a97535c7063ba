/- Rows of rows of numbers: read, measured, made over, held against each other. -/
import Derived.Test.YtikmkkklgdkpaaaKInt
import Derived.Test.YtikmkkklgdkpaaaVBase
import Derived.Deep.RegionWith
namespace Go.Proofs.Ytikmkkklgdkpaaa
set_option maxRecDepth 100000
open Go Go.ChangeShapes Go.WideShapes Go.ChangeAt Go.RowKit
/-- rows of numbers in memory below block B -/
def Js (B : Nat) (a : Option Addr) (L : List (List Int)) (w : World) : Prop := 0 < L.length → ∃ b off, a = some ⟨b, off, none⟩ ∧ b < B ∧ ∀ i (hi : i < L.length), ∃ p c, w.cell? ⟨b, off + i, none⟩ = some (.slice p L[i].length c) ∧ Is B p L[i] w
theorem Js.below {B : Nat} {a : Option Addr} {L : List (List Int)} {w w' : World} (h : Js B a L w) (g : Below B w w') : Js B a L w' := fun h0 => by
  obtain ⟨b, off, e, hb, hc⟩ := h h0
  refine ⟨b, off, e, hb, fun i hi => ?_⟩
  obtain ⟨p, c, h1, h3⟩ := hc i hi
  exact ⟨p, c, (g.cell (p := ⟨b, _, none⟩) hb).trans h1, h3.below g⟩
theorem Js.mono {B B' : Nat} {a : Option Addr} {L : List (List Int)} {w : World} (h : Js B a L w) (hB : B ≤ B') : Js B' a L w := fun h0 => by
  obtain ⟨b, off, e, hb, hc⟩ := h h0
  refine ⟨b, off, e, by omega, fun i hi => ?_⟩
  obtain ⟨p, c, h1, h3⟩ := hc i hi
  exact ⟨p, c, h1, h3.mono hB⟩
def updA {α : Type} (f : Nat → α) (k : Nat) (x : α) : Nat → α := fun i => if i = k then x else f i
theorem updA_same {α : Type} (f : Nat → α) (k : Nat) (x : α) : updA f k x k = x := by simp [updA]
theorem updA_other {α : Type} (f : Nat → α) (k i : Nat) (x : α) (h : i ≠ k) : updA f k x i = f i := by simp [updA, h]
theorem off_ne (R : Nat) (a b : Nat) (h : a ≠ b) : (⟨R, a, none⟩ : Addr) ≠ ⟨R, b, none⟩ := fun e => h (congrArg Addr.off e)
theorem set_take {α : Type} (ys l : List α) (k : Nat) (hy : ys.length = l.length) (hk : k < l.length) (h : ys.take k = l.take k) : (ys.set k l[k]).take (k + 1) = l.take (k + 1) := by
  have hky : k < ys.length := by omega
  rw [take_snoc _ k (by simpa using hky), take_snoc l k hk, List.take_set_of_le (Nat.le_refl _), h, List.getElem_set_self]
/-- rows of numbers owned in blocks lo .. hi - 1: the row at R, the i-th at f i -/
structure RwOwn (lo hi R : Nat) (q : Nat → Option Addr) (c f : Nat → Nat) (L : List (List Int)) (w : World) : Prop where
  r0 : lo ≤ R
  r1 : R < hi
  r2 : hi ≤ w.heap.size
  cell : ∀ i (h : i < L.length), w.cell? ⟨R, i, none⟩ = some (.slice (q i) L[i].length (c i))
  free : ∀ j, j < L.length → w.frozen? ⟨R, j, none⟩ = false
  own : ∀ i (h : i < L.length), L[i] = [] ∨ (lo ≤ f i ∧ f i < hi ∧ f i ≠ R ∧ q i = some ⟨f i, 0, none⟩ ∧ IRow (f i) L[i] w)
  apart : ∀ i j (h : i < L.length) (g : j < L.length), i ≠ j → L[i] ≠ [] → L[j] ≠ [] → f i ≠ f j
theorem RwOwn.vs {lo hi R : Nat} {q : Nat → Option Addr} {c f : Nat → Nat} {L : List (List Int)} {w : World} (h : RwOwn lo hi R q c f L w) : Js w.heap.size (some ⟨R, 0, none⟩) L w := fun _ => by
  have := h.r1; have := h.r2
  refine ⟨R, 0, rfl, by omega, fun i hi => ?_⟩
  refine ⟨q i, c i, by rw [Nat.zero_add]; exact h.cell i hi, ?_⟩
  rcases h.own i hi with h0 | ⟨_, h4, _, h6, h7⟩
  · rw [h0]; exact ⟨fun h0 => absurd h0 (by simp)⟩
  · rw [h6]; exact h7.sl (by omega)
theorem RwOwn.on {lo hi R : Nat} {q : Nat → Option Addr} {c f : Nat → Nat} {L : List (List Int)} {w w' : World} (h : RwOwn lo hi R q c f L w) (g : Below w.heap.size w w') : RwOwn lo hi R q c f L w' := by
  have hR : R < w.heap.size := Nat.lt_of_lt_of_le h.r1 h.r2
  refine ⟨h.r0, h.r1, Nat.le_trans h.r2 g.size, fun i hi => (g.cell (p := ⟨R, _, none⟩) hR).trans (h.cell i hi), fun j hj => (g.frozen (p := ⟨R, _, none⟩) hR).trans (h.free j hj), fun i hi => ?_, h.apart⟩
  rcases h.own i hi with h0 | ⟨h3, h4, h5, h6, h7⟩
  · exact Or.inl h0
  · exact Or.inr ⟨h3, h4, h5, h6, h7.below g⟩
/-- another row in the place of the k-th, new -/
theorem RwOwn.set {lo hi R : Nat} {q : Nat → Option Addr} {c f : Nat → Nat} {L : List (List Int)} {w w1 : World} (h : RwOwn lo hi R q c f L w) (g : Below w.heap.size w w1) (k : Nat) (hk : k < L.length) (l : List Int) (b : Option Addr) (cb : Nat)
    (ho : OwnI w.heap.size w1.heap.size b l w1) : ∃ F, RwOwn lo w1.heap.size R (updA q k b) (updA c k cb) (updA f k F) (L.set k l) (w1.setCell ⟨R, k, none⟩ (.slice b l.length cb)) := by
  have hR : R < w.heap.size := Nat.lt_of_lt_of_le h.r1 h.r2
  have h1 := h.on g
  have hsz : (w1.setCell ⟨R, k, none⟩ (.slice b l.length cb)).heap.size = w1.heap.size := by simp [World.setCell]
  obtain ⟨F, hF⟩ : ∃ F, l = [] ∨ (w.heap.size ≤ F ∧ F < w1.heap.size ∧ b = some ⟨F, 0, none⟩ ∧ IRow F l w1) := by
    rcases ho with h0 | ⟨F, f1, f2, f3, f4⟩
    · exact ⟨0, Or.inl h0⟩
    · exact ⟨F, Or.inr ⟨f1, f2, f3, f4⟩⟩
  have hlen : (L.set k l).length = L.length := List.length_set
  have hgs := g.size
  have keep : ∀ (X : Nat) (m : List Int), X ≠ R → IRow X m w1 → IRow X m (w1.setCell ⟨R, k, none⟩ (.slice b l.length cb)) := fun X m hX hr =>
    hr.same (by rw [hsz]; exact Nat.le_refl _) (Below.heap_setCell _ _ _ _ hX)
  refine ⟨F, h.r0, by omega, by rw [hsz]; exact Nat.le_refl _, fun i hi => ?_, fun j hj => ?_, fun i hi => ?_, fun i j hi hj hij ei ej => ?_⟩
  · have hi' : i < L.length := by rw [← hlen]; exact hi
    by_cases e : i = k
    · subst e
      rw [updA_same, updA_same, List.getElem_set_self]
      exact World.cell?_setCell_same _ _ _ (h1.cell i hi')
    · rw [updA_other _ _ _ _ e, updA_other _ _ _ _ e, List.getElem_set_ne (fun e2 => e e2.symm), World.cell?_setCell_other _ _ _ _ (off_ne _ _ _ (fun e2 => e e2.symm))]
      exact h1.cell i hi'
  · rw [World.frozen?_setCell]
    exact h1.free j (by rw [← hlen]; exact hj)
  · have hi' : i < L.length := by rw [← hlen]; exact hi
    by_cases e : i = k
    · subst e
      rw [updA_same, updA_same, List.getElem_set_self]
      rcases hF with h0 | ⟨f1, f2, f3, f4⟩
      · exact Or.inl h0
      · have := h.r0
        exact Or.inr ⟨by omega, f2, by omega, f3, keep F l (by omega) f4⟩
    · rw [updA_other _ _ _ _ e, updA_other _ _ _ _ e, List.getElem_set_ne (fun e2 => e e2.symm)]
      rcases h1.own i hi' with h0 | ⟨h3, h4, h5, h6, h7⟩
      · exact Or.inl h0
      · have := h.r2
        exact Or.inr ⟨h3, by omega, h5, h6, keep _ _ h5 h7⟩
  · have hi' : i < L.length := by rw [← hlen]; exact hi
    have hj' : j < L.length := by rw [← hlen]; exact hj
    have hr2 := h.r2
    by_cases e1 : i = k
    · subst e1
      rw [List.getElem_set_self] at ei
      rw [List.getElem_set_ne hij] at ej
      rw [updA_same, updA_other _ _ _ _ (fun e => hij e.symm)]
      rcases hF with h0 | ⟨f1, _⟩
      · exact absurd h0 ei
      · rcases h.own j hj' with h0 | ⟨_, h4, _⟩
        · exact absurd h0 ej
        · omega
    · rw [List.getElem_set_ne (fun e => e1 e.symm)] at ei
      rw [updA_other _ _ _ _ e1]
      by_cases e2 : j = k
      · subst e2
        rw [List.getElem_set_self] at ej
        rw [updA_same]
        rcases hF with h0 | ⟨f1, _⟩
        · exact absurd h0 ej
        · rcases h.own i hi' with h0 | ⟨_, h4, _⟩
          · exact absurd h0 ei
          · omega
      · rw [List.getElem_set_ne (fun e => e2 e.symm)] at ej
        rw [updA_other _ _ _ _ e2]
        exact h.apart i j hi' hj' hij ei ej
theorem infoIs : (Try.prog.info? 22).map (fun i => (i.zero, i.size, i.bytes)) = some (some (.slice none 0 0), 1, 24) := by kernel_rfl
theorem make_rows (n : Nat) (hn : n ≤ 1048576) (W : World) : (Instr.makeSlice 23 (.int .i64 (n : Int)) (.int .i64 (n : Int))).run Try.prog W =
    .ok (.slice (some ⟨W.heap.size, 0, none⟩) n n) (W.alloc (.cells (madeCells (Value.slice none 0 0).cells n) 22)) := by
  obtain ⟨i0, hi, hz0, hz1, hz2⟩ := info_parts infoIs
  have h := run_make (P := Try.prog) W 23 22 i0 _ Try.underlying23 hi hz0 .i64 .i64 (n : Int) (n : Int) (by omega) (by omega) (by rw [hz2]; omega) (by omega)
  rw [hz1] at h
  simpa using h
theorem RwOwn.made (w : World) (n : Nat) : RwOwn w.heap.size (w.heap.size + 1) w.heap.size (fun _ => none) (fun _ => 0) (fun _ => 0) (List.replicate n []) (w.alloc (.cells (madeCells (Value.slice none 0 0).cells n) 22)) := by
  have h := GRow.made w 22 n #[.slice none 0 0]
  have e : n * (#[Value.slice none 0 0] : Array Value).size = n := Nat.mul_one n
  rw [e] at h
  refine ⟨Nat.le_refl _, by omega, by simp, fun i hi => ?_, fun j hj => ?_, fun i hi => Or.inl (by simp), fun i j hi hj _ ei _ => absurd (by simp) ei⟩
  · have h0 := h.cell i (by simpa using hi) 0 (by decide)
    rw [List.getElem_replicate] at h0
    rw [List.getElem_replicate]
    have e1 : i * (#[Value.slice none 0 0] : Array Value).size + 0 = i := Nat.mul_one i
    rw [e1] at h0
    exact h0
  · exact h.free j (by simpa using hj)
set_option maxHeartbeats 1000000 in
theorem toIntSS_any (a : Option Addr) (cap : Nat) (L : List (List Int)) (w : World) (hn : L.length ≤ 1048576) (hf : ∀ k (h : k < L.length), L[k].length ≤ 1048576) (hG : Js w.heap.size a L w) :
    Calls Try.prog 54 #[.slice a L.length cap] w fun e w' => e = .returned (.slice (some ⟨w.heap.size, 0, none⟩) L.length L.length) ∧ (∃ q c f, RwOwn w.heap.size w'.heap.size w.heap.size q c f L w') ∧ Below w.heap.size w w' := by
  have HG := hid hG
  have HF := hid hf
  clear hG hf
  have hmk := make_rows L.length hn
  have hr0 := RwOwn.made w L.length
  generalize madeCells (Value.slice none 0 0).cells L.length = M at *
  have HR : Hid (RwOwn w.heap.size (w.alloc (.cells M 22)).heap.size w.heap.size (fun _ => none) (fun _ => 0) (fun _ => 0) (List.replicate L.length []) (w.alloc (.cells M 22))) := by
    unfold Hid
    rw [heap_size]
    exact hr0
  clear hr0
  go_enter Try.func54, Try.ntmps54
  go_wp2_with fail
  go_loopw [4] (fun i wr => ∃ (k : Nat) (ys : List (List Int)), k ≤ L.length ∧ i = .int .i64 k ∧ ys.length = L.length ∧ ys.take k = L.take k ∧ (∃ q c f, RwOwn w.heap.size wr.heap.size w.heap.size q c f ys wr) ∧ Below w.heap.size w wr) (fun i _ => L.length - (intOf i).toNat)
  case atStart => exact ⟨0, List.replicate L.length [], Nat.zero_le _, rfl, by simp, rfl, ⟨_, _, _, HR.out⟩, boxB w _⟩
  case round =>
    clear HR hmk
    obtain ⟨k, ys, hk, rfl, hy, htk, ⟨q, cq, f, hrow⟩, hbel⟩ := hrel
    have HROW := hid hrow
    have HBEL := hid hbel
    have HTK := hid htk
    by_cases hlt : k < L.length
    · obtain ⟨b, off, rfl, hb, hcl⟩ := HG.out (by omega)
      obtain ⟨p, c, c0, hI⟩ := hcl k hlt
      rw [← hbel.cell (p := ⟨b, off + k, none⟩) hb] at c0
      have y0 := hrow.cell k (by omega)
      have f0 := hrow.free k (by omega)
      have hszr := hbel.size
      have hltr : w.heap.size < wr.heap.size := hrow.r1
      have hm := HF.out k hlt
      have HST := hid (set_take ys L k hy hlt htk)
      generalize hs : L[k] = l at *
      have HC := hid (to_ownI p c l wr hm ((hI.below hbel).mono hszr))
      clear hcl hrow hbel htk hI hs
      go_wp2_with fail
      refine HC.out.mono ?_
      rintro e w1 ⟨b', c', rfl, ho, b1⟩
      rw [← b1.cell (p := ⟨w.heap.size, k, none⟩) hltr] at y0
      rw [← b1.frozen (p := ⟨w.heap.size, k, none⟩) hltr] at f0
      obtain ⟨F, hF⟩ := HROW.out.set b1 k (by omega) l b' c' ho
      have HSET : Hid (RwOwn w.heap.size (w1.setCell ⟨w.heap.size, k, none⟩ (.slice b' l.length c')).heap.size w.heap.size (updA q k b') (updA cq k c') (updA f k F) (ys.set k l) (w1.setCell ⟨w.heap.size, k, none⟩ (.slice b' l.length c'))) := by
        have e : (w1.setCell ⟨w.heap.size, k, none⟩ (.slice b' l.length c')).heap.size = w1.heap.size := by simp [World.setCell]
        unfold Hid
        rw [e]
        exact hF
      have HB1 : Hid (Below w.heap.size w (w1.setCell ⟨w.heap.size, k, none⟩ (.slice b' l.length c'))) := setB (HBEL.out.trans (b1.mono hszr)) _ _ (Nat.le_refl _) _
      clear b1 hF ho HC c0
      go_wp2_with fail
      go_roundw
      case rel => exact ⟨k + 1, ys.set k l, by omega, by go_num, by simpa using hy, HST.out, ⟨_, _, _, HSET.out⟩, HB1.out⟩
      case measure => simp [intOf]; omega
    · obtain rfl : k = L.length := by omega
      rw [List.take_length, List.take_of_length_le (by omega)] at htk
      subst htk
      clear hrow hbel
      go_wp2_with fail
      go_ret
      exact ⟨rfl, ⟨_, _, _, HROW.out⟩, HBEL.out⟩
set_option maxHeartbeats 400000 in
theorem szIntS_any (a : Option Addr) (cap n : Nat) (left : Int) (w : World) (h0 : 0 ≤ left) (h1 : left ≤ 1048576) (hn : n ≤ 9223372036854775807) :
    Calls Try.prog 46 #[.slice a n cap, .int .i64 left] w fun e w' => (∃ r : Int, e = .returned (.int .i64 r) ∧ r ≤ 1048576 ∧ -1 ≤ r ∧ (0 ≤ r → n ≤ 1048576)) ∧ w' = w := by
  by_cases g : (n : Int) ≤ left
  · have hd : decide (left - (n : Int) < 0) = false := by simp; omega
    go_enter Try.func46, Try.ntmps46
    go_wp2
    go_ret
    exact ⟨⟨_, rfl, by omega, by omega, fun _ => by omega⟩, rfl⟩
  · have hd : decide (left - (n : Int) < 0) = true := by simp; omega
    go_enter Try.func46, Try.ntmps46
    go_wp2
    go_ret
    exact ⟨⟨-1, rfl, by omega, by omega, fun h => by omega⟩, rfl⟩
set_option maxHeartbeats 1000000 in
theorem szIntSS_any (a : Option Addr) (cap : Nat) (L : List (List Int)) (left : Int) (w : World) (h0 : 0 ≤ left) (h1 : left ≤ 1048576) (hn : L.length ≤ 9223372036854775807) (hf : ∀ s ∈ L, s.length ≤ 9223372036854775807) (hG : Js w.heap.size a L w) :
    Calls Try.prog 47 #[.slice a L.length cap, .int .i64 left] w fun e w' => (∃ r : Int, e = .returned (.int .i64 r) ∧ r ≤ 1048576 ∧ -1 ≤ r ∧ (0 ≤ r → L.length ≤ 1048576 ∧ ∀ k (h : k < L.length), L[k].length ≤ 1048576)) ∧ Below w.heap.size w w' := by
  have HG := hid hG
  have HF := hid hf
  clear hG hf
  by_cases g : (L.length : Int) ≤ left
  case neg =>
    have hd : decide (left - (L.length : Int) < 0) = true := by simp; omega
    go_enter Try.func47, Try.ntmps47
    go_wp2_with fail
    go_ret
    exact ⟨⟨-1, rfl, by omega, by omega, fun h => by omega⟩, Below.refl _ _⟩
  have hd : decide (left - (L.length : Int) < 0) = false := by simp; omega
  go_enter Try.func47, Try.ntmps47
  go_wp2_with fail
  go_loopw [1, 5] (fun u i wr => ∃ (k : Nat) (r : Int), k ≤ L.length ∧ i = .int .i64 k ∧ u = .int .i64 r ∧ 0 ≤ r ∧ r ≤ 1048576 ∧ (∀ j (h : j < L.length), j < k → L[j].length ≤ 1048576) ∧ wr = w) (fun _ i _ => L.length - (intOf i).toNat)
  case atStart => exact ⟨0, left - L.length, Nat.zero_le _, rfl, rfl, by omega, by omega, (fun _ _ h => absurd h (Nat.not_lt_zero _)), rfl⟩
  case round =>
    obtain ⟨k, r, hk, rfl, rfl, r0, r1, hall, hwr⟩ := hrel
    subst hwr
    have HALL := hid hall
    clear hall
    by_cases hlt : k < L.length
    · obtain ⟨b, off, rfl, hb, hcl⟩ := HG.out (by omega)
      obtain ⟨p, c, c0, -⟩ := hcl k hlt
      have hf := HF.out L[k] (List.getElem_mem hlt)
      have HNX : Hid (L[k].length ≤ 1048576 → ∀ j (h : j < L.length), j < k + 1 → L[j].length ≤ 1048576) := fun h j hj hjk => by
        by_cases e : j = k
        · subst e; exact h
        · exact HALL.out j hj (by omega)
      clear hcl
      generalize L[k] = l at *
      have HC := hid (fun v => szIntS_any p c l.length r v r0 r1 hf)
      go_wp2_with fail
      refine (HC.out _).mono ?_
      rintro e w2 ⟨⟨q, rfl, q1, q2, q3⟩, hw2⟩
      rw [hw2]
      have HQ := hid q3
      clear HC hw2 c0 q3 HALL
      by_cases g : q < 0
      · have hdq : decide (q < 0) = true := decide_eq_true g
        go_wp2_with fail
        go_ret
        exact ⟨⟨-1, rfl, by omega, by omega, fun h => by omega⟩, Below.refl _ _⟩
      · have hdq : decide (q < 0) = false := decide_eq_false g
        go_wp2_with fail
        go_roundw
        case rel => exact ⟨k + 1, q, by omega, by go_num, rfl, by omega, q1, HNX.out (HQ.out (by omega)), by trivial⟩
        case measure => simp [intOf]; omega
    · go_wp2_with fail
      go_ret
      exact ⟨⟨r, rfl, r1, by omega, fun _ => ⟨by omega, fun j hj => HALL.out j hj (by omega)⟩⟩, Below.refl _ _⟩
set_option maxHeartbeats 2000000 in
theorem eqIntSS_same (a1 a2 : Option Addr) (c1 c2 : Nat) (L : List (List Int)) (w : World) (hn : L.length ≤ 1048576) (hf : ∀ k (h : k < L.length), L[k].length ≤ 1048576) (h1 : Js w.heap.size a1 L w) (h2 : Js w.heap.size a2 L w) :
    Calls Try.prog 38 #[.slice a1 L.length c1, .slice a2 L.length c2] w fun e w' => e = .returned (.bool true) ∧ Below w.heap.size w w' := by
  have H1 := hid h1
  have H2 := hid h2
  have HF := hid hf
  clear h1 h2 hf
  go_enter Try.func38, Try.ntmps38
  go_wp2_with fail
  go_loopw [5] (fun i wr => ∃ k : Nat, k ≤ L.length ∧ i = .int .i64 k ∧ Below w.heap.size w wr) (fun i _ => L.length - (intOf i).toNat)
  case atStart => exact ⟨0, Nat.zero_le _, rfl, Below.refl _ _⟩
  case round =>
    obtain ⟨k, hk, rfl, hbel⟩ := hrel
    have HBEL := hid hbel
    by_cases hlt : k < L.length
    · obtain ⟨b1, o1, rfl, hb1, hc1⟩ := H1.out (by omega)
      obtain ⟨b2, o2, rfl, hb2, hc2⟩ := H2.out (by omega)
      obtain ⟨p, c, x0, hI⟩ := hc1 k hlt
      obtain ⟨p', c', y0, hJ⟩ := hc2 k hlt
      rw [← hbel.cell (p := ⟨b1, o1 + k, none⟩) hb1] at x0
      rw [← hbel.cell (p := ⟨b2, o2 + k, none⟩) hb2] at y0
      have hm := HF.out k hlt
      generalize L[k] = l at *
      have hw := HBEL.out.drew
      have HC := hid (eqIntS_same p p' c c' l wr.drew hm ((hI.below hw).mono hw.size) ((hJ.below hw).mono hw.size))
      clear hw
      clear hc1 hc2 hbel hI hJ
      go_wp2_with fail
      go_region_with (go_at_call 37; refine HC.out.mono ?_; rintro e w9 ⟨rfl, b9⟩)
      all_goals
        have HB9 : Hid (Below w.heap.size w w9) := HBEL.out.trans ((show Below wr.heap.size wr w9 from ⟨b9.os, b9.tape, b9.output, b9.size, b9.block⟩).mono HBEL.out.size)
        clear b9
        go_wp2
        go_roundw
        · exact ⟨k + 1, by omega, by go_num, HB9.out⟩
        · simp [intOf]; omega
    · clear hbel
      go_wp2
      go_ret
      exact ⟨rfl, HBEL.out⟩
end Go.Proofs.Ytikmkkklgdkpaaa
