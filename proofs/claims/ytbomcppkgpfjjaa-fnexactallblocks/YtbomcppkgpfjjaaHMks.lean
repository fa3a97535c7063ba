/- Marks over rows of truth values. Marks over segments: what is marked lies in blocks of a set P, each row apart. Walks of the laws' markSegS and heldSegS. Marks over rows of truth values: markBoolSS and heldBoolSS. Marks over heaps. Heaps of the laws' copies and of one's own, as heaps that may be marked. -/
import Derived.Test.YtbomcppkgpfjjaaHToH
import Derived.Test.YtbomcppkgpfjjaaHFind
import Derived.Test.YtbomcppkgpfjjaaHOwns
import Derived.Test.YtbomcppkgpfjjaaHSz
import Derived.Test.YtbomcppkgpfjjaaHRoom
namespace Go.Proofs.Ytbomcppkgpfjjaa
set_option maxRecDepth 100000
open Go.ChangeShapes Go.WideShapes Go.ChangeAt Go.RowKit G00541
def bmk (k : Nat) : Bool := (k : Int) % 3 == 0
def bmarks (n k : Nat) : List Bool := (List.range n).map fun i => bmk (k + i)
theorem bmarks_len (n k : Nat) : (bmarks n k).length = n := by simp [bmarks]
theorem bmarks_at (n k i : Nat) (h : i < (bmarks n k).length) : (bmarks n k)[i] = bmk (k + i) := by simp [bmarks]
set_option maxHeartbeats 1000000 in
theorem markBoolS_row (R cap k0 : Nat) (l : List Bool) (w : World) (hn : l.length ≤ 1048576) (k1 : 1 ≤ k0) (k2 : k0 ≤ 4611686018427387904) (hR : BRow R l w) :
    Calls Try.prog 38 #[.slice (some ⟨R, 0, none⟩) l.length cap, .int .i64 k0] w fun e w' => e = .returned (.int .i64 (k0 + l.length : Nat)) ∧ BRow R (bmarks l.length k0) w' ∧ But R w w' := by
  have HR : Hid (BRow R l w) := hR
  clear hR
  go_enter Try.func38, Try.ntmps38
  go_wp2
  go_loopw [1, 5] (fun t i wr => ∃ (j : Nat) (ys : List Bool), j ≤ l.length ∧ i = .int .i64 j ∧ t = .int .i64 (k0 + j : Nat) ∧ ys.length = l.length ∧ ys.take j = (bmarks l.length k0).take j ∧ BRow R ys wr ∧ But R w wr) (fun _ i _ => l.length - (intOf i).toNat)
  case atStart => exact ⟨0, l, Nat.zero_le _, rfl, rfl, rfl, rfl, HR.out, But.refl _ _⟩
  case round =>
    obtain ⟨j, ys, hj, rfl, rfl, hy, htk, hrow, hbut⟩ := hrel
    have HROW : Hid (BRow R ys wr) := hrow
    have HBUT : Hid (But R w wr) := hbut
    have HTK : Hid (ys.take j = (bmarks l.length k0).take j) := htk
    by_cases hlt : j < l.length
    · have y0 := hrow.cell j (by omega)
      have f0 := hrow.free j (by omega)
      clear hrow hbut htk
      generalize ys[j] = yd at *
      go_wp2_with fail
      go_roundw
      case rel =>
        refine ⟨j + 1, ys.set j (bmk (k0 + j)), by omega, by go_num, by go_num, by simpa using hy, ?_, HROW.out.set j (by omega) _, HBUT.out.setCell _ _⟩
        have hjy : j < ys.length := by omega
        have hjm : j < (bmarks l.length k0).length := by rw [bmarks_len]; exact hlt
        rw [take_snoc _ j (by simpa using hjy), take_snoc _ j hjm, List.take_set_of_le (Nat.le_refl _), HTK.out, List.getElem_set_self, bmarks_at]
      case measure => simp [intOf]; omega
    · obtain rfl : j = l.length := by omega
      clear hrow hbut
      go_wp2
      go_ret
      rw [List.take_of_length_le (by omega), List.take_of_length_le (by rw [bmarks_len]; omega)] at htk
      subst htk
      exact ⟨rfl, HROW.out, HBUT.out⟩
set_option maxHeartbeats 400000 in
theorem markBoolS_none (a : Option Addr) (cap k0 : Nat) (w : World) :
    Calls Try.prog 38 #[.slice a 0 cap, .int .i64 k0] w fun e w' => e = .returned (.int .i64 k0) ∧ w' = w := by
  go_enter Try.func38, Try.ntmps38
  go_wp2
  go_loop [1, 5] (fun t i => t = .int .i64 k0 ∧ i = .int .i64 0) (fun _ _ => 0)
  case atStart => exact ⟨rfl, rfl⟩
  case round =>
    obtain ⟨rfl, rfl⟩ := hrel
    go_wp2
    go_ret
    exact ⟨rfl, rfl⟩
end Go.Proofs.Ytbomcppkgpfjjaa
namespace Go.Proofs.Ytbomcppkgpfjjaa
set_option maxRecDepth 100000
open Go.ChangeShapes Go.WideShapes Go.ChangeAt Go.RowKit G00541
structure OutP (P : Nat → Prop) (w w' : World) : Prop where
  os : w'.os = w.os
  tape : w'.tape = w.tape
  output : w'.output = w.output
  size : w.heap.size ≤ w'.heap.size
  block : ∀ k, k < w.heap.size → ¬ P k → w'.heap[k]? = w.heap[k]?
theorem OutP.refl (P : Nat → Prop) (w : World) : OutP P w w := ⟨rfl, rfl, rfl, Nat.le_refl _, fun _ _ _ => rfl⟩
theorem OutP.trans {P : Nat → Prop} {a b c : World} (h : OutP P a b) (g : OutP P b c) : OutP P a c :=
  ⟨g.os.trans h.os, g.tape.trans h.tape, g.output.trans h.output, Nat.le_trans h.size g.size, fun k hk hn => (g.block k (Nat.lt_of_lt_of_le hk h.size) hn).trans (h.block k hk hn)⟩
theorem OutP.but {P : Nat → Prop} {R : Nat} {w w' : World} (h : But R w w') (hR : P R) : OutP P w w' :=
  ⟨h.os, h.tape, h.output, h.size, fun k hk hn => h.block k hk (fun e => hn (by rw [e]; exact hR))⟩
theorem OutP.set {P : Nat → Prop} (w : World) (R j : Nat) (u : Value) (hR : P R) : OutP P w (w.setCell ⟨R, j, none⟩ u) :=
  ⟨rfl, rfl, rfl, by simp [World.setCell], fun k _ hn => keepB _ _ _ _ _ (fun e => hn (by rw [e]; exact hR))⟩
theorem OutP.wide {P Q : Nat → Prop} {w w' : World} (h : OutP P w w') (hPQ : ∀ k, P k → Q k) : OutP Q w w' :=
  ⟨h.os, h.tape, h.output, h.size, fun k hk hn => h.block k hk (fun hp => hn (hPQ k hp))⟩
/-- segments whose cells may be marked -/
structure SegP (P : Nat → Prop) (R : Nat) (q : Nat → Option Addr) (c f : Nat → Nat) (S : List Sg) (w : World) : Prop where
  r : P R
  r1 : R < w.heap.size
  cell : ∀ i (h : i < S.length), w.cell? ⟨R, i * 2, none⟩ = some (.slice (q i) S[i].bl.length (c i)) ∧ w.cell? ⟨R, i * 2 + 1, none⟩ = some (.int .i64 S[i].age)
  free : ∀ j, j < S.length * 2 → w.frozen? ⟨R, j, none⟩ = false
  own : ∀ i (h : i < S.length), S[i].bl = [] ∨ (P (f i) ∧ f i ≠ R ∧ q i = some ⟨f i, 0, none⟩ ∧ IRow (f i) S[i].bl w)
  apart : ∀ i j (h : i < S.length) (g : j < S.length), i ≠ j → S[i].bl ≠ [] → S[j].bl ≠ [] → f i ≠ f j
theorem SegP.keep {P Q : Nat → Prop} {R : Nat} {q : Nat → Option Addr} {c f : Nat → Nat} {S : List Sg} {w w' : World} (h : SegP P R q c f S w) (g : OutP Q w w') (hPQ : ∀ k, P k → ¬ Q k) : SegP P R q c f S w' := by
  have hb := g.block R h.r1 (hPQ R h.r)
  refine ⟨h.r, Nat.lt_of_lt_of_le h.r1 g.size, fun i hi => ?_, fun j hj => ?_, fun i hi => ?_, h.apart⟩
  · obtain ⟨h1, h2⟩ := h.cell i hi
    exact ⟨(World.cell?_of_block (a := ⟨R, _, none⟩) hb).trans h1, (World.cell?_of_block (a := ⟨R, _, none⟩) hb).trans h2⟩
  · exact (World.frozen?_of_block (a := ⟨R, _, none⟩) hb).trans (h.free j hj)
  · rcases h.own i hi with h0 | ⟨h1, h2, h3, h4⟩
    · exact Or.inl h0
    · exact Or.inr ⟨h1, h2, h3, h4.same g.size (g.block _ h4.lt (hPQ _ h1))⟩
/-- a row is put in the place of another one of the same length -/
theorem SegP.row {P : Nat → Prop} {R : Nat} {q : Nat → Option Addr} {c f : Nat → Nat} {S : List Sg} {w w' : World} (h : SegP P R q c f S w) (j : Nat) (hj : j < S.length) (hne : S[j].bl ≠ []) (l : List Int) (hl : l.length = S[j].bl.length) (g : But (f j) w w') (hr : IRow (f j) l w') : SegP P R q c f (S.set j ⟨l, S[j].age⟩) w' := by
  obtain ⟨p1, p2, p3, p4⟩ : P (f j) ∧ f j ≠ R ∧ q j = some ⟨f j, 0, none⟩ ∧ IRow (f j) S[j].bl w := by
    rcases h.own j hj with h0 | h0
    · exact absurd h0 hne
    · exact h0
  have hb := g.block R h.r1 (fun e => p2 e.symm)
  have hl0 : l ≠ [] := fun e => hne (List.eq_nil_of_length_eq_zero (by rw [← hl, e]; rfl))
  refine ⟨h.r, Nat.lt_of_lt_of_le h.r1 g.size, fun i hi => ?_, fun i hi => ?_, fun i hi => ?_, fun a b ha hb' hab h1 h2 => ?_⟩
  · have hi' : i < S.length := by simpa using hi
    obtain ⟨h1, h2⟩ := h.cell i hi'
    rw [List.getElem_set]
    by_cases e : j = i
    · subst e
      rw [if_pos rfl]
      exact ⟨by show _ = some (Value.slice (q j) l.length (c j)); rw [hl]; exact (World.cell?_of_block (a := ⟨R, _, none⟩) hb).trans h1, (World.cell?_of_block (a := ⟨R, _, none⟩) hb).trans h2⟩
    · rw [if_neg e]
      exact ⟨(World.cell?_of_block (a := ⟨R, _, none⟩) hb).trans h1, (World.cell?_of_block (a := ⟨R, _, none⟩) hb).trans h2⟩
  · rw [List.length_set] at hi
    exact (World.frozen?_of_block (a := ⟨R, _, none⟩) hb).trans (h.free i hi)
  · have hi' : i < S.length := by simpa using hi
    rw [List.getElem_set]
    by_cases e : j = i
    · subst e
      rw [if_pos rfl]
      exact Or.inr ⟨p1, p2, p3, hr⟩
    · rw [if_neg e]
      by_cases h0 : S[i].bl = []
      · exact Or.inl h0
      · rcases h.own i hi' with h9 | ⟨h1, h2, h3, h4⟩
        · exact absurd h9 h0
        · exact Or.inr ⟨h1, h2, h3, h4.same g.size (g.block _ h4.lt (h.apart i j hi' hj (fun x => e x.symm) h0 hne))⟩
  · have ha' : a < S.length := by simpa using ha
    have hb2 : b < S.length := by simpa using hb'
    rw [List.getElem_set] at h1 h2
    refine h.apart a b ha' hb2 hab ?_ ?_
    · by_cases e : j = a
      · subst e; exact hne
      · rw [if_neg e] at h1; exact h1
    · by_cases e : j = b
      · subst e; exact hne
      · rw [if_neg e] at h2; exact h2
/-- an age is set -/
theorem SegP.age {P : Nat → Prop} {R : Nat} {q : Nat → Option Addr} {c f : Nat → Nat} {S : List Sg} {w : World} (h : SegP P R q c f S w) (j : Nat) (hj : j < S.length) (a : Int) : SegP P R q c f (S.set j ⟨S[j].bl, a⟩) (w.setCell ⟨R, j * 2 + 1, none⟩ (.int .i64 a)) := by
  have hbl : ∀ i (hi : i < S.length) (hi2 : i < (S.set j ⟨S[j].bl, a⟩).length), (S.set j ⟨S[j].bl, a⟩)[i].bl = S[i].bl := fun i hi hi2 => by
    rw [List.getElem_set]
    by_cases e : j = i
    · subst e; rw [if_pos rfl]
    · rw [if_neg e]
  refine ⟨h.r, by simpa [World.setCell] using h.r1, fun i hi => ?_, fun i hi => ?_, fun i hi => ?_, fun x y hx hy hxy h1 h2 => ?_⟩
  · have hi' : i < S.length := by simpa using hi
    obtain ⟨h1, h2⟩ := h.cell i hi'
    constructor
    · rw [hbl i hi' hi, World.cell?_setCell_other _ _ _ _ (fun e => by have : j * 2 + 1 = i * 2 := congrArg Addr.off e; omega)]
      exact h1
    · by_cases e : j = i
      · subst e
        rw [World.cell?_setCell_same _ _ _ h2, List.getElem_set_self]
      · rw [World.cell?_setCell_other _ _ _ _ (fun e2 => by have : j * 2 + 1 = i * 2 + 1 := congrArg Addr.off e2; omega), List.getElem_set_ne e]
        exact h2
  · rw [List.length_set] at hi
    rw [World.frozen?_setCell]
    exact h.free i hi
  · have hi' : i < S.length := by simpa using hi
    rw [hbl i hi' hi]
    rcases h.own i hi' with h0 | ⟨h1, h2, h3, h4⟩
    · exact Or.inl h0
    · exact Or.inr ⟨h1, h2, h3, h4.same (by simp [World.setCell]) (keepB _ _ _ _ _ h2)⟩
  · have hx' : x < S.length := by simpa using hx
    have hy' : y < S.length := by simpa using hy
    rw [hbl x hx' hx] at h1
    rw [hbl y hy' hy] at h2
    exact h.apart x y hx' hy' hxy h1 h2
end Go.Proofs.Ytbomcppkgpfjjaa
namespace Go.Proofs.Ytbomcppkgpfjjaa
set_option maxRecDepth 100000
open Go.ChangeShapes Go.WideShapes Go.ChangeAt Go.RowKit G00541
/-- how many marks the first j segments take -/
def totS (S : List Sg) : Nat → Nat
  | 0 => 0
  | j + 1 => totS S j + (lenAt S j + 1)
def markS (S : List Sg) (k : Nat) : List Sg := (List.range S.length).map fun i => ⟨imarks (lenAt S i) (k + totS S i), ((k + totS S i + lenAt S i : Nat) : Int)⟩
theorem markS_len (S : List Sg) (k : Nat) : (markS S k).length = S.length := by simp [markS]
theorem markS_at (S : List Sg) (k i : Nat) (h : i < (markS S k).length) : (markS S k)[i] = ⟨imarks (lenAt S i) (k + totS S i), ((k + totS S i + lenAt S i : Nat) : Int)⟩ := by simp [markS]
theorem totS_le (S : List Sg) (hn : S.length ≤ 1048576) (hb : ∀ k (h : k < S.length), S[k].bl.length ≤ 1048576) : ∀ j, j ≤ S.length → totS S j ≤ j * 1048577
  | 0, _ => by simp [totS]
  | j + 1, h => by
    have h1 := totS_le S hn hb j (by omega)
    have h2 := hb j (by omega)
    rw [← lenAt_eq S j (by omega)] at h2
    unfold totS
    omega
set_option maxHeartbeats 400000 in
theorem markSegS_p (P : Nat → Prop) (R cap k0 : Nat) (q : Nat → Option Addr) (c f : Nat → Nat) (S : List Sg) (w : World) (hn : S.length ≤ 1048576) (hb : ∀ k (h : k < S.length), S[k].bl.length ≤ 1048576) (k1 : 1 ≤ k0) (k2 : k0 ≤ 2305843009213693952) (h : SegP P R q c f S w) :
    Calls Try.prog 24 #[.slice (some ⟨R, 0, none⟩) S.length cap, .int .i64 k0] w fun e w' => e = .returned (.int .i64 (k0 + totS S S.length : Nat)) ∧ SegP P R q c f (markS S k0) w' ∧ OutP P w w' := by
  have H := hid h
  have HTL := hid (totS_le S hn hb)
  have HB := hid hb
  clear h hb
  go_enter Try.func24, Try.ntmps24
  go_wp2_with fail
  go_loopw [1, 5] (fun t i wr => ∃ (j : Nat) (T : List Sg), j ≤ S.length ∧ i = .int .i64 j ∧ t = .int .i64 (k0 + totS S j : Nat) ∧ T.length = S.length ∧ (∀ a (ha : a < T.length) (hs : a < S.length), T[a].bl.length = S[a].bl.length) ∧ T.take j = (markS S k0).take j ∧ SegP P R q c f T wr ∧ OutP P w wr) (fun _ i _ => S.length - (intOf i).toNat)
  case atStart => exact ⟨0, S, Nat.zero_le _, rfl, rfl, rfl, fun _ _ _ => rfl, rfl, H.out, OutP.refl _ _⟩
  case round =>
    obtain ⟨j, T, hj, rfl, rfl, hT, hTl, htk, hP, hO⟩ := hrel
    have HP := hid hP
    have HO := hid hO
    have HTK := hid htk
    have HTLL := hid hTl
    by_cases hlt : j < S.length
    · have hjT : j < T.length := by omega
      obtain ⟨d0, d1⟩ := hP.cell j hjT
      have hbj := HB.out j hlt
      have htj := HTL.out j (by omega)
      have hle1 : j * 1048577 ≤ 1099512676352 := by
        have : j * 1048577 ≤ 1048576 * 1048577 := Nat.mul_le_mul_right _ (by omega)
        omega
      have hlenj := hTl j hjT hlt
      have hlA := lenAt_eq S j hlt
      have hkk : k0 + totS S j ≤ 4611686018427387904 := by omega
      have hown := hP.own j hjT
      have HF := hid (hP.free (j * 2 + 1) (by omega))
      clear htk hTl hO
      have hst : totS S (j + 1) = totS S j + (lenAt S j + 1) := rfl
      -- the row is marked, whatever it is
      have HROW : Hid (Calls Try.prog 11 #[.slice (q j) T[j].bl.length (c j), .int .i64 ((k0 + totS S j : Nat) : Int)] wr fun e w' => e = .returned (.int .i64 ((k0 + totS S j + lenAt S j : Nat) : Int)) ∧ SegP P R q c f (T.set j ⟨imarks (lenAt S j) (k0 + totS S j), T[j].age⟩) w' ∧ OutP P wr w') := by
        rcases hown with h0 | ⟨p1, p2, p3, p4⟩
        · have hz : lenAt S j = 0 := by rw [hlA, ← hlenj, h0]; rfl
          rw [h0]
          refine (markIntS_none (q j) (c j) (k0 + totS S j) wr).mono ?_
          rintro e w9 ⟨rfl, rfl⟩
          refine ⟨by rw [hz]; rfl, ?_, OutP.refl _ _⟩
          have e2 : T.set j ⟨imarks (lenAt S j) (k0 + totS S j), T[j].age⟩ = T := by
            have : (⟨imarks (lenAt S j) (k0 + totS S j), T[j].age⟩ : Sg) = T[j] := by
              rw [hz]
              have : T[j] = ⟨T[j].bl, T[j].age⟩ := rfl
              rw [this, h0]; rfl
            rw [this, List.set_getElem_self]
          rw [e2]; exact HP.out
        · by_cases h0 : T[j].bl = []
          · have hz : lenAt S j = 0 := by rw [hlA, ← hlenj, h0]; rfl
            rw [h0]
            refine (markIntS_none (q j) (c j) (k0 + totS S j) wr).mono ?_
            rintro e w9 ⟨rfl, rfl⟩
            refine ⟨by rw [hz]; rfl, ?_, OutP.refl _ _⟩
            have e2 : T.set j ⟨imarks (lenAt S j) (k0 + totS S j), T[j].age⟩ = T := by
              have : (⟨imarks (lenAt S j) (k0 + totS S j), T[j].age⟩ : Sg) = T[j] := by
                rw [hz]
                have : T[j] = ⟨T[j].bl, T[j].age⟩ := rfl
                rw [this, h0]; rfl
              rw [this, List.set_getElem_self]
            rw [e2]; exact HP.out
          · rw [p3]
            refine (markIntS_row (f j) (c j) (k0 + totS S j) T[j].bl wr (by omega) (by omega) hkk p4).mono ?_
            rintro e w9 ⟨rfl, r9, b9⟩
            have e3 : T[j].bl.length = lenAt S j := by rw [hlenj, hlA]
            rw [e3] at r9 ⊢
            exact ⟨rfl, HP.out.row j hjT h0 _ (by rw [imarks_len, e3]) b9 r9, OutP.but b9 p1⟩
      generalize hTj : T[j] = tj at *
      obtain ⟨tl, ta⟩ := tj
      simp only at d0 d1 hlenj HROW
      rw [← hlA] at hlenj hbj
      have HTJ := hid hTj
      rw [hlenj] at HROW d0
      clear hown hlA hP hTj hlenj
      go_wp2_with fail
      refine HROW.out.mono ?_
      rintro e w9 ⟨rfl, p9, o9⟩
      have hjU : j < (T.set j ⟨imarks (lenAt S j) (k0 + totS S j), ta⟩).length := by rw [List.length_set]; exact hjT
      obtain ⟨u0, u1⟩ := p9.cell j hjU
      rw [List.getElem_set_self] at u0 u1
      simp only at u0 u1
      have u1f := p9.free (j * 2 + 1) (by rw [List.length_set]; omega)
      have HP2 := hid (p9.age j hjU ((k0 + totS S j + lenAt S j : Nat) : Int))
      have HO2 := hid ((HO.out.trans o9).trans (OutP.set w9 R (j * 2 + 1) (.int .i64 ((k0 + totS S j + lenAt S j : Nat) : Int)) p9.r))
      have e7 : (T.set j ⟨imarks (lenAt S j) (k0 + totS S j), ta⟩).set j ⟨(T.set j ⟨imarks (lenAt S j) (k0 + totS S j), ta⟩)[j].bl, ((k0 + totS S j + lenAt S j : Nat) : Int)⟩ = T.set j ⟨imarks (lenAt S j) (k0 + totS S j), ((k0 + totS S j + lenAt S j : Nat) : Int)⟩ := by
        rw [List.set_set, List.getElem_set_self]
      rw [e7] at HP2
      have HNXT : Hid ((T.set j ⟨imarks (lenAt S j) (k0 + totS S j), ((k0 + totS S j + lenAt S j : Nat) : Int)⟩).take (j + 1) = (markS S k0).take (j + 1)) := by
        show (T.set j _).take (j + 1) = (markS S k0).take (j + 1)
        have hjm : j < (markS S k0).length := by rw [markS_len]; exact hlt
        rw [take_snoc _ j (by rw [List.length_set]; exact hjT), take_snoc _ j hjm, List.take_set_of_le (Nat.le_refl _), HTK.out, List.getElem_set_self, markS_at]
      have HLL2 : Hid (∀ a (ha : a < (T.set j ⟨imarks (lenAt S j) (k0 + totS S j), ((k0 + totS S j + lenAt S j : Nat) : Int)⟩).length) (hs : a < S.length), (T.set j ⟨imarks (lenAt S j) (k0 + totS S j), ((k0 + totS S j + lenAt S j : Nat) : Int)⟩)[a].bl.length = S[a].bl.length) := fun a ha hs => by
        rw [List.getElem_set]
        by_cases e : j = a
        · subst e
          rw [if_pos rfl]
          show (imarks (lenAt S j) (k0 + totS S j)).length = _
          rw [imarks_len, lenAt_eq S j hs]
        · rw [if_neg e]; exact HTLL.out a (by simpa using ha) hs
      clear p9 o9 e7 HROW d0 d1 HTK HTLL hjU u0
      have HTT : Hid ((T.set j ⟨imarks (lenAt S j) (k0 + totS S j), ((k0 + totS S j + lenAt S j : Nat) : Int)⟩).length = S.length) := by show (T.set j _).length = S.length; rw [List.length_set]; exact hT
      have hk9 : k0 + totS S j + lenAt S j ≤ 4611686018427387904 := by omega
      have HST := hid hst
      clear hst
      generalize T.set j ⟨imarks (lenAt S j) (k0 + totS S j), ((k0 + totS S j + lenAt S j : Nat) : Int)⟩ = T2 at *
      go_wp2_with fail
      go_roundw
      case rel => exact ⟨j + 1, T2, by omega, by go_num, by rw [HST.out]; go_num, HTT.out, HLL2.out, HNXT.out, HP2.out, HO2.out⟩
      case measure => simp [intOf]; omega
    · obtain rfl : j = S.length := by omega
      clear hP hO hTl
      go_wp2_with fail
      go_ret
      rw [List.take_of_length_le (by omega), List.take_of_length_le (by rw [markS_len]; omega)] at htk
      subst htk
      exact ⟨rfl, HP.out, HO.out⟩
end Go.Proofs.Ytbomcppkgpfjjaa
namespace Go.Proofs.Ytbomcppkgpfjjaa
set_option maxRecDepth 100000
open Go.ChangeShapes Go.WideShapes Go.ChangeAt Go.RowKit G00541
/-- rows whose cells may be marked -/
structure LivP (P : Nat → Prop) (R : Nat) (q : Nat → Option Addr) (c f : Nat → Nat) (L : List (List Bool)) (w : World) : Prop where
  r : P R
  r1 : R < w.heap.size
  cell : ∀ i (h : i < L.length), w.cell? ⟨R, i, none⟩ = some (.slice (q i) L[i].length (c i))
  own : ∀ i (h : i < L.length), L[i] = [] ∨ (P (f i) ∧ f i ≠ R ∧ q i = some ⟨f i, 0, none⟩ ∧ BRow (f i) L[i] w)
  apart : ∀ i j (h : i < L.length) (g : j < L.length), i ≠ j → L[i] ≠ [] → L[j] ≠ [] → f i ≠ f j
theorem LivP.keep {P Q : Nat → Prop} {R : Nat} {q : Nat → Option Addr} {c f : Nat → Nat} {L : List (List Bool)} {w w' : World} (h : LivP P R q c f L w) (g : OutP Q w w') (hPQ : ∀ k, P k → ¬ Q k) : LivP P R q c f L w' := by
  have hb := g.block R h.r1 (hPQ R h.r)
  refine ⟨h.r, Nat.lt_of_lt_of_le h.r1 g.size, fun i hi => ?_, fun i hi => ?_, h.apart⟩
  · exact (World.cell?_of_block (a := ⟨R, _, none⟩) hb).trans (h.cell i hi)
  · rcases h.own i hi with h0 | ⟨h1, h2, h3, h4⟩
    · exact Or.inl h0
    · exact Or.inr ⟨h1, h2, h3, h4.same g.size (g.block _ h4.lt (hPQ _ h1))⟩
theorem LivP.row {P : Nat → Prop} {R : Nat} {q : Nat → Option Addr} {c f : Nat → Nat} {L : List (List Bool)} {w w' : World} (h : LivP P R q c f L w) (j : Nat) (hj : j < L.length) (hne : L[j] ≠ []) (l : List Bool) (hl : l.length = L[j].length) (g : But (f j) w w') (hr : BRow (f j) l w') : LivP P R q c f (L.set j l) w' := by
  obtain ⟨p1, p2, p3, p4⟩ : P (f j) ∧ f j ≠ R ∧ q j = some ⟨f j, 0, none⟩ ∧ BRow (f j) L[j] w := by
    rcases h.own j hj with h0 | h0
    · exact absurd h0 hne
    · exact h0
  have hb := g.block R h.r1 (fun e => p2 e.symm)
  refine ⟨h.r, Nat.lt_of_lt_of_le h.r1 g.size, fun i hi => ?_, fun i hi => ?_, fun a b ha hb' hab h1 h2 => ?_⟩
  · have hi' : i < L.length := by simpa using hi
    have h1 := h.cell i hi'
    rw [List.getElem_set]
    by_cases e : j = i
    · subst e
      rw [if_pos rfl, hl]
      exact (World.cell?_of_block (a := ⟨R, _, none⟩) hb).trans h1
    · rw [if_neg e]
      exact (World.cell?_of_block (a := ⟨R, _, none⟩) hb).trans h1
  · have hi' : i < L.length := by simpa using hi
    rw [List.getElem_set]
    by_cases e : j = i
    · subst e
      rw [if_pos rfl]
      exact Or.inr ⟨p1, p2, p3, hr⟩
    · rw [if_neg e]
      by_cases h0 : L[i] = []
      · exact Or.inl h0
      · rcases h.own i hi' with h9 | ⟨h1, h2, h3, h4⟩
        · exact absurd h9 h0
        · exact Or.inr ⟨h1, h2, h3, h4.same g.size (g.block _ h4.lt (h.apart i j hi' hj (fun x => e x.symm) h0 hne))⟩
  · have ha' : a < L.length := by simpa using ha
    have hb2 : b < L.length := by simpa using hb'
    rw [List.getElem_set] at h1 h2
    refine h.apart a b ha' hb2 hab ?_ ?_
    · by_cases e : j = a
      · subst e; exact hne
      · rw [if_neg e] at h1; exact h1
    · by_cases e : j = b
      · subst e; exact hne
      · rw [if_neg e] at h2; exact h2
def lnAt (L : List (List Bool)) (k : Nat) : Nat := (L.getD k []).length
theorem lnAt_eq (L : List (List Bool)) (k : Nat) (h : k < L.length) : lnAt L k = L[k].length := by
  unfold lnAt
  rw [List.getD_eq_getElem?_getD, List.getElem?_eq_getElem h]; rfl
def totL (L : List (List Bool)) : Nat → Nat
  | 0 => 0
  | j + 1 => totL L j + lnAt L j
def markL (L : List (List Bool)) (k : Nat) : List (List Bool) := (List.range L.length).map fun i => bmarks (lnAt L i) (k + totL L i)
theorem markL_len (L : List (List Bool)) (k : Nat) : (markL L k).length = L.length := by simp [markL]
theorem markL_at (L : List (List Bool)) (k i : Nat) (h : i < (markL L k).length) : (markL L k)[i] = bmarks (lnAt L i) (k + totL L i) := by simp [markL]
theorem totL_le (L : List (List Bool)) (hn : L.length ≤ 1048576) (hb : ∀ k (h : k < L.length), L[k].length ≤ 1048576) : ∀ j, j ≤ L.length → totL L j ≤ j * 1048577
  | 0, _ => by simp [totL]
  | j + 1, h => by
    have h1 := totL_le L hn hb j (by omega)
    have h2 := hb j (by omega)
    rw [← lnAt_eq L j (by omega)] at h2
    unfold totL
    omega
set_option maxHeartbeats 1000000 in
theorem markBoolSS_p (P : Nat → Prop) (R cap k0 : Nat) (q : Nat → Option Addr) (c f : Nat → Nat) (L : List (List Bool)) (w : World) (hn : L.length ≤ 1048576) (hb : ∀ k (h : k < L.length), L[k].length ≤ 1048576) (k1 : 1 ≤ k0) (k2 : k0 ≤ 2305843009213693952) (h : LivP P R q c f L w) :
    Calls Try.prog 25 #[.slice (some ⟨R, 0, none⟩) L.length cap, .int .i64 k0] w fun e w' => e = .returned (.int .i64 (k0 + totL L L.length : Nat)) ∧ LivP P R q c f (markL L k0) w' ∧ OutP P w w' := by
  have H := hid h
  have HTL := hid (totL_le L hn hb)
  have HB := hid hb
  clear h hb
  go_enter Try.func25, Try.ntmps25
  go_wp2_with fail
  go_loopw [1, 5] (fun t i wr => ∃ (j : Nat) (T : List (List Bool)), j ≤ L.length ∧ i = .int .i64 j ∧ t = .int .i64 (k0 + totL L j : Nat) ∧ T.length = L.length ∧ (∀ a (ha : a < T.length) (hs : a < L.length), T[a].length = L[a].length) ∧ T.take j = (markL L k0).take j ∧ LivP P R q c f T wr ∧ OutP P w wr) (fun _ i _ => L.length - (intOf i).toNat)
  case atStart => exact ⟨0, L, Nat.zero_le _, rfl, rfl, rfl, fun _ _ _ => rfl, rfl, H.out, OutP.refl _ _⟩
  case round =>
    obtain ⟨j, T, hj, rfl, rfl, hT, hTl, htk, hP, hO⟩ := hrel
    have HP := hid hP
    have HO := hid hO
    have HTK := hid htk
    have HTLL := hid hTl
    by_cases hlt : j < L.length
    · have hjT : j < T.length := by omega
      have d0 := hP.cell j hjT
      have hbj := HB.out j hlt
      have htj := HTL.out j (by omega)
      have hle1 : j * 1048577 ≤ 1099512676352 := by
        have : j * 1048577 ≤ 1048576 * 1048577 := Nat.mul_le_mul_right _ (by omega)
        omega
      have hlenj := hTl j hjT hlt
      have hlA := lnAt_eq L j hlt
      have hkk : k0 + totL L j ≤ 4611686018427387904 := by omega
      have hown := hP.own j hjT
      clear htk hTl hO
      have hst : totL L (j + 1) = totL L j + lnAt L j := rfl
      have e3 : T[j].length = lnAt L j := by rw [hlenj, hlA]
      have HROW : Hid (Calls Try.prog 38 #[.slice (q j) T[j].length (c j), .int .i64 ((k0 + totL L j : Nat) : Int)] wr fun e w' => e = .returned (.int .i64 ((k0 + totL L j + lnAt L j : Nat) : Int)) ∧ LivP P R q c f (T.set j (bmarks (lnAt L j) (k0 + totL L j))) w' ∧ OutP P wr w') := by
        by_cases h0 : T[j] = []
        · have hz : lnAt L j = 0 := by rw [← e3, h0]; rfl
          rw [h0]
          refine (markBoolS_none (q j) (c j) (k0 + totL L j) wr).mono ?_
          rintro e w9 ⟨rfl, rfl⟩
          refine ⟨by rw [hz]; rfl, ?_, OutP.refl _ _⟩
          have e2 : T.set j (bmarks (lnAt L j) (k0 + totL L j)) = T := by
            have : bmarks (lnAt L j) (k0 + totL L j) = T[j] := by rw [hz, h0]; rfl
            rw [this, List.set_getElem_self]
          rw [e2]; exact HP.out
        · rcases hown with h9 | ⟨p1, p2, p3, p4⟩
          · exact absurd h9 h0
          · rw [p3]
            refine (markBoolS_row (f j) (c j) (k0 + totL L j) T[j] wr (by omega) (by omega) hkk p4).mono ?_
            rintro e w9 ⟨rfl, r9, b9⟩
            rw [e3] at r9 ⊢
            exact ⟨rfl, HP.out.row j hjT h0 _ (by rw [bmarks_len, e3]) b9 r9, OutP.but b9 p1⟩
      rw [e3] at HROW d0
      have HNXT : Hid ((T.set j (bmarks (lnAt L j) (k0 + totL L j))).take (j + 1) = (markL L k0).take (j + 1)) := by
        show (T.set j _).take (j + 1) = (markL L k0).take (j + 1)
        have hjm : j < (markL L k0).length := by rw [markL_len]; exact hlt
        rw [take_snoc _ j (by rw [List.length_set]; exact hjT), take_snoc _ j hjm, List.take_set_of_le (Nat.le_refl _), HTK.out, List.getElem_set_self, markL_at]
      have HLL2 : Hid (∀ a (ha : a < (T.set j (bmarks (lnAt L j) (k0 + totL L j))).length) (hs : a < L.length), (T.set j (bmarks (lnAt L j) (k0 + totL L j)))[a].length = L[a].length) := fun a ha hs => by
        rw [List.getElem_set]
        by_cases e : j = a
        · subst e
          rw [if_pos rfl, bmarks_len, lnAt_eq L j hs]
        · rw [if_neg e]; exact HTLL.out a (by simpa using ha) hs
      have HTT : Hid ((T.set j (bmarks (lnAt L j) (k0 + totL L j))).length = L.length) := by show (T.set j _).length = L.length; rw [List.length_set]; exact hT
      have HST := hid hst
      have hln : lnAt L j ≤ 1048576 := by omega
      clear hown hlA hP hlenj e3 hst HTK HTLL hbj
      generalize T.set j (bmarks (lnAt L j) (k0 + totL L j)) = T2 at *
      go_wp2_with fail
      refine HROW.out.mono ?_
      rintro e w9 ⟨rfl, p9, o9⟩
      have HP2 := hid p9
      have HO2 := hid (HO.out.trans o9)
      clear p9 o9 HROW d0
      go_wp2_with fail
      go_roundw
      case rel => exact ⟨j + 1, T2, by omega, by go_num, by rw [HST.out]; go_num, HTT.out, HLL2.out, HNXT.out, HP2.out, HO2.out⟩
      case measure => simp [intOf]; omega
    · obtain rfl : j = L.length := by omega
      clear hP hO hTl
      go_wp2_with fail
      go_ret
      rw [List.take_of_length_le (by omega), List.take_of_length_le (by rw [markL_len]; omega)] at htk
      subst htk
      exact ⟨rfl, HP.out, HO.out⟩
end Go.Proofs.Ytbomcppkgpfjjaa
namespace Go.Proofs.Ytbomcppkgpfjjaa
set_option maxRecDepth 100000
open Go.ChangeShapes Go.WideShapes Go.ChangeAt Go.RowKit G00541
theorem markSegS_none (a : Option Addr) (cap k0 : Nat) (w : World) : Calls Try.prog 24 #[.slice a 0 cap, .int .i64 k0] w fun e w' => e = .returned (.int .i64 k0) ∧ w' = w := by
  go_enter Try.func24, Try.ntmps24
  go_wp2
  go_loop [1, 5] (fun t i => t = .int .i64 k0 ∧ i = .int .i64 0) (fun _ _ => 0)
  case atStart => exact ⟨rfl, rfl⟩
  case round =>
    obtain ⟨rfl, rfl⟩ := hrel
    go_wp2
    go_ret
    exact ⟨rfl, rfl⟩
theorem markBoolSS_none (a : Option Addr) (cap k0 : Nat) (w : World) : Calls Try.prog 25 #[.slice a 0 cap, .int .i64 k0] w fun e w' => e = .returned (.int .i64 k0) ∧ w' = w := by
  go_enter Try.func25, Try.ntmps25
  go_wp2
  go_loop [1, 5] (fun t i => t = .int .i64 k0 ∧ i = .int .i64 0) (fun _ _ => 0)
  case atStart => exact ⟨rfl, rfl⟩
  case round =>
    obtain ⟨rfl, rfl⟩ := hrel
    go_wp2
    go_ret
    exact ⟨rfl, rfl⟩
def MS (P : Nat → Prop) (a : Option Addr) (q : Nat → Option Addr) (c f : Nat → Nat) (S : List Sg) (w : World) : Prop := S = [] ∨ ∃ R, a = some ⟨R, 0, none⟩ ∧ SegP P R q c f S w
def ML (P : Nat → Prop) (a : Option Addr) (q : Nat → Option Addr) (c f : Nat → Nat) (L : List (List Bool)) (w : World) : Prop := L = [] ∨ ∃ R, a = some ⟨R, 0, none⟩ ∧ LivP P R q c f L w
theorem MS.gs {P : Nat → Prop} {a : Option Addr} {q : Nat → Option Addr} {c f : Nat → Nat} {S : List Sg} {w : World} (h : MS P a q c f S w) : Gs w.heap.size a S w := fun h0 => by
  rcases h with rfl | ⟨R, rfl, h⟩
  · exact absurd h0 (by simp)
  · refine ⟨R, 0, rfl, h.r1, fun i hi => ?_⟩
    obtain ⟨h1, h2⟩ := h.cell i hi
    refine ⟨q i, c i, by rw [Nat.zero_add]; exact h1, by rw [Nat.zero_add]; exact h2, ?_⟩
    rcases h.own i hi with h0 | ⟨_, _, h3, h4⟩
    · rw [h0]; exact ⟨fun h0 => absurd h0 (by simp)⟩
    · rw [h3]; exact h4.sl h4.lt
theorem ML.vs {P : Nat → Prop} {a : Option Addr} {q : Nat → Option Addr} {c f : Nat → Nat} {L : List (List Bool)} {w : World} (h : ML P a q c f L w) : Vs w.heap.size a L w := fun h0 => by
  rcases h with rfl | ⟨R, rfl, h⟩
  · exact absurd h0 (by simp)
  · refine ⟨R, 0, rfl, h.r1, fun i hi => ?_⟩
    refine ⟨q i, c i, by rw [Nat.zero_add]; exact h.cell i hi, ?_⟩
    rcases h.own i hi with h0 | ⟨_, _, h3, h4⟩
    · rw [h0]; exact ⟨fun h0 => absurd h0 (by simp)⟩
    · rw [h3]; exact h4.sl h4.lt
theorem MS.keep {P Q : Nat → Prop} {a : Option Addr} {q : Nat → Option Addr} {c f : Nat → Nat} {S : List Sg} {w w' : World} (h : MS P a q c f S w) (g : OutP Q w w') (hPQ : ∀ k, P k → ¬ Q k) : MS P a q c f S w' := by
  rcases h with h | ⟨R, e, h⟩
  · exact Or.inl h
  · exact Or.inr ⟨R, e, h.keep g hPQ⟩
theorem ML.keep {P Q : Nat → Prop} {a : Option Addr} {q : Nat → Option Addr} {c f : Nat → Nat} {L : List (List Bool)} {w w' : World} (h : ML P a q c f L w) (g : OutP Q w w') (hPQ : ∀ k, P k → ¬ Q k) : ML P a q c f L w' := by
  rcases h with h | ⟨R, e, h⟩
  · exact Or.inl h
  · exact Or.inr ⟨R, e, h.keep g hPQ⟩
/-- a heap whose cells may be marked, in blocks of P -/
def MkH (P : Nat → Prop) (aS aL : Option Addr) (S : List Sg) (L : List (List Bool)) (w : World) : Prop := ∃ (P1 P2 : Nat → Prop) (q : Nat → Option Addr) (c f : Nat → Nat) (q' : Nat → Option Addr) (c' f' : Nat → Nat), (∀ k, P1 k → ¬ P2 k) ∧ (∀ k, P1 k → P k) ∧ (∀ k, P2 k → P k) ∧ MS P1 aS q c f S w ∧ ML P2 aL q' c' f' L w
theorem MkH.read {P : Nat → Prop} {aS aL : Option Addr} {S : List Sg} {L : List (List Bool)} {w : World} (h : MkH P aS aL S L w) : Gs w.heap.size aS S w ∧ Vs w.heap.size aL L w := by
  obtain ⟨_, _, _, _, _, _, _, _, _, _, _, h1, h2⟩ := h
  exact ⟨h1.gs, h2.vs⟩
theorem MkH.keep {P Q : Nat → Prop} {aS aL : Option Addr} {S : List Sg} {L : List (List Bool)} {w w' : World} (h : MkH P aS aL S L w) (g : OutP Q w w') (hPQ : ∀ k, P k → ¬ Q k) : MkH P aS aL S L w' := by
  obtain ⟨P1, P2, q, c, f, q', c', f', d, i1, i2, h1, h2⟩ := h
  exact ⟨P1, P2, q, c, f, q', c', f', d, i1, i2, h1.keep g (fun k hk => hPQ k (i1 k hk)), h2.keep g (fun k hk => hPQ k (i2 k hk))⟩
theorem OutP.below {w w' : World} (h : Below w.heap.size w w') : OutP (fun _ => False) w w' := ⟨h.os, h.tape, h.output, h.size, fun k hk _ => h.block k hk⟩
theorem MkH.on {P : Nat → Prop} {aS aL : Option Addr} {S : List Sg} {L : List (List Bool)} {w w' : World} (h : MkH P aS aL S L w) (g : Below w.heap.size w w') : MkH P aS aL S L w' := h.keep (OutP.below g) (fun _ _ h => h)
theorem markSegS_m (P : Nat → Prop) (a : Option Addr) (cap k0 : Nat) (q : Nat → Option Addr) (c f : Nat → Nat) (S : List Sg) (w : World) (hn : S.length ≤ 1048576) (hb : ∀ k (h : k < S.length), S[k].bl.length ≤ 1048576) (k1 : 1 ≤ k0) (k2 : k0 ≤ 2305843009213693952) (h : MS P a q c f S w) :
    Calls Try.prog 24 #[.slice a S.length cap, .int .i64 k0] w fun e w' => e = .returned (.int .i64 (k0 + totS S S.length : Nat)) ∧ MS P a q c f (markS S k0) w' ∧ OutP P w w' := by
  rcases h with rfl | ⟨R, rfl, h⟩
  · refine (markSegS_none a cap k0 w).mono ?_
    rintro e w' ⟨rfl, rfl⟩
    exact ⟨rfl, Or.inl rfl, OutP.refl _ _⟩
  · refine (markSegS_p P R cap k0 q c f S w hn hb k1 k2 h).mono ?_
    rintro e w' ⟨rfl, h1, h2⟩
    exact ⟨rfl, Or.inr ⟨R, rfl, h1⟩, h2⟩
theorem markBoolSS_m (P : Nat → Prop) (a : Option Addr) (cap k0 : Nat) (q : Nat → Option Addr) (c f : Nat → Nat) (L : List (List Bool)) (w : World) (hn : L.length ≤ 1048576) (hb : ∀ k (h : k < L.length), L[k].length ≤ 1048576) (k1 : 1 ≤ k0) (k2 : k0 ≤ 2305843009213693952) (h : ML P a q c f L w) :
    Calls Try.prog 25 #[.slice a L.length cap, .int .i64 k0] w fun e w' => e = .returned (.int .i64 (k0 + totL L L.length : Nat)) ∧ ML P a q c f (markL L k0) w' ∧ OutP P w w' := by
  rcases h with rfl | ⟨R, rfl, h⟩
  · refine (markBoolSS_none a cap k0 w).mono ?_
    rintro e w' ⟨rfl, rfl⟩
    exact ⟨rfl, Or.inl rfl, OutP.refl _ _⟩
  · refine (markBoolSS_p P R cap k0 q c f L w hn hb k1 k2 h).mono ?_
    rintro e w' ⟨rfl, h1, h2⟩
    exact ⟨rfl, Or.inr ⟨R, rfl, h1⟩, h2⟩
def totH (S : List Sg) (L : List (List Bool)) : Nat := 1 + totS S S.length + totL L L.length
theorem totH_le {S : List Sg} {L : List (List Bool)} (hf : FitH S L) : totH S L ≤ 4000000000000 ∧ 1 + totS S S.length ≤ 2000000000000 := by
  have h1 := totS_le S hf.1 hf.2.1 S.length (Nat.le_refl _)
  have h2 := totL_le L hf.2.2.1 hf.2.2.2 L.length (Nat.le_refl _)
  have h3 : S.length * 1048577 ≤ 1048576 * 1048577 := Nat.mul_le_mul_right _ hf.1
  have h4 : L.length * 1048577 ≤ 1048576 * 1048577 := Nat.mul_le_mul_right _ hf.2.2.1
  unfold totH
  omega
set_option maxHeartbeats 1000000 in
theorem markHeap_m (P : Nat → Prop) (aS aL : Option Addr) (kS kL : Nat) (S : List Sg) (L : List (List Bool)) (w : World) (hf : FitH S L) (hP : ∀ k, P k → k < w.heap.size) (h : MkH P aS aL S L w) :
    Calls Try.prog 10 #[.agg #[.slice aS S.length kS, .slice aL L.length kL], .int .i64 1] w fun e w' => e = .returned (.int .i64 (totH S L : Nat)) ∧ MkH P aS aL (markS S 1) (markL L (1 + totS S S.length)) w' ∧ OutP P w w' := by
  have HB : Hid (Below w.heap.size w (w.alloc (.cells #[.slice aS S.length kS, .slice aL L.length kL] 32))) := boxB w _
  have y0 : (w.alloc (.cells #[.slice aS S.length kS, .slice aL L.length kL] 32)).cell? ⟨w.heap.size, 0, none⟩ = some (.slice aS S.length kS) := by go_simp
  have y1 : (w.alloc (.cells #[.slice aS S.length kS, .slice aL L.length kL] 32)).cell? ⟨w.heap.size, 1, none⟩ = some (.slice aL L.length kL) := by go_simp
  obtain ⟨P1, P2, q, c, f, q', c', f', dj, i1, i2, h1, h2⟩ := h.on HB.out
  have hsz : (w.alloc (.cells #[.slice aS S.length kS, .slice aL L.length kL] 32)).heap.size = w.heap.size + 1 := heap_size _ _
  have HT := hid (totH_le hf)
  have HC1 := hid (markSegS_m P1 aS kS 1 q c f S _ hf.1 hf.2.1 (by decide) (by decide) h1)
  have HC2 : Hid (∀ v, ML P2 aL q' c' f' L v → Calls Try.prog 25 #[.slice aL L.length kL, .int .i64 ((1 + totS S S.length : Nat) : Int)] v fun e w' => e = .returned (.int .i64 (1 + totS S S.length + totL L L.length : Nat)) ∧ ML P2 aL q' c' f' (markL L (1 + totS S S.length)) w' ∧ OutP P2 v w') := fun v hv => markBoolSS_m P2 aL kL (1 + totS S S.length) q' c' f' L v hf.2.2.1 hf.2.2.2 (by omega) (by have := HT.out.2; omega) hv
  have H2 := hid h2
  have HDJ := hid dj
  have HDJ2 : Hid (∀ k, P2 k → ¬ P1 k) := fun k h h' => dj k h' h
  have HI1 := hid i1
  have HI2 := hid i2
  have HX : Hid (¬ P1 w.heap.size) := fun hp => by have := hP _ (i1 _ hp); omega
  have HE : Hid (totH S L = 1 + totS S S.length + totL L L.length) := rfl
  rw [HE.out]
  clear h h1 h2 dj i1 i2 hP hf HE
  generalize hW : w.alloc (.cells #[.slice aS S.length kS, .slice aL L.length kL] 32) = W at *
  generalize 1 + totS S S.length = K at *
  go_enter Try.func10, Try.ntmps10
  go_wp2_with fail
  refine HC1.out.mono ?_
  rintro e w2 ⟨rfl, s2, o2⟩
  have y2 := (World.cell?_of_block (a := ⟨w.heap.size, 1, none⟩) (o2.block w.heap.size (by omega) HX.out)).trans y1
  have HC3 := hid (HC2.out w2 (H2.out.keep o2 HDJ2.out))
  have HS2 := hid s2
  have HO2 := hid (((OutP.below HB.out).wide (fun _ h => h.elim)).trans (o2.wide HI1.out))
  clear s2 o2 y0 y1 HC1 HC2 H2 hW
  go_wp2_with fail
  refine HC3.out.mono ?_
  rintro e w3 ⟨rfl, l3, o3⟩
  have HR3 : Hid (MkH P aS aL (markS S 1) (markL L K) w3) := ⟨P1, P2, q, c, f, q', c', f', HDJ.out, HI1.out, HI2.out, HS2.out.keep o3 HDJ.out, l3⟩
  have HO3 := hid (HO2.out.trans (o3.wide HI2.out))
  clear l3 o3 HC3 HS2 HO2 y2
  go_wp2_with fail
  go_ret
  exact ⟨rfl, HR3.out, HO3.out⟩
end Go.Proofs.Ytbomcppkgpfjjaa
namespace Go.Proofs.Ytbomcppkgpfjjaa
set_option maxRecDepth 100000
open Go Go.ChangeShapes Go.WideShapes Go.ChangeAt Go.RowKit G00541
/-- blocks lo .. hi - 1 -/
def Btw (lo hi : Nat) (k : Nat) : Prop := lo ≤ k ∧ k < hi
theorem HOw.mk {lo hi RS RL : Nat} {S : List Sg} {L : List (List Bool)} {w : World} (h : HOw lo hi RS RL S L w) : MkH (Btw lo hi) (some ⟨RS, 0, none⟩) (some ⟨RL, 0, none⟩) S L w := by
  obtain ⟨mid, qS, cS, fS, qL, cL, fL, h0, h1, h2⟩ := h
  have a1 := h1.r0; have a2 := h1.r1; have a3 := h1.r2
  have b1 := h2.r0; have b2 := h2.r1; have b3 := h2.r2
  refine ⟨Btw lo mid, Btw mid hi, qS, cS, fS, qL, cL, fL, fun k h g => ?_, fun k h => ?_, fun k h => ?_, Or.inr ⟨RS, rfl, ⟨⟨a1, a2⟩, by omega, h1.cell, h1.free, fun i hi => ?_, h1.apart⟩⟩, Or.inr ⟨RL, rfl, ⟨⟨b1, b2⟩, by omega, h2.cell, fun i hi => ?_, h2.apart⟩⟩⟩
  · have := h.2; have := g.1; omega
  · exact ⟨h.1, by have := h.2; omega⟩
  · exact ⟨by have := h.1; omega, h.2⟩
  · rcases h1.own i hi with h | ⟨g1, g2, g3, g4, g5⟩
    · exact Or.inl h
    · exact Or.inr ⟨⟨g1, g2⟩, g3, g4, g5⟩
  · rcases h2.own i hi with h | ⟨g1, g2, g3, g4, g5⟩
    · exact Or.inl h
    · exact Or.inr ⟨⟨g1, g2⟩, g3, g4, g5⟩
def adr : Value → Option Addr
  | .slice a _ _ => a
  | _ => none
def cpt : Value → Nat
  | .slice _ _ c => c
  | _ => 0
def blk (v : Value) : Nat := v.ownBlock.getD 0
theorem HR.mk {lo : Nat} {aS aL : Option Addr} {kS kL nS nL : Nat} {S : List Sg} {L : List (List Bool)} {w : World} (h : HR lo (.slice aS nS kS) (.slice aL nL kL) S L w) : MkH (Btw lo w.heap.size) aS aL S L w := by
  obtain ⟨hl, q, p, hF⟩ := h
  have hs : w.ownsRow lo 43 2 (.slice aS nS kS) S.length (segXs q S) := hF.own .s trivial
  have hL : w.ownsRow lo 44 1 (.slice aL nL kL) L.length (livXs p L.length) := hF.own .l trivial
  have hb : ∀ i, i < S.length → w.ownsRow lo 3 1 (q i) (blAt S i).length (ivals (blAt S i)) := fun i hi => hF.own (.b i) hi
  have hv : ∀ i, i < L.length → w.ownsRow lo 4 1 (p i) (lvAt L i).length (bvals (lvAt L i)) := fun i hi => hF.own (.v i) (show i < S.length by omega)
  refine ⟨fun k => (Value.slice aS nS kS).ownBlock = some k ∨ ∃ i, i < S.length ∧ (q i).ownBlock = some k, fun k => (Value.slice aL nL kL).ownBlock = some k ∨ ∃ i, i < L.length ∧ (p i).ownBlock = some k,
    fun i => adr (q i), fun i => cpt (q i), fun i => blk (q i), fun i => adr (p i), fun i => cpt (p i), fun i => blk (p i), ?_, ?_, ?_, ?_, ?_⟩
  · rintro k (h | ⟨i, hi, h⟩) (g | ⟨j, hj, g⟩)
    · exact hF.apart .s .l trivial trivial (by intro e; cases e) k h g
    · exact hF.apart .s (.v j) trivial (show j < S.length by omega) (by intro e; cases e) k h g
    · exact hF.apart (.b i) .l hi trivial (by intro e; cases e) k h g
    · exact hF.apart (.b i) (.v j) hi (show j < S.length by omega) (by intro e; cases e) k h g
  · rintro k (h | ⟨i, hi, h⟩)
    · exact hs.lt k h
    · exact (hb i hi).lt k h
  · rintro k (h | ⟨i, hi, h⟩)
    · exact hL.lt k h
    · exact (hv i hi).lt k h
  · by_cases h0 : S = []
    · exact Or.inl h0
    · have h0' : 0 < S.length := List.length_pos_iff.2 h0
      obtain ⟨g, c, e, g1, g2⟩ := rw_block hs h0'
      have ea : aS = some ⟨g, 0, none⟩ := by injection e
      have hown : (Value.slice aS nS kS).ownBlock = some g := by rw [ea]; rfl
      refine Or.inr ⟨g, ea, ⟨Or.inl hown, g2, fun i hi => ?_, fun j hj => rw_free hs hown j, fun i hi => ?_, fun i j hi hj hij hi0 hj0 => ?_⟩⟩
      · have h1 := rw_cell hs hown (i * 2) (by rw [segXs_len]; omega)
        have h2 := rw_cell hs hown (i * 2 + 1) (by rw [segXs_len]; omega)
        rw [segXs_q] at h1
        rw [segXs_age, ageAt_eq S i hi] at h2
        obtain ⟨a, c, e4⟩ := rw_form (hb i hi)
        rw [blAt_eq S i hi] at e4
        refine ⟨?_, h2⟩
        rw [h1]
        show some (q i) = some (.slice (adr (q i)) S[i].bl.length (cpt (q i)))
        rw [e4]; rfl
      · by_cases h9 : S[i].bl = []
        · exact Or.inl h9
        · have hr := hb i hi
          rw [blAt_eq S i hi] at hr
          obtain ⟨R, c, e4, r1, r2⟩ := own_irow hr (List.length_pos_iff.2 h9)
          have e5 : (q i).ownBlock = some R := by rw [e4]; rfl
          have e6 : blk (q i) = R := by unfold blk; rw [e5]; rfl
          refine Or.inr ⟨Or.inr ⟨i, hi, by rw [e6]; exact e5⟩, fun e7 => ?_, ?_, by rw [e6]; exact r2⟩
          · exact hF.apart .s (.b i) trivial hi (by intro e; cases e) g hown (by rw [← e7, e6]; exact e5)
          · show adr (q i) = some ⟨blk (q i), 0, none⟩
            rw [e6, e4]; rfl
      · have hr := hb i hi
        have hr2 := hb j hj
        rw [blAt_eq S i hi] at hr
        rw [blAt_eq S j hj] at hr2
        obtain ⟨R, c, e4, _, _⟩ := own_irow hr (List.length_pos_iff.2 hi0)
        obtain ⟨R2, c2, e5, _, _⟩ := own_irow hr2 (List.length_pos_iff.2 hj0)
        have f4 : (q i).ownBlock = some R := by rw [e4]; rfl
        have f5 : (q j).ownBlock = some R2 := by rw [e5]; rfl
        show blk (q i) ≠ blk (q j)
        unfold blk
        rw [f4, f5]
        intro e
        exact hF.apart (.b i) (.b j) hi hj (by intro e2; injection e2 with e2; exact hij e2) R f4 (f5.trans (congrArg some (show R2 = R from e.symm)))
  · by_cases h0 : L = []
    · exact Or.inl h0
    · have h0' : 0 < L.length := List.length_pos_iff.2 h0
      obtain ⟨g, c, e, g1, g2⟩ := rw_block hL h0'
      have ea : aL = some ⟨g, 0, none⟩ := by injection e
      have hown : (Value.slice aL nL kL).ownBlock = some g := by rw [ea]; rfl
      refine Or.inr ⟨g, ea, ⟨Or.inl hown, g2, fun i hi => ?_, fun i hi => ?_, fun i j hi hj hij hi0 hj0 => ?_⟩⟩
      · have h1 := rw_cell hL hown i (by rw [livXs_len]; omega)
        rw [livXs_at] at h1
        obtain ⟨a, c, e4⟩ := rw_form (hv i hi)
        rw [lvAt_eq L i hi] at e4
        rw [h1]
        show some (p i) = some (.slice (adr (p i)) L[i].length (cpt (p i)))
        rw [e4]; rfl
      · by_cases h9 : L[i] = []
        · exact Or.inl h9
        · have hr := hv i hi
          rw [lvAt_eq L i hi] at hr
          obtain ⟨R, c, e4, r1, r2⟩ := own_brow hr (List.length_pos_iff.2 h9)
          have e5 : (p i).ownBlock = some R := by rw [e4]; rfl
          have e6 : blk (p i) = R := by unfold blk; rw [e5]; rfl
          refine Or.inr ⟨Or.inr ⟨i, hi, by rw [e6]; exact e5⟩, fun e7 => ?_, ?_, by rw [e6]; exact r2⟩
          · exact hF.apart .l (.v i) trivial (show i < S.length by omega) (by intro e; cases e) g hown (by rw [← e7, e6]; exact e5)
          · show adr (p i) = some ⟨blk (p i), 0, none⟩
            rw [e6, e4]; rfl
      · have hr := hv i hi
        have hr2 := hv j hj
        rw [lvAt_eq L i hi] at hr
        rw [lvAt_eq L j hj] at hr2
        obtain ⟨R, c, e4, _, _⟩ := own_brow hr (List.length_pos_iff.2 hi0)
        obtain ⟨R2, c2, e5, _, _⟩ := own_brow hr2 (List.length_pos_iff.2 hj0)
        have f4 : (p i).ownBlock = some R := by rw [e4]; rfl
        have f5 : (p j).ownBlock = some R2 := by rw [e5]; rfl
        show blk (p i) ≠ blk (p j)
        unfold blk
        rw [f4, f5]
        intro e
        exact hF.apart (.v i) (.v j) (show i < S.length by omega) (show j < S.length by omega) (by intro e2; injection e2 with e2; exact hij e2) R f4 (f5.trans (congrArg some (show R2 = R from e.symm)))
end Go.Proofs.Ytbomcppkgpfjjaa
