/- Marks over rows of rows of numbers. -/
import Derived.Test.YtikmkkklgdkpaaaFcRR
namespace Go.Proofs.Ytikmkkklgdkpaaa
set_option maxRecDepth 100000
open Go Go.ChangeShapes Go.WideShapes Go.ChangeAt Go.RowKit
structure OutP (P : Nat → Prop) (w w' : World) : Prop where
  os : w'.os = w.os
  tape : w'.tape = w.tape
  output : w'.output = w.output
  size : w.heap.size ≤ w'.heap.size
  block : ∀ k, k < w.heap.size → ¬ P k → w'.heap[k]? = w.heap[k]?
theorem OutP.refl (P : Nat → Prop) (w : World) : OutP P w w := ⟨rfl, rfl, rfl, Nat.le_refl _, fun _ _ _ => rfl⟩
theorem OutP.trans {P : Nat → Prop} {a b c : World} (h : OutP P a b) (g : OutP P b c) : OutP P a c :=
  ⟨g.os.trans h.os, g.tape.trans h.tape, g.output.trans h.output, Nat.le_trans h.size g.size, fun k hk hn => (g.block k (Nat.lt_of_lt_of_le hk h.size) hn).trans (h.block k hk hn)⟩
theorem OutP.but {P : Nat → Prop} {R : Nat} {w w' : World} (h : But R w w') (hR : P R) : OutP P w w' :=
  ⟨h.os, h.tape, h.output, h.size, fun k hk hn => h.block k hk (fun e => hn (by rw [e]; exact hR))⟩
theorem OutP.set {P : Nat → Prop} (w : World) (R j : Nat) (u : Value) (hR : P R) : OutP P w (w.setCell ⟨R, j, none⟩ u) :=
  ⟨rfl, rfl, rfl, by simp [World.setCell], fun k _ hn => keepB _ _ _ _ _ (fun e => hn (by rw [e]; exact hR))⟩
theorem OutP.wide {P Q : Nat → Prop} {w w' : World} (h : OutP P w w') (hPQ : ∀ k, P k → Q k) : OutP Q w w' :=
  ⟨h.os, h.tape, h.output, h.size, fun k hk hn => h.block k hk (fun hp => hn (hPQ k hp))⟩
/-- rows whose cells may be marked -/
structure RwP (P : Nat → Prop) (R : Nat) (q : Nat → Option Addr) (c f : Nat → Nat) (L : List (List Int)) (w : World) : Prop where
  r : P R
  r1 : R < w.heap.size
  cell : ∀ i (h : i < L.length), w.cell? ⟨R, i, none⟩ = some (.slice (q i) L[i].length (c i))
  own : ∀ i (h : i < L.length), L[i] = [] ∨ (P (f i) ∧ f i ≠ R ∧ q i = some ⟨f i, 0, none⟩ ∧ IRow (f i) L[i] w)
  apart : ∀ i j (h : i < L.length) (g : j < L.length), i ≠ j → L[i] ≠ [] → L[j] ≠ [] → f i ≠ f j
theorem RwP.keep {P Q : Nat → Prop} {R : Nat} {q : Nat → Option Addr} {c f : Nat → Nat} {L : List (List Int)} {w w' : World} (h : RwP P R q c f L w) (g : OutP Q w w') (hPQ : ∀ k, P k → ¬ Q k) : RwP P R q c f L w' := by
  have hb := g.block R h.r1 (hPQ R h.r)
  refine ⟨h.r, Nat.lt_of_lt_of_le h.r1 g.size, fun i hi => ?_, fun i hi => ?_, h.apart⟩
  · exact (World.cell?_of_block (a := ⟨R, _, none⟩) hb).trans (h.cell i hi)
  · rcases h.own i hi with h0 | ⟨h1, h2, h3, h4⟩
    · exact Or.inl h0
    · exact Or.inr ⟨h1, h2, h3, h4.same g.size (g.block _ h4.lt (hPQ _ h1))⟩
theorem RwP.row {P : Nat → Prop} {R : Nat} {q : Nat → Option Addr} {c f : Nat → Nat} {L : List (List Int)} {w w' : World} (h : RwP P R q c f L w) (j : Nat) (hj : j < L.length) (hne : L[j] ≠ []) (l : List Int) (hl : l.length = L[j].length) (g : But (f j) w w') (hr : IRow (f j) l w') : RwP P R q c f (L.set j l) w' := by
  obtain ⟨p1, p2, p3, p4⟩ : P (f j) ∧ f j ≠ R ∧ q j = some ⟨f j, 0, none⟩ ∧ IRow (f j) L[j] w := by
    rcases h.own j hj with h0 | h0
    · exact absurd h0 hne
    · exact h0
  have hb := g.block R h.r1 (fun e => p2 e.symm)
  refine ⟨h.r, Nat.lt_of_lt_of_le h.r1 g.size, fun i hi => ?_, fun i hi => ?_, fun a b ha hb' hab h1 h2 => ?_⟩
  · have hi' : i < L.length := by simpa using hi
    have h1 := h.cell i hi'
    rw [List.getElem_set]
    by_cases e : j = i
    · subst e
      rw [if_pos rfl, hl]
      exact (World.cell?_of_block (a := ⟨R, _, none⟩) hb).trans h1
    · rw [if_neg e]
      exact (World.cell?_of_block (a := ⟨R, _, none⟩) hb).trans h1
  · have hi' : i < L.length := by simpa using hi
    rw [List.getElem_set]
    by_cases e : j = i
    · subst e
      rw [if_pos rfl]
      exact Or.inr ⟨p1, p2, p3, hr⟩
    · rw [if_neg e]
      by_cases h0 : L[i] = []
      · exact Or.inl h0
      · rcases h.own i hi' with h9 | ⟨h1, h2, h3, h4⟩
        · exact absurd h9 h0
        · exact Or.inr ⟨h1, h2, h3, h4.same g.size (g.block _ h4.lt (h.apart i j hi' hj (fun x => e x.symm) h0 hne))⟩
  · have ha' : a < L.length := by simpa using ha
    have hb2 : b < L.length := by simpa using hb'
    rw [List.getElem_set] at h1 h2
    refine h.apart a b ha' hb2 hab ?_ ?_
    · by_cases e : j = a
      · subst e; exact hne
      · rw [if_neg e] at h1; exact h1
    · by_cases e : j = b
      · subst e; exact hne
      · rw [if_neg e] at h2; exact h2
def lnR (L : List (List Int)) (k : Nat) : Nat := (L.getD k []).length
theorem lnR_eq (L : List (List Int)) (k : Nat) (h : k < L.length) : lnR L k = L[k].length := by
  unfold lnR
  rw [List.getD_eq_getElem?_getD, List.getElem?_eq_getElem h]; rfl
def totR (L : List (List Int)) : Nat → Nat
  | 0 => 0
  | j + 1 => totR L j + lnR L j
def markRR (L : List (List Int)) (k : Nat) : List (List Int) := (List.range L.length).map fun i => imarks (lnR L i) (k + totR L i)
theorem markRR_len (L : List (List Int)) (k : Nat) : (markRR L k).length = L.length := by simp [markRR]
theorem markRR_at (L : List (List Int)) (k i : Nat) (h : i < (markRR L k).length) : (markRR L k)[i] = imarks (lnR L i) (k + totR L i) := by simp [markRR]
theorem totR_le (L : List (List Int)) (hn : L.length ≤ 1048576) (hb : ∀ k (h : k < L.length), L[k].length ≤ 1048576) : ∀ j, j ≤ L.length → totR L j ≤ j * 1048577
  | 0, _ => by simp [totR]
  | j + 1, h => by
    have h1 := totR_le L hn hb j (by omega)
    have h2 := hb j (by omega)
    rw [← lnR_eq L j (by omega)] at h2
    unfold totR
    omega
set_option maxHeartbeats 1000000 in
theorem markIntSS_p (P : Nat → Prop) (R cap k0 : Nat) (q : Nat → Option Addr) (c f : Nat → Nat) (L : List (List Int)) (w : World) (hn : L.length ≤ 1048576) (hb : ∀ k (h : k < L.length), L[k].length ≤ 1048576) (k1 : 1 ≤ k0) (k2 : k0 ≤ 2305843009213693952) (h : RwP P R q c f L w) :
    Calls Try.prog 41 #[.slice (some ⟨R, 0, none⟩) L.length cap, .int .i64 k0] w fun e w' => e = .returned (.int .i64 (k0 + totR L L.length : Nat)) ∧ RwP P R q c f (markRR L k0) w' ∧ OutP P w w' := by
  have H := hid h
  have HTL := hid (totR_le L hn hb)
  have HB := hid hb
  clear h hb
  go_enter Try.func41, Try.ntmps41
  go_wp2_with fail
  go_loopw [1, 5] (fun t i wr => ∃ (j : Nat) (T : List (List Int)), j ≤ L.length ∧ i = .int .i64 j ∧ t = .int .i64 (k0 + totR L j : Nat) ∧ T.length = L.length ∧ (∀ a (ha : a < T.length) (hs : a < L.length), T[a].length = L[a].length) ∧ T.take j = (markRR L k0).take j ∧ RwP P R q c f T wr ∧ OutP P w wr) (fun _ i _ => L.length - (intOf i).toNat)
  case atStart => exact ⟨0, L, Nat.zero_le _, rfl, rfl, rfl, fun _ _ _ => rfl, rfl, H.out, OutP.refl _ _⟩
  case round =>
    obtain ⟨j, T, hj, rfl, rfl, hT, hTl, htk, hP, hO⟩ := hrel
    have HP := hid hP
    have HO := hid hO
    have HTK := hid htk
    have HTLL := hid hTl
    by_cases hlt : j < L.length
    · have hjT : j < T.length := by omega
      have d0 := hP.cell j hjT
      have hbj := HB.out j hlt
      have htj := HTL.out j (by omega)
      have hle1 : j * 1048577 ≤ 1099512676352 := by
        have : j * 1048577 ≤ 1048576 * 1048577 := Nat.mul_le_mul_right _ (by omega)
        omega
      have hlenj := hTl j hjT hlt
      have hlA := lnR_eq L j hlt
      have hkk : k0 + totR L j ≤ 4611686018427387904 := by omega
      have hown := hP.own j hjT
      clear htk hTl hO
      have hst : totR L (j + 1) = totR L j + lnR L j := rfl
      have e3 : T[j].length = lnR L j := by rw [hlenj, hlA]
      have HROW : Hid (Calls Try.prog 40 #[.slice (q j) T[j].length (c j), .int .i64 ((k0 + totR L j : Nat) : Int)] wr fun e w' => e = .returned (.int .i64 ((k0 + totR L j + lnR L j : Nat) : Int)) ∧ RwP P R q c f (T.set j (imarks (lnR L j) (k0 + totR L j))) w' ∧ OutP P wr w') := by
        by_cases h0 : T[j] = []
        · have hz : lnR L j = 0 := by rw [← e3, h0]; rfl
          rw [h0]
          refine (markIntS_none (q j) (c j) (k0 + totR L j) wr).mono ?_
          rintro e w9 ⟨rfl, rfl⟩
          refine ⟨by rw [hz]; rfl, ?_, OutP.refl _ _⟩
          have e2 : T.set j (imarks (lnR L j) (k0 + totR L j)) = T := by
            have : imarks (lnR L j) (k0 + totR L j) = T[j] := by rw [hz, h0]; rfl
            rw [this, List.set_getElem_self]
          rw [e2]; exact HP.out
        · rcases hown with h9 | ⟨p1, p2, p3, p4⟩
          · exact absurd h9 h0
          · rw [p3]
            refine (markIntS_row (f j) (c j) (k0 + totR L j) T[j] wr (by omega) (by omega) hkk p4).mono ?_
            rintro e w9 ⟨rfl, r9, b9⟩
            rw [e3] at r9 ⊢
            exact ⟨rfl, HP.out.row j hjT h0 _ (by rw [imarks_len, e3]) b9 r9, OutP.but b9 p1⟩
      rw [e3] at HROW d0
      have HNXT : Hid ((T.set j (imarks (lnR L j) (k0 + totR L j))).take (j + 1) = (markRR L k0).take (j + 1)) := by
        show (T.set j _).take (j + 1) = (markRR L k0).take (j + 1)
        have hjm : j < (markRR L k0).length := by rw [markRR_len]; exact hlt
        rw [take_snoc _ j (by rw [List.length_set]; exact hjT), take_snoc _ j hjm, List.take_set_of_le (Nat.le_refl _), HTK.out, List.getElem_set_self, markRR_at]
      have HLL2 : Hid (∀ a (ha : a < (T.set j (imarks (lnR L j) (k0 + totR L j))).length) (hs : a < L.length), (T.set j (imarks (lnR L j) (k0 + totR L j)))[a].length = L[a].length) := fun a ha hs => by
        rw [List.getElem_set]
        by_cases e : j = a
        · subst e
          rw [if_pos rfl, imarks_len, lnR_eq L j hs]
        · rw [if_neg e]; exact HTLL.out a (by simpa using ha) hs
      have HTT : Hid ((T.set j (imarks (lnR L j) (k0 + totR L j))).length = L.length) := by show (T.set j _).length = L.length; rw [List.length_set]; exact hT
      have HST := hid hst
      have hln : lnR L j ≤ 1048576 := by omega
      clear hown hlA hP hlenj e3 hst HTK HTLL hbj
      generalize T.set j (imarks (lnR L j) (k0 + totR L j)) = T2 at *
      go_wp2_with fail
      refine HROW.out.mono ?_
      rintro e w9 ⟨rfl, p9, o9⟩
      have HP2 := hid p9
      have HO2 := hid (HO.out.trans o9)
      clear p9 o9 HROW d0
      go_wp2_with fail
      go_roundw
      case rel => exact ⟨j + 1, T2, by omega, by go_num, by rw [HST.out]; go_num, HTT.out, HLL2.out, HNXT.out, HP2.out, HO2.out⟩
      case measure => simp [intOf]; omega
    · obtain rfl : j = L.length := by omega
      clear hP hO hTl
      go_wp2_with fail
      go_ret
      rw [List.take_of_length_le (by omega), List.take_of_length_le (by rw [markRR_len]; omega)] at htk
      subst htk
      exact ⟨rfl, HP.out, HO.out⟩
set_option maxHeartbeats 1000000 in
theorem heldIntSS_g (a : Option Addr) (cap k0 : Nat) (L : List (List Int)) (w : World) (hn : L.length ≤ 1048576) (hb : ∀ k (h : k < L.length), L[k].length ≤ 1048576) (k1 : 1 ≤ k0) (k2 : k0 ≤ 2305843009213693952) (h : Js w.heap.size a (markRR L k0) w) :
    Calls Try.prog 44 #[.slice a L.length cap, .int .i64 k0] w fun e w' => e = .returned (.int .i64 (k0 + totR L L.length : Nat)) ∧ Below w.heap.size w w' := by
  have H := hid h
  have HTL := hid (totR_le L hn hb)
  have HB := hid hb
  clear h hb
  go_enter Try.func44, Try.ntmps44
  go_wp2_with fail
  go_loopw [1, 5] (fun t i wr => ∃ j : Nat, j ≤ L.length ∧ i = .int .i64 j ∧ t = .int .i64 (k0 + totR L j : Nat) ∧ Below w.heap.size w wr) (fun _ i _ => L.length - (intOf i).toNat)
  case atStart => exact ⟨0, Nat.zero_le _, rfl, rfl, Below.refl _ _⟩
  case round =>
    obtain ⟨j, hj, rfl, rfl, hbel⟩ := hrel
    have HBEL := hid hbel
    by_cases hlt : j < L.length
    · have hjM : j < (markRR L k0).length := by rw [markRR_len]; exact hlt
      obtain ⟨b, o, rfl, hbb, hcl⟩ := H.out (by omega)
      obtain ⟨p, c, d0, hI⟩ := hcl j hjM
      have hbj := HB.out j hlt
      have htj := HTL.out j (by omega)
      have hle1 : j * 1048577 ≤ 1099512676352 := by
        have : j * 1048577 ≤ 1048576 * 1048577 := Nat.mul_le_mul_right _ (by omega)
        omega
      rw [← lnR_eq L j hlt] at hbj
      rw [markRR_at] at d0 hI
      rw [imarks_len] at d0
      rw [← hbel.cell (p := ⟨b, o + j, none⟩) hbb] at d0
      have hst : totR L (j + 1) = totR L j + lnR L j := rfl
      have HST := hid hst
      have HC := hid (heldIntS_row p c (k0 + totR L j) (lnR L j) wr hbj (by omega) (by omega) ((hI.below hbel).mono hbel.size))
      clear hcl hI hst hbel H
      go_wp2_with fail
      refine HC.out.mono ?_
      rintro e w9 ⟨rfl, b9⟩
      have HB9 := hid (HBEL.out.trans (b9.mono HBEL.out.size))
      have hk9 : k0 + totR L j + lnR L j ≤ 4611686018427387904 := by omega
      have hd : decide (((k0 + totR L j + lnR L j : Nat) : Int) < 0) = false := decide_eq_false (by omega)
      clear b9 d0 HC
      generalize hkk : k0 + totR L j + lnR L j = kk at *
      go_wp2_with fail
      go_roundw
      case rel => exact ⟨j + 1, by omega, by go_num, by rw [HST.out, ← Nat.add_assoc, hkk], HB9.out⟩
      case measure => simp [intOf]; omega
    · obtain rfl : j = L.length := by omega
      clear hbel
      go_wp2_with fail
      go_ret
      exact ⟨rfl, HBEL.out⟩
theorem markIntSS_none (a : Option Addr) (cap k0 : Nat) (w : World) : Calls Try.prog 41 #[.slice a 0 cap, .int .i64 k0] w fun e w' => e = .returned (.int .i64 k0) ∧ w' = w := by
  go_enter Try.func41, Try.ntmps41
  go_wp2
  go_loop [1, 5] (fun t i => t = .int .i64 k0 ∧ i = .int .i64 0) (fun _ _ => 0)
  case atStart => exact ⟨rfl, rfl⟩
  case round =>
    obtain ⟨rfl, rfl⟩ := hrel
    go_wp2
    go_ret
    exact ⟨rfl, rfl⟩
def MR (P : Nat → Prop) (a : Option Addr) (q : Nat → Option Addr) (c f : Nat → Nat) (L : List (List Int)) (w : World) : Prop := L = [] ∨ ∃ R, a = some ⟨R, 0, none⟩ ∧ RwP P R q c f L w
theorem MR.vs {P : Nat → Prop} {a : Option Addr} {q : Nat → Option Addr} {c f : Nat → Nat} {L : List (List Int)} {w : World} (h : MR P a q c f L w) : Js w.heap.size a L w := fun h0 => by
  rcases h with rfl | ⟨R, rfl, h⟩
  · exact absurd h0 (by simp)
  · refine ⟨R, 0, rfl, h.r1, fun i hi => ?_⟩
    refine ⟨q i, c i, by rw [Nat.zero_add]; exact h.cell i hi, ?_⟩
    rcases h.own i hi with h0 | ⟨_, _, h3, h4⟩
    · rw [h0]; exact ⟨fun h0 => absurd h0 (by simp)⟩
    · rw [h3]; exact h4.sl h4.lt
theorem MR.keep {P Q : Nat → Prop} {a : Option Addr} {q : Nat → Option Addr} {c f : Nat → Nat} {L : List (List Int)} {w w' : World} (h : MR P a q c f L w) (g : OutP Q w w') (hPQ : ∀ k, P k → ¬ Q k) : MR P a q c f L w' := by
  rcases h with h | ⟨R, e, h⟩
  · exact Or.inl h
  · exact Or.inr ⟨R, e, h.keep g hPQ⟩
theorem OutP.below {w w' : World} (h : Below w.heap.size w w') : OutP (fun _ => False) w w' := ⟨h.os, h.tape, h.output, h.size, fun k hk _ => h.block k hk⟩
theorem markIntSS_m (P : Nat → Prop) (a : Option Addr) (cap k0 : Nat) (q : Nat → Option Addr) (c f : Nat → Nat) (L : List (List Int)) (w : World) (hn : L.length ≤ 1048576) (hb : ∀ k (h : k < L.length), L[k].length ≤ 1048576) (k1 : 1 ≤ k0) (k2 : k0 ≤ 2305843009213693952) (h : MR P a q c f L w) :
    Calls Try.prog 41 #[.slice a L.length cap, .int .i64 k0] w fun e w' => e = .returned (.int .i64 (k0 + totR L L.length : Nat)) ∧ MR P a q c f (markRR L k0) w' ∧ OutP P w w' := by
  rcases h with rfl | ⟨R, rfl, h⟩
  · refine (markIntSS_none a cap k0 w).mono ?_
    rintro e w' ⟨rfl, rfl⟩
    exact ⟨rfl, Or.inl rfl, OutP.refl _ _⟩
  · refine (markIntSS_p P R cap k0 q c f L w hn hb k1 k2 h).mono ?_
    rintro e w' ⟨rfl, h1, h2⟩
    exact ⟨rfl, Or.inr ⟨R, rfl, h1⟩, h2⟩
/-- blocks lo .. hi - 1 -/
def Btw (lo hi : Nat) (k : Nat) : Prop := lo ≤ k ∧ k < hi
theorem RwP.wide {P Q : Nat → Prop} {R : Nat} {q : Nat → Option Addr} {c f : Nat → Nat} {L : List (List Int)} {w : World} (h : RwP P R q c f L w) (g : ∀ k, P k → Q k) : RwP Q R q c f L w := ⟨g _ h.r, h.r1, h.cell, fun i hi => (h.own i hi).imp id (fun x => ⟨g _ x.1, x.2⟩), h.apart⟩
theorem MR.wide {P Q : Nat → Prop} {a : Option Addr} {q : Nat → Option Addr} {c f : Nat → Nat} {L : List (List Int)} {w : World} (h : MR P a q c f L w) (g : ∀ k, P k → Q k) : MR Q a q c f L w := by
  rcases h with h | ⟨R, e, h⟩
  · exact Or.inl h
  · exact Or.inr ⟨R, e, h.wide g⟩
theorem RwOwn.mr {lo hi R : Nat} {q : Nat → Option Addr} {c f : Nat → Nat} {L : List (List Int)} {w : World} (h : RwOwn lo hi R q c f L w) : MR (Btw lo hi) (some ⟨R, 0, none⟩) q c f L w :=
  Or.inr ⟨R, rfl, ⟨⟨h.r0, h.r1⟩, Nat.lt_of_lt_of_le h.r1 h.r2, h.cell, fun i hi => (h.own i hi).imp id (fun x => ⟨⟨x.1, x.2.1⟩, x.2.2⟩), h.apart⟩⟩
/-- numbers whose cells may be marked, in a block of P -/
def MI (P : Nat → Prop) (a : Option Addr) (l : List Int) (w : World) : Prop := l = [] ∨ ∃ R, P R ∧ a = some ⟨R, 0, none⟩ ∧ IRow R l w
theorem MI.is {P : Nat → Prop} {a : Option Addr} {l : List Int} {w : World} (h : MI P a l w) : Is w.heap.size a l w := by
  rcases h with rfl | ⟨R, _, rfl, hr⟩
  · exact ⟨fun h0 => absurd h0 (by simp)⟩
  · exact hr.sl hr.lt
theorem MI.keep {P Q : Nat → Prop} {a : Option Addr} {l : List Int} {w w' : World} (h : MI P a l w) (g : OutP Q w w') (hPQ : ∀ k, P k → ¬ Q k) : MI P a l w' := by
  rcases h with h | ⟨R, h1, e, hr⟩
  · exact Or.inl h
  · exact Or.inr ⟨R, h1, e, hr.same g.size (g.block _ hr.lt (hPQ _ h1))⟩
theorem MI.wide {P Q : Nat → Prop} {a : Option Addr} {l : List Int} {w : World} (h : MI P a l w) (g : ∀ k, P k → Q k) : MI Q a l w := by
  rcases h with h | ⟨R, h1, e, hr⟩
  · exact Or.inl h
  · exact Or.inr ⟨R, g _ h1, e, hr⟩
theorem OwnI.mi {lo hi : Nat} {a : Option Addr} {l : List Int} {w : World} (h : OwnI lo hi a l w) : MI (Btw lo hi) a l w := by
  rcases h with h | ⟨R, h1, h2, e, hr⟩
  · exact Or.inl h
  · exact Or.inr ⟨R, ⟨h1, h2⟩, e, hr⟩
theorem markIntS_m (P : Nat → Prop) (a : Option Addr) (cap k0 : Nat) (l : List Int) (w : World) (hn : l.length ≤ 1048576) (k1 : 1 ≤ k0) (k2 : k0 ≤ 2305843009213693952) (h : MI P a l w) :
    Calls Try.prog 40 #[.slice a l.length cap, .int .i64 k0] w fun e w' => e = .returned (.int .i64 (k0 + l.length : Nat)) ∧ MI P a (imarks l.length k0) w' ∧ OutP P w w' := by
  rcases h with rfl | ⟨R, h1, rfl, hr⟩
  · exact (markIntS_none a cap k0 w).mono fun e w' ⟨he, hb⟩ => ⟨he, Or.inl rfl, by subst hb; exact OutP.refl _ _⟩
  · exact (markIntS_row R cap k0 l w hn k1 (by omega) hr).mono fun e w' ⟨he, hrow, hb⟩ => ⟨he, Or.inr ⟨R, h1, rfl, hrow⟩, OutP.but hb h1⟩
theorem OutP.on {P : Nat → Prop} {w w' : World} (h : Below w.heap.size w w') : OutP P w w' := (OutP.below h).wide (fun _ h => h.elim)
end Go.Proofs.Ytikmkkklgdkpaaa
