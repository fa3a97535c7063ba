/- Walks of the laws' markMarks and heldMarks. -/
import Derived.Test.YtiionfmpbifbcaaKMark
namespace Go.Proofs.Ytiionfmpbifbcaa
set_option maxRecDepth 100000
open Go Go.ChangeShapes Go.WideShapes Go.ChangeAt Go.RowKit
theorem markB_set (lo hi R : Nat) (A : Nat → LA) (ys : List Ly) (j k0 : Nat) (m : Int) (bl : List Int) (dt : List ByteArray) (w : World) (hj : j < ys.length) (hn : bl.length ≤ 1048576) (k1 : 1 ≤ k0) (k2 : k0 ≤ 4611686018427387904) (h : LyOwn lo hi R A (ys.set j ⟨m, bl, dt⟩) w) :
    Calls Try.prog 18 #[.slice (A j).p bl.length (A j).c, .int .i64 k0] w fun e w' => e = .returned (.int .i64 (k0 + bl.length : Nat)) ∧ LyOwn lo hi R A (ys.set j ⟨m, imarks bl.length k0, dt⟩) w' ∧ Out lo hi w w' := by
  have := markB_any lo hi R A (ys.set j ⟨m, bl, dt⟩) j k0 w (by simpa using hj) (by simpa using hn) k1 k2 h
  simp only [List.getElem_set_self, List.set_set] at this
  exact this
theorem markD_set (lo hi R : Nat) (A : Nat → LA) (ys : List Ly) (j k0 : Nat) (m : Int) (bl : List Int) (dt : List ByteArray) (w : World) (hj : j < ys.length) (hn : dt.length ≤ 1048576) (k1 : 1 ≤ k0) (k2 : k0 ≤ 10000000) (h : LyOwn lo hi R A (ys.set j ⟨m, bl, dt⟩) w) :
    Calls Try.prog 26 #[.slice (A j).q dt.length (A j).d, .int .i64 k0] w fun e w' => e = .returned (.int .i64 (k0 + dt.length : Nat)) ∧ LyOwn lo hi R A (ys.set j ⟨m, bl, smarks dt.length k0⟩) w' ∧ Out lo hi w w' := by
  have := markD_any lo hi R A (ys.set j ⟨m, bl, dt⟩) j k0 w (by simpa using hj) (by simpa using hn) k1 k2 h
  simp only [List.getElem_set_self, List.set_set] at this
  exact this
theorem LyOwn.at_set {lo hi R : Nat} {A : Nat → LA} {ys : List Ly} {w : World} (j : Nat) (m : Int) (bl : List Int) (dt : List ByteArray) (h : LyOwn lo hi R A (ys.set j ⟨m, bl, dt⟩) w) (hj : j < ys.length) : w.cell? ⟨R, j * 3, none⟩ = some (.int .i64 m) ∧ w.cell? ⟨R, j * 3 + 1, none⟩ = some (.slice (A j).p bl.length (A j).c) ∧ w.cell? ⟨R, j * 3 + 2, none⟩ = some (.slice (A j).q dt.length (A j).d) := by
  have := h.cell j (by simpa using hj)
  simp only [List.getElem_set_self] at this
  exact this
set_option maxHeartbeats 4000000 in
theorem markLayerS_own (lo hi R : Nat) (A : Nat → LA) (cap k0 : Nat) (S : List Ly) (w : World) (hf : FitK S) (k1 : 1 ≤ k0) (k2 : k0 ≤ 5000000) (h : LyOwn lo hi R A S w) :
    Calls Try.prog 43 #[.slice (some ⟨R, 0, none⟩) S.length cap, .int .i64 k0] w fun e w' => e = .returned (.int .i64 (k0 + wtK S : Nat)) ∧ LyOwn lo hi R A (kmarks S k0) w' ∧ Out lo hi w w' := by
  have HF := hid hf
  have H := hid h
  have hn := hf.len
  clear hf h
  go_enter Try.func43, Try.ntmps43
  go_wp2_with fail
  go_loopw [1, 5] (fun t i wr => ∃ (j : Nat) (ys : List Ly), j ≤ S.length ∧ i = .int .i64 j ∧ t = .int .i64 (k0 + wtK (S.take j) : Nat) ∧ ys.length = S.length ∧ (∀ r (h : r < ys.length) (h' : r < (kmarks S k0).length), r < j → ys[r] = (kmarks S k0)[r]) ∧ (∀ r (h : r < ys.length) (h' : r < S.length), j ≤ r → ys[r] = S[r]) ∧ LyOwn lo hi R A ys wr ∧ Out lo hi w wr) (fun _ i _ => S.length - (intOf i).toNat)
  case atStart => exact ⟨0, S, Nat.zero_le _, rfl, rfl, rfl, (fun _ _ _ h => absurd h (Nat.not_lt_zero _)), (fun _ _ _ _ => rfl), H.out, Out.refl _ _ _⟩
  case round =>
    clear H
    obtain ⟨j, ys, hj, rfl, rfl, hy, hlo, hhi, hown, hout⟩ := hrel
    have HLO := hid hlo
    have HHI := hid hhi
    have HOWN := hid hown
    have HOUT := hid hout
    clear hlo hhi hown hout
    by_cases hlt : j < S.length
    · have hjy : j < ys.length := by omega
      have hyj := HHI.out j hjy hlt (Nat.le_refl _)
      have hm1 := HF.out.bl j hlt
      have hm2 := HF.out.dt j hlt
      have hsn := wtK_snoc S j hlt
      have hle := wtK_le S (j + 1)
      have hfit : wtK S ≤ 1048576 := HF.out
      have HKA := hid (fun h' => kmarks_at S k0 j hlt h')
      obtain ⟨c0, c1, c2⟩ := HOWN.out.cell j hjy
      have f0 := HOWN.out.free (j * 3) (by omega)
      obtain ⟨F1, G1⟩ := HOWN.out.markM j hjy ((k0 + wtK (S.take j) : Nat) : Int)
      rw [hyj] at c0 c1 c2 F1
      clear hyj
      generalize hsj : S[j] = y at *
      obtain ⟨m, bl, dt⟩ := y
      simp only at c0 c1 c2 F1 hm1 hm2
      have hwy : wtY ⟨m, bl, dt⟩ = 1 + bl.length + dt.length := rfl
      rw [hwy] at hsn
      have HSN := hid hsn
      generalize hkk : k0 + wtK (S.take j) = kk at *
      have hkb : kk + 1 + bl.length + dt.length ≤ 7000000 := by omega
      have hkl : 1 ≤ kk := by omega
      have HKK := hid hkk
      obtain ⟨x0, x1, x2⟩ := F1.at_set j _ _ _ hjy
      have HC1 := hid (markB_set lo hi R A ys j (kk + 1) kk bl dt _ hjy hm1 (by omega) (by omega) F1)
      have HC2 : Hid (∀ v, LyOwn lo hi R A (ys.set j ⟨(kk : Int), imarks bl.length (kk + 1), dt⟩) v → Calls Try.prog 26 #[.slice (A j).q dt.length (A j).d, .int .i64 (kk + 1 + bl.length : Nat)] v fun e w' => e = .returned (.int .i64 (kk + 1 + bl.length + dt.length : Nat)) ∧ LyOwn lo hi R A (ys.set j ⟨(kk : Int), imarks bl.length (kk + 1), smarks dt.length (kk + 1 + bl.length)⟩) w' ∧ Out lo hi v w') := fun v g => markD_set lo hi R A ys j (kk + 1 + bl.length) kk (imarks bl.length (kk + 1)) dt v hjy hm2 (by omega) (by omega) g
      have HG1 := hid G1
      have HXC : Hid (∀ v, LyOwn lo hi R A (ys.set j ⟨(kk : Int), imarks bl.length (kk + 1), dt⟩) v → v.cell? ⟨R, j * 3 + 2, none⟩ = some (.slice (A j).q dt.length (A j).d)) := fun v g => (g.at_set j _ _ _ hjy).2.2
      generalize hn1 : kk + 1 + bl.length = n1 at *
      have e1 : IntKind.i64.wrap ((kk : Int) + 1) = ((kk + 1 : Nat) : Int) := by rw [IntKind.wrap_i64]; omega
      have HN1 := hid hn1
      clear hsn hkk hle hn1 F1 G1 hfit
      generalize hpp : (A j).p = pp at *
      generalize hcc : (A j).c = cc at *
      generalize hqq : (A j).q = qq at *
      generalize hdd : (A j).d = dd at *
      go_wp2_with fail
      refine HC1.out.mono ?_
      rintro e w2 ⟨rfl, o2, t2⟩
      have y2 := HXC.out w2 o2
      have HO2 := hid o2
      have HT2 := hid (HG1.out.trans2 t2)
      clear o2 t2 HC1 HG1 HXC c0 c1 c2 x0 x1 x2 f0
      go_wp2_with fail
      refine (HC2.out w2 HO2.out).mono ?_
      rintro e w3 ⟨rfl, o3, t3⟩
      have HO3 := hid o3
      have HT3 := hid (HT2.out.trans2 t3)
      clear o3 t3 HC2 y2 HO2 HT2
      go_wp2_with fail
      go_roundw
      case rel =>
        refine ⟨j + 1, ys.set j ⟨(kk : Int), imarks bl.length (kk + 1), smarks dt.length n1⟩, by omega, by go_num, ?_, by simpa using hy, ?_, ?_, HO3.out, HOUT.out.trans2 HT3.out⟩
        · have h1 := HSN.out
          have h2 := HKK.out
          have h3 := HN1.out
          have h4 : ((n1 + dt.length : Nat) : Int) = ((k0 + wtK (S.take (j + 1)) : Nat) : Int) := by omega
          rw [← h4]
          go_num
        · intro r hr h' hrj
          by_cases e : r = j
          · subst e
            rw [List.getElem_set_self, HKA.out h']
            unfold kmk
            simp only [HN1.out]
          · rw [List.getElem_set_ne (fun e2 => e e2.symm)]
            exact HLO.out r (by simpa using hr) h' (by omega)
        · intro r hr h' hrj
          rw [List.getElem_set_ne (by omega)]
          exact HHI.out r (by simpa using hr) h' (by omega)
      case measure => simp [intOf]; omega
    · obtain rfl : j = S.length := by omega
      have HEQ : Hid (ys = kmarks S k0) := List.ext_getElem (by rw [kmarks_len]; exact hy) (fun r h1 h2 => HLO.out r h1 h2 (by omega))
      have HWT := hid (wtK_all S)
      go_wp2_with fail
      go_ret
      rw [HWT.out]
      refine ⟨rfl, ?_, HOUT.out⟩
      rw [← HEQ.out]
      exact HOWN.out
set_option maxHeartbeats 4000000 in
theorem heldLayerS_any (a : Option Addr) (cap k0 : Nat) (S : List Ly) (w : World) (hf : FitK S) (k1 : 1 ≤ k0) (k2 : k0 ≤ 5000000) (h : Ys w.heap.size a (kmarks S k0) w) :
    Calls Try.prog 47 #[.slice a S.length cap, .int .i64 k0] w fun e w' => e = .returned (.int .i64 (k0 + wtK S : Nat)) ∧ Below w.heap.size w w' := by
  have HF := hid hf
  have H := hid h
  have hn := hf.len
  clear hf h
  go_enter Try.func47, Try.ntmps47
  go_wp2_with fail
  go_loopw [1, 5] (fun t i wr => ∃ j : Nat, j ≤ S.length ∧ i = .int .i64 j ∧ t = .int .i64 (k0 + wtK (S.take j) : Nat) ∧ Below w.heap.size w wr) (fun _ i _ => S.length - (intOf i).toNat)
  case atStart => exact ⟨0, Nat.zero_le _, rfl, rfl, Below.refl _ _⟩
  case round =>
    obtain ⟨j, hj, rfl, rfl, hbel⟩ := hrel
    have HBEL := hid hbel
    have hszr := hbel.size
    by_cases hlt : j < S.length
    · have hjm : j < (kmarks S k0).length := by rw [kmarks_len]; exact hlt
      obtain ⟨b, off, rfl, hb, hcl⟩ := H.out (by omega)
      obtain ⟨p, c, q, d, c0, c1, c2, hI, hS⟩ := hcl j hjm
      have kc : ∀ o, wr.cell? ⟨b, o, none⟩ = w.cell? ⟨b, o, none⟩ := fun o => hbel.cell (p := ⟨b, o, none⟩) hb
      rw [← kc] at c0 c1 c2
      rw [kmarks_at S k0 j hlt hjm] at c0 c1 c2 hI hS
      have hm1 := HF.out.bl j hlt
      have hm2 := HF.out.dt j hlt
      have hsn := wtK_snoc S j hlt
      have hle := wtK_le S (j + 1)
      have hfit : wtK S ≤ 1048576 := HF.out
      have hI' := (hI.below hbel).mono hszr
      have hS' := hS
      have hwy : wtY S[j] = 1 + S[j].bl.length + S[j].dt.length := rfl
      rw [hwy] at hsn
      have HSN := hid hsn
      unfold kmk at c0 c1 c2 hI hI' hS hS'
      simp only [imarks_len, smarks_len] at c0 c1 c2 hI hI' hS hS'
      generalize S[j].bl.length = nb at *
      generalize S[j].dt.length = nd at *
      generalize hkk : k0 + wtK (S.take j) = kk at *
      have hkb : kk + 1 + nb + nd ≤ 7000000 := by omega
      have HKK := hid hkk
      have HC1 : Hid (Calls Try.prog 19 #[.slice p nb c, .int .i64 (kk + 1 : Nat)] wr fun e w' => e = .returned (.int .i64 (kk + 1 + nb : Nat)) ∧ Below wr.heap.size wr w') := (heldIntS_row p c (kk + 1) nb wr hm1 (by omega) (by omega) hI').mono fun _ _ h => h
      have HC2 : Hid (∀ v, Below w.heap.size w v → Calls Try.prog 27 #[.slice q nd d, .int .i64 (kk + 1 + nb : Nat)] v fun e w' => e = .returned (.int .i64 (kk + 1 + nb + nd : Nat)) ∧ Below v.heap.size v w') := fun v g => heldStringS_row q d (kk + 1 + nb) nd v hm2 (by omega) (by omega) ((hS.below g).mono g.size)
      have HKC : Hid (∀ v, Below w.heap.size w v → v.cell? ⟨b, off + j * 3 + 2, none⟩ = some (.slice q nd d)) := fun v g => by
        rw [g.cell (p := ⟨b, off + j * 3 + 2, none⟩) hb, ← kc]; exact c2
      have dm : ((kk : Int) == (kk : Int)) = true := beq_self_eq_true _
      generalize hn1 : kk + 1 + nb = n1 at *
      have HN1 := hid hn1
      have dn : decide (((n1 : Nat) : Int) < 0) = false := decide_eq_false (by omega)
      have dn2 : decide (((n1 + nd : Nat) : Int) < 0) = false := decide_eq_false (by omega)
      have e1 : IntKind.i64.wrap ((kk : Int) + 1) = ((kk + 1 : Nat) : Int) := by rw [IntKind.wrap_i64]; omega
      clear hcl kc hI hS hI' hS' hbel hsn hkk hn1 hle hfit hwy
      go_wp2_with fail
      refine HC1.out.mono ?_
      rintro e w2 ⟨rfl, b2⟩
      have HB2 := hid (HBEL.out.trans (b2.mono hszr))
      have y2 := HKC.out w2 HB2.out
      clear b2 HC1 c0 c1 c2 HKC
      go_wp2_with fail
      refine (HC2.out w2 HB2.out).mono ?_
      rintro e w3 ⟨rfl, b3⟩
      have HB3 := hid (HB2.out.trans (b3.mono HB2.out.size))
      clear b3 HC2 y2
      go_wp2_with fail
      go_roundw
      case rel =>
        refine ⟨j + 1, by omega, by go_num, ?_, HB3.out⟩
        have h1 := HSN.out
        have h2 := HKK.out
        have h3 := HN1.out
        have h4 : ((n1 + nd : Nat) : Int) = ((k0 + wtK (S.take (j + 1)) : Nat) : Int) := by omega
        rw [← h4]
        go_num
      case measure => simp [intOf]; omega
    · obtain rfl : j = S.length := by omega
      have HWT := hid (wtK_all S)
      clear hbel
      go_wp2_with fail
      go_ret
      rw [HWT.out]
      exact ⟨rfl, HBEL.out⟩
set_option maxHeartbeats 400000 in
theorem markLayerS_none (a : Option Addr) (cap k0 : Nat) (w : World) : Calls Try.prog 43 #[.slice a 0 cap, .int .i64 k0] w fun e w' => e = .returned (.int .i64 k0) ∧ w' = w := by
  go_enter Try.func43, Try.ntmps43
  go_wp2
  go_loop [1, 5] (fun t i => t = .int .i64 k0 ∧ i = .int .i64 0) (fun _ _ => 0)
  case atStart => exact ⟨rfl, rfl⟩
  case round =>
    obtain ⟨rfl, rfl⟩ := hrel
    go_wp2
    go_ret
    exact ⟨rfl, rfl⟩
theorem markLayerS_any (lo hi : Nat) (a : Option Addr) (cap : Nat) (S : List Ly) (w : World) (hf : FitK S) (h : OwnK lo hi a S w) :
    Calls Try.prog 43 #[.slice a S.length cap, .int .i64 1] w fun e w' => e = .returned (.int .i64 (1 + wtK S : Nat)) ∧ OwnK lo hi a (kmarks S 1) w' ∧ Out lo hi w w' := by
  rcases h with rfl | ⟨R, A, rfl, h⟩
  · exact (markLayerS_none a cap 1 w).mono fun e w' ⟨he, hw⟩ => ⟨he, Or.inl rfl, by subst hw; exact Out.refl _ _ _⟩
  · exact (markLayerS_own lo hi R A cap 1 S w hf (by omega) (by omega) h).mono fun e w' ⟨he, ho, ht⟩ => ⟨he, Or.inr ⟨R, A, rfl, ho⟩, ht⟩
set_option maxHeartbeats 1000000 in
theorem markMarks_any (lo hi : Nat) (a : Option Addr) (cap : Nat) (S : List Ly) (w : World) (hf : FitK S) (h : OwnK lo hi a S w) :
    Calls Try.prog 17 #[.agg #[.slice a S.length cap], .int .i64 1] w fun e w' => e = .returned (.int .i64 (1 + wtK S : Nat)) ∧ OwnK lo hi a (kmarks S 1) w' ∧ Out lo hi w w' := by
  have hb := boxB w (.cells #[.slice a S.length cap] 30)
  have HC := hid (markLayerS_any lo hi a cap S _ hf (h.on hb))
  have x0 : (w.alloc (.cells #[.slice a S.length cap] 30)).cell? ⟨w.heap.size, 0, none⟩ = some (.slice a S.length cap) := box_cell (heap_last _ _) 0
  have HT : Hid (Out lo hi w (w.alloc (.cells #[.slice a S.length cap] 30))) := ⟨hb.os, hb.tape, hb.output, hb.size, fun k hk _ => hb.block k hk⟩
  clear h hf hb
  generalize hW : w.alloc (.cells #[.slice a S.length cap] 30) = W at *
  generalize 1 + wtK S = n at *
  go_enter Try.func17, Try.ntmps17
  go_wp2_with fail
  refine HC.out.mono ?_
  rintro e w2 ⟨rfl, o2, t2⟩
  have HO2 := hid o2
  have HT2 := hid (HT.out.trans2 t2)
  clear o2 t2 hW x0
  go_wp2_with fail
  go_ret
  exact ⟨rfl, HO2.out, HT2.out⟩
set_option maxHeartbeats 1000000 in
theorem heldMarks_any (lo hi : Nat) (a : Option Addr) (cap : Nat) (S : List Ly) (w : World) (hf : FitK S) (h : OwnK lo hi a (kmarks S 1) w) :
    Calls Try.prog 22 #[.agg #[.slice a S.length cap], .int .i64 1] w fun e w' => e = .returned (.int .i64 (1 + wtK S : Nat)) ∧ Below w.heap.size w w' := by
  have hb := boxB w (.cells #[.slice a S.length cap] 30)
  have HC := hid (heldLayerS_any a cap 1 S _ hf (by omega) (by omega) (h.on hb).ys)
  have x0 : (w.alloc (.cells #[.slice a S.length cap] 30)).cell? ⟨w.heap.size, 0, none⟩ = some (.slice a S.length cap) := box_cell (heap_last _ _) 0
  have HB := hid hb
  have dn : decide (((1 + wtK S : Nat) : Int) < 0) = false := decide_eq_false (by omega)
  clear h hf hb
  generalize hW : w.alloc (.cells #[.slice a S.length cap] 30) = W at *
  generalize 1 + wtK S = n at *
  go_enter Try.func22, Try.ntmps22
  go_wp2_with fail
  refine HC.out.mono ?_
  rintro e w2 ⟨rfl, b2⟩
  have HB2 := hid (HB.out.trans (b2.mono HB.out.size))
  clear b2 hW x0
  go_wp2_with fail
  go_ret
  exact ⟨rfl, HB2.out⟩
end Go.Proofs.Ytiionfmpbifbcaa
