/- The Draw functions of chapter 11; what a law keeps while it goes. -/
import Derived.Test.YtfkcfachbfbmpaaTDy
namespace Go.Proofs.Ytfkcfachbfbmpaa
set_option maxRecDepth 100000
open Go Go.ChangeShapes Go.WideShapes Go.ChangeAt Go.RowKit
set_option maxHeartbeats 1000000 in
theorem drawRoll_any (len cap : Nat) (a : Option Addr) (w : World) (hK : Code w.heap.size len cap a w) :
    Calls Try.prog 20 #[.slice a len cap] w fun e w' => ∃ s : ByteArray, e = .returned (.string s) ∧ s.size ≤ 121 ∧ Below w.heap.size w w' := by
  have HC : Hid (Cur w.heap.size 0 (.slice a len cap) (w.alloc (.cells #[.slice a len cap, .int .i64 0, .int .u64 0] 54))) := Cur.start _ _ _
  have HK : Hid (Code w.heap.size len cap a (w.alloc (.cells #[.slice a len cap, .int .i64 0, .int .u64 0] 54))) := hK.start _
  have hz : (w.alloc (.cells #[.slice a len cap, .int .i64 0, .int .u64 0] 54)).heap.size = w.heap.size + 1 := heap_size _ _
  have HD := hid (fun w' (h : But w.heap.size (w.alloc (.cells #[.slice a len cap, .int .i64 0, .int .u64 0] 54)) w') => But.done h)
  clear hK
  go_enter Try.func20, Try.ntmps20
  go_wp2_with fail
  generalize w.alloc (.cells #[.slice a len cap, .int .i64 0, .int .u64 0] 54) = w0 at *
  refine (old_any w.heap.size 0 len cap a _ (by omega) HC.out HK.out).mono ?_
  rintro e w1 ⟨s, rfl, hs, hC1, hB1⟩
  have HB1 : Hid (Below w.heap.size w w1) := HD.out _ hB1
  clear hC1 hB1 HC HK HD
  go_wp2
  go_ret
  exact ⟨s, rfl, hs, HB1.out⟩
set_option maxHeartbeats 1000000 in
theorem drawDelta_any (len cap : Nat) (a : Option Addr) (w : World) (hK : Code w.heap.size len cap a w) :
    Calls Try.prog 5 #[.slice a len cap] w fun e w' => ∃ s t : ByteArray, e = .returned (.tuple #[.string s, .string t]) ∧ s.size ≤ 121 ∧ t.size ≤ 133 ∧ Below w.heap.size w w' := by
  have HC : Hid (Cur w.heap.size 0 (.slice a len cap) (w.alloc (.cells #[.slice a len cap, .int .i64 0, .int .u64 0] 54))) := Cur.start _ _ _
  have HK : Hid (Code w.heap.size len cap a (w.alloc (.cells #[.slice a len cap, .int .i64 0, .int .u64 0] 54))) := hK.start _
  have hz : (w.alloc (.cells #[.slice a len cap, .int .i64 0, .int .u64 0] 54)).heap.size = w.heap.size + 1 := heap_size _ _
  have HD := hid (fun w' (h : But w.heap.size (w.alloc (.cells #[.slice a len cap, .int .i64 0, .int .u64 0] 54)) w') => But.done h)
  clear hK
  go_enter Try.func5, Try.ntmps5
  go_wp2_with fail
  generalize w.alloc (.cells #[.slice a len cap, .int .i64 0, .int .u64 0] 54) = w0 at *
  refine (old_any w.heap.size 0 len cap a _ (by omega) HC.out HK.out).mono ?_
  rintro e w1 ⟨s, rfl, hs, hC1, hB1⟩
  have HC1 := hid hC1
  have HB1 := hid hB1
  have HK1 : Hid (Code w.heap.size len cap a w1) := HK.out.but hB1 (Nat.le_refl _) (by omega)
  have hs1 := hB1.size
  clear hC1 hB1 HC HK
  go_wp2_with fail
  refine (changed_any s w.heap.size _ len cap a _ (by omega) (by omega) HC1.out HK1.out).mono ?_
  rintro e w2 ⟨t, rfl, ht, hC2, hB2⟩
  have HB2 : Hid (Below w.heap.size w w2) := HD.out _ (HB1.out.trans hB2)
  clear hC2 hB2 HC1 HB1 HK1 HD
  go_wp2
  go_ret2
  exact ⟨s, t, rfl, hs, by omega, HB2.out⟩
/-- a list of parts, drawn: it can be read -/
def InT (b : Option Addr) (l : List Pt) (w : World) : Prop := l.length ≤ 1000 ∧ (∀ p ∈ l, SmP p) ∧ Pts w.heap.size b l w
set_option maxHeartbeats 1000000 in
theorem drawGood_any (len cap : Nat) (a : Option Addr) (w : World) (hK : Code w.heap.size len cap a w) :
    Calls Try.prog 42 #[.slice a len cap] w fun e w' => ∃ (s : ByteArray) (b : Option Addr) (c : Nat) (l : List Pt), e = .returned (.tuple #[.string s, .slice b l.length c]) ∧ s.size ≤ 121 ∧ InT b l w' ∧ Below w.heap.size w w' := by
  have HC : Hid (Cur w.heap.size 0 (.slice a len cap) (w.alloc (.cells #[.slice a len cap, .int .i64 0, .int .u64 0] 54))) := Cur.start _ _ _
  have HK : Hid (Code w.heap.size len cap a (w.alloc (.cells #[.slice a len cap, .int .i64 0, .int .u64 0] 54))) := hK.start _
  have hz : (w.alloc (.cells #[.slice a len cap, .int .i64 0, .int .u64 0] 54)).heap.size = w.heap.size + 1 := heap_size _ _
  have HD := hid (fun w' (h : But w.heap.size (w.alloc (.cells #[.slice a len cap, .int .i64 0, .int .u64 0] 54)) w') => But.done h)
  clear hK
  go_enter Try.func42, Try.ntmps42
  go_wp2_with fail
  generalize w.alloc (.cells #[.slice a len cap, .int .i64 0, .int .u64 0] 54) = w0 at *
  refine (old_any w.heap.size 0 len cap a _ (by omega) HC.out HK.out).mono ?_
  rintro e w1 ⟨s, rfl, hs, hC1, hB1⟩
  have HC1 := hid hC1
  have HB1 := hid hB1
  have HK1 : Hid (Code w.heap.size len cap a w1) := HK.out.but hB1 (Nat.le_refl _) (by omega)
  have hs1 := hB1.size
  clear hC1 hB1 HC HK
  go_wp2_with fail
  refine (delta_any s w.heap.size _ len cap a _ (by omega) (by omega) HC1.out HK1.out).mono ?_
  rintro e w2 ⟨⟨b, c, l, rfl, hl, hsm, ho⟩, hC2, hB2⟩
  have HB2 : Hid (Below w.heap.size w w2) := HD.out _ (HB1.out.trans hB2)
  have HI : Hid (InT b l w2) := ⟨hl, hsm, ho.ts⟩
  clear hC2 hB2 HC1 HB1 HK1 HD hl hsm ho
  go_wp2
  go_ret2
  exact ⟨s, b, c, l, rfl, hs, HI.out, HB2.out⟩
set_option maxHeartbeats 1000000 in
theorem drawApply_any (len cap : Nat) (a : Option Addr) (w : World) (hK : Code w.heap.size len cap a w) :
    Calls Try.prog 15 #[.slice a len cap] w fun e w' => ∃ (s : ByteArray) (b : Option Addr) (c : Nat) (l : List Pt), e = .returned (.tuple #[.string s, .slice b l.length c]) ∧ s.size ≤ 121 ∧ InT b l w' ∧ Below w.heap.size w w' := by
  have H := hid (drawGood_any len cap a w hK)
  clear hK
  go_enter Try.func15, Try.ntmps15
  go_wp2_with fail
  refine H.out.mono ?_
  rintro e w1 ⟨s, b, c, l, rfl, hs, hI, hB⟩
  have HI := hid hI
  have HB := hid hB
  clear hI hB H
  go_wp2
  go_ret2
  exact ⟨s, b, c, l, rfl, hs, HI.out, HB.out⟩
set_option maxHeartbeats 1000000 in
theorem drawCost_any (len cap : Nat) (a : Option Addr) (w : World) (hK : Code w.heap.size len cap a w) :
    Calls Try.prog 17 #[.slice a len cap] w fun e w' => ∃ (b : Option Addr) (c : Nat) (l : List Pt), e = .returned (.slice b l.length c) ∧ InT b l w' ∧ Below w.heap.size w w' := by
  have H := hid (drawGood_any len cap a w hK)
  clear hK
  go_enter Try.func17, Try.ntmps17
  go_wp2_with fail
  refine H.out.mono ?_
  rintro e w1 ⟨s, b, c, l, rfl, hs, hI, hB⟩
  have HI := hid hI
  have HB := hid hB
  clear hI hB H
  go_wp2
  go_ret
  exact ⟨b, c, l, rfl, HI.out, HB.out⟩
theorem smp_fit {l : List Pt} (h : ∀ p ∈ l, SmP p) : (∀ r ∈ l, fit r.fr ∧ fit r.lg) ∧ (∀ r ∈ l, r.tx.size ≤ 9223372036854775807) :=
  ⟨fun r hr => by have := h r hr; unfold SmP at this; unfold fit; omega, fun r hr => by have := h r hr; unfold SmP at this; omega⟩
theorem applyV_size (s : ByteArray) (l : List Pt) : (applyV s l).size ≤ 120 := by
  cases h : goodD s l
  · rw [applyV_no h]; decide
  · rw [applyV_yes h]; exact apply_size h
set_option maxHeartbeats 1000000 in
theorem drawThen_any (len cap : Nat) (a : Option Addr) (w : World) (hK : Code w.heap.size len cap a w) :
    Calls Try.prog 12 #[.slice a len cap] w fun e w' => ∃ (s : ByteArray) (b1 : Option Addr) (c1 : Nat) (l1 : List Pt) (b2 : Option Addr) (c2 : Nat) (l2 : List Pt), e = .returned (.tuple #[.string s, .slice b1 l1.length c1, .slice b2 l2.length c2]) ∧ s.size ≤ 121 ∧ InT b1 l1 w' ∧ InT b2 l2 w' ∧ Below w.heap.size w w' := by
  have HC : Hid (Cur w.heap.size 0 (.slice a len cap) (w.alloc (.cells #[.slice a len cap, .int .i64 0, .int .u64 0] 54))) := Cur.start _ _ _
  have HK : Hid (Code w.heap.size len cap a (w.alloc (.cells #[.slice a len cap, .int .i64 0, .int .u64 0] 54))) := hK.start _
  have hz : (w.alloc (.cells #[.slice a len cap, .int .i64 0, .int .u64 0] 54)).heap.size = w.heap.size + 1 := heap_size _ _
  have HD := hid (fun w' (h : But w.heap.size (w.alloc (.cells #[.slice a len cap, .int .i64 0, .int .u64 0] 54)) w') => But.done h)
  clear hK
  go_enter Try.func12, Try.ntmps12
  go_wp2_with fail
  generalize w.alloc (.cells #[.slice a len cap, .int .i64 0, .int .u64 0] 54) = w0 at *
  refine (old_any w.heap.size 0 len cap a _ (by omega) HC.out HK.out).mono ?_
  rintro e w1 ⟨s, rfl, hs, hC1, hB1⟩
  have HC1 := hid hC1
  have HB1 := hid hB1
  have HK1 : Hid (Code w.heap.size len cap a w1) := HK.out.but hB1 (Nat.le_refl _) (by omega)
  have hs1 := hB1.size
  clear hC1 hB1 HC HK
  go_wp2_with fail
  refine (delta_any s w.heap.size _ len cap a _ (by omega) (by omega) HC1.out HK1.out).mono ?_
  rintro e w2 ⟨⟨b, c, l, rfl, hl, hsm, ho⟩, hC2, hB2⟩
  have HC2 := hid hC2
  have HB2 := hid (HB1.out.trans hB2)
  have HK2 : Hid (Code w.heap.size len cap a w2) := HK1.out.but hB2 (Nat.le_refl _) (by omega)
  have HO2 := hid ho
  have HSM := hid hsm
  have hs2 := hB2.size
  have HA := hid (sApplyD_any s b c l w2 (by omega) (by omega) (smp_fit hsm).1 (smp_fit hsm).2 ho.ts)
  have hz2 := applyV_size s l
  clear hC2 hB2 HC1 HB1 HK1 ho hsm
  generalize applyV s l = t at *
  generalize goodD s l = ok at *
  go_wp2_with fail
  refine HA.out.mono ?_
  rintro e w3 ⟨rfl, b3⟩
  have HC3 := hid (HC2.out.below b3)
  have HB3 := hid (HB2.out.trans (But.ofBelow b3))
  have HK3 : Hid (Code w.heap.size len cap a w3) := HK2.out.below (b3.mono (by omega))
  have HO3 := hid (HO2.out.below b3)
  have hs3 := b3.size
  clear b3 HC2 HB2 HK2 HO2 HA
  go_wp2_with fail
  refine (delta_any t w.heap.size _ len cap a _ (by omega) (by omega) HC3.out HK3.out).mono ?_
  rintro e w4 ⟨⟨b4, c4, l4, rfl, hl4, hsm4, ho4⟩, hC4, hB4⟩
  have HB4 : Hid (Below w.heap.size w w4) := HD.out _ (HB3.out.trans hB4)
  have HI1 : Hid (InT b l w4) := ⟨hl, HSM.out, (HO3.out.but hB4 (by omega)).ts⟩
  have HI2 : Hid (InT b4 l4 w4) := ⟨hl4, hsm4, ho4.ts⟩
  clear hC4 hB4 HC3 HB3 HK3 HO3 HD hl4 hsm4 ho4 hl
  go_wp2
  go_ret3
  exact ⟨s, b, c, l, b4, c4, l4, rfl, hs, HI1.out, HI2.out, HB4.out⟩
theorem u8_of (v : Int) (h0 : 0 ≤ v) (h1 : v < 256) : IntKind.u8.wrap v = v := by
  simp [IntKind.wrap, IntKind.bits, IntKind.signed]; omega
set_option maxHeartbeats 1000000 in
theorem drawOn_any (len cap : Nat) (a : Option Addr) (w : World) (hK : Code w.heap.size len cap a w) :
    Calls Try.prog 28 #[.slice a len cap] w fun e w' => ∃ (x : Int) (o i : Nat) (n : Int), e = .returned (.tuple #[.int .i64 x, .int .u8 o, .int .u8 i, .int .i64 n]) ∧ fit x ∧ o < 256 ∧ i < 256 ∧ Below w.heap.size w w' := by
  have HC : Hid (Cur w.heap.size 0 (.slice a len cap) (w.alloc (.cells #[.slice a len cap, .int .i64 0, .int .u64 0] 54))) := Cur.start _ _ _
  have HK : Hid (Code w.heap.size len cap a (w.alloc (.cells #[.slice a len cap, .int .i64 0, .int .u64 0] 54))) := hK.start _
  have hz : (w.alloc (.cells #[.slice a len cap, .int .i64 0, .int .u64 0] 54)).heap.size = w.heap.size + 1 := heap_size _ _
  have HD := hid (fun w' (h : But w.heap.size (w.alloc (.cells #[.slice a len cap, .int .i64 0, .int .u64 0] 54)) w') => But.done h)
  clear hK
  go_enter Try.func28, Try.ntmps28
  go_wp2_with fail
  generalize w.alloc (.cells #[.slice a len cap, .int .i64 0, .int .u64 0] 54) = w0 at *
  refine (among_any [-1, 0, 257, 64250, 251, 64256, 19712] 7 (w.heap.size + 1) w.heap.size 0 len cap 7 a _ rfl (by decide) (by decide) (by simp; omega) (by omega) (fun i hi => by have := lits_at [-1, 0, 257, 64250, 251, 64256, 19712] w0 i hi; rw [hz] at this; exact this) (by omega) (HC.out.alloc _) (HK.out.but ((But.refl w.heap.size w0).alloc _) (Nat.le_refl _) (by omega))).mono ?_
  rintro e w1 ⟨j, hj, rfl, hC1, hB1'⟩
  have hB1 := ((But.refl w.heap.size w0).alloc (.cells #[.int .i64 (-1), .int .i64 0, .int .i64 257, .int .i64 64250, .int .i64 251, .int .i64 64256, .int .i64 19712] 3)).trans hB1'
  have HFX : Hid (fit (([-1, 0, 257, 64250, 251, 64256, 19712] : List Int).getD j 0)) := by
    show fit _
    have hall : ∀ y ∈ ([-1, 0, 257, 64250, 251, 64256, 19712] : List Int), fit y := by
      intro y hy
      unfold fit
      simp at hy
      omega
    rw [List.getD_eq_getElem?_getD, List.getElem?_eq_getElem hj]
    exact hall _ (List.getElem_mem hj)
  generalize ([-1, 0, 257, 64250, 251, 64256, 19712] : List Int).getD j 0 = x at *
  clear hB1' hj
  have HC1 := hid hC1
  have HB1 := hid hB1
  have HK1 : Hid (Code w.heap.size len cap a w1) := HK.out.but hB1 (Nat.le_refl _) (by omega)
  have hs1 := hB1.size
  clear hC1 hB1 HC HK
  go_wp2_with fail
  refine (pick_any _ w.heap.size _ len cap a _ (by omega) (by omega) (by omega) HC1.out HK1.out).mono ?_
  rintro e w2 ⟨o, rfl, o0, o1, hC2, hB2⟩
  have HC2 := hid hC2
  have HB2 := hid (HB1.out.trans hB2)
  have HK2 : Hid (Code w.heap.size len cap a w2) := HK1.out.but hB2 (Nat.le_refl _) (by omega)
  have hs2 := hB2.size
  obtain ⟨o, rfl⟩ : ∃ k : Nat, o = (k : Int) := ⟨o.toNat, by omega⟩
  have u1 := u8_of (o : Int) (by omega) (by omega)
  clear hC2 hB2 HC1 HB1 HK1
  go_wp2_with fail
  refine (pick_any _ w.heap.size _ len cap a _ (by omega) (by omega) (by omega) HC2.out HK2.out).mono ?_
  rintro e w3 ⟨i, rfl, i0, i1, hC3, hB3⟩
  have HC3 := hid hC3
  have HB3 := hid (HB2.out.trans hB3)
  have HK3 : Hid (Code w.heap.size len cap a w3) := HK2.out.but hB3 (Nat.le_refl _) (by omega)
  have hs3 := hB3.size
  obtain ⟨i, rfl⟩ : ∃ k : Nat, i = (k : Int) := ⟨i.toNat, by omega⟩
  have u2 := u8_of (i : Int) (by omega) (by omega)
  clear hC3 hB3 HC2 HB2 HK2
  go_wp2_with fail
  refine (among_any [0, 1, 4, 120, 121] 5 w3.heap.size w.heap.size _ len cap 5 a _ rfl (by simp) (by simp) (by simp) (by omega) (fun i hi => lits_at [0, 1, 4, 120, 121] w3 i hi) (by omega) (HC3.out.alloc _) (HK3.out.but ((But.refl w.heap.size w3).alloc _) (Nat.le_refl _) (by omega))).mono ?_
  rintro e w4 ⟨j4, _, rfl, hC4, hB4'⟩
  have hB4 := ((But.refl w.heap.size w3).alloc (.cells #[.int .i64 0, .int .i64 1, .int .i64 4, .int .i64 120, .int .i64 121] 3)).trans hB4'
  have HB4 : Hid (Below w.heap.size w w4) := HD.out _ (HB3.out.trans hB4)
  generalize ([0, 1, 4, 120, 121] : List Int).getD j4 0 = n at *
  clear hC4 hB4 hB4' HC3 HB3 HK3 HD
  have ho256 : o < 256 := by omega
  have hi256 : i < 256 := by omega
  go_wp2_with fail
  refine bodyPost_ret (v := .tuple #[.int .i64 x, .int .u8 o, .int .u8 i, .int .i64 n]) (by simp [results, Try.results28, go_sem]) rfl ?_
  exact ⟨x, o, i, n, rfl, HFX.out, ho256, hi256, HB4.out⟩
end Go.Proofs.Ytfkcfachbfbmpaa
