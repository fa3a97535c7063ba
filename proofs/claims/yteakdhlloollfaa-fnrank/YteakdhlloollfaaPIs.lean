/- InSpan, of both sides. -/
import Derived.Test.YteakdhlloollfaaPRn
import Derived.Test.YteakdhlloollfaaPCc
namespace Go.Proofs.Yteakdhlloollfaa
set_option maxRecDepth 100000
open Go Go.ChangeShapes Go.WideShapes Go.ChangeAt Go.RowKit
def spanOk (n : Int) (l : List Int) (m : Int) : Bool := maskOk n l && maskOk n [m]
def spanV (n : Int) (l : List Int) (m : Int) : Bool := cond (spanOk n l m) (((redI n.toNat (l ++ [m])).1.length : Int) == ((redI n.toNat l).1.length : Int)) false
theorem okI_one {n : Int} {m : Int} (h : maskOk n [m] = true) : okI m := by
  obtain ⟨k, rfl, hk, hl, hok⟩ := maskOk_yes h
  exact hok m (List.mem_singleton.2 rfl)
theorem okI_more {l : List Int} {m : Int} (h : ∀ x ∈ l, okI x) (hm : okI m) : ∀ x ∈ l ++ [m], okI x := fun x hx => by
  rcases List.mem_append.1 hx with hx | hx
  · exact h x hx
  · obtain rfl := List.mem_singleton.1 hx
    exact hm
set_option maxHeartbeats 1000000 in
theorem sInSpan_any (n : Int) (a : Option Addr) (cap : Nat) (l : List Int) (m : Int) (w : World) (hn : l.length ≤ 1048576) (hZ : Is w.heap.size a l w) :
    Calls Try.prog 12 #[.int .i64 n, .slice a l.length cap, .int .i64 m] w fun e w' => e = .returned (.tuple #[.bool (spanV n l m), .bool (spanOk n l m)]) ∧ Below w.heap.size w w' := by
  have HM := hid (l10Masks_any n a cap l w hn hZ)
  cases hm : maskOk n l
  · have HV : Hid (spanOk n l m = false) := by show spanOk n l m = false; unfold spanOk; rw [hm]; rfl
    unfold spanV
    rw [HV.out]
    have HO := hid hm
    clear hm hZ
    go_enter Try.func12, Try.ntmps12
    go_wp2_with fail
    refine HM.out.mono ?_
    rintro e w2 ⟨rfl, hw2⟩
    rw [hw2, HO.out]
    clear hw2
    go_wp2_with fail
    go_ret2
    exact ⟨rfl, Below.refl _ _⟩
  · have hmy := hm
    unfold maskOk at hmy
    rw [Bool.and_eq_true] at hmy
    obtain ⟨k, rfl, h1, h2⟩ := many_nat hmy.1
    obtain ⟨k', e, -, hl, hok⟩ := maskOk_yes hm
    have hom := one_mask k m h1 h2
    have hp := wrap_pow k h2
    have HP1 := hid (wrap_pow1 k h2)
    have HO := hid hm
    clear hmy e k'
    by_cases hin : 0 ≤ m ∧ m ≤ 2 ^ k - 1
    · have h1m : maskOk (k : Int) [m] = true := by rw [hom]; exact decide_eq_true hin
      have HV : Hid (spanOk (k : Int) l m = true) := by show spanOk _ l m = true; unfold spanOk; rw [hm, h1m]; rfl
      have I1 := hid hin.1
      have I2 : Hid (m ≤ wrap64 (2 ^ k - 1)) := by show m ≤ _; rw [HP1.out]; exact hin.2
      have hok2 := okI_more hok (okI_one h1m)
      have g0 := boxB w (.cells #[] 3)
      obtain ⟨v1, w1, r0', o0, g1, -⟩ := (GL.lit KI w).app KI.ok g0.size a cap l ((hZ.below g0).mono g0.size) (by simp; omega)
      have r0 : ∀ ty, (Builtin.append_ #[23, 23] ty #[.slice (some ⟨w.heap.size, 0, none⟩) 0 0, .slice a l.length cap]).run Try.prog (w.alloc (.cells #[] 3)) = .ok v1 w1 := r0'
      rw [List.nil_append] at o0
      have gw1 : Below w.heap.size w w1 := g0.trans g1
      obtain ⟨v2, w2, r2, o2, g2, -⟩ := o0.pushI gw1.size m (by omega)
      obtain ⟨b2, c2, rfl, ob, -⟩ := o2.ints
      have HG2 := hid (gw1.trans g2)
      have HR1 := hid (srank_any k b2 c2 (l ++ [m]) w2 h2 (by simp; omega) hok2 ob.is)
      have HR2 : Hid (∀ v, Below w.heap.size w v → Calls Try.prog 22 #[.int .i64 k, .slice a l.length cap] v fun e w' => e = .returned (.int .i64 ((redI k l).1.length : Int)) ∧ Below v.heap.size v w') := fun v g => srank_any k a cap l v h2 (by omega) hok ((hZ.below g).mono g.size)
      unfold spanV
      rw [HV.out, Int.toNat_natCast]
      clear hm hZ hok hok2 hin h1m hom g0 r0' o0 g1 gw1 o2 g2 ob HP1
      generalize (redI k (l ++ [m])).1.length = R1 at *
      generalize (redI k l).1.length = R2 at *
      generalize l ++ [m] = M at *
      go_enter Try.func12, Try.ntmps12
      go_wp2_with fail
      refine HM.out.mono ?_
      rintro e w9 ⟨rfl, hw9⟩
      rw [hw9, HO.out]
      clear hw9
      go_wp2_with fail
      refine (l1In_yes _ _ _ _ I1.out I2.out).mono ?_
      rintro e w9 ⟨rfl, hw9⟩
      rw [hw9]
      clear hw9
      go_wp2_with (first | (at_builtin; refine wpList_append_run rfl (.tmp 22) (.tmp 23) 23 rfl _ _ rfl rfl _ _ r0 ?_) | (at_builtin; refine wpList_append_run rfl (.tmp 24) (.tmp 26) 23 rfl _ _ rfl rfl _ _ r2 ?_) | fail)
      refine HR1.out.mono ?_
      rintro e w3 ⟨rfl, g3⟩
      have HG3 := hid (HG2.out.trans (g3.mono HG2.out.size))
      clear g3
      go_wp2_with fail
      refine (HR2.out _ HG3.out).mono ?_
      rintro e w4 ⟨rfl, g4⟩
      have HG4 := hid (HG3.out.trans (g4.mono HG3.out.size))
      clear g4
      go_wp2_with fail
      go_ret2
      exact ⟨rfl, HG4.out⟩
    · have h1m : maskOk (k : Int) [m] = false := by rw [hom]; exact decide_eq_false hin
      have HV : Hid (spanOk (k : Int) l m = false) := by show spanOk _ l m = false; unfold spanOk; rw [hm, h1m]; rfl
      have h3 : m < 0 ∨ 2 ^ k - 1 < m := by omega
      have H3 : Hid (m < 0 ∨ wrap64 (2 ^ k - 1) < m) := by show _ ∨ _; rw [HP1.out]; exact h3
      unfold spanV
      rw [HV.out]
      clear hm hZ hok hin h1m hom h3 HP1
      go_enter Try.func12, Try.ntmps12
      go_wp2_with fail
      refine HM.out.mono ?_
      rintro e w9 ⟨rfl, hw9⟩
      rw [hw9, HO.out]
      clear hw9
      go_wp2_with fail
      refine (l1In_no _ _ _ _ H3.out).mono ?_
      rintro e w9 ⟨rfl, hw9⟩
      rw [hw9]
      clear hw9
      go_wp2_with fail
      go_ret2
      exact ⟨rfl, Below.refl _ _⟩
set_option maxHeartbeats 1000000 in
theorem iInSpan_any (n : Int) (a : Option Addr) (cap : Nat) (l : List Int) (m : Int) (w : World) (hn : l.length ≤ 1048576) (hZ : Is w.heap.size a l w) :
    Calls Try.prog 10 #[.int .i64 n, .slice a l.length cap, .int .i64 m] w fun e w' => e = .returned (.tuple #[.bool (spanV n l m), .bool (spanOk n l m)]) ∧ Below w.heap.size w w' := by
  have HM := hid (goodMasks_any n a cap l w hn hZ)
  cases hm : maskOk n l
  · have HV : Hid (spanOk n l m = false) := by show spanOk n l m = false; unfold spanOk; rw [hm]; rfl
    unfold spanV
    rw [HV.out]
    have HO := hid hm
    clear hm hZ
    go_enter Try.func10, Try.ntmps10
    go_wp2_with fail
    refine HM.out.mono ?_
    rintro e w2 ⟨rfl, hw2⟩
    rw [hw2, HO.out]
    clear hw2
    go_wp2_with fail
    go_ret2
    exact ⟨rfl, Below.refl _ _⟩
  · obtain ⟨k, rfl, h2, hl, hok⟩ := maskOk_yes hm
    have HO := hid hm
    have g1 := boxB w (.cells #[.int .i64 m] 3)
    have i1 := irow_one w m
    have HG := hid (goodMasks_any (k : Int) (some ⟨w.heap.size, 0, none⟩) 1 [m] _ (by simp) i1)
    generalize hW1 : w.alloc (.cells #[.int .i64 m] 3) = w1 at *
    cases h1m : maskOk (k : Int) [m]
    · have HV : Hid (spanOk (k : Int) l m = false) := by show spanOk _ l m = false; unfold spanOk; rw [hm, h1m]; rfl
      have HO1 := hid h1m
      have HG1 := hid g1
      unfold spanV
      rw [HV.out]
      clear hm hZ hok h1m i1 g1
      go_enter Try.func10, Try.ntmps10
      go_wp2_with fail
      refine HM.out.mono ?_
      rintro e w9 ⟨rfl, hw9⟩
      rw [hw9, HO.out]
      clear hw9
      go_wp2_with fail
      refine HG.out.mono ?_
      rintro e w9 ⟨rfl, hw9⟩
      rw [hw9, HO1.out]
      clear hw9
      go_wp2_with fail
      go_ret2
      exact ⟨rfl, HG1.out⟩
    · have HV : Hid (spanOk (k : Int) l m = true) := by show spanOk _ l m = true; unfold spanOk; rw [hm, h1m]; rfl
      have HO1 := hid h1m
      have hok2 := okI_more hok (okI_one h1m)
      have g2 := boxB w1 (.cells #[.int .i64 m] 3)
      have i2 := irow_one w1 m
      generalize hW2 : w1.alloc (.cells #[.int .i64 m] 3) = w2 at *
      have g3 := boxB w2 (.cells #[.slice a l.length cap, .slice (some ⟨w1.heap.size, 0, none⟩) 1 1] 23)
      have k3 := heap_last w2 (.cells #[.slice a l.length cap, .slice (some ⟨w1.heap.size, 0, none⟩) 1 1] 23)
      generalize hW3 : w2.alloc (.cells #[.slice a l.length cap, .slice (some ⟨w1.heap.size, 0, none⟩) 1 1] 23) = w3 at *
      have gw3 : Below w.heap.size w w3 := g1.trans ((g2.trans (g3.mono g2.size)).mono g1.size)
      have HCC := hid (concat_two w2.heap.size a (some ⟨w1.heap.size, 0, none⟩) cap 1 l [m] w3 (by omega) (by simp) k3 ((hZ.below gw3).mono gw3.size) ((i2.below g3).mono g3.size))
      have HG3 := hid gw3
      have HR1 : Hid (∀ (b : Option Addr) (c : Nat) (v : World), Is v.heap.size b (l ++ [m]) v → Calls Try.prog 21 #[.int .i64 k, .slice b (l ++ [m]).length c] v fun e w' => e = .returned (.int .i64 ((redI k (l ++ [m])).1.length : Int)) ∧ Below v.heap.size v w') := fun b c v h => irank_any k b c (l ++ [m]) v h2 (by simp; omega) hok2 h
      have HR2 : Hid (∀ v, Below w.heap.size w v → Calls Try.prog 21 #[.int .i64 k, .slice a l.length cap] v fun e w' => e = .returned (.int .i64 ((redI k l).1.length : Int)) ∧ Below v.heap.size v w') := fun v g => irank_any k a cap l v h2 (by omega) hok ((hZ.below g).mono g.size)
      unfold spanV
      rw [HV.out, Int.toNat_natCast]
      clear hm hZ hok hok2 h1m i1 i2 g1 g2 g3 k3 gw3
      generalize (redI k (l ++ [m])).1.length = R1 at *
      generalize (redI k l).1.length = R2 at *
      generalize l ++ [m] = M at *
      go_enter Try.func10, Try.ntmps10
      go_wp2_with fail
      refine HM.out.mono ?_
      rintro e w9 ⟨rfl, hw9⟩
      rw [hw9, HO.out]
      clear hw9
      go_wp2_with fail
      refine HG.out.mono ?_
      rintro e w9 ⟨rfl, hw9⟩
      rw [hw9, HO1.out]
      clear hw9
      go_wp2_with fail
      refine HCC.out.mono ?_
      rintro e w4 ⟨v4, rfl, o4, g4⟩
      obtain ⟨b4, c4, rfl, ob, -⟩ := o4.own
      have HG4 := hid (HG3.out.trans (g4.mono HG3.out.size))
      have HRR := hid (HR1.out b4 c4 w4 ob.is)
      clear o4 g4 ob HCC HR1
      go_wp2_with fail
      refine HRR.out.mono ?_
      rintro e w5 ⟨rfl, g5⟩
      have HG5 := hid (HG4.out.trans (g5.mono HG4.out.size))
      clear g5
      go_wp2_with fail
      refine (HR2.out _ HG5.out).mono ?_
      rintro e w6 ⟨rfl, g6⟩
      have HG6 := hid (HG5.out.trans (g6.mono HG5.out.size))
      clear g6
      go_wp2_with fail
      go_ret2
      exact ⟨rfl, HG6.out⟩
end Go.Proofs.Yteakdhlloollfaa
