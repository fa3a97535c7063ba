/- Walks of the drawn segments. -/
import Derived.Test.YthoeffbefmhkjaaDoorDrawT
namespace Go.Proofs.YthoeffbefmhkjaaDoor
set_option maxRecDepth 100000
open Go.ChangeShapes Go.WideShapes Go.ChangeAt Go.RowKit G00541
theorem own_recs_cap {w w' : World} {B : Nat} {v : Value} {l : List Rc} (h : w'.ownsRow B 36 4 v l.length (rflat l)) (hB : B = w.heap.size) : ∃ b c, v = .slice b l.length c ∧ l.length ≤ c ∧ OwnR w.heap.size w'.heap.size b l w' := by
  obtain ⟨b, c, e, ho⟩ := own_recs h hB
  refine ⟨b, c, e, ?_, ho⟩
  rcases h.2 with ⟨_, h0⟩ | ⟨g, cap, cur, e', _, _, hc, _⟩
  · omega
  · rw [e] at e'
    cases e'
    exact hc
theorem segV_le (l : List Rc) : (segV l).size ≤ 300 := by
  unfold segV
  split
  · rename_i h
    unfold segOk at h
    rw [Bool.and_eq_true] at h
    rw [str_size]
    exact of_decide_eq_true h.2
  · exact Nat.zero_le _
set_option maxHeartbeats 1000000 in
theorem segment_any (B N len cap : Nat) (a : Option Addr) (w : World) (hN : N ≤ 700000) (hC : Cur B N (.slice a len cap) w) (hK : Code B len cap a w) :
    Calls Tryd.prog 36 #[.pointer (some ⟨B, 0, none⟩)] w fun e w' => ∃ X : ByteArray, e = .returned (.string X) ∧ X.size ≤ 302 ∧ Cur B (N + 4000) (.slice a len cap) w' ∧ But B w w' := by
  have hlt := hC.lt
  have HC : Hid (Cur B N (.slice a len cap) w) := hC
  have HK : Hid (Code B len cap a w) := hK
  clear hC hK
  go_enter Tryd.func36, Tryd.ntmps36
  go_wp2_with fail
  refine (records_any 8 B N len cap a _ (by decide) (by omega) HC.out HK.out).mono ?_
  rintro e w1 ⟨l, v, rfl, hl, hd, hown, hC1, hB1⟩
  obtain ⟨b, c, rfl, ho⟩ := own_recs hown rfl
  have HO : Hid (Rs w1.heap.size b l w1) := ho.rs
  have HC1 : Hid (Cur B (N + 3000) (.slice a len cap) w1) := hC1
  have HB1 : Hid (But B w w1) := hB1
  have HK1 : Hid (Code B len cap a w1) := HK.out.but hB1 (Nat.le_refl _) (by omega)
  have hs1 := hB1.size
  clear hC1 hB1 HC HK hown ho hd
  go_wp2_with fail
  refine (sseg_any b c l _ (by omega) HO.out).mono ?_
  rintro e w2 ⟨rfl, hb2⟩
  have hB2 : But B w1 w2 := But.ofBelow hb2
  have hs2 := hb2.size
  have HC2 : Hid (Cur B (N + 3000) (.slice a len cap) w2) := HC1.out.below hb2
  have HB2 : Hid (But B w w2) := HB1.out.trans hB2
  have HK2 : Hid (Code B len cap a w2) := HK1.out.but hB2 (Nat.le_refl _) (by omega)
  have hsz := segV_le l
  generalize segV l = S at *
  generalize segOk l = ok at *
  clear hb2 hB2 HO HC1 HB1 HK1
  go_wp2_with fail
  refine (one_any 3 B (N + 3000) len cap a _ (by decide) (by decide) (by omega) HC2.out HK2.out).mono ?_
  rintro e w3 ⟨t, rfl, hC3, hB3⟩
  have hs3 := hB3.size
  have HC3 : Hid (Cur B (N + 3000 + 2) (.slice a len cap) w3) := hC3
  have HB3 : Hid (But B w w3) := HB2.out.trans hB3
  have HK3 : Hid (Code B len cap a w3) := HK2.out.but hB3 (Nat.le_refl _) (by omega)
  clear hC3 hB3 HC2 HB2 HK2
  cases t
  · go_wp2
    go_ret
    exact ⟨S, rfl, by omega, HC3.out.mono (by omega), HB3.out⟩
  · go_wp2_with fail
    refine (spoilt_any S ⟨#[0, 5, 1, 97, 98]⟩ B (N + 3000 + 2) len cap a _ hsz rfl (by omega) HC3.out HK3.out).mono ?_
    rintro e w4 ⟨X, rfl, hX, hC4, hB4⟩
    have HC4 : Hid (Cur B (N + 4000) (.slice a len cap) w4) := hC4.mono (by omega)
    have HB4 : Hid (But B w w4) := HB3.out.trans hB4
    clear hC4 hB4
    go_wp2
    go_ret
    exact ⟨X, rfl, hX, HC4.out, HB4.out⟩
set_option maxHeartbeats 1000000 in
theorem drawReadSegment_any (len cap : Nat) (a : Option Addr) (w : World) (hK : Code w.heap.size len cap a w) :
    Calls Tryd.prog 12 #[.slice a len cap] w fun e w' => ∃ X : ByteArray, e = .returned (.string X) ∧ X.size ≤ 302 ∧ Below w.heap.size w w' := by
  have HC : Hid (∀ T, Cur w.heap.size 0 (.slice a len cap) (w.alloc (.cells #[.slice a len cap, .int .i64 0, .int .u64 0] T))) := fun T => Cur.start _ T w
  have HK : Hid (∀ o, Code w.heap.size len cap a (w.alloc o)) := fun o => hK.start o
  clear hK
  go_enter Tryd.func12, Tryd.ntmps12
  go_wp2_with fail
  refine (segment_any w.heap.size 0 len cap a _ (by omega) (HC.out _) (HK.out _)).mono ?_
  rintro e w1 ⟨X, rfl, hX, hC1, hB1⟩
  have HB1 : Hid (Below w.heap.size w w1) := hB1.done
  clear hC1 hB1
  go_wp2
  go_ret
  exact ⟨X, rfl, hX, HB1.out⟩
set_option maxHeartbeats 1000000 in
theorem drawSegmentText_any (len cap : Nat) (a : Option Addr) (w : World) (hK : Code w.heap.size len cap a w) :
    Calls Tryd.prog 5 #[.slice a len cap] w fun e w' => ∃ (l : List Rc) (b : Option Addr) (c : Nat), e = .returned (.slice b l.length c) ∧ l.length ≤ 64 ∧ l.length ≤ c ∧ (∀ r ∈ l, r.data.length ≤ 9) ∧ OwnR w.heap.size w'.heap.size b l w' ∧ Below w.heap.size w w' := by
  have HC : Hid (∀ T o, Cur w.heap.size 0 (.slice a len cap) ((w.alloc (.cells #[.slice a len cap, .int .i64 0, .int .u64 0] T)).alloc o)) := fun T o => (Cur.start _ T w).alloc o
  have HK : Hid (∀ o o', Code w.heap.size len cap a ((w.alloc o).alloc o')) := fun o o' => (hK.start o).but ((But.refl w.heap.size _).alloc o') (Nat.le_refl _) (by simp)
  clear hK
  go_enter Tryd.func5, Tryd.ntmps5
  go_wp2_with fail
  refine (among_any [5, 10, 40] 3 (w.heap.size + 1) w.heap.size 0 len cap 3 a _ rfl (by decide) (by decide) (by simp) (by omega) (fun i hi => by have := lits_at [5, 10, 40] (w.alloc (.cells #[.slice a len cap, .int .i64 0, .int .u64 0] 55)) i hi; rw [heap_size] at this; exact this) (by omega) (HC.out _ _) (HK.out _ _)).mono ?_
  rintro e w1 ⟨i, hi, rfl, hC1, hB1⟩
  have hm : ∃ m : Nat, ([5, 10, 40] : List Int).getD i 0 = (m : Int) ∧ m ≤ 64 := by
    match i, hi with
    | 0, _ => exact ⟨5, rfl, by decide⟩
    | 1, _ => exact ⟨10, rfl, by decide⟩
    | 2, _ => exact ⟨40, rfl, by decide⟩
  obtain ⟨m, em, hm⟩ := hm
  rw [em]
  have hs1 := hB1.size
  rw [heap_size, heap_size] at hs1
  have HC1 : Hid (Cur w.heap.size (0 + 2) (.slice a len cap) w1) := hC1
  have HB1 : Hid (Below w.heap.size w w1) := (((Below.refl _ _).alloc (Nat.le_refl _) _).alloc (by simp) _).trans (hB1.below (Nat.le_refl _) (by simp; omega))
  have HK1 : Hid (Code w.heap.size len cap a w1) := (HK.out _ _).but hB1 (Nat.le_refl _) (by rw [heap_size, heap_size]; omega)
  clear hC1 hB1 HC HK hi em
  go_wp2_with fail
  refine (records_any m w.heap.size (0 + 2) len cap a _ hm (by omega) HC1.out HK1.out).mono ?_
  rintro e w2 ⟨l, v, rfl, hl, hd, hown, hC2, hB2⟩
  obtain ⟨b, c, rfl, hlc, ho⟩ := own_recs_cap hown rfl
  have HO : Hid (OwnR w.heap.size w2.heap.size b l w2) := by
    rcases ho with h | ⟨R, h1, h3, e, hr⟩
    · exact Or.inl h
    · exact Or.inr ⟨R, by omega, h3, e, hr⟩
  have HD : Hid (∀ r ∈ l, r.data.length ≤ 9) := hd
  have HB2 : Hid (Below w.heap.size w w2) := HB1.out.trans (hB2.below (Nat.le_refl _) (by omega))
  clear hd hown hC2 hB2 ho HC1 HB1 HK1
  go_wp2
  go_ret
  exact ⟨l, b, c, rfl, by omega, hlc, HD.out, HO.out, HB2.out⟩
set_option maxHeartbeats 1000000 in
theorem drawReadRecord_any (len cap : Nat) (a : Option Addr) (w : World) (hK : Code w.heap.size len cap a w) :
    Calls Tryd.prog 16 #[.slice a len cap] w fun e w' => ∃ (X : ByteArray) (k : Int), e = .returned (.tuple #[.string X, .int .i64 k]) ∧ X.size ≤ 302 ∧ Below w.heap.size w w' := by
  have HC : Hid (∀ T, Cur w.heap.size 0 (.slice a len cap) (w.alloc (.cells #[.slice a len cap, .int .i64 0, .int .u64 0] T))) := fun T => Cur.start _ T w
  have HK : Hid (∀ o, Code w.heap.size len cap a (w.alloc o)) := fun o => hK.start o
  clear hK
  go_enter Tryd.func16, Tryd.ntmps16
  go_wp2_with fail
  refine (segment_any w.heap.size 0 len cap a _ (by omega) (HC.out _) (HK.out _)).mono ?_
  rintro e w1 ⟨X, rfl, hX, hC1, hB1⟩
  have hs1 := hB1.size
  rw [heap_size] at hs1
  have HC1 : Hid (Cur w.heap.size (0 + 4000) (.slice a len cap) w1) := hC1
  have HB1 : Hid (Below w.heap.size w w1) := hB1.done
  have HK1 : Hid (Code w.heap.size len cap a w1) := (HK.out _).but hB1 (Nat.le_refl _) (by simp)
  clear hC1 hB1 HC HK
  go_wp2_with fail
  refine (pick_any _ w.heap.size (0 + 4000) len cap a _ (by omega) (by omega) (by omega) HC1.out HK1.out).mono ?_
  rintro e w2 ⟨k, rfl, k0, k1, hC2, hB2⟩
  have hs2 := hB2.size
  have HC2 : Hid (∀ o, Cur w.heap.size (0 + 4000 + 2) (.slice a len cap) (w2.alloc o)) := fun o => hC2.alloc o
  have HB2 : Hid (Below w.heap.size w w2) := HB1.out.trans (hB2.below (Nat.le_refl _) (by omega))
  have HK2 : Hid (∀ o, Code w.heap.size len cap a (w2.alloc o)) := fun o => (HK1.out.but hB2 (Nat.le_refl _) (by omega)).but ((But.refl w.heap.size w2).alloc o) (Nat.le_refl _) (by omega)
  clear hC2 hB2 HC1 HB1 HK1
  go_wp2_with fail
  refine (among_any [0, 0, 0, -1, k] 5 w2.heap.size w.heap.size (0 + 4000 + 2) len cap 5 a _ rfl (by simp) (by simp) (by simp) (by omega) (fun i hi => by have := lits_at [0, 0, 0, -1, k] w2 i hi; exact this) (by omega) (HC2.out _) (HK2.out _)).mono ?_
  rintro e w3 ⟨i, hi, rfl, hC3, hB3⟩
  generalize ([0, 0, 0, -1, k] : List Int).getD i 0 = q at *
  have HB3 : Hid (Below w.heap.size w w3) := (HB2.out.alloc (by omega) _).trans (hB3.below (Nat.le_refl _) (by simp; omega))
  clear hC3 hB3 HB2 HC2 HK2
  go_wp2
  go_ret2
  exact ⟨X, q, rfl, hX, HB3.out⟩
set_option maxHeartbeats 1000000 in
theorem drawTornSegment_any (len cap : Nat) (a : Option Addr) (w : World) (hK : Code w.heap.size len cap a w) :
    Calls Tryd.prog 14 #[.slice a len cap] w fun e w' => ∃ (X : ByteArray) (k : Int), e = .returned (.tuple #[.string X, .int .i64 k]) ∧ X.size ≤ 302 ∧ Below w.heap.size w w' := by
  have HC : Hid (∀ T, Cur w.heap.size 0 (.slice a len cap) (w.alloc (.cells #[.slice a len cap, .int .i64 0, .int .u64 0] T))) := fun T => Cur.start _ T w
  have HK : Hid (∀ o, Code w.heap.size len cap a (w.alloc o)) := fun o => hK.start o
  clear hK
  go_enter Tryd.func14, Tryd.ntmps14
  go_wp2_with fail
  refine (segment_any w.heap.size 0 len cap a _ (by omega) (HC.out _) (HK.out _)).mono ?_
  rintro e w1 ⟨X, rfl, hX, hC1, hB1⟩
  have hs1 := hB1.size
  rw [heap_size] at hs1
  have HC1 : Hid (Cur w.heap.size (0 + 4000) (.slice a len cap) w1) := hC1
  have HB1 : Hid (Below w.heap.size w w1) := hB1.done
  have HK1 : Hid (Code w.heap.size len cap a w1) := (HK.out _).but hB1 (Nat.le_refl _) (by simp)
  clear hC1 hB1 HC HK
  go_wp2_with fail
  refine (pick_any _ w.heap.size (0 + 4000) len cap a _ (by omega) (by omega) (by omega) HC1.out HK1.out).mono ?_
  rintro e w2 ⟨k, rfl, k0, k1, hC2, hB2⟩
  have hs2 := hB2.size
  have HC2 : Hid (Cur w.heap.size (0 + 4000 + 2) (.slice a len cap) w2) := hC2
  have HB2 : Hid (Below w.heap.size w w2) := HB1.out.trans (hB2.below (Nat.le_refl _) (by omega))
  have HK2 : Hid (Code w.heap.size len cap a w2) := HK1.out.but hB2 (Nat.le_refl _) (by omega)
  clear hC2 hB2 HC1 HB1 HK1
  go_wp2_with fail
  refine (pick_any 9 w.heap.size (0 + 4000 + 2) len cap a _ (by omega) (by omega) (by omega) HC2.out HK2.out).mono ?_
  rintro e w3 ⟨q, rfl, q0, q1, hC3, hB3⟩
  have HB3 : Hid (Below w.heap.size w w3) := HB2.out.trans (hB3.below (Nat.le_refl _) (by omega))
  clear hC3 hB3 HB2 HC2 HK2
  go_wp2
  go_ret2
  exact ⟨X, _, rfl, hX, HB3.out⟩
end Go.Proofs.YthoeffbefmhkjaaDoor
