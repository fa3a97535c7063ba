/- ThenDelta of both sides. -/
import Derived.Test.YtfkcfachbfbmpaaTDd
import Derived.Test.YtfkcfachbfbmpaaTAp
namespace Go.Proofs.Ytfkcfachbfbmpaa
set_option maxRecDepth 100000
open Go Go.ChangeShapes Go.WideShapes Go.ChangeAt Go.RowKit
def thenOk (s : ByteArray) (a b : List Pt) : Bool := goodD s a && goodD (applyL s a) b
def thenV (s : ByteArray) (a b : List Pt) : List Pt := cond (thenOk s a b) (dlt s (applyL (applyL s a) b) [] 0 0) []
theorem apply_size {s : ByteArray} {l : List Pt} (h : goodD s l = true) : (applyL s l).size ≤ 120 := by
  have := apply_take h l.length
  rw [List.take_length] at this
  exact this
theorem then_yes {s : ByteArray} {a b : List Pt} (h1 : goodD s a = true) (h2 : goodD (applyL s a) b = true) : thenOk s a b = true ∧ thenV s a b = dlt s (applyL (applyL s a) b) [] 0 0 := by
  have : thenOk s a b = true := by unfold thenOk; rw [h1, h2]; rfl
  exact ⟨this, by unfold thenV; rw [this]; rfl⟩
theorem then_no1 {s : ByteArray} {a b : List Pt} (h1 : goodD s a = false) : thenOk s a b = false ∧ thenV s a b = [] := by
  have : thenOk s a b = false := by unfold thenOk; rw [h1]; rfl
  exact ⟨this, by unfold thenV; rw [this]; rfl⟩
theorem then_no2 {s : ByteArray} {a b : List Pt} (h2 : goodD (applyL s a) b = false) : thenOk s a b = false ∧ thenV s a b = [] := by
  have : thenOk s a b = false := by unfold thenOk; rw [h2]; cases goodD s a <;> rfl
  exact ⟨this, by unfold thenV; rw [this]; rfl⟩
theorem thenV_len (s : ByteArray) (a b : List Pt) : (thenV s a b).length ≤ 1048576 := by
  cases h1 : goodD s a
  · rw [(then_no1 h1).2]; exact Nat.zero_le _
  · cases h2 : goodD (applyL s a) b
    · rw [(then_no2 h2).2]; exact Nat.zero_le _
    · rw [(then_yes h1 h2).2]
      have := dlt_len s (applyL (applyL s a) b) 120 [] 0 0 (by have := apply_size h2; omega)
      simp only [List.length_nil] at this
      omega
/-- what is known of a list of parts that came in -/
structure PIn (q : Option Addr) (l : List Pt) (w : World) : Prop where
  n : l.length ≤ 1048576
  f : ∀ r ∈ l, fit r.fr ∧ fit r.lg
  z : ∀ r ∈ l, r.tx.size ≤ 9223372036854775807
  r : ∀ v, Below w.heap.size w v → Pts v.heap.size q l v
set_option maxHeartbeats 2000000 in
theorem sThen_any (s : ByteArray) (qa qb : Option Addr) (da db : Nat) (a b : List Pt) (w : World) (hs : s.size ≤ 1048576) (ha : PIn qa a w) (hb : PIn qb b w) :
    Calls Try.prog 14 #[.string s, .slice qa a.length da, .slice qb b.length db] w (TOut (thenV s a b) (thenOk s a b) w) := by
  have HG1 := hid (sGood_any s qa da a w hs ha.n ha.f ha.z (ha.r w (Below.refl _ _)))
  cases h1 : goodD s a
  · rw [h1] at HG1
    rw [(then_no1 h1).1, (then_no1 h1).2]
    clear h1 ha hb
    go_enter Try.func14, Try.ntmps14
    go_wp2_with fail
    refine HG1.out.mono ?_
    rintro e w1 ⟨rfl, b1⟩
    have HB1 := hid b1
    clear b1
    go_wp2_with fail
    go_ret2
    exact TOut.no HB1.out
  · rw [h1] at HG1
    have hz1 := apply_size h1
    have HA1 := hid (fun v (g : Below w.heap.size w v) => sApply_any s qa da a v h1 (ha.r v g))
    have HG2 := hid (fun v (g : Below w.heap.size w v) => sGood_any (applyL s a) qb db b v (by omega) hb.n hb.f hb.z (hb.r v g))
    cases h2 : goodD (applyL s a) b
    · rw [h2] at HG2
      rw [(then_no2 h2).1, (then_no2 h2).2]
      generalize applyL s a = X at *
      clear h1 h2 ha hb
      go_enter Try.func14, Try.ntmps14
      go_wp2_with fail
      refine HG1.out.mono ?_
      rintro e w1 ⟨rfl, b1⟩
      have HB1 := hid b1
      clear b1
      go_wp2_with fail
      refine (HA1.out _ HB1.out).mono ?_
      rintro e w2 ⟨rfl, b2⟩
      have HB2 := hid (HB1.out.trans (b2.mono HB1.out.size))
      clear b2
      go_wp2_with fail
      refine (HG2.out _ HB2.out).mono ?_
      rintro e w3 ⟨rfl, b3⟩
      have HB3 := hid (HB2.out.trans (b3.mono HB2.out.size))
      clear b3
      go_wp2_with fail
      go_ret2
      exact TOut.no HB3.out
    · rw [h2] at HG2
      rw [(then_yes h1 h2).1, (then_yes h1 h2).2]
      have h120 := (goodD_parts h1).1
      have hz2 := apply_size h2
      have HA2 := hid (fun v (g : Below w.heap.size w v) => sApply_any (applyL s a) qb db b v h2 (hb.r v g))
      have HD := hid (fun v => sDelta_any s (applyL (applyL s a) b) v h120 hz2)
      generalize dlt s (applyL (applyL s a) b) [] 0 0 = V at *
      generalize applyL (applyL s a) b = Y at *
      generalize applyL s a = X at *
      clear h1 h2 ha hb
      go_enter Try.func14, Try.ntmps14
      go_wp2_with fail
      refine HG1.out.mono ?_
      rintro e w1 ⟨rfl, b1⟩
      have HB1 := hid b1
      clear b1
      go_wp2_with fail
      refine (HA1.out _ HB1.out).mono ?_
      rintro e w2 ⟨rfl, b2⟩
      have HB2 := hid (HB1.out.trans (b2.mono HB1.out.size))
      clear b2
      go_wp2_with fail
      refine (HG2.out _ HB2.out).mono ?_
      rintro e w3 ⟨rfl, b3⟩
      have HB3 := hid (HB2.out.trans (b3.mono HB2.out.size))
      clear b3
      go_wp2_with fail
      refine (HA1.out _ HB3.out).mono ?_
      rintro e w4 ⟨rfl, b4⟩
      have HB4 := hid (HB3.out.trans (b4.mono HB3.out.size))
      clear b4
      go_wp2_with fail
      refine (HA2.out _ HB4.out).mono ?_
      rintro e w5 ⟨rfl, b5⟩
      have HB5 := hid (HB4.out.trans (b5.mono HB4.out.size))
      clear b5
      go_wp2_with fail
      refine (HD.out _).mono ?_
      rintro e w6 ⟨v6, rfl, o6, b6⟩
      have HO6 := hid (o6.mono HB5.out.size)
      have HB6 := hid (HB5.out.trans (b6.mono HB5.out.size))
      clear b6 o6
      go_wp2_with fail
      go_ret2
      exact TOut.yes HO6.out HB6.out
set_option maxHeartbeats 2000000 in
theorem iThen_any (s : ByteArray) (qa qb : Option Addr) (da db : Nat) (a b : List Pt) (w : World) (ha : PIn qa a w) (hb : PIn qb b w) :
    Calls Try.prog 13 #[.string s, .slice qa a.length da, .slice qb b.length db] w (TOut (thenV s a b) (thenOk s a b) w) := by
  have HA1 := hid (iApply_any s qa da a w ha.f ha.z (ha.r w (Below.refl _ _)))
  cases h1 : goodD s a
  · rw [h1] at HA1
    rw [(then_no1 h1).1, (then_no1 h1).2]
    generalize applyV s a = X at *
    clear h1 ha hb
    go_enter Try.func13, Try.ntmps13
    go_wp2_with fail
    refine HA1.out.mono ?_
    rintro e w1 ⟨rfl, b1⟩
    have HB1 := hid b1
    clear b1
    go_wp2_with fail
    go_ret2
    exact TOut.no HB1.out
  · rw [h1, applyV_yes h1] at HA1
    have HA2 := hid (fun v (g : Below w.heap.size w v) => iApply_any (applyL s a) qb db b v hb.f hb.z (hb.r v g))
    cases h2 : goodD (applyL s a) b
    · rw [h2] at HA2
      rw [(then_no2 h2).1, (then_no2 h2).2]
      generalize applyV (applyL s a) b = Y at *
      generalize applyL s a = X at *
      clear h1 h2 ha hb
      go_enter Try.func13, Try.ntmps13
      go_wp2_with fail
      refine HA1.out.mono ?_
      rintro e w1 ⟨rfl, b1⟩
      have HB1 := hid b1
      clear b1
      go_wp2_with fail
      refine (HA2.out _ HB1.out).mono ?_
      rintro e w2 ⟨rfl, b2⟩
      have HB2 := hid (HB1.out.trans (b2.mono HB1.out.size))
      clear b2
      go_wp2_with fail
      go_ret2
      exact TOut.no HB2.out
    · rw [h2, applyV_yes h2] at HA2
      rw [(then_yes h1 h2).1, (then_yes h1 h2).2]
      have HD : Hid (∀ v, Calls Try.prog 6 #[.string s, .string (applyL (applyL s a) b)] v (TOut (dlt s (applyL (applyL s a) b) [] 0 0) true v)) := fun v => iDelta_yes s _ v (goodD_parts h1).1 (apply_size h2)
      generalize dlt s (applyL (applyL s a) b) [] 0 0 = V at *
      generalize applyL (applyL s a) b = Y at *
      generalize applyL s a = X at *
      clear h1 h2 ha hb
      go_enter Try.func13, Try.ntmps13
      go_wp2_with fail
      refine HA1.out.mono ?_
      rintro e w1 ⟨rfl, b1⟩
      have HB1 := hid b1
      clear b1
      go_wp2_with fail
      refine (HA2.out _ HB1.out).mono ?_
      rintro e w2 ⟨rfl, b2⟩
      have HB2 := hid (HB1.out.trans (b2.mono HB1.out.size))
      clear b2
      go_wp2_with fail
      refine (HD.out _).mono ?_
      rintro e w3 ⟨b, c, rfl, o3, b3⟩
      have HB3 := hid (HB2.out.trans (b3.mono HB2.out.size))
      have HO3 : Hid (OwnT w.heap.size w3.heap.size b V w3) := by
        rcases o3 with h | ⟨R, h1, h2, h3, h4⟩
        · exact Or.inl h
        · exact Or.inr ⟨R, Nat.le_trans HB2.out.size h1, h2, h3, h4⟩
      clear b3 o3
      go_wp2_with fail
      go_ret2
      exact ⟨b, c, rfl, HO3.out, HB3.out⟩
end Go.Proofs.Ytfkcfachbfbmpaa
