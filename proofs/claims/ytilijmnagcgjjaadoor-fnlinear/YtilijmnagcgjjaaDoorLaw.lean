/- The law on sums: its walk out of the contracts. -/
import Derived.Test.YtilijmnagcgjjaaDoorLin
namespace Go.Proofs.YtilijmnagcgjjaaDoor
set_option maxRecDepth 100000
open Go.ChangeShapes Go.WideShapes Go.ChangeAt Go.RowKit
set_option maxHeartbeats 8000000 in
theorem law_small (l1 c1 l2 c2 : Nat) (a1 a2 : Option Addr) (w : World) (hT : Tab w) (h12 : l1 + l2 ≤ 1048576) (hK1 : Code w.heap.size l1 c1 a1 w) (hK2 : Code w.heap.size l2 c2 a2 w) :
    Calls Tryd.prog 3 #[.slice a1 l1 c1, .slice a2 l2 c2] w fun e w' => e = .returned (.bool true) ∧ Below w.heap.size w w' := by
  have hd : decide ((1048576 : Int) < (l1 : Int) + (l2 : Int)) = false := by simp; omega
  have HT : Hid (Tab w) := hT
  have HK1 : Hid (Code w.heap.size l1 c1 a1 w) := hK1
  have HK2 : Hid (Code w.heap.size l2 c2 a2 w) := hK2
  clear hT hK1 hK2
  go_enter Tryd.func3, Tryd.ntmps3
  go_wp2_with fail
  refine (drawUnlike_any l1 c1 a1 _ HK1.out).mono ?_
  rintro e u1 ⟨s, t, hs, ht, rfl, b⟩
  have HBa : Hid (Below w.heap.size w u1) := b
  have HTa : Hid (Tab u1) := HT.out.below b
  have HKa : Hid (Code u1.heap.size l2 c2 a2 u1) := (HK2.out.below b).mono b.size
  clear b HT HK1 HK2
  by_cases hg : s.size = t.size ∧ s.size ≤ 400
  · have HG : Hid (s.size = t.size) := hg.1
    have h4 := hg.2
    have htl : t.size ≤ 400 := by omega
    clear hg
    have hX := xorL_length s t HG.out
    go_wp2_with fail
    refine (implUnlike_good s t _ HG.out h4).mono ?_
    rintro e u2 ⟨rfl, b⟩
    have HBb : Hid (Below w.heap.size w u2) := HBa.out.trans (b.mono HBa.out.size)
    have HTb : Hid (Tab u2) := HTa.out.below b
    have HKb : Hid (Code u2.heap.size l2 c2 a2 u2) := (HKa.out.below b).mono b.size
    clear b HBa HTa HKa
    go_wp2_with fail
    refine (specUnlike_good s t _ HG.out h4).mono ?_
    rintro e u3 ⟨rfl, b⟩
    have HBc : Hid (Below w.heap.size w u3) := HBb.out.trans (b.mono HBb.out.size)
    have HTc : Hid (Tab u3) := HTb.out.below b
    have HKc : Hid (Code u3.heap.size l2 c2 a2 u3) := (HKb.out.below b).mono b.size
    clear b HBb HTb HKb
    have HF : Hid (∀ k, (G00541.sumOn 0 (xorL s t)) = (G00541.sumOn 0 s.data.toList) ^^^ (G00541.sumOn 0 t.data.toList) ∧
      G00541.sumOn (G00541.sumOn 0 (s.data.toList.take k)) (s.data.toList.drop k) = G00541.sumOn 0 s.data.toList ∧
      (G00541.sumOn (G00541.sumOn 0 (s.data.toList.take k)) (List.replicate (s.size - k) 0)) ^^^ (G00541.sumOn 0 (s.data.toList.drop k)) = G00541.sumOn 0 s.data.toList) := fun k => sums_facts s t k HG.out
    have hP := G00541.sumOn_lt s.data.toList 0 (by decide)
    have hQ := G00541.sumOn_lt t.data.toList 0 (by decide)
    have cS := fun v hv => implOf_yes s v hv h4
    have cT := fun v hv => implOf_yes t v hv htl
    have hXd : (⟨(xorL s t).toArray⟩ : ByteArray).data.toList = xorL s t := by simp
    have hXs : (⟨(xorL s t).toArray⟩ : ByteArray).size ≤ 400 := by show (xorL s t).toArray.size ≤ 400; simp; omega
    have cX := fun v hv => implOf_yes ⟨(xorL s t).toArray⟩ v hv hXs
    rw [hXd] at cX
    generalize G00541.sumOn 0 s.data.toList = P at *
    generalize G00541.sumOn 0 t.data.toList = Q at *
    generalize G00541.sumOn 0 (xorL s t) = R at *
    generalize (⟨(xorL s t).toArray⟩ : ByteArray) = X at *
    have CS := cS _ HTc.out
    have CT := cT _ HTc.out
    have CX := cX _ HTc.out
    have CS' : Hid (Calls Tryd.prog 7 #[.string s] u3 fun e w' => e = .returned (.tuple #[.int .i64 (P : Int), .bool true]) ∧ w' = u3) := CS
    have CT' : Hid (Calls Tryd.prog 7 #[.string t] u3 fun e w' => e = .returned (.tuple #[.int .i64 (Q : Int), .bool true]) ∧ w' = u3) := CT
    have CX' : Hid (Calls Tryd.prog 7 #[.string X] u3 fun e w' => e = .returned (.tuple #[.int .i64 (R : Int), .bool true]) ∧ w' = u3) := CX
    clear cS cT cX CS CT CX hXd
    have hR := xor_ne P Q R hP hQ (HF.out 0).1
    go_wp2_with fail
    refine (CS'.out).mono ?_
    rintro e w9 ⟨rfl, rfl⟩
    go_wp2_with fail
    refine (CT'.out).mono ?_
    rintro e w9 ⟨rfl, rfl⟩
    go_wp2_with fail
    refine (CX'.out).mono ?_
    rintro e w9 ⟨rfl, rfl⟩
    clear CS' CT' CX'
    go_wp2_with fail
    refine (numberOf_any _ l2 c2 a2 _ HKc.out).mono ?_
    rintro e w9 ⟨⟨n, n0, n1, rfl⟩, rfl⟩
    obtain ⟨k, hk, hkl⟩ := mod_nat n s.size
    obtain ⟨-, f2, f3⟩ := HF.out k
    rw [← take_data, ← drop_data] at f2 f3
    have hH := G00541.sumOn_lt (s.extract 0 k).data.toList 0 (by decide)
    have hzt : (s.extract 0 k).size ≤ 400 := by rw [ByteArray.size_extract]; omega
    have hzd : (s.extract k s.size).size ≤ 400 := by rw [ByteArray.size_extract]; omega
    have hY := G00541.sumOn_lt (s.extract k s.size).data.toList 0 (by decide)
    have cH := implOf_yes (s.extract 0 k) w9 HTc.out hzt
    have cY := fun v hv => implOf_yes (s.extract k s.size) v hv hzd
    have cG := implOn_good (G00541.sumOn 0 (s.extract 0 k).data.toList) (s.extract k s.size) w9 HTc.out hH hzd
    generalize G00541.sumOn 0 (s.extract 0 k).data.toList = H at *
    generalize G00541.sumOn 0 (s.extract k s.size).data.toList = Y at *
    have cZ := implZ_yes H ((s.size : Int) - (k : Int)) w9 HTc.out hH (by omega) (by omega)
    rw [show ((s.size : Int) - (k : Int)).toNat = s.size - k by omega] at cZ
    have hZ := G00541.sumOn_lt (List.replicate (s.size - k) 0) H hH
    rw [f2] at cG
    generalize G00541.sumOn H (List.replicate (s.size - k) 0) = Z at *
    have hZY := xor_ne' Z Y P hZ hY f3
    have CH : Hid (Calls Tryd.prog 7 #[.string (s.extract 0 k)] w9 fun e w' => e = .returned (.tuple #[.int .i64 (H : Int), .bool true]) ∧ w' = w9) := cH
    have CG : Hid (Calls Tryd.prog 9 #[.int .i64 (H : Int), .string (s.extract k s.size)] w9 fun e w' => e = .returned (.tuple #[.int .i64 (P : Int), .bool true]) ∧ w' = w9) := cG
    have CZ : Hid (Calls Tryd.prog 10 #[.int .i64 (H : Int), .int .i64 ((s.size : Int) - (k : Int))] w9 fun e w' => e = .returned (.tuple #[.int .i64 (Z : Int), .bool true]) ∧ Below w9.heap.size w9 w') := cZ
    have CY : Hid (∀ v, Tab v → Calls Tryd.prog 7 #[.string (s.extract k s.size)] v fun e w' => e = .returned (.tuple #[.int .i64 (Y : Int), .bool true]) ∧ w' = v) := cY
    clear cH cG cZ cY f2 f3 HF
    go_wp2_with fail
    refine (CH.out).mono ?_
    rintro e w8 ⟨rfl, rfl⟩
    go_wp2_with fail
    refine (CG.out).mono ?_
    rintro e w8 ⟨rfl, rfl⟩
    clear CH CG
    go_wp2_with fail
    refine (CZ.out).mono ?_
    rintro e u4 ⟨rfl, b⟩
    have HBd : Hid (Below w.heap.size w u4) := HBc.out.trans (b.mono HBc.out.size)
    have HTd : Hid (Tab u4) := HTc.out.below b
    have HKd : Hid (Code u4.heap.size l2 c2 a2 u4) := (HKc.out.below b).mono b.size
    clear b HBc HTc HKc CZ
    go_wp2_with fail
    refine (CY.out _ HTd.out).mono ?_
    rintro e w8 ⟨rfl, rfl⟩
    clear CY
    -- what follows the two texts
    go_wp2_with fail
    refine (drawSumOn_any l2 c2 a2 _ HKd.out).mono ?_
    rintro e v1 ⟨n1, s1, hs1, rfl, b⟩
    have HB1 : Hid (Below w.heap.size w v1) := HBd.out.trans (b.mono HBd.out.size)
    have HT1 : Hid (Tab v1) := HTd.out.below b
    have HK1 : Hid (Code v1.heap.size l2 c2 a2 v1) := (HKd.out.below b).mono b.size
    clear b HBd HTd HKd
    go_wp2_with fail
    refine (implOn_any _ _ _ HT1.out (by omega)).mono ?_
    rintro e w9 ⟨rfl, rfl⟩
    go_wp2_with fail
    refine (specSumOn_any _ _ _ (by unfold maxLen; omega)).mono ?_
    rintro e w9 ⟨rfl, rfl⟩
    go_wp2_with fail
    refine (drawSumOf_any l2 c2 a2 _ HK1.out).mono ?_
    rintro e v2 ⟨s2, hs2, rfl, b⟩
    have HB2 : Hid (Below w.heap.size w v2) := HB1.out.trans (b.mono HB1.out.size)
    have HT2 : Hid (Tab v2) := HT1.out.below b
    have HK2 : Hid (Code v2.heap.size l2 c2 a2 v2) := (HK1.out.below b).mono b.size
    clear b HB1 HT1 HK1
    go_wp2_with fail
    refine (implOf_any _ _ HT2.out (by omega)).mono ?_
    rintro e w9 ⟨rfl, rfl⟩
    go_wp2_with fail
    refine (specOf_any _ _ (by unfold maxLen; omega)).mono ?_
    rintro e w9 ⟨rfl, rfl⟩
    go_wp2_with fail
    refine (drawSumZeros_any l2 c2 a2 _ HK2.out).mono ?_
    rintro e v3 ⟨n3, m3, rfl, b⟩
    have HB3 : Hid (Below w.heap.size w v3) := HB2.out.trans (b.mono HB2.out.size)
    have HT3 : Hid (Tab v3) := HT2.out.below b
    clear b HB2 HT2 HK2
    go_wp2_with fail
    refine (implZ_any _ _ _ HT3.out).mono ?_
    rintro e v4 ⟨rfl, b⟩
    have HB4 : Hid (Below w.heap.size w v4) := HB3.out.trans (b.mono HB3.out.size)
    clear b HB3 HT3
    go_wp2_with fail
    refine (specZ_any _ _ _).mono ?_
    rintro e v5 ⟨rfl, b⟩
    have HB5 : Hid (Below w.heap.size w v5) := HB4.out.trans (b.mono HB4.out.size)
    clear b HB4
    go_wp2
    go_ret
    exact ⟨rfl, HB5.out⟩
  · have hgb := hg
    clear hg
    go_wp2_with fail
    refine (implUnlike_bad s t _ (by omega) (by omega) hgb).mono ?_
    rintro e w9 ⟨rfl, rfl⟩
    go_wp2_with fail
    refine (specUnlike_bad s t _ (by omega) (by omega) hgb).mono ?_
    rintro e w9 ⟨rfl, rfl⟩
    clear hgb
    -- what follows the two texts
    go_wp2_with fail
    refine (drawSumOn_any l2 c2 a2 _ HKa.out).mono ?_
    rintro e v1 ⟨n1, s1, hs1, rfl, b⟩
    have HB1 : Hid (Below w.heap.size w v1) := HBa.out.trans (b.mono HBa.out.size)
    have HT1 : Hid (Tab v1) := HTa.out.below b
    have HK1 : Hid (Code v1.heap.size l2 c2 a2 v1) := (HKa.out.below b).mono b.size
    clear b HBa HTa HKa
    go_wp2_with fail
    refine (implOn_any _ _ _ HT1.out (by omega)).mono ?_
    rintro e w9 ⟨rfl, rfl⟩
    go_wp2_with fail
    refine (specSumOn_any _ _ _ (by unfold maxLen; omega)).mono ?_
    rintro e w9 ⟨rfl, rfl⟩
    go_wp2_with fail
    refine (drawSumOf_any l2 c2 a2 _ HK1.out).mono ?_
    rintro e v2 ⟨s2, hs2, rfl, b⟩
    have HB2 : Hid (Below w.heap.size w v2) := HB1.out.trans (b.mono HB1.out.size)
    have HT2 : Hid (Tab v2) := HT1.out.below b
    have HK2 : Hid (Code v2.heap.size l2 c2 a2 v2) := (HK1.out.below b).mono b.size
    clear b HB1 HT1 HK1
    go_wp2_with fail
    refine (implOf_any _ _ HT2.out (by omega)).mono ?_
    rintro e w9 ⟨rfl, rfl⟩
    go_wp2_with fail
    refine (specOf_any _ _ (by unfold maxLen; omega)).mono ?_
    rintro e w9 ⟨rfl, rfl⟩
    go_wp2_with fail
    refine (drawSumZeros_any l2 c2 a2 _ HK2.out).mono ?_
    rintro e v3 ⟨n3, m3, rfl, b⟩
    have HB3 : Hid (Below w.heap.size w v3) := HB2.out.trans (b.mono HB2.out.size)
    have HT3 : Hid (Tab v3) := HT2.out.below b
    clear b HB2 HT2 HK2
    go_wp2_with fail
    refine (implZ_any _ _ _ HT3.out).mono ?_
    rintro e v4 ⟨rfl, b⟩
    have HB4 : Hid (Below w.heap.size w v4) := HB3.out.trans (b.mono HB3.out.size)
    clear b HB3 HT3
    go_wp2_with fail
    refine (specZ_any _ _ _).mono ?_
    rintro e v5 ⟨rfl, b⟩
    have HB5 : Hid (Below w.heap.size w v5) := HB4.out.trans (b.mono HB4.out.size)
    clear b HB4
    go_wp2
    go_ret
    exact ⟨rfl, HB5.out⟩
set_option maxHeartbeats 400000 in
theorem law_big (l1 c1 l2 c2 : Nat) (a1 a2 : Option Addr) (w : World) (h1 : l1 ≤ 4611686018427387903) (h2 : l2 ≤ 4611686018427387903) (h12 : ¬ l1 + l2 ≤ 1048576) :
    Calls Tryd.prog 3 #[.slice a1 l1 c1, .slice a2 l2 c2] w fun e w' => e = .returned (.bool true) ∧ Below w.heap.size w w' := by
  have hd : decide ((1048576 : Int) < (l1 : Int) + (l2 : Int)) = true := by simp; omega
  go_enter Tryd.func3, Tryd.ntmps3
  go_wp2_with fail
  go_ret
  exact ⟨rfl, Below.refl _ _⟩
end Go.Proofs.YtilijmnagcgjjaaDoor
