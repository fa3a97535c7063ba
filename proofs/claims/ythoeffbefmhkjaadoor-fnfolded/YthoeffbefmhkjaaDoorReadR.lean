/- ReadRecord, of the program and of its model, by what stands at the place. -/
import Derived.Test.YthoeffbefmhkjaaDoorSReadU
import Derived.Test.YthoeffbefmhkjaaDoorSReadY
import Derived.Test.YthoeffbefmhkjaaDoorIReadR
namespace Go.Proofs.YthoeffbefmhkjaaDoor
set_option maxRecDepth 100000
open Go.ChangeShapes Go.WideShapes Go.ChangeAt Go.RowKit G00541
theorem ba_eq {a b : ByteArray} (h : a.data.toList = b.data.toList) : a = b := by rw [← str_back a, ← str_back b, h]
theorem ext_head (s : ByteArray) (i n : Nat) (h : i + n ≤ s.size) : (s.extract i s.size).extract 0 n = s.extract i (i + n) := by
  apply ba_eq
  rw [ext_list, ext_list, ext_list, List.drop_zero, Nat.sub_zero, List.take_take, show i + n - i = n by omega, Nat.min_eq_left (by omega)]
theorem ext_tail (T : ByteArray) (h : 5 ≤ T.size) : (T.extract 0 (T.size - 2)).extract 3 (T.extract 0 (T.size - 2)).size = T.extract 3 (T.size - 2) := by
  have hz := ext_size T 0 (T.size - 2) (by omega) (by omega)
  apply ba_eq
  rw [hz, ext_list, ext_list, ext_list, List.drop_zero, Nat.sub_zero, List.drop_take, List.take_take]
  congr 1
  omega
theorem ext_get (T : ByteArray) (j i : Nat) (h : i < j) (hj : j ≤ T.size) (h' : i < (T.extract 0 j).size) : (T.extract 0 j)[i]'h' = T[i]'(by omega) := by
  have a := get_list (T.extract 0 j) i h'
  have b := get_list T i (by omega)
  rw [← a, ← b, ext_list, List.drop_zero, Nat.sub_zero, List.getD_eq_getElem?_getD, List.getD_eq_getElem?_getD, List.getElem?_take, if_pos h]
theorem ext_cons (s : ByteArray) (p n : Nat) (hp : p < s.size) : (s.extract p (p + 1 + n)).data.toList = s[p] :: (s.extract (p + 1) (p + 1 + n)).data.toList := by
  rw [ext_list, ext_list, show p + 1 + n - p = n + 1 by omega, show p + 1 + n - (p + 1) = n by omega, List.drop_eq_getElem_cons (by rw [bytes_size]; exact hp), List.take_succ_cons]
  rfl
theorem u8_lt (x : UInt8) : x.toNat < 256 := x.toNat_lt
section
variable (s : ByteArray) (p : Nat) (w : World) (hs : s.size ≤ 300)
include hs
/-- what the program finds -/
theorem iread_none (hT : Tab w) (h : readR s.data.toList p = none) :
    Calls Tryd.prog 17 #[.string s, .int .i64 p] w fun e w' => e = .returned (.tuple #[zrec, .int .i64 0, .bool false]) ∧ Below w.heap.size w w' := by
  by_cases hp : p < s.size
  case neg => exact ird_out s p w (by omega)
  have hr := readR_at hp rfl
  rw [h] at hr
  generalize hn : s[p].toNat = n at hr
  have hn2 : n < 256 := by rw [← hn]; exact u8_lt _
  have hR := ext_size s (p + 1) s.size (by omega) (Nat.le_refl _)
  have hcR := fun v => cut_from s (p + 1) ((p : Int) + 1) (by omega) (by omega) v
  by_cases hle : n ≤ s.size - (p + 1)
  case neg => exact ird_long s _ p n _ w hs hp hn hn2 hR (by omega) hcR (by omega)
  have hTe := ext_head s (p + 1) n (by omega)
  have hTs := ext_size s (p + 1) (p + 1 + n) (by omega) (by omega)
  have hcT := fun v => cut_to (s.extract (p + 1) s.size) n n rfl (by omega) v
  rw [hTe] at hcT
  generalize s.extract (p + 1) (p + 1 + n) = T at *
  have hTs' : T.size = n := by omega
  have HK : ∀ v, Below w.heap.size w v → Calls Tryd.prog 40 #[.string T] v fun e w' => e = .returned (.tuple #[.string (valCheck T), .bool (okCheck T)]) ∧ Below v.heap.size v w' := fun v g => implCheck_any T v (hT.below g) (by omega)
  by_cases hok : 2 ≤ T.size ∧ T.size ≤ 400 ∧ sumOn 0 T.data.toList = 0
  case neg =>
    rw [okCheck_no hok, valCheck_no hok] at HK
    exact ird_sum s _ T _ p n _ w hs hp hn hn2 hR (by omega) hcR hle hcT HK
  rw [okCheck_yes hok, valCheck_yes hok] at HK
  have hBs := ext_size T 0 (T.size - 2) (by omega) (by omega)
  by_cases h5 : 5 ≤ n
  case neg => exact ird_short s _ T _ p n _ w hs hp hn hn2 hR (by omega) hcR hle hcT HK (by show (T.extract 0 (T.size - 2)).size < 3; omega)
  have hg : goodR (pieceR T.data.toList) = false := by
    cases hq : goodR (pieceR T.data.toList)
    · rfl
    · rw [if_pos ⟨h5, by omega, hq, hok.2.2⟩] at hr; cases hr
  rw [piece_eq T (by omega)] at hg
  have hcD := fun v => cut_from (T.extract 0 (T.size - 2)) 3 3 rfl (by omega) v
  rw [ext_tail T (by omega)] at hcD
  refine ird_bad s _ T (T.extract 0 (T.size - 2)) (T.extract 3 (T.size - 2)) p n _ (T[0].toNat) (T[1].toNat) (T[2].toNat) w hs hp hn hn2 hR (by omega) hcR hle hcT HK (by omega) (by omega) ?_ ?_ ?_ (u8_lt _) (u8_lt _) (u8_lt _) hcD (fun v => ?_)
  · rw [ext_get T _ 0 (by omega) (by omega)]
  · rw [ext_get T _ 1 (by omega) (by omega)]
  · rw [ext_get T _ 2 (by omega) (by omega)]
  · rw [← hg]; exact igood_any _ _ _ _ v
theorem iread_some (hT : Tab w) (r : Rc) (e : Nat) (h : readR s.data.toList p = some (r, e)) :
    Calls Tryd.prog 17 #[.string s, .int .i64 p] w fun x w' => x = .returned (.tuple #[rval r, .int .i64 (e : Int), .bool true]) ∧ Below w.heap.size w w' := by
  by_cases hp : p < s.size
  case neg => rw [readR_out (by omega)] at h; cases h
  have hr := readR_at hp rfl
  rw [h] at hr
  generalize hn : s[p].toNat = n at hr
  have hn2 : n < 256 := by rw [← hn]; exact u8_lt _
  split at hr
  case isFalse => cases hr
  rename_i hc
  obtain ⟨h5, hm, hg, hsum⟩ := hc
  rw [Option.some.injEq, Prod.mk.injEq] at hr
  obtain ⟨rfl, rfl⟩ := hr
  have hR := ext_size s (p + 1) s.size (by omega) (Nat.le_refl _)
  have hcR := fun v => cut_from s (p + 1) ((p : Int) + 1) (by omega) (by omega) v
  have hle : n ≤ s.size - (p + 1) := by omega
  have hTe := ext_head s (p + 1) n (by omega)
  have hTs := ext_size s (p + 1) (p + 1 + n) (by omega) (by omega)
  have hcT := fun v => cut_to (s.extract (p + 1) s.size) n n rfl (by omega) v
  rw [hTe] at hcT
  generalize s.extract (p + 1) (p + 1 + n) = T at *
  have hTs' : T.size = n := by omega
  have HK : ∀ v, Below w.heap.size w v → Calls Tryd.prog 40 #[.string T] v fun e w' => e = .returned (.tuple #[.string (valCheck T), .bool (okCheck T)]) ∧ Below v.heap.size v w' := fun v g => implCheck_any T v (hT.below g) (by omega)
  have hok : 2 ≤ T.size ∧ T.size ≤ 400 ∧ sumOn 0 T.data.toList = 0 := ⟨by omega, by omega, hsum⟩
  rw [okCheck_yes hok, valCheck_yes hok] at HK
  have hBs := ext_size T 0 (T.size - 2) (by omega) (by omega)
  have hcD := fun v => cut_from (T.extract 0 (T.size - 2)) 3 3 rfl (by omega) v
  rw [ext_tail T (by omega)] at hcD
  rw [piece_eq T (by omega)] at hg ⊢
  unfold rval
  simp only [str_back]
  refine ird_yes s _ T (T.extract 0 (T.size - 2)) (T.extract 3 (T.size - 2)) p n _ (T[0].toNat) (T[1].toNat) (T[2].toNat) w hs hp hn hn2 hR (by omega) hcR hle hcT HK (by omega) (by omega) ?_ ?_ ?_ (u8_lt _) (u8_lt _) (u8_lt _) hcD (fun v => ?_)
  · rw [ext_get T _ 0 (by omega) (by omega)]
  · rw [ext_get T _ 1 (by omega) (by omega)]
  · rw [ext_get T _ 2 (by omega) (by omega)]
  · rw [← hg]; exact igood_any _ _ _ _ v
/-- what the model finds -/
theorem sl3_none (h : readR s.data.toList p = none) :
    Calls Tryd.prog 41 #[.string s, .int .i64 p] w fun e w' => e = .returned (.tuple #[zrec, .int .i64 (-1)]) ∧ Below w.heap.size w w' := by
  by_cases hp : p < s.size
  case neg => exact l3read_out s p w (by omega)
  have hr := readR_at hp rfl
  rw [h] at hr
  generalize hn : s[p].toNat = n at hr
  have hn2 : n < 256 := by rw [← hn]; exact u8_lt _
  by_cases hc : n < 5 ∨ s.size - p - 1 < n
  · exact l3read_short s p n w hs hp hn hn2 hc
  have hTs := ext_size s (p + 1) (p + 1 + n) (by omega) (by omega)
  have hc1 := fun v => cut_at s (p + 1) (p + 1 + n) ((p : Int) + 1) ((p : Int) + 1 + (n : Int)) (by omega) (by omega) (by omega) (by omega) v
  have hc3 := fun v => cut_at s p (p + 1 + n) (p : Int) ((p : Int) + 1 + (n : Int)) (by omega) (by omega) (by omega) (by omega) v
  have hX := ext_cons s p n hp
  generalize s.extract (p + 1) (p + 1 + n) = T at *
  have hTs' : T.size = n := by omega
  have hc2 := fun v => cut_at T 3 (T.size - 2) 3 ((n : Int) - 2) rfl (by omega) (by omega) (by omega) v
  by_cases hg : goodR (pieceR T.data.toList) = true
  · have hsum : ¬ sumOn 0 T.data.toList = 0 := fun hq => by rw [if_pos ⟨by omega, by omega, hg, hq⟩] at hr; cases hr
    have hne : (textB (T[0].toNat) (T[1].toNat) (T[2].toNat) (T.extract 3 (T.size - 2))).data.toList ≠ (s.extract p (p + 1 + n)).data.toList := fun hq => by
      rw [textB_eq, str_list, hX, ← piece_eq T (by omega)] at hq
      exact hsum ((piece_text1 T.data.toList (by rw [bytes_size]; omega) (by rw [bytes_size]; omega) _ (by rw [hn, bytes_size]; omega)).1 hq)
    rw [piece_eq T (by omega)] at hg
    have hb := good_bounds hg
    refine l3read_unlike s T (T.extract 3 (T.size - 2)) p n (T[0].toNat) (T[1].toNat) (T[2].toNat) w hs hp hn hn2 (by omega) (by omega) hTs' rfl rfl rfl (u8_lt _) (u8_lt _) (u8_lt _) hc1 hc2 _ _ hc3 (fun v => by rw [← hg]; exact sgood_any _ _ _ _ v) (fun v => stext_any _ _ _ _ v hb.1 hb.2.1 hb.2.2.1 hb.2.2.2.1 hb.2.2.2.2.1 hb.2.2.2.2.2.1 (by have := hb.2.2.2.2.2.2; omega)) ?_
    rw [beq_eq_false_iff_ne, ByteArray.toList_eq, ByteArray.toList_eq]
    exact hne
  · have hg' : goodR (pieceR T.data.toList) = false := by
      cases hq : goodR (pieceR T.data.toList)
      · rfl
      · exact absurd hq hg
    rw [piece_eq T (by omega)] at hg'
    exact l3read_bad s T (T.extract 3 (T.size - 2)) p n (T[0].toNat) (T[1].toNat) (T[2].toNat) w hs hp hn hn2 (by omega) (by omega) hTs' rfl rfl rfl (u8_lt _) (u8_lt _) (u8_lt _) hc1 hc2 (fun v => by rw [← hg']; exact sgood_any _ _ _ _ v)
theorem sl3_some (r : Rc) (e : Nat) (h : readR s.data.toList p = some (r, e)) :
    Calls Tryd.prog 41 #[.string s, .int .i64 p] w fun x w' => x = .returned (.tuple #[rval r, .int .i64 (e : Int)]) ∧ Below w.heap.size w w' := by
  by_cases hp : p < s.size
  case neg => rw [readR_out (by omega)] at h; cases h
  have hr := readR_at hp rfl
  rw [h] at hr
  generalize hn : s[p].toNat = n at hr
  have hn2 : n < 256 := by rw [← hn]; exact u8_lt _
  split at hr
  case isFalse => cases hr
  rename_i hc
  obtain ⟨h5, hm, hg, hsum⟩ := hc
  rw [Option.some.injEq, Prod.mk.injEq] at hr
  obtain ⟨rfl, rfl⟩ := hr
  have hTs := ext_size s (p + 1) (p + 1 + n) (by omega) (by omega)
  have hc1 := fun v => cut_at s (p + 1) (p + 1 + n) ((p : Int) + 1) ((p : Int) + 1 + (n : Int)) (by omega) (by omega) (by omega) (by omega) v
  have hc3 := fun v => cut_at s p (p + 1 + n) (p : Int) ((p : Int) + 1 + (n : Int)) (by omega) (by omega) (by omega) (by omega) v
  have hX := ext_cons s p n hp
  generalize s.extract (p + 1) (p + 1 + n) = T at *
  have hTs' : T.size = n := by omega
  have hc2 := fun v => cut_at T 3 (T.size - 2) 3 ((n : Int) - 2) rfl (by omega) (by omega) (by omega) v
  have heq : textB (T[0].toNat) (T[1].toNat) (T[2].toNat) (T.extract 3 (T.size - 2)) = s.extract p (p + 1 + n) := by
    apply ba_eq
    rw [textB_eq, str_list, hX, ← piece_eq T (by omega)]
    exact (piece_text1 T.data.toList (by rw [bytes_size]; omega) (by rw [bytes_size]; omega) _ (by rw [hn, bytes_size]; omega)).2 hsum
  rw [piece_eq T (by omega)] at hg ⊢
  unfold rval
  simp only [str_back]
  have hb := good_bounds hg
  refine l3read_yes s T (T.extract 3 (T.size - 2)) p n (T[0].toNat) (T[1].toNat) (T[2].toNat) w hs hp hn hn2 (by omega) (by omega) hTs' rfl rfl rfl (u8_lt _) (u8_lt _) (u8_lt _) hc1 hc2 _ hc3 (fun v => by rw [← hg]; exact sgood_any _ _ _ _ v) (fun v => ?_)
  rw [← heq]
  exact stext_any _ _ _ _ v hb.1 hb.2.1 hb.2.2.1 hb.2.2.2.1 hb.2.2.2.2.1 hb.2.2.2.2.2.1 (by have := hb.2.2.2.2.2.2; omega)
end
end Go.Proofs.YthoeffbefmhkjaaDoor
