/- Walks of WithSum, of the program and of its model. -/
import Derived.Test.YthoeffbefmhkjaaDoorQA
import Derived.Laws.BytesArg
namespace Go.Proofs.YthoeffbefmhkjaaDoor
set_option maxRecDepth 100000
open Go.ChangeShapes Go.WideShapes Go.ChangeAt Go.RowKit
theorem specOn_int (n : Int) (s : ByteArray) (w : World) (h0 : 0 ≤ n) (hn : n < 65536) (hs : s.size ≤ maxLen) :
    Calls Tryd.prog 63 #[.int .i64 n, .string s] w fun e w' => (∃ m : Nat, m = G00541.sumOn n.toNat s.data.toList ∧ m < 65536 ∧ e = .returned (.int .i64 m)) ∧ w' = w := by
  obtain ⟨n, rfl⟩ := Int.eq_ofNat_of_zero_le h0
  refine (specOn_any n s w (by omega) hs).mono fun e w' ⟨he, hw⟩ => ⟨⟨_, rfl, ?_, ?_⟩, hw⟩
  · exact G00541.sumOn_lt _ _ (by omega)
  · rw [he, Int.toNat_natCast]
theorem ret_str {a b : ByteArray} (h : a = b) : Ending.returned (.string a) = .returned (.string b) := by rw [h]
theorem ret_str2 {a b : ByteArray} {c d : Bool} (h : a = b) (g : c = d) : Ending.returned (.tuple #[.string a, .bool c]) = .returned (.tuple #[.string b, .bool d]) := by rw [h, g]
def sumZZ (s : ByteArray) : Nat := G00541.sumOn 0 (s ++ { data := #[0, 0] } : ByteArray).data.toList
def withText (s : ByteArray) : ByteArray := s ++ strOfNums [(sumZZ s : Int) / 256, (sumZZ s : Int) % 256]
theorem two_bytes (w : World) (x y : Int) : Sem.run Tryd.prog (convert 22 9 (.slice (some ⟨w.heap.size, 0, none⟩) 2 2)) (w.alloc (.cells #[.int .u8 x, .int .u8 y] 5)) =
    .ok (.string (strOfNums [x, y])) (w.alloc (.cells #[.int .u8 x, .int .u8 y] 5)) :=
  run_convert_bytes_arg (w.alloc (.cells #[.int .u8 x, .int .u8 y] 5)) 22 5 Tryd.underlying22 Tryd.underlying5 w.heap.size 0 2 2 [x, y] rfl (fun i hi => by
    rcases (by omega : i = 0 ∨ i = 1) with rfl | rfl
    · go_simp
    · go_simp) 9 Tryd.underlying9
theorem two_size (x y : Int) : (strOfNums [x, y]).size = 2 := strOfNums_size _
set_option maxHeartbeats 400000 in
theorem l1With_any (s : ByteArray) (w : World) (hs : s.size ≤ 1048576) :
    Calls Tryd.prog 60 #[.string s] w fun e w' => e = .returned (.string (withText s)) ∧ Below w.heap.size w w' := by
  have hz : (s ++ { data := #[0, 0] } : ByteArray).size ≤ maxLen := by rw [ByteArray.size_append]; unfold maxLen; show s.size + 2 ≤ _; omega
  have hcv := two_bytes
  have hsz := two_size
  go_enter Tryd.func60, Tryd.ntmps60
  go_wp2_with fail
  refine (specOn_int _ _ _ (by omega) (by omega) hz).mono ?_
  rintro e w' ⟨⟨m, hm, hl, rfl⟩, rfl⟩
  have HM : Hid (m = sumZZ s) := hm
  clear hm
  go_wp2
  go_ret
  exact ⟨ret_str (by rw [withText, ← HM.out]), (Below.refl _ _).alloc (Nat.le_refl _) _⟩
theorem zz_size (s : ByteArray) : (s ++ { data := #[0, 0] } : ByteArray).size = s.size + 2 := by rw [ByteArray.size_append]; rfl
def okWith (s : ByteArray) : Bool := decide (s.size ≤ 398)
def valWith (s : ByteArray) : ByteArray := if okWith s = true then withText s else ⟨#[]⟩
theorem okWith_yes {s : ByteArray} (h : s.size ≤ 398) : okWith s = true := by unfold okWith; simpa using h
theorem okWith_no {s : ByteArray} (h : ¬ s.size ≤ 398) : okWith s = false := by unfold okWith; simpa using h
theorem valWith_yes {s : ByteArray} (h : s.size ≤ 398) : valWith s = withText s := by unfold valWith; rw [if_pos (okWith_yes h)]
theorem valWith_no {s : ByteArray} (h : ¬ s.size ≤ 398) : valWith s = ⟨#[]⟩ := by unfold valWith; rw [if_neg (by rw [okWith_no h]; decide)]
theorem implOf_zz (s : ByteArray) (w : World) (hT : Tab w) (hs : s.size ≤ 398) :
    Calls Tryd.prog 55 #[.string (s ++ { data := #[0, 0] })] w fun e w' => (∃ m : Nat, m = sumZZ s ∧ m < 65536 ∧ e = .returned (.tuple #[.int .i64 m, .bool true])) ∧ w' = w := by
  have hz := zz_size s
  have h4 : (s ++ { data := #[0, 0] } : ByteArray).size ≤ 400 := by omega
  refine (implOf_any _ w hT (by omega)).mono fun e w' ⟨he, hw⟩ => ⟨⟨sumZZ s, rfl, G00541.sumOn_lt _ _ (by decide), ?_⟩, hw⟩
  rw [he, show (0 : Int) = ((0 : Nat) : Int) from rfl, okSum_yes (by decide) h4, valSum_yes (by decide) h4]
  rfl
theorem implOf_zz_no (s : ByteArray) (w : World) (hT : Tab w) (hb : s.size ≤ 1048576) (hs : ¬ s.size ≤ 398) :
    Calls Tryd.prog 55 #[.string (s ++ { data := #[0, 0] })] w fun e w' => e = .returned (.tuple #[.int .i64 0, .bool false]) ∧ w' = w := by
  have hz := zz_size s
  refine (implOf_any _ w hT (by omega)).mono fun e w' ⟨he, hw⟩ => ⟨?_, hw⟩
  rw [he, okSum_no (by omega), valSum_no (by omega)]
set_option maxHeartbeats 400000 in
theorem implWith_any (s : ByteArray) (w : World) (hT : Tab w) (hs : s.size ≤ 1048576) :
    Calls Tryd.prog 42 #[.string s] w fun e w' => e = .returned (.tuple #[.string (valWith s), .bool (okWith s)]) ∧ Below w.heap.size w w' := by
  by_cases h : s.size ≤ 398
  · rw [okWith_yes h, valWith_yes h]
    have hcv := two_bytes
    have hsz := two_size
    go_enter Tryd.func42, Tryd.ntmps42
    go_wp2_with fail
    refine (implOf_zz s _ hT h).mono ?_
    rintro e w' ⟨⟨m, hm, hl, rfl⟩, rfl⟩
    have HM : Hid (m = sumZZ s) := hm
    clear hm
    go_wp2
    go_ret2
    exact ⟨ret_str2 (by rw [withText, ← HM.out]) rfl, (Below.refl _ _).alloc (Nat.le_refl _) _⟩
  · rw [okWith_no h, valWith_no h]
    go_enter Tryd.func42, Tryd.ntmps42
    go_wp2_with fail
    refine (implOf_zz_no s _ hT hs h).mono ?_
    rintro e w' ⟨rfl, rfl⟩
    go_wp2
    go_ret2
    exact ⟨rfl, Below.refl _ _⟩
theorem Tab.below {w w' : World} (hT : Tab w) (hb : Below w.heap.size w w') : Tab w' := fun i hi => by
  have h := hT i hi
  have hlt : 0 < w.heap.size := World.block_lt_of_cell? _ _ h
  exact (hb.cell (p := ⟨0, i, none⟩) hlt).trans h
end Go.Proofs.YthoeffbefmhkjaaDoor
