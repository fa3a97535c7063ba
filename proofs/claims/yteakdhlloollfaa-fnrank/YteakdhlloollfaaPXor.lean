/- Bits of masks, texts unlike together. -/
import Derived.Test.YteakdhlloollfaaPGs
import Derived.Test.YteakdhlloollfaaBytes
namespace Go.Proofs.Yteakdhlloollfaa
set_option maxRecDepth 100000
open Go Go.ChangeShapes Go.WideShapes Go.ChangeAt Go.RowKit
theorem wrap_i64_small (n : Nat) (h : n < 9223372036854775808) : IntKind.i64.wrap (n : Int) = (n : Int) := by
  simp [IntKind.wrap, IntKind.bits, IntKind.signed]; omega
theorem ofInt_i64 (a : Nat) (ha : a < 9223372036854775808) : (BitVec.ofInt 64 (a : Int)).toNat = a := by
  rw [BitVec.ofInt_natCast, BitVec.toNat_ofNat]; exact Nat.mod_eq_of_lt (by omega)
theorem i64_and (a b : Nat) (ha : a < 9223372036854775808) (hb : b < 9223372036854775808) : bits .and .i64 (a : Int) (b : Int) = ((a &&& b : Nat) : Int) := by
  have e : (BitVec.ofInt 64 (a : Int) &&& BitVec.ofInt 64 (b : Int)).toNat = a &&& b := by rw [BitVec.toNat_and, ofInt_i64 a ha, ofInt_i64 b hb]
  show IntKind.i64.wrap ((BitVec.ofInt 64 (a : Int) &&& BitVec.ofInt 64 (b : Int)).toNat : Int) = _
  rw [e, wrap_i64_small _ (Nat.lt_of_le_of_lt Nat.and_le_left ha)]
theorem i64_or (a b : Nat) (ha : a < 9223372036854775808) (hb : b < 9223372036854775808) : bits .or .i64 (a : Int) (b : Int) = ((a ||| b : Nat) : Int) := by
  have e : (BitVec.ofInt 64 (a : Int) ||| BitVec.ofInt 64 (b : Int)).toNat = a ||| b := by rw [BitVec.toNat_or, ofInt_i64 a ha, ofInt_i64 b hb]
  show IntKind.i64.wrap ((BitVec.ofInt 64 (a : Int) ||| BitVec.ofInt 64 (b : Int)).toNat : Int) = _
  rw [e, wrap_i64_small _ (Nat.or_lt_two_pow (n := 63) ha hb)]
theorem i64_xor (a b : Nat) (ha : a < 9223372036854775808) (hb : b < 9223372036854775808) : bits .xor .i64 (a : Int) (b : Int) = ((a ^^^ b : Nat) : Int) := by
  have e : (BitVec.ofInt 64 (a : Int) ^^^ BitVec.ofInt 64 (b : Int)).toNat = a ^^^ b := by rw [BitVec.toNat_xor, ofInt_i64 a ha, ofInt_i64 b hb]
  show IntKind.i64.wrap ((BitVec.ofInt 64 (a : Int) ^^^ BitVec.ofInt 64 (b : Int)).toNat : Int) = _
  rw [e, wrap_i64_small _ (Nat.xor_lt_two_pow (n := 63) ha hb)]
theorem bit_and (m k : Nat) (hm : m < 9223372036854775808) : bits .and .i64 ((m : Int) / 2 ^ k) 1 = ((m / 2 ^ k % 2 : Nat) : Int) := by
  have e : (m : Int) / 2 ^ k = ((m / 2 ^ k : Nat) : Int) := by rw [Int.natCast_ediv, Int.natCast_pow]; rfl
  have h2 : m / 2 ^ k ≤ m := Nat.div_le_self _ _
  rw [e, show (1 : Int) = ((1 : Nat) : Int) from rfl, i64_and _ _ (by omega) (by decide), Nat.and_one_is_mod]
theorem bit_val (m k : Nat) (hm : m < 9223372036854775808) : (bits .and .i64 ((m : Int) / 2 ^ k) 1 == 1) = m.testBit k := by
  rw [bit_and m k hm, Nat.testBit_eq_decide_div_mod_eq]
  apply Bool.eq_iff_iff.2
  rw [beq_iff_eq, decide_eq_true_eq]
  omega
theorem bit_val0 (m k : Nat) (hm : m < 9223372036854775808) : (bits .and .i64 ((m : Int) / 2 ^ k) 1 == 0) = !m.testBit k := by
  rw [bit_and m k hm, Nat.testBit_eq_decide_div_mod_eq, ← decide_not]
  apply Bool.eq_iff_iff.2
  rw [beq_iff_eq, decide_eq_true_eq]
  omega
set_option maxHeartbeats 400000 in
theorem hasBit_any (m k : Nat) (hm : m < 1048576) (hk : k < 64) (w : World) : Calls Try.prog 30 #[.int .i64 m, .int .i64 k] w fun e w' => e = .returned (.bool (m.testBit k)) ∧ w' = w := by
  have hb := bit_val m k (by omega)
  generalize m.testBit k = x at *
  go_enter Try.func30, Try.ntmps30
  go_wp2
  go_ret
  exact ⟨rfl, rfl⟩
def xorL (a b : ByteArray) : List UInt8 := List.zipWith (fun c d => c ^^^ d) a.data.toList b.data.toList
theorem xorL_length (a b : ByteArray) (h : a.size = b.size) : (xorL a b).length = a.size := by
  unfold xorL; rw [List.length_zipWith]; simp; omega
theorem xorL_at (a b : ByteArray) (k : Nat) (ha : k < a.size) (hb : k < b.size) (h : k < (xorL a b).length) : (xorL a b)[k] = a[k] ^^^ b[k] :=
  (List.getElem_zipWith (f := fun c d : UInt8 => c ^^^ d) (h := h)).trans rfl
theorem xorL_val (a b : ByteArray) (k : Nat) (ha : k < a.size) (hb : k < b.size) (h : k < (xorL a b).length) : bits .xor .u8 (a[k].toNat : Int) (b[k].toNat : Int) = ((xorL a b)[k].toNat : Int) := by
  rw [xorL_at a b k ha hb h, xor_u8]
/-- two texts, bit for bit unlike -/
def xorT (a b : ByteArray) : ByteArray := ⟨(xorL a b).toArray⟩
theorem xorT_size (a b : ByteArray) (h : a.size = b.size) : (xorT a b).size = a.size := by
  show (xorL a b).toArray.size = a.size
  rw [List.size_toArray, xorL_length a b h]
theorem xorT_list (a b : ByteArray) : (xorT a b).data.toList = xorL a b := rfl
/-- a text of bytes nought -/
def zeroT (n : Nat) : ByteArray := ⟨(List.replicate n (0 : UInt8)).toArray⟩
theorem zeroT_size (n : Nat) : (zeroT n).size = n := by
  show (List.replicate n (0 : UInt8)).toArray.size = n
  simp
/-- a text and the first k sources of a mask, unlike together -/
def sumT (D : ByteArray) (l : List ByteArray) (m : Nat) : Nat → ByteArray
  | 0 => D
  | k + 1 => cond (m.testBit k) (xorT (sumT D l m k) (l.getD k ⟨#[]⟩)) (sumT D l m k)
theorem sumT_size (D : ByteArray) (l : List ByteArray) (m : Nat) (h : ∀ k (hk : k < l.length), m.testBit k = true → l[k].size = D.size) (k : Nat) (hk : k ≤ l.length) : (sumT D l m k).size = D.size := by
  induction k with
  | zero => rfl
  | succ n ih =>
    have h1 := ih (by omega)
    unfold sumT
    cases hb : m.testBit n
    · exact h1
    · show (xorT (sumT D l m n) (l.getD n ⟨#[]⟩)).size = D.size
      have h2 := h n (by omega) hb
      rw [List.getD_eq_getElem?_getD, List.getElem?_eq_getElem (by omega), Option.getD_some]
      rw [xorT_size _ _ (by omega), h1]
theorem sumT_yes (D : ByteArray) (l : List ByteArray) (m k : Nat) (hk : k < l.length) (hb : m.testBit k = true) : sumT D l m (k + 1) = xorT (sumT D l m k) l[k] := by
  show cond (m.testBit k) _ _ = _
  rw [hb, List.getD_eq_getElem?_getD, List.getElem?_eq_getElem hk]
  rfl
theorem sumT_no (D : ByteArray) (l : List ByteArray) (m k : Nat) (hb : m.testBit k = false) : sumT D l m (k + 1) = sumT D l m k := by
  show cond (m.testBit k) _ _ = _
  rw [hb]
  rfl
theorem info5 : (Try.prog.info? 5).map (fun i => (i.zero, i.size, i.bytes)) = some (some (.int .u8 0), 1, 1) := by kernel_rfl
theorem make_bytes (n : Nat) (hn : n ≤ 1048576) (W : World) : (Instr.makeSlice 22 (.int .i64 (n : Int)) (.int .i64 (n : Int))).run Try.prog W =
    .ok (.slice (some ⟨W.heap.size, 0, none⟩) n n) (W.alloc (.cells (madeCells (Value.int .u8 0).cells n) 5)) := by
  obtain ⟨i0, hi, hz0, hz1, hz2⟩ := info_parts info5
  have h := run_make (P := Try.prog) W 22 5 i0 (.int .u8 0) Try.underlying22 hi hz0 .i64 .i64 (n : Int) (n : Int) (by omega) (by omega) (by rw [hz2]; omega) (by omega)
  rw [hz1] at h
  simpa using h
theorem bytes_of (W : World) (s : ByteArray) : Sem.run Try.prog (convert 9 22 (.string s)) W = .ok (.slice (some ⟨W.heap.size, 0, none⟩) s.size (grownCap W s.size 0 5)) (Lib.bytesWorld W 5 s) :=
  Lib.run_convert_string_bytes W 9 22 5 s Try.underlying9 Try.underlying22 Try.underlying5
set_option maxHeartbeats 1000000 in
theorem l10Xor_any (a b : ByteArray) (w : World) (h1 : a.size = b.size) (h2 : a.size ≤ 1048576) :
    Calls Try.prog 39 #[.string a, .string b] w fun e w' => e = .returned (.string (xorT a b)) ∧ Below w.heap.size w w' := by
  have hX := xorL_length a b h1
  have hr0 : ByteRow w.heap.size ((xorL a b).take 0 ++ a.data.toList.drop 0) (Lib.bytesWorld w 5 a) := ByteRow.ofString w a
  have HR : Hid (ByteRow w.heap.size ((xorL a b).take 0 ++ a.data.toList.drop 0) (Lib.bytesWorld w 5 a) ∧ Below w.heap.size w (Lib.bytesWorld w 5 a)) := ⟨hr0, bytesWorld_below w a⟩
  clear hr0
  have hcv := bytes_of w a
  generalize Lib.bytesWorld w 5 a = w1 at *
  generalize grownCap w a.size 0 5 = cap at *
  have H1 : Hid (a.size = b.size) := h1
  clear h1
  go_enter Try.func39, Try.ntmps39
  go_wp2
  go_loopw [11] (fun i wr => ∃ k : Nat, k ≤ a.size ∧ i = .int .i64 k ∧ ByteRow w.heap.size ((xorL a b).take k ++ a.data.toList.drop k) wr ∧ Below w.heap.size w wr) (fun i _ => a.size - (intOf i).toNat)
  case atStart => exact ⟨0, Nat.zero_le _, rfl, HR.out.1, HR.out.2⟩
  case round =>
    obtain ⟨k, hk, rfl, hrow, hbel⟩ := hrel
    by_cases hlt : k < a.size
    · have hlb : k < b.size := by have := H1.out; omega
      have hla : a.data.toList.length = (xorL a b).length := by simp; omega
      have hlen := mix_length (xorL a b) a.data.toList k (by omega) hla
      have hcell : wr.cell? ⟨w.heap.size, k, none⟩ = some (.int .u8 (a[k].toNat : Int)) := by
        rw [hrow.cell k (by omega), mix_at _ _ k (by omega) hla (by omega)]; rfl
      have hfree := hrow.free k (by omega)
      have HROW : Hid (ByteRow w.heap.size ((xorL a b).take k ++ a.data.toList.drop k) wr) := hrow
      have HBEL : Hid (Below w.heap.size w wr) := hbel
      clear hrow hbel hlen
      go_wp2
      go_region
      all_goals go_wp2
      all_goals go_roundw
      case rel => exact ⟨k + 1, by omega, by go_num, HROW.out.step (by omega) hla (xorL_val a b k hlt hlb (by omega)), (HBEL.out.setCell (Nat.le_refl _) _).drew⟩
      case measure => simp [intOf]; omega
    · rw [mix_end _ _ _ (by omega) (by simp; omega)] at hrow
      have hback := hrow.back (P := Try.prog) (n := a.size) (cap := cap) hX.symm 22 9 Try.underlying22 Try.underlying5 Try.underlying9
      have HBEL : Hid (Below w.heap.size w wr) := hbel
      clear hrow hbel
      go_wp2
      go_ret
      exact ⟨rfl, HBEL.out⟩
end Go.Proofs.Yteakdhlloollfaa
