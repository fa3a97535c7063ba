/- Bits of masks, texts unlike together. -/
import Derived.Test.YtnjeeeccfhpolaaPGs
import Derived.Test.YtnjeeeccfhpolaaBytes
namespace Go.Proofs.Ytnjeeeccfhpolaa
set_option maxRecDepth 100000
open Go Go.ChangeShapes Go.WideShapes Go.ChangeAt Go.RowKit
theorem wrap_i64_small (n : Nat) (h : n < 9223372036854775808) : IntKind.i64.wrap (n : Int) = (n : Int) := by
  simp [IntKind.wrap, IntKind.bits, IntKind.signed]; omega
theorem ofInt_i64 (a : Nat) (ha : a < 9223372036854775808) : (BitVec.ofInt 64 (a : Int)).toNat = a := by
  rw [BitVec.ofInt_natCast, BitVec.toNat_ofNat]; exact Nat.mod_eq_of_lt (by omega)
theorem i64_and (a b : Nat) (ha : a < 9223372036854775808) (hb : b < 9223372036854775808) : bits .and .i64 (a : Int) (b : Int) = ((a &&& b : Nat) : Int) := by
  have e : (BitVec.ofInt 64 (a : Int) &&& BitVec.ofInt 64 (b : Int)).toNat = a &&& b := by rw [BitVec.toNat_and, ofInt_i64 a ha, ofInt_i64 b hb]
  show IntKind.i64.wrap ((BitVec.ofInt 64 (a : Int) &&& BitVec.ofInt 64 (b : Int)).toNat : Int) = _
  rw [e, wrap_i64_small _ (Nat.lt_of_le_of_lt Nat.and_le_left ha)]
theorem i64_or (a b : Nat) (ha : a < 9223372036854775808) (hb : b < 9223372036854775808) : bits .or .i64 (a : Int) (b : Int) = ((a ||| b : Nat) : Int) := by
  have e : (BitVec.ofInt 64 (a : Int) ||| BitVec.ofInt 64 (b : Int)).toNat = a ||| b := by rw [BitVec.toNat_or, ofInt_i64 a ha, ofInt_i64 b hb]
  show IntKind.i64.wrap ((BitVec.ofInt 64 (a : Int) ||| BitVec.ofInt 64 (b : Int)).toNat : Int) = _
  rw [e, wrap_i64_small _ (Nat.or_lt_two_pow (n := 63) ha hb)]
theorem i64_xor (a b : Nat) (ha : a < 9223372036854775808) (hb : b < 9223372036854775808) : bits .xor .i64 (a : Int) (b : Int) = ((a ^^^ b : Nat) : Int) := by
  have e : (BitVec.ofInt 64 (a : Int) ^^^ BitVec.ofInt 64 (b : Int)).toNat = a ^^^ b := by rw [BitVec.toNat_xor, ofInt_i64 a ha, ofInt_i64 b hb]
  show IntKind.i64.wrap ((BitVec.ofInt 64 (a : Int) ^^^ BitVec.ofInt 64 (b : Int)).toNat : Int) = _
  rw [e, wrap_i64_small _ (Nat.xor_lt_two_pow (n := 63) ha hb)]
theorem bit_and (m k : Nat) (hm : m < 9223372036854775808) : bits .and .i64 ((m : Int) / 2 ^ k) 1 = ((m / 2 ^ k % 2 : Nat) : Int) := by
  have e : (m : Int) / 2 ^ k = ((m / 2 ^ k : Nat) : Int) := by rw [Int.natCast_ediv, Int.natCast_pow]; rfl
  have h2 : m / 2 ^ k ≤ m := Nat.div_le_self _ _
  rw [e, show (1 : Int) = ((1 : Nat) : Int) from rfl, i64_and _ _ (by omega) (by decide), Nat.and_one_is_mod]
theorem bit_val (m k : Nat) (hm : m < 9223372036854775808) : (bits .and .i64 ((m : Int) / 2 ^ k) 1 == 1) = m.testBit k := by
  rw [bit_and m k hm, Nat.testBit_eq_decide_div_mod_eq]
  apply Bool.eq_iff_iff.2
  rw [beq_iff_eq, decide_eq_true_eq]
  omega
theorem bit_val0 (m k : Nat) (hm : m < 9223372036854775808) : (bits .and .i64 ((m : Int) / 2 ^ k) 1 == 0) = !m.testBit k := by
  rw [bit_and m k hm, Nat.testBit_eq_decide_div_mod_eq, ← decide_not]
  apply Bool.eq_iff_iff.2
  rw [beq_iff_eq, decide_eq_true_eq]
  omega
set_option maxHeartbeats 400000 in
theorem hasBit_any (m k : Nat) (hm : m < 1048576) (hk : k < 64) (w : World) : Calls Try.prog 64 #[.int .i64 m, .int .i64 k] w fun e w' => e = .returned (.bool (m.testBit k)) ∧ w' = w := by
  have hb := bit_val m k (by omega)
  generalize m.testBit k = x at *
  go_enter Try.func64, Try.ntmps64
  go_wp2
  go_ret
  exact ⟨rfl, rfl⟩
def xorL (a b : ByteArray) : List UInt8 := List.zipWith (fun c d => c ^^^ d) a.data.toList b.data.toList
theorem xorL_length (a b : ByteArray) (h : a.size = b.size) : (xorL a b).length = a.size := by
  unfold xorL; rw [List.length_zipWith]; simp; omega
theorem xorL_at (a b : ByteArray) (k : Nat) (ha : k < a.size) (hb : k < b.size) (h : k < (xorL a b).length) : (xorL a b)[k] = a[k] ^^^ b[k] :=
  (List.getElem_zipWith (f := fun c d : UInt8 => c ^^^ d) (h := h)).trans rfl
theorem xorL_val (a b : ByteArray) (k : Nat) (ha : k < a.size) (hb : k < b.size) (h : k < (xorL a b).length) : bits .xor .u8 (a[k].toNat : Int) (b[k].toNat : Int) = ((xorL a b)[k].toNat : Int) := by
  rw [xorL_at a b k ha hb h, xor_u8]
/-- two texts, bit for bit unlike -/
def xorT (a b : ByteArray) : ByteArray := ⟨(xorL a b).toArray⟩
theorem xorT_size (a b : ByteArray) (h : a.size = b.size) : (xorT a b).size = a.size := by
  show (xorL a b).toArray.size = a.size
  rw [List.size_toArray, xorL_length a b h]
theorem xorT_list (a b : ByteArray) : (xorT a b).data.toList = xorL a b := rfl
/-- a text of bytes nought -/
def zeroT (n : Nat) : ByteArray := ⟨(List.replicate n (0 : UInt8)).toArray⟩
theorem zeroT_size (n : Nat) : (zeroT n).size = n := by
  show (List.replicate n (0 : UInt8)).toArray.size = n
  simp
/-- a text and the first k sources of a mask, unlike together -/
def sumT (D : ByteArray) (l : List ByteArray) (m : Nat) : Nat → ByteArray
  | 0 => D
  | k + 1 => cond (m.testBit k) (xorT (sumT D l m k) (l.getD k ⟨#[]⟩)) (sumT D l m k)
theorem sumT_size (D : ByteArray) (l : List ByteArray) (m : Nat) (h : ∀ k (hk : k < l.length), m.testBit k = true → l[k].size = D.size) (k : Nat) (hk : k ≤ l.length) : (sumT D l m k).size = D.size := by
  induction k with
  | zero => rfl
  | succ n ih =>
    have h1 := ih (by omega)
    unfold sumT
    cases hb : m.testBit n
    · exact h1
    · show (xorT (sumT D l m n) (l.getD n ⟨#[]⟩)).size = D.size
      have h2 := h n (by omega) hb
      rw [List.getD_eq_getElem?_getD, List.getElem?_eq_getElem (by omega), Option.getD_some]
      rw [xorT_size _ _ (by omega), h1]
theorem sumT_yes (D : ByteArray) (l : List ByteArray) (m k : Nat) (hk : k < l.length) (hb : m.testBit k = true) : sumT D l m (k + 1) = xorT (sumT D l m k) l[k] := by
  show cond (m.testBit k) _ _ = _
  rw [hb, List.getD_eq_getElem?_getD, List.getElem?_eq_getElem hk]
  rfl
theorem sumT_no (D : ByteArray) (l : List ByteArray) (m k : Nat) (hb : m.testBit k = false) : sumT D l m (k + 1) = sumT D l m k := by
  show cond (m.testBit k) _ _ = _
  rw [hb]
  rfl
theorem info5 : (Try.prog.info? 5).map (fun i => (i.zero, i.size, i.bytes)) = some (some (.int .u8 0), 1, 1) := by kernel_rfl
theorem make_bytes (n : Nat) (hn : n ≤ 1048576) (W : World) : (Instr.makeSlice 73 (.int .i64 (n : Int)) (.int .i64 (n : Int))).run Try.prog W =
    .ok (.slice (some ⟨W.heap.size, 0, none⟩) n n) (W.alloc (.cells (madeCells (Value.int .u8 0).cells n) 5)) := by
  obtain ⟨i0, hi, hz0, hz1, hz2⟩ := info_parts info5
  have h := run_make (P := Try.prog) W 73 5 i0 (.int .u8 0) Try.underlying73 hi hz0 .i64 .i64 (n : Int) (n : Int) (by omega) (by omega) (by rw [hz2]; omega) (by omega)
  rw [hz1] at h
  simpa using h
theorem bytes_of (W : World) (s : ByteArray) : Sem.run Try.prog (convert 9 73 (.string s)) W = .ok (.slice (some ⟨W.heap.size, 0, none⟩) s.size (grownCap W s.size 0 5)) (Lib.bytesWorld W 5 s) :=
  Lib.run_convert_string_bytes W 9 73 5 s Try.underlying9 Try.underlying73 Try.underlying5
set_option maxHeartbeats 1000000 in
theorem l10Xor_any (a b : ByteArray) (w : World) (h1 : a.size = b.size) (h2 : a.size ≤ 1048576) :
    Calls Try.prog 63 #[.string a, .string b] w fun e w' => e = .returned (.string (xorT a b)) ∧ Below w.heap.size w w' := by
  have hX := xorL_length a b h1
  have hr0 : ByteRow w.heap.size ((xorL a b).take 0 ++ a.data.toList.drop 0) (Lib.bytesWorld w 5 a) := ByteRow.ofString w a
  have HR : Hid (ByteRow w.heap.size ((xorL a b).take 0 ++ a.data.toList.drop 0) (Lib.bytesWorld w 5 a) ∧ Below w.heap.size w (Lib.bytesWorld w 5 a)) := ⟨hr0, bytesWorld_below w a⟩
  clear hr0
  have hcv := bytes_of w a
  generalize Lib.bytesWorld w 5 a = w1 at *
  generalize grownCap w a.size 0 5 = cap at *
  have H1 : Hid (a.size = b.size) := h1
  clear h1
  go_enter Try.func63, Try.ntmps63
  go_wp2
  go_loopw [11] (fun i wr => ∃ k : Nat, k ≤ a.size ∧ i = .int .i64 k ∧ ByteRow w.heap.size ((xorL a b).take k ++ a.data.toList.drop k) wr ∧ Below w.heap.size w wr) (fun i _ => a.size - (intOf i).toNat)
  case atStart => exact ⟨0, Nat.zero_le _, rfl, HR.out.1, HR.out.2⟩
  case round =>
    obtain ⟨k, hk, rfl, hrow, hbel⟩ := hrel
    by_cases hlt : k < a.size
    · have hlb : k < b.size := by have := H1.out; omega
      have hla : a.data.toList.length = (xorL a b).length := by simp; omega
      have hlen := mix_length (xorL a b) a.data.toList k (by omega) hla
      have hcell : wr.cell? ⟨w.heap.size, k, none⟩ = some (.int .u8 (a[k].toNat : Int)) := by
        rw [hrow.cell k (by omega), mix_at _ _ k (by omega) hla (by omega)]; rfl
      have hfree := hrow.free k (by omega)
      have HROW : Hid (ByteRow w.heap.size ((xorL a b).take k ++ a.data.toList.drop k) wr) := hrow
      have HBEL : Hid (Below w.heap.size w wr) := hbel
      clear hrow hbel hlen
      go_wp2
      go_region
      all_goals go_wp2
      all_goals go_roundw
      case rel => exact ⟨k + 1, by omega, by go_num, HROW.out.step (by omega) hla (xorL_val a b k hlt hlb (by omega)), (HBEL.out.setCell (Nat.le_refl _) _).drew⟩
      case measure => simp [intOf]; omega
    · rw [mix_end _ _ _ (by omega) (by simp; omega)] at hrow
      have hback := hrow.back (P := Try.prog) (n := a.size) (cap := cap) hX.symm 73 9 Try.underlying73 Try.underlying5 Try.underlying9
      have HBEL : Hid (Below w.heap.size w wr) := hbel
      clear hrow hbel
      go_wp2
      go_ret
      exact ⟨rfl, HBEL.out⟩
set_option maxHeartbeats 1000000 in
theorem noughts_any (n : Nat) (w : World) (hn : n ≤ 1048576) :
    Calls Try.prog 41 #[.int .i64 n] w fun e w' => e = .returned (.string (zeroT n)) ∧ Below w.heap.size w w' := by
  have hr0 := ByteRow.made w n
  have hmk := make_bytes n hn
  have hback := hr0.back (P := Try.prog) (n := n) (cap := n) (by simp) 73 9 Try.underlying73 Try.underlying5 Try.underlying9
  clear hr0
  generalize madeCells (Value.int .u8 0).cells n = M at *
  go_enter Try.func41, Try.ntmps41
  go_wp2
  go_ret
  exact ⟨rfl, boxB _ _⟩
set_option maxHeartbeats 1000000 in
theorem l10Sum_any (a : Option Addr) (cap : Nat) (l : List ByteArray) (m : Nat) (w : World) (hm : m < 1048576) (hl : l.length ≤ 10) (h0 : 0 < l.length) (hs : ∀ k (hk : k < l.length), l[k].size = l[0].size ∧ l[k].size ≤ 20) (hZ : Ss w.heap.size a l w) :
    Calls Try.prog 38 #[.slice a l.length cap, .int .i64 m] w fun e w' => e = .returned (.string (sumT (zeroT l[0].size) l m l.length)) ∧ Below w.heap.size w w' := by
  have HZ : Hid (Ss w.heap.size a l w) := hZ
  have HSZ : Hid (∀ k, k ≤ l.length → (sumT (zeroT l[0].size) l m k).size = l[0].size) := fun k hk => (sumT_size _ l m (fun j hj _ => by rw [zeroT_size]; exact (hs j hj).1) k hk).trans (zeroT_size _)
  have HS : Hid (∀ k (hk : k < l.length), l[k].size = l[0].size ∧ l[k].size ≤ 20) := hs
  obtain ⟨b, off, rfl, hb, hc⟩ := hZ.cell h0
  have x0 : w.cell? ⟨b, off, none⟩ = some (.string l[0]) := hc 0 h0
  have HC := hid hc
  have h20 := (hs 0 h0).2
  clear hZ hs hc
  have hr0 := ByteRow.made w l[0].size
  have hmk := make_bytes l[0].size (by omega)
  have hback := hr0.back (P := Try.prog) (n := l[0].size) (cap := l[0].size) (by simp) 73 9 Try.underlying73 Try.underlying5 Try.underlying9
  have HB0 : Hid (Below w.heap.size w (w.alloc (.cells (madeCells (Value.int .u8 0).cells l[0].size) 5))) := boxB _ _
  clear hr0
  generalize madeCells (Value.int .u8 0).cells l[0].size = M at *
  rw [show (⟨(List.replicate l[0].size (0 : UInt8)).toArray⟩ : ByteArray) = zeroT l[0].size from rfl] at hback
  generalize hW : sumT (zeroT l[0].size) l m = F at *
  have HF : Hid (sumT (zeroT l[0].size) l m = F) := hW
  have e0 : zeroT l[0].size = F 0 := by rw [← hW]; rfl
  rw [e0] at hback
  generalize l[0] = y0 at *
  clear hW e0
  go_enter Try.func38, Try.ntmps38
  go_wp2
  go_loopw [5, 16] (fun t i wr => ∃ k : Nat, k ≤ l.length ∧ i = .int .i64 k ∧ t = .string (F k) ∧ Below w.heap.size w wr) (fun _ i _ => l.length - (intOf i).toNat)
  case atStart => exact ⟨0, Nat.zero_le _, rfl, rfl, HB0.out⟩
  case round =>
    obtain ⟨k, hk, rfl, rfl, hbel⟩ := hrel
    have HBEL := hid hbel
    by_cases hlt : k < l.length
    · have x1 := (hbel.cell (p := ⟨b, off + k, none⟩) hb).trans (HC.out k hlt)
      have hbv := bit_val m k (by omega)
      have HE : Hid (F (k + 1) = cond (m.testBit k) (xorT (F k) l[k]) (F k)) := by
        show F (k + 1) = _
        rw [← HF.out]
        cases hb : m.testBit k
        · exact sumT_no _ l m k hb
        · exact sumT_yes _ l m k hlt hb
      have hz1 := HSZ.out k hk
      have hz2 := (HS.out k hlt).1
      have hz3 := (HS.out k hlt).2
      have HX := hid (fun v => l10Xor_any (F k) l[k] v (by omega) (by omega))
      generalize m.testBit k = x at *
      clear hbel hz1 hz2 hz3
      generalize l[k] = y at *
      cases x
      · go_wp2_with fail
        go_roundw
        case rel => exact ⟨k + 1, by omega, by go_num, by rw [HE.out]; rfl, HBEL.out⟩
        case measure => simp [intOf]; omega
      · go_wp2_with fail
        refine (HX.out _).mono ?_
        rintro e w2 ⟨rfl, b2⟩
        have HB2 := hid (HBEL.out.trans (b2.mono HBEL.out.size))
        clear b2
        go_wp2_with fail
        go_roundw
        case rel => exact ⟨k + 1, by omega, by go_num, by rw [HE.out]; rfl, HB2.out⟩
        case measure => simp [intOf]; omega
    · obtain rfl : k = l.length := by omega
      clear hbel
      go_wp2
      go_ret
      exact ⟨rfl, HBEL.out⟩
set_option maxHeartbeats 2000000 in
theorem textWith_any (D : ByteArray) (a : Option Addr) (cap : Nat) (l : List ByteArray) (m : Nat) (w : World) (hm : m < 1048576) (hl : l.length ≤ 10) (hD : D.size ≤ 1048576) (hs : ∀ k (hk : k < l.length), m.testBit k = true → l[k].size = D.size) (hZ : Ss w.heap.size a l w) :
    Calls Try.prog 40 #[.string D, .slice a l.length cap, .int .i64 m] w fun e w' => e = .returned (.string (sumT D l m l.length)) ∧ Below w.heap.size w w' := by
  have HZ : Hid (Ss w.heap.size a l w) := hZ
  have HSZ : Hid (∀ k, k ≤ l.length → (sumT D l m k).size = D.size) := fun k hk => sumT_size _ l m hs k hk
  have HS := hid hs
  clear hZ hs
  have hr0 : ByteRow w.heap.size (sumT D l m 0).data.toList (Lib.bytesWorld w 5 D) := ByteRow.ofString w D
  have HR : Hid (ByteRow w.heap.size (sumT D l m 0).data.toList (Lib.bytesWorld w 5 D) ∧ Below w.heap.size w (Lib.bytesWorld w 5 D)) := ⟨hr0, bytesWorld_below w D⟩
  clear hr0
  have hcv := bytes_of w D
  generalize Lib.bytesWorld w 5 D = w1 at *
  generalize grownCap w D.size 0 5 = cp at *
  generalize hW : sumT D l m = F at *
  have HF : Hid (sumT D l m = F) := hW
  clear hW
  go_enter Try.func40, Try.ntmps40
  go_wp2
  go_loopw [15] (fun i wr => ∃ k : Nat, k ≤ l.length ∧ i = .int .i64 k ∧ ByteRow w.heap.size (F k).data.toList wr ∧ Below w.heap.size w wr) (fun i _ => l.length - (intOf i).toNat)
  case atStart => exact ⟨0, Nat.zero_le _, rfl, HR.out.1, HR.out.2⟩
  case round =>
    obtain ⟨k, hk, rfl, hrow, hbel⟩ := hrel
    have HBEL := hid hbel
    have HROW := hid hrow
    by_cases hlt : k < l.length
    · obtain ⟨b, off, rfl, hb, hc⟩ := HZ.out.cell (by omega)
      have x1 := (hbel.cell (p := ⟨b, off + k, none⟩) hb).trans (hc k hlt)
      have HB := hid (hasBit_any m k hm (by omega) wr)
      have HE : Hid (F (k + 1) = cond (m.testBit k) (xorT (F k) l[k]) (F k)) := by
        show F (k + 1) = _
        rw [← HF.out]
        cases hb : m.testBit k
        · exact sumT_no _ l m k hb
        · exact sumT_yes _ l m k hlt hb
      have HSK := hid (HS.out k hlt)
      clear hbel hrow hc
      generalize m.testBit k = x at *
      generalize l[k] = y at *
      cases x
      · go_wp2_with fail
        refine HB.out.mono ?_
        rintro e w2 ⟨rfl, hw2⟩
        rw [hw2]
        clear hw2 w2
        go_wp2_with fail
        go_roundw
        case rel => exact ⟨k + 1, by omega, by go_num, by rw [HE.out]; exact HROW.out, HBEL.out⟩
        case measure => simp [intOf]; omega
      · have hy : y.size = D.size := HSK.out rfl
        have hz1 := HSZ.out k hk
        have HE' : Hid (F (k + 1) = xorT (F k) y) := HE.out
        have HFK : Hid ((F k).size = D.size) := hz1
        generalize hG : F k = G at *
        have hGy : G.size = y.size := by omega
        have hX := xorL_length G y hGy
        have HX : Hid ((xorL G y).length = D.size) := by show _ = _; omega
        have HGy := hid hGy
        have hyD := hid hy
        clear hG hGy hX hy hz1
        go_wp2_with fail
        refine HB.out.mono ?_
        rintro e w2 ⟨rfl, hw2⟩
        rw [hw2]
        clear hw2 w2
        go_wp2_with fail
        go_loopw [26] (fun i wr2 => ∃ j : Nat, j ≤ D.size ∧ i = .int .i64 j ∧ ByteRow w.heap.size ((xorL G y).take j ++ G.data.toList.drop j) wr2 ∧ Below w.heap.size w wr2) (fun i _ => D.size - (intOf i).toNat)
        case atStart => exact ⟨0, Nat.zero_le _, rfl, HROW.out, HBEL.out⟩
        case round =>
          clear HROW HBEL HB
          obtain ⟨j, hj, rfl, hrow, hbel⟩ := hrel
          have hX := HX.out
          have hGD := HFK.out
          have hla : G.data.toList.length = (xorL G y).length := by rw [hX, ← hGD]; rfl
          by_cases hlj : j < D.size
          · have hlb : j < y.size := by have := hyD.out; omega
            have hlG : j < G.size := by omega
            have hlen := mix_length (xorL G y) G.data.toList j (by omega) hla
            have hcell : ByteRow w.heap.size ((xorL G y).take j ++ G.data.toList.drop j) wr → wr.cell? ⟨w.heap.size, j, none⟩ = some (.int .u8 (G[j].toNat : Int)) := fun hrow => by
              rw [hrow.cell j (by omega), mix_at _ _ j (by omega) hla (by omega)]; rfl
            have hcl := hcell hrow
            have hfree := hrow.free j (by omega)
            have HROW2 := hid hrow
            have HBEL2 := hid hbel
            have HVAL := hid (fun h => xorL_val G y j hlG hlb h)
            have HLA := hid hla
            clear hrow hbel hlen hcell hla hX hGD
            go_wp2
            go_region
            all_goals go_wp2
            all_goals go_roundw
            case rel => exact ⟨j + 1, by omega, by go_num, HROW2.out.step (by have := HX.out; omega) HLA.out (HVAL.out _), (HBEL2.out.setCell (Nat.le_refl _) _).drew⟩
            case measure => simp [intOf]; omega
          · rw [mix_end _ _ _ (by omega) hla] at hrow
            have HROW2 : Hid (ByteRow w.heap.size (F (k + 1)).data.toList wr) := by show ByteRow _ _ _; rw [HE'.out]; exact hrow
            have HBEL2 := hid hbel
            clear hrow hbel hla hX hGD
            go_wp2_with fail
            go_roundw
            case rel => exact ⟨k + 1, by omega, by go_num, HROW2.out, HBEL2.out⟩
            case measure => simp [intOf]; omega
    · obtain rfl : k = l.length := by omega
      have hz := HSZ.out _ (Nat.le_refl _)
      have hback := hrow.back (P := Try.prog) (n := D.size) (cap := cp) (by rw [← hz]; rfl) 73 9 Try.underlying73 Try.underlying5 Try.underlying9
      clear hrow hbel hz
      go_wp2
      go_ret
      exact ⟨rfl, HBEL.out⟩
end Go.Proofs.Ytnjeeeccfhpolaa
