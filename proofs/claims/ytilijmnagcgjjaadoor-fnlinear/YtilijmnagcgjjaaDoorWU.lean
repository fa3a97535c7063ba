/- Walks of UnlikeBits, of the program and of its model. -/
import Derived.Test.YtilijmnagcgjjaaDoorW3
import Derived.Test.YtilijmnagcgjjaaDoorBytes
import Derived.WalkKit
import Derived.ProofKit
import Derived.OpenShut
namespace Go.Proofs.YtilijmnagcgjjaaDoor
open Go.ChangeShapes Go.WideShapes Go.ChangeAt Go.RowKit
set_option maxRecDepth 100000
theorem info5 : (Tryd.prog.info? 5).map (fun i => (i.zero, i.size, i.bytes)) = some (some (.int .u8 0), 1, 1) := by kernel_rfl
theorem make_bytes (n : Nat) (hn : n ≤ 1048576) (W : World) : (Instr.makeSlice 22 (.int .i64 (n : Int)) (.int .i64 (n : Int))).run Tryd.prog W =
    .ok (.slice (some ⟨W.heap.size, 0, none⟩) n n) (W.alloc (.cells (madeCells (Value.int .u8 0).cells n) 5)) := by
  obtain ⟨i0, hi, hz0, hz1, hz2⟩ := info_parts info5
  have h := run_make (P := Tryd.prog) W 22 5 i0 (.int .u8 0) Tryd.underlying22 hi hz0 .i64 .i64 (n : Int) (n : Int) (by omega) (by omega) (by rw [hz2]; omega) (by omega)
  rw [hz1] at h
  simpa using h
def xorL (a b : ByteArray) : List UInt8 := List.zipWith (fun c d => c ^^^ d) a.data.toList b.data.toList
theorem xorL_length (a b : ByteArray) (h : a.size = b.size) : (xorL a b).length = a.size := by
  unfold xorL; rw [List.length_zipWith]; simp; omega
def okUnlike (a b : ByteArray) : Bool := decide (a.size = b.size ∧ a.size ≤ 400)
def valUnlike (a b : ByteArray) : ByteArray := if okUnlike a b = true then ⟨(xorL a b).toArray⟩ else ⟨#[]⟩
theorem okUnlike_yes {a b : ByteArray} (h : a.size = b.size ∧ a.size ≤ 400) : okUnlike a b = true := by unfold okUnlike; simpa using h
theorem okUnlike_no {a b : ByteArray} (h : ¬ (a.size = b.size ∧ a.size ≤ 400)) : okUnlike a b = false := by unfold okUnlike; simpa using h
theorem valUnlike_yes {a b : ByteArray} (h : a.size = b.size ∧ a.size ≤ 400) : valUnlike a b = ⟨(xorL a b).toArray⟩ := by unfold valUnlike; rw [if_pos (okUnlike_yes h)]
theorem valUnlike_no {a b : ByteArray} (h : ¬ (a.size = b.size ∧ a.size ≤ 400)) : valUnlike a b = ⟨#[]⟩ := by unfold valUnlike; rw [if_neg (by rw [okUnlike_no h]; decide)]
theorem xorL_at (a b : ByteArray) (k : Nat) (ha : k < a.size) (hb : k < b.size) (h : k < (xorL a b).length) : (xorL a b)[k] = a[k] ^^^ b[k] :=
  (List.getElem_zipWith (f := fun c d : UInt8 => c ^^^ d) (h := h)).trans rfl
theorem xorL_val (a b : ByteArray) (k : Nat) (ha : k < a.size) (hb : k < b.size) (h : k < (xorL a b).length) : bits .xor .u8 (a[k].toNat : Int) (b[k].toNat : Int) = ((xorL a b)[k].toNat : Int) := by
  rw [xorL_at a b k ha hb h, xor_u8]
theorem ret_str2 {a b : ByteArray} {c d : Bool} (h : a = b) (g : c = d) : Ending.returned (.tuple #[.string a, .bool c]) = .returned (.tuple #[.string b, .bool d]) := by rw [h, g]
set_option maxHeartbeats 1000000 in
theorem implUnlike_good (a b : ByteArray) (w : World) (h1 : a.size = b.size) (h2 : a.size ≤ 400) :
    Calls Tryd.prog 5 #[.string a, .string b] w fun e w' => e = .returned (.tuple #[.string ⟨(xorL a b).toArray⟩, .bool true]) ∧ Below w.heap.size w w' := by
  have hX := xorL_length a b h1
  have hne : ((a.size : Int) != (b.size : Int)) = false := by rw [bne_eq_false_iff_eq]; omega
  have hd : decide ((400 : Int) < (a.size : Int)) = false := by simp; omega
  have hr0 : ByteRow w.heap.size ((xorL a b).take 0 ++ (List.replicate a.size 0).drop 0) (w.alloc (.cells (madeCells (Value.int .u8 0).cells a.size) 5)) := ByteRow.made w a.size
  have HR : Hid (ByteRow w.heap.size ((xorL a b).take 0 ++ (List.replicate a.size 0).drop 0) (w.alloc (.cells (madeCells (Value.int .u8 0).cells a.size) 5))) := hr0
  clear hr0
  have hmk := make_bytes a.size (by omega)
  generalize madeCells (Value.int .u8 0).cells a.size = M at *
  have H1 : Hid (a.size = b.size) := h1
  clear h1
  go_enter Tryd.func5, Tryd.ntmps5
  go_wp2
  go_loopw [23] (fun i wr => ∃ k : Nat, k ≤ a.size ∧ i = .int .i64 k ∧ ByteRow w.heap.size ((xorL a b).take k ++ (List.replicate a.size 0).drop k) wr ∧ Below w.heap.size w wr) (fun i _ => a.size - (intOf i).toNat)
  case atStart => exact ⟨0, Nat.zero_le _, rfl, HR.out, (Below.refl _ _).alloc (Nat.le_refl _) _⟩
  case round =>
    obtain ⟨k, hk, rfl, hrow, hbel⟩ := hrel
    by_cases hlt : k < a.size
    · have hlb : k < b.size := by have := H1.out; omega
      have hlen := mix_length (xorL a b) (List.replicate a.size 0) k (by omega) (by simp; omega)
      obtain ⟨y, hcell⟩ : ∃ y : Int, wr.cell? ⟨w.heap.size, k, none⟩ = some (.int .u8 y) := ⟨_, hrow.cell k (by omega)⟩
      have hfree := hrow.free k (by omega)
      have HROW : Hid (ByteRow w.heap.size ((xorL a b).take k ++ (List.replicate a.size 0).drop k) wr) := hrow
      have HBEL : Hid (Below w.heap.size w wr) := hbel
      clear hrow hbel hlen
      go_wp2
      go_region
      all_goals go_wp2
      all_goals go_roundw
      case rel => exact ⟨k + 1, by omega, by go_num, HROW.out.step (by omega) (by simp; omega) (xorL_val a b k hlt hlb (by omega)), (HBEL.out.setCell (Nat.le_refl _) _).drew⟩
      case measure => simp [intOf]; omega
    · rw [mix_end _ _ _ (by omega) (by simp; omega)] at hrow
      have hback := hrow.back (P := Tryd.prog) (n := a.size) (cap := a.size) hX.symm 22 9 Tryd.underlying22 Tryd.underlying5 Tryd.underlying9
      have HBEL : Hid (Below w.heap.size w wr) := hbel
      clear hrow hbel
      go_wp2
      go_ret2
      exact ⟨rfl, HBEL.out⟩
theorem bytes_of (W : World) (s : ByteArray) : Sem.run Tryd.prog (convert 9 22 (.string s)) W = .ok (.slice (some ⟨W.heap.size, 0, none⟩) s.size (grownCap W s.size 0 5)) (Lib.bytesWorld W 5 s) :=
  Lib.run_convert_string_bytes W 9 22 5 s Tryd.underlying9 Tryd.underlying22 Tryd.underlying5
set_option maxHeartbeats 1000000 in
theorem specUnlike_good (a b : ByteArray) (w : World) (h1 : a.size = b.size) (h2 : a.size ≤ 400) :
    Calls Tryd.prog 6 #[.string a, .string b] w fun e w' => e = .returned (.tuple #[.string ⟨(xorL a b).toArray⟩, .bool true]) ∧ Below w.heap.size w w' := by
  have hX := xorL_length a b h1
  have hne : ((a.size : Int) != (b.size : Int)) = false := by rw [bne_eq_false_iff_eq]; omega
  have hd : decide ((400 : Int) < (a.size : Int)) = false := by simp; omega
  have hr0 : ByteRow w.heap.size ((xorL a b).take 0 ++ a.data.toList.drop 0) (Lib.bytesWorld w 5 a) := ByteRow.ofString w a
  have HR : Hid (ByteRow w.heap.size ((xorL a b).take 0 ++ a.data.toList.drop 0) (Lib.bytesWorld w 5 a) ∧ Below w.heap.size w (Lib.bytesWorld w 5 a)) := ⟨hr0, bytesWorld_below w a⟩
  clear hr0
  have hcv := bytes_of w a
  generalize Lib.bytesWorld w 5 a = w1 at *
  generalize grownCap w a.size 0 5 = cap at *
  have H1 : Hid (a.size = b.size) := h1
  clear h1
  go_enter Tryd.func6, Tryd.ntmps6
  go_wp2
  go_loopw [22] (fun i wr => ∃ k : Nat, k ≤ a.size ∧ i = .int .i64 k ∧ ByteRow w.heap.size ((xorL a b).take k ++ a.data.toList.drop k) wr ∧ Below w.heap.size w wr) (fun i _ => a.size - (intOf i).toNat)
  case atStart => exact ⟨0, Nat.zero_le _, rfl, HR.out.1, HR.out.2⟩
  case round =>
    obtain ⟨k, hk, rfl, hrow, hbel⟩ := hrel
    by_cases hlt : k < a.size
    · have hlb : k < b.size := by have := H1.out; omega
      have hla : a.data.toList.length = (xorL a b).length := by simp; omega
      have hlen := mix_length (xorL a b) a.data.toList k (by omega) hla
      have hcell : wr.cell? ⟨w.heap.size, k, none⟩ = some (.int .u8 (a[k].toNat : Int)) := by
        rw [hrow.cell k (by omega), mix_at _ _ k (by omega) hla (by omega)]; rfl
      have hfree := hrow.free k (by omega)
      have HROW : Hid (ByteRow w.heap.size ((xorL a b).take k ++ a.data.toList.drop k) wr) := hrow
      have HBEL : Hid (Below w.heap.size w wr) := hbel
      clear hrow hbel hlen
      go_wp2
      go_region
      all_goals go_wp2
      all_goals go_roundw
      case rel => exact ⟨k + 1, by omega, by go_num, HROW.out.step (by omega) hla (xorL_val a b k hlt hlb (by omega)), (HBEL.out.setCell (Nat.le_refl _) _).drew⟩
      case measure => simp [intOf]; omega
    · rw [mix_end _ _ _ (by omega) (by simp; omega)] at hrow
      have hback := hrow.back (P := Tryd.prog) (n := a.size) (cap := cap) hX.symm 22 9 Tryd.underlying22 Tryd.underlying5 Tryd.underlying9
      have HBEL : Hid (Below w.heap.size w wr) := hbel
      clear hrow hbel
      go_wp2
      go_ret2
      exact ⟨rfl, HBEL.out⟩
set_option maxHeartbeats 400000 in
theorem implUnlike_bad (a b : ByteArray) (w : World) (ha : a.size ≤ 1048576) (_hb : b.size ≤ 1048576) (h : ¬ (a.size = b.size ∧ a.size ≤ 400)) :
    Calls Tryd.prog 5 #[.string a, .string b] w fun e w' => e = .returned (.tuple #[.string ⟨#[]⟩, .bool false]) ∧ w' = w := by
  by_cases g : a.size = b.size
  · have hne : ((a.size : Int) != (b.size : Int)) = false := by rw [bne_eq_false_iff_eq]; omega
    have hd : decide ((400 : Int) < (a.size : Int)) = true := by simp; omega
    clear h g
    go_enter Tryd.func5, Tryd.ntmps5
    go_wp2
    go_ret2
    exact ⟨rfl, rfl⟩
  · have hne : ((a.size : Int) != (b.size : Int)) = true := by rw [bne_iff_ne]; omega
    clear h g
    go_enter Tryd.func5, Tryd.ntmps5
    go_wp2
    go_ret2
    exact ⟨rfl, rfl⟩
set_option maxHeartbeats 400000 in
theorem specUnlike_bad (a b : ByteArray) (w : World) (ha : a.size ≤ 1048576) (_hb : b.size ≤ 1048576) (h : ¬ (a.size = b.size ∧ a.size ≤ 400)) :
    Calls Tryd.prog 6 #[.string a, .string b] w fun e w' => e = .returned (.tuple #[.string ⟨#[]⟩, .bool false]) ∧ w' = w := by
  by_cases g : a.size = b.size
  · have hne : ((a.size : Int) != (b.size : Int)) = false := by rw [bne_eq_false_iff_eq]; omega
    have hd : decide ((400 : Int) < (a.size : Int)) = true := by simp; omega
    clear h g
    go_enter Tryd.func6, Tryd.ntmps6
    go_wp2
    go_ret2
    exact ⟨rfl, rfl⟩
  · have hne : ((a.size : Int) != (b.size : Int)) = true := by rw [bne_iff_ne]; omega
    clear h g
    go_enter Tryd.func6, Tryd.ntmps6
    go_wp2
    go_ret2
    exact ⟨rfl, rfl⟩
theorem implUnlike_any (a b : ByteArray) (w : World) (ha : a.size ≤ 1048576) (hb : b.size ≤ 1048576) :
    Calls Tryd.prog 5 #[.string a, .string b] w fun e w' => e = .returned (.tuple #[.string (valUnlike a b), .bool (okUnlike a b)]) ∧ Below w.heap.size w w' := by
  by_cases h : a.size = b.size ∧ a.size ≤ 400
  · rw [okUnlike_yes h, valUnlike_yes h]; exact implUnlike_good a b w h.1 h.2
  · rw [okUnlike_no h, valUnlike_no h]
    exact (implUnlike_bad a b w ha hb h).mono fun e w' ⟨he, hw⟩ => ⟨he, hw ▸ Below.refl _ _⟩
theorem specUnlike_any (a b : ByteArray) (w : World) (ha : a.size ≤ 1048576) (hb : b.size ≤ 1048576) :
    Calls Tryd.prog 6 #[.string a, .string b] w fun e w' => e = .returned (.tuple #[.string (valUnlike a b), .bool (okUnlike a b)]) ∧ Below w.heap.size w w' := by
  by_cases h : a.size = b.size ∧ a.size ≤ 400
  · rw [okUnlike_yes h, valUnlike_yes h]; exact specUnlike_good a b w h.1 h.2
  · rw [okUnlike_no h, valUnlike_no h]
    exact (specUnlike_bad a b w ha hb h).mono fun e w' ⟨he, hw⟩ => ⟨he, hw ▸ Below.refl _ _⟩
end Go.Proofs.YtilijmnagcgjjaaDoor
