/- What the laws of chapter 12 keep while they go. -/
import Derived.Test.YtipeillhafcliaaJDx
import Derived.Test.YtipeillhafcliaaJMath
import Derived.Test.YtipeillhafcliaaJVa
namespace Go.Proofs.Ytipeillhafcliaa
set_option maxRecDepth 100000
open Go Go.ChangeShapes Go.WideShapes Go.ChangeAt Go.RowKit
set_option maxHeartbeats 1000000 in
theorem sameInts_same (a1 a2 : Option Addr) (c1 c2 : Nat) (l : List Int) (w : World) (hn : l.length ≤ 1048576) (h1 : Is w.heap.size a1 l w) (h2 : Is w.heap.size a2 l w) :
    Calls Try.prog 11 #[.slice a1 l.length c1, .slice a2 l.length c2] w fun e w' => e = .returned (.bool true) ∧ Below w.heap.size w w' := by
  have H1 : Hid (Is w.heap.size a1 l w) := h1
  have H2 : Hid (Is w.heap.size a2 l w) := h2
  clear h1 h2
  go_enter Try.func11, Try.ntmps11
  go_wp2
  go_loopw [13] (fun i wr => ∃ k : Nat, k ≤ l.length ∧ i = .int .i64 k ∧ Below w.heap.size w wr) (fun i _ => l.length - (intOf i).toNat)
  case atStart => exact ⟨0, Nat.zero_le _, rfl, Below.refl _ _⟩
  case round =>
    obtain ⟨k, hk, rfl, hbel⟩ := hrel
    have HBEL : Hid (Below w.heap.size w wr) := hbel
    by_cases hlt : k < l.length
    · obtain ⟨b1, o1, rfl, hb1, hc1⟩ := H1.out.cell (by omega)
      obtain ⟨b2, o2, rfl, hb2, hc2⟩ := H2.out.cell (by omega)
      have x0 := (hbel.cell (p := ⟨b1, o1 + k, none⟩) hb1).trans (hc1 k hlt)
      have y0 := (hbel.cell (p := ⟨b2, o2 + k, none⟩) hb2).trans (hc2 k hlt)
      clear hc1 hc2 hbel
      generalize l[k] = n at *
      go_wp2
      go_region
      all_goals
        go_wp2
        go_roundw
        · exact ⟨k + 1, by omega, by go_num, HBEL.out.drew⟩
        · simp [intOf]; omega
    · clear hbel
      go_wp2
      go_ret
      exact ⟨rfl, HBEL.out⟩
/-- what is kept: the bytes still to be read, lists -/
structure S8 (w0 : World) (I : List (Option Addr × List Int)) (l2 c2 : Nat) (a2 : Option Addr) (w : World) : Prop where
  below : Below w0.heap.size w0 w
  code : Code w0.heap.size l2 c2 a2 w
  is : ∀ p ∈ I, Is w.heap.size p.1 p.2 w
theorem S8.on {w0 w w' : World} {I : List (Option Addr × List Int)} {l2 c2 : Nat} {a2 : Option Addr} (h : S8 w0 I l2 c2 a2 w) (g : Below w.heap.size w w') : S8 w0 I l2 c2 a2 w' :=
  ⟨h.below.trans (g.mono h.below.size), h.code.below (g.mono h.below.size), fun p hp => ((h.is p hp).below g).mono g.size⟩
theorem S8.add {w0 w : World} {I : List (Option Addr × List Int)} {l2 c2 : Nat} {a2 : Option Addr} (h : S8 w0 I l2 c2 a2 w) {b : Option Addr} {l : List Int} (hx : Is w.heap.size b l w) : S8 w0 ((b, l) :: I) l2 c2 a2 w :=
  ⟨h.below, h.code, fun p hp => by
    rcases List.mem_cons.1 hp with rfl | hp
    · exact hx
    · exact h.is p hp⟩
theorem S8.i {w0 w : World} {I : List (Option Addr × List Int)} {l2 c2 : Nat} {a2 : Option Addr} (h : S8 w0 I l2 c2 a2 w) (b : Option Addr) (l : List Int) (hp : (b, l) ∈ I) : Is w.heap.size b l w := h.is _ hp
theorem S8.bare {w0 w : World} {I : List (Option Addr × List Int)} {l2 c2 : Nat} {a2 : Option Addr} (h : S8 w0 I l2 c2 a2 w) : S8 w0 [] l2 c2 a2 w := ⟨h.below, h.code, fun _ h => by cases h⟩
theorem S8.draw {w0 w : World} {I : List (Option Addr × List Int)} {l2 c2 : Nat} {a2 : Option Addr} (h : S8 w0 I l2 c2 a2 w) : Code w.heap.size l2 c2 a2 w := h.code.mono h.below.size
set_option maxHeartbeats 1000000 in
theorem numberOf_any (a : Option Addr) (len cap : Nat) (w : World) (hK : Code w.heap.size len cap a w) :
    Calls Try.prog 6 #[.slice a len cap] w fun e w' => ∃ n : Int, e = .returned (.int .i64 n) ∧ 0 ≤ n ∧ n < 1000003 ∧ w' = w := by
  have hsm := hK.small
  have HK : Hid (Code w.heap.size len cap a w) := hK
  clear hK
  go_enter Try.func6, Try.ntmps6
  go_wp2
  go_loop [3, 8] (fun t i => ∃ (k : Nat) (n : Int), k ≤ len ∧ i = .int .i64 k ∧ t = .int .i64 n ∧ 0 ≤ n ∧ n < 1000003) (fun _ i => len - (intOf i).toNat)
  case atStart => exact ⟨0, 0, Nat.zero_le _, rfl, rfl, by omega, by omega⟩
  case round =>
    obtain ⟨k, n, hk, rfl, rfl, n0, n1⟩ := hrel
    by_cases hlt : k < len
    · obtain ⟨b, off, rfl, hb, hc⟩ := HK.out.cell (by omega)
      obtain ⟨z, z0, z1, hz⟩ := hc k hlt
      clear hc
      go_wp2
      go_round
      case rel => exact ⟨k + 1, _, by omega, by go_num, rfl, Int.emod_nonneg _ (by omega), Int.emod_lt_of_pos _ (by omega)⟩
      case measure => simp [intOf]; omega
    · go_wp2
      go_ret
      exact ⟨n, rfl, n0, n1, rfl⟩
set_option maxHeartbeats 1000000 in
theorem has_any (a : Option Addr) (c : Nat) (l : List Int) (n : Int) (w : World) (hn : l.length ≤ 1048576) (h1 : Is w.heap.size a l w) :
    Calls Try.prog 22 #[.slice a l.length c, .int .i64 n] w fun e w' => e = .returned (.bool (decide (n ∈ l))) ∧ w' = w := by
  have H1 : Hid (Is w.heap.size a l w) := h1
  clear h1
  go_enter Try.func22, Try.ntmps22
  go_wp2
  go_loop [9] (fun i => ∃ k : Nat, k ≤ l.length ∧ i = .int .i64 k ∧ n ∉ l.take k) (fun i => l.length - (intOf i).toNat)
  case atStart => exact ⟨0, Nat.zero_le _, rfl, by simp⟩
  case round =>
    obtain ⟨k, hk, rfl, hno⟩ := hrel
    have HNO := hid hno
    clear hno
    by_cases hlt : k < l.length
    · obtain ⟨b1, o1, rfl, hb1, hc1⟩ := H1.out.cell (by omega)
      have x0 := hc1 k hlt
      clear hc1
      have hs : l.take (k + 1) = l.take k ++ [l[k]] := List.take_succ_eq_append_getElem hlt
      by_cases he : l[k] = n
      · have hd : (l[k] == n) = true := beq_iff_eq.2 he
        have HV : Hid (decide (n ∈ l) = true) := decide_eq_true (by rw [← he]; exact List.getElem_mem hlt)
        clear hs he
        generalize l[k] = y at *
        go_wp2
        go_ret
        exact ⟨ret_b2 HV.out.symm, rfl⟩
      · have hd : (l[k] == n) = false := beq_eq_false_iff_ne.2 he
        have HN : Hid (n ∉ l.take (k + 1)) := by
          show n ∉ l.take (k + 1)
          rw [hs]
          intro h
          rcases List.mem_append.1 h with h | h
          · exact HNO.out h
          · rw [List.mem_singleton] at h; exact he h.symm
        clear hs he
        generalize l[k] = y at *
        go_wp2
        go_round
        case rel => exact ⟨k + 1, by omega, by go_num, HN.out⟩
        case measure => simp [intOf]; omega
    · obtain rfl : k = l.length := by omega
      have HV : Hid (decide (n ∈ l) = false) := decide_eq_false (by have := HNO.out; rw [List.take_length] at this; exact this)
      go_wp2
      go_ret
      exact ⟨ret_b2 HV.out.symm, rfl⟩
def byteOf (w : World) (a : Option Addr) (k : Nat) : Int :=
  match a with
  | some p => match w.cell? ⟨p.block, p.off + k, none⟩ with
    | some (.int _ z) => z
    | _ => 0
  | none => 0
/-- the number of some bytes -/
def numN (w : World) (a : Option Addr) : Nat → Int
  | 0 => 0
  | k + 1 => (31 * numN w a k + byteOf w a k) % 1000003
theorem byteOf_at {w : World} {b off k : Nat} {z : Int} (h : w.cell? ⟨b, off + k, none⟩ = some (.int .u8 z)) : byteOf w (some ⟨b, off, none⟩) k = z := by
  show (match w.cell? ⟨b, off + k, none⟩ with
    | some (.int _ z) => z
    | _ => 0) = z
  rw [h]
theorem numN_bnd (w : World) (a : Option Addr) : ∀ k, 0 ≤ numN w a k ∧ numN w a k < 1000003
  | 0 => by show (0 : Int) ≤ 0 ∧ (0 : Int) < 1000003; omega
  | k + 1 => ⟨Int.emod_nonneg _ (by omega), Int.emod_lt_of_pos _ (by omega)⟩
set_option maxHeartbeats 1000000 in
theorem number_det (a : Option Addr) (len cap : Nat) (w : World) (hK : Code w.heap.size len cap a w) :
    Calls Try.prog 6 #[.slice a len cap] w fun e w' => e = .returned (.int .i64 (numN w a len)) ∧ w' = w := by
  have hsm := hK.small
  have HK : Hid (Code w.heap.size len cap a w) := hK
  have HB := hid (numN_bnd w a)
  clear hK
  go_enter Try.func6, Try.ntmps6
  go_wp2
  go_loop [3, 8] (fun t i => ∃ (k : Nat), k ≤ len ∧ i = .int .i64 k ∧ t = .int .i64 (numN w a k)) (fun _ i => len - (intOf i).toNat)
  case atStart => exact ⟨0, Nat.zero_le _, rfl, rfl⟩
  case round =>
    obtain ⟨k, hk, rfl, rfl⟩ := hrel
    by_cases hlt : k < len
    · obtain ⟨b, off, rfl, hb, hc⟩ := HK.out.cell (by omega)
      obtain ⟨z, z0, z1, hz⟩ := hc k hlt
      have HE : Hid (numN w (some ⟨b, off, none⟩) (k + 1) = (31 * numN w (some ⟨b, off, none⟩) k + z) % 1000003) := by
        show (31 * numN w (some ⟨b, off, none⟩) k + byteOf w (some ⟨b, off, none⟩) k) % 1000003 = _
        rw [byteOf_at hz]
      obtain ⟨n0, n1⟩ := HB.out k
      clear hc
      generalize numN w (some ⟨b, off, none⟩) k = n at *
      go_wp2
      go_round
      case rel => exact ⟨k + 1, by omega, by go_num, by rw [HE.out]⟩
      case measure => simp [intOf]; omega
    · obtain rfl : k = len := by omega
      go_wp2
      go_ret
      exact ⟨rfl, rfl⟩
theorem numN_keep {w w' : World} {a : Option Addr} {len cap : Nat} (hK : Code w.heap.size len cap a w) (g : Below w.heap.size w w') : ∀ k, k ≤ len → numN w' a k = numN w a k
  | 0, _ => rfl
  | k + 1, hk => by
    show (31 * numN w' a k + byteOf w' a k) % 1000003 = (31 * numN w a k + byteOf w a k) % 1000003
    rw [numN_keep hK g k (by omega)]
    obtain ⟨b, off, rfl, hb, hc⟩ := hK.cell (by omega)
    obtain ⟨z, _, _, hz⟩ := hc k (by omega)
    rw [byteOf_at hz, byteOf_at ((g.cell (p := ⟨b, off + k, none⟩) hb).trans hz)]
theorem number_at (a : Option Addr) (len cap : Nat) (w : World) (hK : Code w.heap.size len cap a w) (v : World) (g : Below w.heap.size w v) :
    Calls Try.prog 6 #[.slice a len cap] v fun e w' => e = .returned (.int .i64 (numN w a len)) ∧ w' = v := by
  have := number_det a len cap v ((hK.below g).mono g.size)
  rw [numN_keep hK g len (Nat.le_refl _)] at this
  exact this
end Go.Proofs.Ytipeillhafcliaa
