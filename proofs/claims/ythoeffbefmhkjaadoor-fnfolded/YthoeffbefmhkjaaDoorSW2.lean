/- Walks of the model's sums. -/
import Derived.Test.YthoeffbefmhkjaaDoorSW1
namespace Go.Proofs.YthoeffbefmhkjaaDoor
set_option maxRecDepth 100000
open Go.ChangeShapes Go.WideShapes Go.ChangeAt Go.RowKit
def bitsOn (t c : Nat) : Nat → Nat
  | 0 => t
  | j + 1 => G00541.bitOn (bitsOn t c j) (c / 2 ^ (7 - j) % 2)
theorem bitsOn_lt (t c : Nat) (ht : t < 65536) : ∀ j, bitsOn t c j < 65536
  | 0 => ht
  | j + 1 => G00541.bitOn_lt _ _ (bitsOn_lt t c ht j) (G00541.mod2_lt _)
theorem bitsOn_eight (t c : Nat) : bitsOn t c 8 = G00541.byteOn t c := by
  simp only [bitsOn, G00541.byteOn, G00541.nibOn, show 7 - 0 = 7 from rfl, show 7 - 1 = 6 from rfl, show 7 - 2 = 5 from rfl, show 7 - 3 = 4 from rfl, show 7 - 4 = 3 from rfl, show 7 - 5 = 2 from rfl, show 7 - 6 = 1 from rfl, show 7 - 7 = 0 from rfl, show (2 : Nat) ^ 7 = 128 from rfl, show (2 : Nat) ^ 6 = 64 from rfl, show (2 : Nat) ^ 5 = 32 from rfl, show (2 : Nat) ^ 4 = 16 from rfl, show (2 : Nat) ^ 3 = 8 from rfl, show (2 : Nat) ^ 2 = 4 from rfl, Nat.pow_one, Nat.pow_zero, Nat.div_one]
  rw [show c / 16 / 8 % 2 = c / 128 % 2 by omega, show c / 16 / 4 % 2 = c / 64 % 2 by omega, show c / 16 / 2 % 2 = c / 32 % 2 by omega, show c % 16 / 8 % 2 = c / 8 % 2 by omega, show c % 16 / 4 % 2 = c / 4 % 2 by omega, show c % 16 / 2 % 2 = c / 2 % 2 by omega, show c % 16 % 2 = c % 2 by omega]
theorem bit_val (x c m : Nat) (hx : x < 65536) (hc : c < 256) : bits .or .i64 ((x : Int) * 2) (bits .and .i64 (wrap64 ((c : Int) / 2 ^ m)) 1) = ((2 * x + c / 2 ^ m % 2 : Nat) : Int) := by
  have hle : c / 2 ^ m ≤ c := Nat.div_le_self _ _
  have e1 : (c : Int) / 2 ^ m = ((c / 2 ^ m : Nat) : Int) := by rw [Int.natCast_ediv, Int.natCast_pow]; rfl
  rw [e1]
  generalize c / 2 ^ m = q at *
  have e2 : wrap64 (q : Int) = (q : Int) := by unfold wrap64; omega
  have hb := G00541.mod2_lt q
  rw [e2, show (1 : Int) = ((1 : Nat) : Int) from rfl, i64_and _ _ (by omega) (by decide), nat_mask1, show (x : Int) * 2 = ((x * 2 : Nat) : Int) by omega, i64_or _ _ (by omega) (by omega), nat_join 1 _ _ (by omega) hb]
  omega
theorem bit_hi (x c m : Nat) (hx : x < 65536) (hc : c < 256) (h : 65535 < bits .or .i64 ((x : Int) * 2) (bits .and .i64 (wrap64 ((c : Int) / 2 ^ m)) 1)) :
    bits .xor .i64 (bits .or .i64 ((x : Int) * 2) (bits .and .i64 (wrap64 ((c : Int) / 2 ^ m)) 1)) 69665 = ((G00541.bitOn x (c / 2 ^ m % 2) : Nat) : Int) := by
  have hb := G00541.mod2_lt (c / 2 ^ m)
  rw [bit_val x c m hx hc] at h ⊢
  rw [show (69665 : Int) = ((69665 : Nat) : Int) from rfl, i64_xor _ _ (by omega) (by decide)]
  unfold G00541.bitOn
  rw [if_pos (by omega)]
theorem bit_lo (x c m : Nat) (hx : x < 65536) (hc : c < 256) (h : bits .or .i64 ((x : Int) * 2) (bits .and .i64 (wrap64 ((c : Int) / 2 ^ m)) 1) ≤ 65535) :
    bits .or .i64 ((x : Int) * 2) (bits .and .i64 (wrap64 ((c : Int) / 2 ^ m)) 1) = ((G00541.bitOn x (c / 2 ^ m % 2) : Nat) : Int) := by
  rw [bit_val x c m hx hc] at h ⊢
  unfold G00541.bitOn
  rw [if_neg (by omega)]
theorem val_int {k : IntKind} {a b : Int} (h : a = b) : Value.int k a = .int k b := by rw [h]
set_option maxHeartbeats 1000000 in
theorem specOn_any (n : Nat) (s : ByteArray) (w : World) (hn : n < 65536) (hs : s.size ≤ maxLen) :
    Calls Tryd.prog 63 #[.int .i64 n, .string s] w fun e w' => e = .returned (.int .i64 (G00541.sumOn n s.data.toList : Nat)) ∧ w' = w := by
  unfold maxLen at hs
  go_enter Tryd.func63, Tryd.ntmps63
  go_wp2
  go_loop [0, 5] (fun t i => ∃ k : Nat, k ≤ s.size ∧ i = .int .i64 k ∧ t = .int .i64 (G00541.sumOn n (s.data.toList.take k) : Nat)) (fun _ i => s.size - (intOf i).toNat)
  case atStart => exact ⟨0, Nat.zero_le _, rfl, rfl⟩
  case round =>
    obtain ⟨k, hk, rfl, rfl⟩ := hrel
    have hl := G00541.sumOn_lt (s.data.toList.take k) n hn
    by_cases hlt : k < s.size
    · have HS : Hid (G00541.sumOn n (s.data.toList.take (k + 1)) = G00541.byteOn (G00541.sumOn n (s.data.toList.take k)) s[k].toNat) := by rw [btake_snoc s k hlt]; exact G00541.sumOn_snoc _ _ _
      generalize G00541.sumOn n (s.data.toList.take k) = t at *
      have hb : s[k].toNat < 256 := s[k].toNat_lt
      go_wp2
      go_loop [0, 6] (fun x b => ∃ j : Nat, j ≤ 8 ∧ b = .int .i64 (7 - (j : Int)) ∧ x = .int .i64 (bitsOn t s[k].toNat j : Nat)) (fun _ b => (intOf b + 1).toNat)
      case atStart => exact ⟨0, by decide, rfl, rfl⟩
      case round =>
        obtain ⟨j, hj, rfl, rfl⟩ := hrel
        have hx := bitsOn_lt t s[k].toNat hl j
        by_cases hjl : j < 8
        · generalize hbx : bitsOn t s[k].toNat j = x at *
          have HX : Hid (bitsOn t s[k].toNat j = x) := hbx
          clear hbx
          go_wp2
          · have h9 : 65535 < bits .or .i64 ((x : Int) * 2) (bits .and .i64 (wrap64 ((s[k].toNat : Int) / 2 ^ (7 - j))) 1) := by assumption
            go_round
            case rel => exact ⟨j + 1, by omega, val_int (by omega), val_int (by rw [bit_hi x _ _ hx hb h9, bitsOn, HX.out])⟩
            case measure => simp [intOf]; omega
          · have h9 : bits .or .i64 ((x : Int) * 2) (bits .and .i64 (wrap64 ((s[k].toNat : Int) / 2 ^ (7 - j))) 1) ≤ 65535 := by assumption
            go_round
            case rel => exact ⟨j + 1, by omega, val_int (by omega), val_int (by rw [bit_lo x _ _ hx hb h9, bitsOn, HX.out])⟩
            case measure => simp [intOf]; omega
        · obtain rfl : j = 8 := by omega
          go_wp2
          go_round
          case rel => exact ⟨k + 1, by omega, by go_num, val_int (by rw [HS.out, bitsOn_eight])⟩
          case measure => simp [intOf]; omega
    · go_wp2
      go_ret
      exact ⟨ret_int (by rw [List.take_of_length_le (by simp; omega)]), rfl⟩
end Go.Proofs.YthoeffbefmhkjaaDoor
