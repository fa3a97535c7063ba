/- Walks of the laws' helpers over devices: held against each other. -/
import Derived.Test.YtbalahgfikeobasT
import Derived.Test.YtbalahgfikeobasBut
import Derived.Deep.RegionWith
import Derived.Laws.BytesArg
namespace Go.Proofs.Ytbalahgfikeobas
set_option maxRecDepth 100000
open Go.ChangeShapes Go.WideShapes Go.ChangeAt Go.RowKit
set_option maxHeartbeats 400000 in
theorem eqZone_same (dd : ByteArray) (ss : Int) (ff : Bool) (w : World) :
    Calls Try.prog 46 #[.agg #[.string dd, .int .i64 ss, .bool ff], .agg #[.string dd, .int .i64 ss, .bool ff]] w fun e w' => e = .returned (.bool true) ∧ Below w.heap.size w w' := by
  go_enter Try.func46, Try.ntmps46
  go_wp2
  go_ret
  exact ⟨rfl, ((Below.refl _ _).alloc (Nat.le_refl _) _).alloc (by simp) _⟩
set_option maxHeartbeats 2000000 in
theorem eqZoneS_same (a1 a2 : Option Addr) (c1 c2 : Nat) (zs : List Zn) (w : World) (hn : zs.length ≤ 1048576) (h1 : Zs w.heap.size a1 zs w) (h2 : Zs w.heap.size a2 zs w) :
    Calls Try.prog 35 #[.slice a1 zs.length c1, .slice a2 zs.length c2] w fun e w' => e = .returned (.bool true) ∧ Below w.heap.size w w' := by
  have H1 : Hid (Zs w.heap.size a1 zs w) := h1
  have H2 : Hid (Zs w.heap.size a2 zs w) := h2
  clear h1 h2
  go_enter Try.func35, Try.ntmps35
  go_wp2
  go_loopw [5] (fun i wr => ∃ k : Nat, k ≤ zs.length ∧ i = .int .i64 k ∧ Below w.heap.size w wr) (fun i _ => zs.length - (intOf i).toNat)
  case atStart => exact ⟨0, Nat.zero_le _, rfl, Below.refl _ _⟩
  case round =>
    obtain ⟨k, hk, rfl, hbel⟩ := hrel
    have HBEL : Hid (Below w.heap.size w wr) := hbel
    by_cases hlt : k < zs.length
    · obtain ⟨b1, o1, rfl, hb1, hc1⟩ := H1.out.cell (by omega)
      obtain ⟨b2, o2, rfl, hb2, hc2⟩ := H2.out.cell (by omega)
      obtain ⟨x0, x1, x2⟩ := hc1 k hlt
      obtain ⟨y0, y1, y2⟩ := hc2 k hlt
      have hb1' : ∀ o, wr.cell? ⟨b1, o, none⟩ = w.cell? ⟨b1, o, none⟩ := fun o => hbel.cell (p := ⟨b1, o, none⟩) hb1
      have hb2' : ∀ o, wr.cell? ⟨b2, o, none⟩ = w.cell? ⟨b2, o, none⟩ := fun o => hbel.cell (p := ⟨b2, o, none⟩) hb2
      rw [← hb1'] at x0 x1 x2
      rw [← hb2'] at y0 y1 y2
      clear hc1 hc2 hb1' hb2' hbel
      generalize zs[k].data = dd at *
      generalize zs[k].sure = ss at *
      generalize zs[k].full = ff at *
      go_wp2_with fail
      go_region_with (go_at_call 46; refine (eqZone_same dd ss ff _).mono ?_; rintro e w9 ⟨rfl, b9⟩)
      all_goals
        have HB9 : Hid (Below w.heap.size w w9) := HBEL.out.trans ((show Below wr.heap.size wr w9 from ⟨b9.os, b9.tape, b9.output, b9.size, b9.block⟩).mono HBEL.out.size)
        clear b9
        go_wp2
        go_roundw
        · exact ⟨k + 1, by omega, by go_num, HB9.out⟩
        · simp [intOf]; omega
    · clear hbel
      go_wp2
      go_ret
      exact ⟨rfl, HBEL.out⟩
set_option maxHeartbeats 1000000 in
theorem eqDevice_same (a1 a2 : Option Addr) (c1 c2 : Nat) (zs : List Zn) (w : World) (hn : zs.length ≤ 1048576) (h1 : Zs w.heap.size a1 zs w) (h2 : Zs w.heap.size a2 zs w) :
    Calls Try.prog 12 #[.agg #[.slice a1 zs.length c1], .agg #[.slice a2 zs.length c2]] w fun e w' => e = .returned (.bool true) ∧ Below w.heap.size w w' := by
  have H1 : Hid (∀ o1 o2, Zs ((w.alloc o1).alloc o2).heap.size a1 zs ((w.alloc o1).alloc o2)) := fun o1 o2 => (h1.below (((Below.refl _ _).alloc (Nat.le_refl _) _).alloc (by simp) _)).mono (by simp; omega)
  have H2 : Hid (∀ o1 o2, Zs ((w.alloc o1).alloc o2).heap.size a2 zs ((w.alloc o1).alloc o2)) := fun o1 o2 => (h2.below (((Below.refl _ _).alloc (Nat.le_refl _) _).alloc (by simp) _)).mono (by simp; omega)
  clear h1 h2
  go_enter Try.func12, Try.ntmps12
  go_wp2_with fail
  refine (eqZoneS_same a1 a2 c1 c2 zs _ hn (H1.out _ _) (H2.out _ _)).mono ?_
  rintro e w1 ⟨rfl, b1⟩
  have HB : Hid (Below w.heap.size w w1) := (((Below.refl _ _).alloc (Nat.le_refl _) _).alloc (by simp) _).trans (b1.mono (by simp; omega))
  clear b1
  go_wp2
  go_ret
  exact ⟨rfl, HB.out⟩
def digs : Nat → Nat → List UInt8
  | 0, _ => []
  | f + 1, n => if n = 0 then [] else digs f (n / 10) ++ [48 + UInt8.ofNat (n % 10)]
theorem digs_fuel : ∀ f g n, n < f → n < g → digs f n = digs g n
  | 0, _, _, h, _ => absurd h (Nat.not_lt_zero _)
  | _, 0, _, _, h => absurd h (Nat.not_lt_zero _)
  | f + 1, g + 1, n, h1, h2 => by
    unfold digs
    split
    · rfl
    · rw [digs_fuel f g (n / 10) (by omega) (by omega)]
def dec (n : Nat) : List UInt8 := digs (n + 1) n
theorem dec_step (n : Nat) (h : 0 < n) : dec n = dec (n / 10) ++ [48 + UInt8.ofNat (n % 10)] := by
  unfold dec
  conv => lhs; unfold digs
  rw [if_neg (by omega), digs_fuel n (n / 10 + 1) (n / 10) (by omega) (by omega)]
theorem dec_len : ∀ f n, n < 10 ^ f → (dec n).length ≤ f
  | 0, n, h => by
    have : n = 0 := by simpa using h
    subst this; decide
  | f + 1, n, h => by
    by_cases h0 : n = 0
    · subst h0; show 0 ≤ _; omega
    · rw [dec_step n (by omega), List.length_append]
      have := dec_len f (n / 10) (by rw [Nat.pow_succ] at h; omega)
      simp; omega
theorem app_one (x : UInt8) (l : List UInt8) : (⟨#[x]⟩ : ByteArray) ++ ⟨l.toArray⟩ = ⟨(x :: l).toArray⟩ := by
  apply ByteArray.ext
  simp [ByteArray.data_append]
theorem ret_s {a b : ByteArray} (h : a = b) : Ending.returned (.string a) = .returned (.string b) := by rw [h]
def markT (n : Nat) : ByteArray := ⟨(109 :: dec n).toArray⟩
theorem one_byte (w : World) (x : Int) : Sem.run Try.prog (convert 66 9 (.slice (some ⟨w.heap.size, 0, none⟩) 1 1)) (w.alloc (.cells #[.int .u8 x] 5)) =
    .ok (.string ⟨#[UInt8.ofNat x.toNat]⟩) (w.alloc (.cells #[.int .u8 x] 5)) := by
  have h := run_convert_bytes_arg (w.alloc (.cells #[.int .u8 x] 5)) 66 5 Try.underlying66 Try.underlying5 w.heap.size 0 1 1 [x] rfl (fun i hi => by
    obtain rfl : i = 0 := by omega
    go_simp) 9 Try.underlying9
  exact h
set_option maxHeartbeats 1000000 in
theorem markText_any (n : Nat) (w : World) (h0 : 1 ≤ n) (h1 : n ≤ 100000000) :
    Calls Try.prog 47 #[.int .i64 n] w fun e w' => e = .returned (.string (markT n)) ∧ Below w.heap.size w w' := by
  have hd : decide ((n : Int) ≤ 0) = false := by simp; omega
  have hcv := one_byte
  go_enter Try.func47, Try.ntmps47
  go_wp2
  go_loopw [0, 3] (fun t o wr => ∃ (m : Nat) (l : List UInt8), m ≤ n ∧ t = .int .i64 m ∧ o = .string ⟨l.toArray⟩ ∧ dec m ++ l = dec n ∧ Below w.heap.size w wr) (fun t _ _ => (intOf t).toNat)
  case atStart => exact ⟨n, [], Nat.le_refl _, rfl, rfl, by simp, Below.refl _ _⟩
  case round =>
    obtain ⟨m, l, hm, rfl, rfl, hl, hbel⟩ := hrel
    have HL : Hid (dec m ++ l = dec n) := hl
    have HBEL : Hid (Below w.heap.size w wr) := hbel
    have hlen : l.length ≤ 9 := by
      have h9 := dec_len 9 n (by omega)
      rw [← hl, List.length_append] at h9
      omega
    have hsz : (⟨l.toArray⟩ : ByteArray).size = l.length := by simp [ByteArray.size]
    clear hl hbel
    by_cases hp : 0 < m
    · have hdm : decide (0 < (m : Int)) = true := by simp; omega
      have hs1 : ∀ x : UInt8, (⟨#[x]⟩ : ByteArray).size = 1 := fun _ => rfl
      go_wp2
      go_roundw
      case rel => exact ⟨m / 10, (48 + UInt8.ofNat (m % 10)) :: l, by omega, by go_num, by rw [app_one], by rw [← HL.out, dec_step m hp]; simp, HBEL.out.alloc HBEL.out.size _⟩
      case measure => simp [intOf]; omega
    · obtain rfl : m = 0 := by omega
      have hfin : (⟨#[109]⟩ : ByteArray) ++ ⟨l.toArray⟩ = markT n := by
        rw [app_one, markT, ← HL.out]; rfl
      have HF : Hid ((⟨#[109]⟩ : ByteArray) ++ ⟨l.toArray⟩ = markT n) := hfin
      clear hfin
      go_wp2
      go_ret
      exact ⟨ret_s HF.out, HBEL.out⟩
end Go.Proofs.Ytbalahgfikeobas
