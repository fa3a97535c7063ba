/- What a law on drawn masks keeps while it goes; what is drawn. -/
import Derived.Test.YteakdhlloollfaaPDrM
import Derived.Test.YteakdhlloollfaaPEch
namespace Go.Proofs.Yteakdhlloollfaa
set_option maxRecDepth 100000
open Go Go.ChangeShapes Go.WideShapes Go.ChangeAt Go.RowKit
set_option maxHeartbeats 1000000 in
theorem sameInts_same (a1 a2 : Option Addr) (c1 c2 : Nat) (l : List Int) (w : World) (hn : l.length ≤ 1048576) (h1 : Is w.heap.size a1 l w) (h2 : Is w.heap.size a2 l w) :
    Calls Try.prog 9 #[.slice a1 l.length c1, .slice a2 l.length c2] w fun e w' => e = .returned (.bool true) ∧ Below w.heap.size w w' := by
  have H1 : Hid (Is w.heap.size a1 l w) := h1
  have H2 : Hid (Is w.heap.size a2 l w) := h2
  clear h1 h2
  go_enter Try.func9, Try.ntmps9
  go_wp2
  go_loopw [13] (fun i wr => ∃ k : Nat, k ≤ l.length ∧ i = .int .i64 k ∧ Below w.heap.size w wr) (fun i _ => l.length - (ivl i).toNat)
  case atStart => exact ⟨0, Nat.zero_le _, rfl, Below.refl _ _⟩
  case round =>
    obtain ⟨k, hk, rfl, hbel⟩ := hrel
    have HBEL : Hid (Below w.heap.size w wr) := hbel
    by_cases hlt : k < l.length
    · obtain ⟨b1, o1, rfl, hb1, hc1⟩ := H1.out.cell (by omega)
      obtain ⟨b2, o2, rfl, hb2, hc2⟩ := H2.out.cell (by omega)
      have x0 := (hbel.cell (p := ⟨b1, o1 + k, none⟩) hb1).trans (hc1 k hlt)
      have y0 := (hbel.cell (p := ⟨b2, o2 + k, none⟩) hb2).trans (hc2 k hlt)
      clear hc1 hc2 hbel
      generalize l[k] = n at *
      go_wp2
      go_region
      all_goals
        go_wp2
        go_roundw
        · exact ⟨k + 1, by omega, by go_num, HBEL.out.drew⟩
        · simp [ivl]; omega
    · clear hbel
      go_wp2
      go_ret
      exact ⟨rfl, HBEL.out⟩
/-- what is kept: the bytes still to be read, lists -/
structure S8 (w0 : World) (I : List (Option Addr × List Int)) (l2 c2 : Nat) (a2 : Option Addr) (w : World) : Prop where
  below : Below w0.heap.size w0 w
  code : Code w0.heap.size l2 c2 a2 w
  is : ∀ p ∈ I, Is w.heap.size p.1 p.2 w
theorem S8.on {w0 w w' : World} {I : List (Option Addr × List Int)} {l2 c2 : Nat} {a2 : Option Addr} (h : S8 w0 I l2 c2 a2 w) (g : Below w.heap.size w w') : S8 w0 I l2 c2 a2 w' :=
  ⟨h.below.trans (g.mono h.below.size), h.code.below (g.mono h.below.size), fun p hp => ((h.is p hp).below g).mono g.size⟩
theorem S8.add {w0 w : World} {I : List (Option Addr × List Int)} {l2 c2 : Nat} {a2 : Option Addr} (h : S8 w0 I l2 c2 a2 w) {b : Option Addr} {l : List Int} (hx : Is w.heap.size b l w) : S8 w0 ((b, l) :: I) l2 c2 a2 w :=
  ⟨h.below, h.code, fun p hp => by
    rcases List.mem_cons.1 hp with rfl | hp
    · exact hx
    · exact h.is p hp⟩
theorem S8.i {w0 w : World} {I : List (Option Addr × List Int)} {l2 c2 : Nat} {a2 : Option Addr} (h : S8 w0 I l2 c2 a2 w) (b : Option Addr) (l : List Int) (hp : (b, l) ∈ I) : Is w.heap.size b l w := h.is _ hp
theorem S8.bare {w0 w : World} {I : List (Option Addr × List Int)} {l2 c2 : Nat} {a2 : Option Addr} (h : S8 w0 I l2 c2 a2 w) : S8 w0 [] l2 c2 a2 w := ⟨h.below, h.code, fun _ h => by cases h⟩
theorem S8.draw {w0 w : World} {I : List (Option Addr × List Int)} {l2 c2 : Nat} {a2 : Option Addr} (h : S8 w0 I l2 c2 a2 w) : Code w.heap.size l2 c2 a2 w := h.code.mono h.below.size
set_option maxHeartbeats 1000000 in
theorem drawRank_any (len cap : Nat) (a : Option Addr) (w : World) (hK : Code w.heap.size len cap a w) :
    Calls Try.prog 13 #[.slice a len cap] w fun e w' => ∃ (m : Nat) (l : List Int) (b : Option Addr) (c : Nat), e = .returned (.tuple #[.int .i64 (m : Int), .slice b l.length c]) ∧ m ≤ 7 ∧ l.length ≤ 21 ∧ Is w'.heap.size b l w' ∧ Below w.heap.size w w' := by
  have HC : Hid (Cur w.heap.size 0 (.slice a len cap) (w.alloc (.cells #[.slice a len cap, .int .i64 0, .int .u64 0] 52))) := Cur.start _ _ _
  have HK : Hid (Code w.heap.size len cap a (w.alloc (.cells #[.slice a len cap, .int .i64 0, .int .u64 0] 52))) := hK.start _
  have hz : (w.alloc (.cells #[.slice a len cap, .int .i64 0, .int .u64 0] 52)).heap.size = w.heap.size + 1 := heap_size _ _
  have HD := hid (fun w' (h : But w.heap.size (w.alloc (.cells #[.slice a len cap, .int .i64 0, .int .u64 0] 52)) w') => But.done h)
  clear hK
  go_enter Try.func13, Try.ntmps13
  go_wp2_with fail
  generalize w.alloc (.cells #[.slice a len cap, .int .i64 0, .int .u64 0] 52) = w0 at *
  refine (masks_any w.heap.size 0 len cap a _ (by omega) HC.out HK.out).mono ?_
  rintro e w2 ⟨m, v, l, rfl, _, hm7, hl, o2, hC2, hB2⟩
  have HB2 : Hid (Below w.heap.size w w2) := HD.out _ hB2
  obtain ⟨b, c, rfl, ho, hc⟩ := o2.own
  have HI := hid ho.is
  clear o2 ho hC2 hB2 HC HK HD hc
  go_wp2
  go_ret2
  exact ⟨m, l, b, c, rfl, hm7, hl, HI.out, HB2.out⟩
set_option maxHeartbeats 400000 in
theorem drawReduce_any (len cap : Nat) (a : Option Addr) (w : World) (hK : Code w.heap.size len cap a w) :
    Calls Try.prog 4 #[.slice a len cap] w fun e w' => ∃ (m : Nat) (l : List Int) (b : Option Addr) (c : Nat), e = .returned (.tuple #[.int .i64 (m : Int), .slice b l.length c]) ∧ m ≤ 7 ∧ l.length ≤ 21 ∧ Is w'.heap.size b l w' ∧ Below w.heap.size w w' := by
  have H := hid (drawRank_any len cap a w hK)
  clear hK
  go_enter Try.func4, Try.ntmps4
  go_wp2_with fail
  refine H.out.mono ?_
  rintro e w1 ⟨m, l, b, c, rfl, hm7, hl, hI, hB⟩
  have HI := hid hI
  have HB := hid hB
  clear hI hB H
  go_wp2
  go_ret2
  exact ⟨m, l, b, c, rfl, hm7, hl, HI.out, HB.out⟩
set_option maxHeartbeats 1000000 in
theorem drawInSpan_any (len cap : Nat) (a : Option Addr) (w : World) (hK : Code w.heap.size len cap a w) :
    Calls Try.prog 11 #[.slice a len cap] w fun e w' => ∃ (m : Nat) (l : List Int) (b : Option Addr) (c : Nat) (x : Int), e = .returned (.tuple #[.int .i64 (m : Int), .slice b l.length c, .int .i64 x]) ∧ m ≤ 7 ∧ l.length ≤ 21 ∧ Is w'.heap.size b l w' ∧ Below w.heap.size w w' := by
  have HC : Hid (Cur w.heap.size 0 (.slice a len cap) (w.alloc (.cells #[.slice a len cap, .int .i64 0, .int .u64 0] 52))) := Cur.start _ _ _
  have HK : Hid (Code w.heap.size len cap a (w.alloc (.cells #[.slice a len cap, .int .i64 0, .int .u64 0] 52))) := hK.start _
  have hz : (w.alloc (.cells #[.slice a len cap, .int .i64 0, .int .u64 0] 52)).heap.size = w.heap.size + 1 := heap_size _ _
  have HD := hid (fun w' (h : But w.heap.size (w.alloc (.cells #[.slice a len cap, .int .i64 0, .int .u64 0] 52)) w') => But.done h)
  clear hK
  go_enter Try.func11, Try.ntmps11
  go_wp2_with fail
  generalize w.alloc (.cells #[.slice a len cap, .int .i64 0, .int .u64 0] 52) = w0 at *
  refine (masks_any w.heap.size 0 len cap a _ (by omega) HC.out HK.out).mono ?_
  rintro e w2 ⟨m, v, l, rfl, hm1, hm7, hl, o2, hC2, hB2⟩
  have HP : Hid ((1 : Int) ≤ wrap64 (2 ^ m) ∧ wrap64 ((2 : Int) ^ m) ≤ 100000) := by
    show _ ∧ _
    have h := pow_le m (by omega)
    rw [wrap_pow m (by omega)]
    omega
  have HC2 := hid hC2
  have HB2 := hid hB2
  have HO2 := hid o2
  have HK2 : Hid (Code w.heap.size len cap a w2) := HK.out.but hB2 (Nat.le_refl _) (by omega)
  have hs2 := hB2.size
  clear o2 hC2 hB2 HC HK
  go_wp2_with fail
  refine (pick_any _ w.heap.size _ len cap a _ (HP.out.1) (HP.out.2) (by omega) HC2.out HK2.out).mono ?_
  rintro e w3 ⟨x, rfl, x0, x1, hC3, hB3⟩
  have hx9 : x < 100000 := by have := HP.out.2; omega
  have HC3 := hid hC3
  have HB3 : Hid (But w.heap.size w0 w3) := HB2.out.trans hB3
  have HK3 : Hid (Code w.heap.size len cap a w3) := HK2.out.but hB3 (Nat.le_refl _) (by omega)
  have HO3 := hid (HO2.out.but hB3 (by omega))
  clear hC3 hB3 HC2 HB2 HK2 HO2 x1
  go_wp2_with fail
  refine (pick_any _ w.heap.size _ len cap a _ (by omega) (by omega) (by omega) HC3.out HK3.out).mono ?_
  rintro e w4 ⟨y, rfl, y0, y1, hC4, hB4⟩
  have HB4 : Hid (Below w.heap.size w w4) := HD.out _ (HB3.out.trans hB4)
  obtain ⟨b, c, rfl, ho, hc⟩ := (HO3.out.but hB4 (by omega)).own
  have HI := hid ho.is
  clear ho hc hC4 hB4 HC3 HB3 HK3 HO3 HD
  go_wp2
  go_ret3
  exact ⟨m, l, b, c, _, rfl, hm7, hl, HI.out, HB4.out⟩
end Go.Proofs.Yteakdhlloollfaa
