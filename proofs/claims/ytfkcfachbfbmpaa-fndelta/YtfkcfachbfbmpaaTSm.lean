/- What laws of chapter 11 hold against one another, and what they keep while they go. -/
import Derived.Test.YtfkcfachbfbmpaaTDz
import Derived.Test.YtfkcfachbfbmpaaTRm
namespace Go.Proofs.Ytfkcfachbfbmpaa
set_option maxRecDepth 100000
open Go Go.ChangeShapes Go.WideShapes Go.ChangeAt Go.RowKit
def ivl : Value → Int
  | .int _ n => n
  | _ => 0
set_option maxHeartbeats 1000000 in
theorem sameInts_same (a1 a2 : Option Addr) (c1 c2 : Nat) (l : List Int) (w : World) (hn : l.length ≤ 1048576) (h1 : Is w.heap.size a1 l w) (h2 : Is w.heap.size a2 l w) :
    Calls Try.prog 25 #[.slice a1 l.length c1, .slice a2 l.length c2] w fun e w' => e = .returned (.bool true) ∧ Below w.heap.size w w' := by
  have H1 : Hid (Is w.heap.size a1 l w) := h1
  have H2 : Hid (Is w.heap.size a2 l w) := h2
  clear h1 h2
  go_enter Try.func25, Try.ntmps25
  go_wp2
  go_loopw [13] (fun i wr => ∃ k : Nat, k ≤ l.length ∧ i = .int .i64 k ∧ Below w.heap.size w wr) (fun i _ => l.length - (ivl i).toNat)
  case atStart => exact ⟨0, Nat.zero_le _, rfl, Below.refl _ _⟩
  case round =>
    obtain ⟨k, hk, rfl, hbel⟩ := hrel
    have HBEL : Hid (Below w.heap.size w wr) := hbel
    by_cases hlt : k < l.length
    · obtain ⟨b1, o1, rfl, hb1, hc1⟩ := H1.out.cell (by omega)
      obtain ⟨b2, o2, rfl, hb2, hc2⟩ := H2.out.cell (by omega)
      have x0 := (hbel.cell (p := ⟨b1, o1 + k, none⟩) hb1).trans (hc1 k hlt)
      have y0 := (hbel.cell (p := ⟨b2, o2 + k, none⟩) hb2).trans (hc2 k hlt)
      clear hc1 hc2 hbel
      generalize l[k] = n at *
      go_wp2
      go_region
      all_goals
        go_wp2
        go_roundw
        · exact ⟨k + 1, by omega, by go_num, HBEL.out.drew⟩
        · simp [ivl]; omega
    · clear hbel
      go_wp2
      go_ret
      exact ⟨rfl, HBEL.out⟩
set_option maxHeartbeats 1000000 in
theorem numberOf_any (a : Option Addr) (len cap : Nat) (w : World) (hK : Code w.heap.size len cap a w) :
    Calls Try.prog 26 #[.slice a len cap] w fun e w' => ∃ n : Int, e = .returned (.int .i64 n) ∧ 0 ≤ n ∧ n < 1000003 ∧ w' = w := by
  have hsm := hK.small
  have HK : Hid (Code w.heap.size len cap a w) := hK
  clear hK
  go_enter Try.func26, Try.ntmps26
  go_wp2
  go_loop [3, 8] (fun t i => ∃ (k : Nat) (n : Int), k ≤ len ∧ i = .int .i64 k ∧ t = .int .i64 n ∧ 0 ≤ n ∧ n < 1000003) (fun _ i => len - (intOf i).toNat)
  case atStart => exact ⟨0, 0, Nat.zero_le _, rfl, rfl, by omega, by omega⟩
  case round =>
    obtain ⟨k, n, hk, rfl, rfl, n0, n1⟩ := hrel
    by_cases hlt : k < len
    · obtain ⟨b, off, rfl, hb, hc⟩ := HK.out.cell (by omega)
      obtain ⟨z, z0, z1, hz⟩ := hc k hlt
      clear hc
      go_wp2
      go_round
      case rel => exact ⟨k + 1, _, by omega, by go_num, rfl, Int.emod_nonneg _ (by omega), Int.emod_lt_of_pos _ (by omega)⟩
      case measure => simp [intOf]; omega
    · go_wp2
      go_ret
      exact ⟨n, rfl, n0, n1, rfl⟩
set_option maxHeartbeats 2000000 in
theorem sameParts_same (a1 a2 : Option Addr) (c1 c2 : Nat) (l : List Pt) (w : World) (hn : l.length ≤ 1048576) (h1 : Pts w.heap.size a1 l w) (h2 : Pts w.heap.size a2 l w) :
    Calls Try.prog 8 #[.slice a1 l.length c1, .slice a2 l.length c2] w fun e w' => e = .returned (.bool true) ∧ Below w.heap.size w w' := by
  have H1 := hid h1
  have H2 := hid h2
  clear h1 h2
  go_enter Try.func8, Try.ntmps8
  go_wp2
  go_loopw [13] (fun i wr => ∃ k : Nat, k ≤ l.length ∧ i = .int .i64 k ∧ Below w.heap.size w wr) (fun i _ => l.length - (ivl i).toNat)
  case atStart => exact ⟨0, Nat.zero_le _, rfl, Below.refl _ _⟩
  case round =>
    obtain ⟨k, hk, rfl, hbel⟩ := hrel
    have HBEL := hid hbel
    by_cases hlt : k < l.length
    · obtain ⟨b1, o1, rfl, hb1, hc1⟩ := H1.out.cell (by omega)
      obtain ⟨b2, o2, rfl, hb2, hc2⟩ := H2.out.cell (by omega)
      obtain ⟨x0, x1, x2⟩ := hc1 k hlt
      obtain ⟨y0, y1, y2⟩ := hc2 k hlt
      have hb1' : ∀ o, wr.cell? ⟨b1, o, none⟩ = w.cell? ⟨b1, o, none⟩ := fun o => hbel.cell (p := ⟨b1, o, none⟩) hb1
      have hb2' : ∀ o, wr.cell? ⟨b2, o, none⟩ = w.cell? ⟨b2, o, none⟩ := fun o => hbel.cell (p := ⟨b2, o, none⟩) hb2
      rw [← hb1'] at x0 x1 x2
      rw [← hb2'] at y0 y1 y2
      clear hc1 hc2 hb1' hb2' hbel
      generalize l[k].fr = pf at *
      generalize l[k].lg = pl at *
      generalize l[k].tx = pt at *
      go_wp2
      go_quiet (fail)
      have HB9 := hid (HBEL.out.trans ((belowN wr nq).mono HBEL.out.size))
      generalize wr.drewN nq = w9 at *
      go_wp2
      go_roundw
      case rel => exact ⟨k + 1, by omega, by go_num, HB9.out⟩
      case measure => simp [ivl]; omega
    · clear hbel
      go_wp2
      go_ret
      exact ⟨rfl, HBEL.out⟩
/-- what is kept: the bytes still to be read, lists of numbers and of parts -/
structure S11 (w0 : World) (I : List (Option Addr × List Int)) (T : List (Option Addr × List Pt)) (l2 c2 : Nat) (a2 : Option Addr) (w : World) : Prop where
  below : Below w0.heap.size w0 w
  code : Code w0.heap.size l2 c2 a2 w
  is : ∀ p ∈ I, Is w.heap.size p.1 p.2 w
  ts : ∀ p ∈ T, Pts w.heap.size p.1 p.2 w
theorem S11.on {w0 w w' : World} {I : List (Option Addr × List Int)} {T : List (Option Addr × List Pt)} {l2 c2 : Nat} {a2 : Option Addr} (h : S11 w0 I T l2 c2 a2 w) (g : Below w.heap.size w w') : S11 w0 I T l2 c2 a2 w' :=
  ⟨h.below.trans (g.mono h.below.size), h.code.below (g.mono h.below.size), fun p hp => ((h.is p hp).below g).mono g.size, fun p hp => ((h.ts p hp).below g).mono g.size⟩
theorem S11.add {w0 w : World} {I : List (Option Addr × List Int)} {T : List (Option Addr × List Pt)} {l2 c2 : Nat} {a2 : Option Addr} (h : S11 w0 I T l2 c2 a2 w) {b : Option Addr} {l : List Int} (hx : Is w.heap.size b l w) : S11 w0 ((b, l) :: I) T l2 c2 a2 w :=
  ⟨h.below, h.code, fun p hp => by
    rcases List.mem_cons.1 hp with rfl | hp
    · exact hx
    · exact h.is p hp, h.ts⟩
theorem S11.addT {w0 w : World} {I : List (Option Addr × List Int)} {T : List (Option Addr × List Pt)} {l2 c2 : Nat} {a2 : Option Addr} (h : S11 w0 I T l2 c2 a2 w) {b : Option Addr} {l : List Pt} (hx : Pts w.heap.size b l w) : S11 w0 I ((b, l) :: T) l2 c2 a2 w :=
  ⟨h.below, h.code, h.is, fun p hp => by
    rcases List.mem_cons.1 hp with rfl | hp
    · exact hx
    · exact h.ts p hp⟩
theorem S11.i {w0 w : World} {I : List (Option Addr × List Int)} {T : List (Option Addr × List Pt)} {l2 c2 : Nat} {a2 : Option Addr} (h : S11 w0 I T l2 c2 a2 w) (b : Option Addr) (l : List Int) (hp : (b, l) ∈ I) : Is w.heap.size b l w := h.is _ hp
theorem S11.t {w0 w : World} {I : List (Option Addr × List Int)} {T : List (Option Addr × List Pt)} {l2 c2 : Nat} {a2 : Option Addr} (h : S11 w0 I T l2 c2 a2 w) (b : Option Addr) (l : List Pt) (hp : (b, l) ∈ T) : Pts w.heap.size b l w := h.ts _ hp
theorem S11.bare {w0 w : World} {I : List (Option Addr × List Int)} {T : List (Option Addr × List Pt)} {l2 c2 : Nat} {a2 : Option Addr} (h : S11 w0 I T l2 c2 a2 w) : S11 w0 [] [] l2 c2 a2 w := ⟨h.below, h.code, (fun _ h => by cases h), (fun _ h => by cases h)⟩
theorem S11.draw {w0 w : World} {I : List (Option Addr × List Int)} {T : List (Option Addr × List Pt)} {l2 c2 : Nat} {a2 : Option Addr} (h : S11 w0 I T l2 c2 a2 w) : Code w.heap.size l2 c2 a2 w := h.code.mono h.below.size
/-- a window of m bytes goes on by one -/
theorem roll_next (s : ByteArray) (p m : Nat) (h1 : 1 ≤ m) (h2 : m ≤ 120) (h : p + m < s.size) (hp : p < s.size) : onOk ((rollT (s.extract p (p + m)) : Nat) : Int) m = true ∧ onV ((rollT (s.extract p (p + m)) : Nat) : Int) s[p].toNat s[p + m].toNat m = rollT (s.extract (p + 1) (p + 1 + m)) := by
  obtain ⟨k, rfl⟩ : ∃ k, m = k + 1 := ⟨m - 1, by omega⟩
  have e1 : byN (s.extract p (p + (k + 1))) = s[p].toNat :: ((byN s).drop (p + 1)).take k := by
    rw [byN_ext, byN_drop s p hp, show p + (k + 1) - p = k + 1 by omega, List.take_succ_cons]
  have e2 : byN (s.extract (p + 1) (p + 1 + (k + 1))) = ((byN s).drop (p + 1)).take k ++ [s[p + (k + 1)].toNat] := by
    rw [byN_ext, show p + 1 + (k + 1) - (p + 1) = k + 1 by omega, List.take_succ_eq_append_getElem (by rw [List.length_drop, byN_len]; omega), List.getElem_drop]
    congr 2
    simp only [byN, List.getElem_map, show p + 1 + k = p + (k + 1) by omega]
    rfl
  have hl : (((byN s).drop (p + 1)).take k).length = k := by rw [List.length_take, List.length_drop, byN_len]; omega
  have hr := onN_roll (((byN s).drop (p + 1)).take k) s[p].toNat s[p + (k + 1)].toNat s[p].toNat_lt
  rw [hl, ← e1, ← e2] at hr
  have hlt : rollT (s.extract p (p + (k + 1))) % 256 ≤ 250 ∧ rollT (s.extract p (p + (k + 1))) / 256 ≤ 250 := by
    unfold rollT rollN
    omega
  have hok : onOk ((rollT (s.extract p (p + (k + 1))) : Nat) : Int) ((k + 1 : Nat) : Int) = true := (on_yes (s := rollT (s.extract p (p + (k + 1)))) (n := k + 1) 0 0 hlt.1 hlt.2 (by omega) h2).1
  refine ⟨hok, ?_⟩
  unfold onV
  rw [hok, Int.toNat_natCast, Int.toNat_natCast]
  exact hr
end Go.Proofs.Ytfkcfachbfbmpaa
