/- Walks of the laws' helpers: devices and numbers that are the same. -/
import Derived.Test.YteofdaecknlkdaaIntD
import Derived.Laws.StructEq
namespace Go.Proofs.Yteofdaecknlkdaa
set_option maxRecDepth 100000
open Go.ChangeShapes Go.WideShapes Go.ChangeAt Go.RowKit
set_option maxHeartbeats 2000000 in
theorem sameDevice_same (a1 a2 : Option Addr) (c1 c2 : Nat) (zs : List Zn) (w : World) (hn : zs.length ≤ 1048576) (h1 : Zs w.heap.size a1 zs w) (h2 : Zs w.heap.size a2 zs w) :
    Calls Try.prog 8 #[.agg #[.slice a1 zs.length c1], .agg #[.slice a2 zs.length c2]] w fun e w' => e = .returned (.bool true) ∧ Below w.heap.size w w' := by
  have H1 : Hid (Zs w.heap.size a1 zs w) := h1
  have H2 : Hid (Zs w.heap.size a2 zs w) := h2
  have HL : Hid (Loc [(w.heap.size + 1, .slice a2 zs.length c2, 25), (w.heap.size, .slice a1 zs.length c1, 25)] ((w.alloc (.cells #[.slice a1 zs.length c1] 25)).alloc (.cells #[.slice a2 zs.length c2] 25))) := by
    have := ((Loc.nil w).alloc (.slice a1 zs.length c1) 25).alloc (.slice a2 zs.length c2) 25
    rw [heap_size] at this
    exact this
  clear h1 h2
  go_enter Try.func8, Try.ntmps8
  go_wp2
  go_loopw [16] (fun i wr => ∃ k : Nat, k ≤ zs.length ∧ i = .int .i64 k ∧ Below w.heap.size w wr ∧ Loc [(w.heap.size + 1, .slice a2 zs.length c2, 25), (w.heap.size, .slice a1 zs.length c1, 25)] wr) (fun i _ => zs.length - (intOf i).toNat)
  case atStart => exact ⟨0, Nat.zero_le _, rfl, ((Below.refl _ _).alloc (Nat.le_refl _) _).alloc (by simp) _, HL.out⟩
  case round =>
    obtain ⟨k, hk, rfl, hbel, hloc⟩ := hrel
    have HBEL : Hid (Below w.heap.size w wr) := hbel
    have HLOC : Hid (Loc [(w.heap.size + 1, .slice a2 zs.length c2, 25), (w.heap.size, .slice a1 zs.length c1, 25)] wr) := hloc
    have q1 := hloc.cell w.heap.size (.slice a1 zs.length c1) 25 (by simp)
    have q2 := hloc.cell (w.heap.size + 1) (.slice a2 zs.length c2) 25 (by simp)
    by_cases hlt : k < zs.length
    · obtain ⟨b1, o1, rfl, hb1, hc1⟩ := H1.out.cell (by omega)
      obtain ⟨b2, o2, rfl, hb2, hc2⟩ := H2.out.cell (by omega)
      obtain ⟨x0, x1, x2⟩ := hc1 k hlt
      obtain ⟨y0, y1, y2⟩ := hc2 k hlt
      have hb1' : ∀ o, wr.cell? ⟨b1, o, none⟩ = w.cell? ⟨b1, o, none⟩ := fun o => hbel.cell (p := ⟨b1, o, none⟩) hb1
      have hb2' : ∀ o, wr.cell? ⟨b2, o, none⟩ = w.cell? ⟨b2, o, none⟩ := fun o => hbel.cell (p := ⟨b2, o, none⟩) hb2
      rw [← hb1'] at x0 x1 x2
      rw [← hb2'] at y0 y1 y2
      clear hc1 hc2 hb1' hb2' hbel hloc
      generalize zs[k].data = dd at *
      generalize zs[k].sure = ss at *
      generalize zs[k].full = ff at *
      go_wp2
      go_region
      all_goals
        go_wp2
        go_roundw
        · exact ⟨k + 1, by omega, by go_num, HBEL.out.drew, HLOC.out⟩
        · simp [intOf]; omega
    · clear hbel hloc
      go_wp2
      go_ret
      exact ⟨rfl, HBEL.out⟩
set_option maxHeartbeats 1000000 in
theorem sameInts_same (a1 a2 : Option Addr) (c1 c2 : Nat) (l : List Int) (w : World) (hn : l.length ≤ 1048576) (h1 : Is w.heap.size a1 l w) (h2 : Is w.heap.size a2 l w) :
    Calls Try.prog 19 #[.slice a1 l.length c1, .slice a2 l.length c2] w fun e w' => e = .returned (.bool true) ∧ Below w.heap.size w w' := by
  have H1 : Hid (Is w.heap.size a1 l w) := h1
  have H2 : Hid (Is w.heap.size a2 l w) := h2
  clear h1 h2
  go_enter Try.func19, Try.ntmps19
  go_wp2
  go_loopw [13] (fun i wr => ∃ k : Nat, k ≤ l.length ∧ i = .int .i64 k ∧ Below w.heap.size w wr) (fun i _ => l.length - (intOf i).toNat)
  case atStart => exact ⟨0, Nat.zero_le _, rfl, Below.refl _ _⟩
  case round =>
    obtain ⟨k, hk, rfl, hbel⟩ := hrel
    have HBEL : Hid (Below w.heap.size w wr) := hbel
    by_cases hlt : k < l.length
    · obtain ⟨b1, o1, rfl, hb1, hc1⟩ := H1.out.cell (by omega)
      obtain ⟨b2, o2, rfl, hb2, hc2⟩ := H2.out.cell (by omega)
      have x0 := (hbel.cell (p := ⟨b1, o1 + k, none⟩) hb1).trans (hc1 k hlt)
      have y0 := (hbel.cell (p := ⟨b2, o2 + k, none⟩) hb2).trans (hc2 k hlt)
      clear hc1 hc2 hbel
      generalize l[k] = n at *
      go_wp2
      go_region
      all_goals
        go_wp2
        go_roundw
        · exact ⟨k + 1, by omega, by go_num, HBEL.out.drew⟩
        · simp [intOf]; omega
    · clear hbel
      go_wp2
      go_ret
      exact ⟨rfl, HBEL.out⟩
end Go.Proofs.Yteofdaecknlkdaa
