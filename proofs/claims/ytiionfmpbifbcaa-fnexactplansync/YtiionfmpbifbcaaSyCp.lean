/- A list of one's own sorted and made compact. -/
import Derived.Test.YtiionfmpbifbcaaSyDp
import Derived.Test.YtiionfmpbifbcaaKKp
import Derived.Test.YtiionfmpbifbcaaAShC
namespace Go.Proofs.Ytiionfmpbifbcaa
set_option maxRecDepth 100000
open Go Go.ChangeShapes Go.WideShapes Go.ChangeAt Go.RowKit Go.Sort
/-- a list of one's own, made compact where it lies -/
theorem compAL (lo : Nat) (v : Value) (l : List Int) (w : World) (hn : l.length ≤ 9000) (h : AL lo v l w) (hlo : lo ≤ w.heap.size) :
    Calls Try.prog 68 #[v] w fun e w' => ∃ v', e = .returned v' ∧ AL lo v' (Lib.compact l) w' ∧ Below lo w w' := by
  have h9 : w.ownsRow lo 3 1 v l.length (ivals l) := h
  rcases h9.2 with ⟨rfl, hz⟩ | ⟨gb, cap, cur, rfl, hbase, hgb, r1, r2, r3, r4⟩
  · obtain rfl : l = [] := List.eq_nil_of_length_eq_zero hz
    exact (comI_none none 0 w).mono fun e w' ⟨he, hw⟩ => ⟨_, he, by rw [hw]; exact h, by rw [hw]; exact Below.refl _ _⟩
  · have hH : Go.Sort.Holds (Value.int .i64) w gb 0 l.toArray := holds_of_block_i hgb (by rw [Nat.mul_one] at r4; exact r4)
    have hcl := comp_len l
    refine (comI_row gb 0 cap l w hH (by omega) r1).mono ?_
    rintro e w' ⟨he, q, rfl⟩
    have hg0 := grownBy_sorted_i (w := w) (g := gb) (n := q) (os := #[]) (Lib.compact l ++ List.replicate (l.length - (Lib.compact l).length) 0).toArray
    have hh0 := heap_sorted_i (w := w) (g := gb) (n := q) (os := #[]) (Lib.compact l ++ List.replicate (l.length - (Lib.compact l).length) 0).toArray hgb
    have hgr : ∀ X : World, grow X #[] = X := fun X => by simp [grow]
    rw [hgr] at hg0 hh0
    refine ⟨_, he, ⟨by simp [ivals], Or.inr ⟨gb, cap, _, rfl, hbase, hh0, by omega, r2, by simp [putCells, r3], ?_⟩⟩, below_of_grown hg0 hlo (fun k hk => by cases hk; exact hbase)⟩
    have ht := take_putCells_i cur (Lib.compact l ++ List.replicate (l.length - (Lib.compact l).length) 0) (by simp; omega)
    have hlen : (Lib.compact l ++ List.replicate (l.length - (Lib.compact l).length) (0 : Int)).length = l.length := by simp; omega
    rw [hlen] at ht
    have ht2 := congrArg (List.take (Lib.compact l).length) ht
    rw [List.take_take, Nat.min_eq_left hcl, List.map_append, List.take_left' (by simp)] at ht2
    rw [Nat.mul_one]
    exact ht2
theorem rising_any (lo : Nat) (v : Value) (l : List Int) (w : World) (hn : l.length ≤ 9000) (h : AL lo v l w) (hlo : lo ≤ w.heap.size) :
    Calls Try.prog 41 #[v] w fun e w' => ∃ v', e = .returned v' ∧ AL lo v' (putsI [] l) w' ∧ Below lo w w' := by
  have HS := hid (sortK lo v l w hn h hlo)
  have HC : Hid (∀ u, AL lo v (sortN l) u → Below lo w u → Calls Try.prog 68 #[v] u fun e w' => ∃ v', e = .returned v' ∧ AL lo v' (putsI [] l) w' ∧ Below lo u w') := fun u hu g => by
    have := compAL lo v (sortN l) u (by rw [sortN_len]; exact hn) hu (Nat.le_trans hlo g.size)
    rw [puts_comp] at this
    exact this
  clear h
  go_enter Try.func41, Try.ntmps41
  go_wp2_with fail
  refine HS.out.mono ?_
  rintro e w1 ⟨rfl, o1, b1⟩
  have C := hid (HC.out w1 o1 b1)
  have HB := hid b1
  clear o1 b1 HS HC
  go_wp2_with fail
  refine C.out.mono ?_
  rintro e w2 ⟨v', rfl, o2, b2⟩
  have HO := hid o2
  have HB2 := hid (HB.out.trans b2)
  clear o2 b2 C
  go_wp2_with fail
  go_ret
  exact ⟨v', rfl, HO.out, HB2.out⟩
end Go.Proofs.Ytiionfmpbifbcaa
