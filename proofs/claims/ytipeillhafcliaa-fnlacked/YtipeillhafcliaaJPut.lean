/- The model's l1Put at whatever list: some list comes back, longer by one at most. -/
import Derived.Test.YtipeillhafcliaaJElem
namespace Go.Proofs.Ytipeillhafcliaa
set_option maxRecDepth 100000
open Go Go.ChangeShapes Go.WideShapes Go.ChangeAt Go.RowKit
/-- some list comes back, longer by one at most -/
def PutOut (lo n : Nat) (w : World) (e : Ending) (w' : World) : Prop := ∃ (v : Value) (l : List Int), e = .returned v ∧ l.length ≤ n ∧ AL lo v l w' ∧ Below w.heap.size w w'
set_option maxHeartbeats 1000000 in
theorem put_nilJ (x : Int) (lo : Nat) (w : World) (hlo : lo ≤ w.heap.size) : Calls Try.prog 51 #[.slice none 0 0, .int .i64 x] w (PutOut lo 1 w) := by
  have hW1 := boxB w (.cells #[] 3)
  obtain ⟨v1, w1, r1, o1, g1, -⟩ := (AL.lit w).app hW1.size none 0 [] (is_nil _ _ _) (by simp)
  have hg1 : Below w.heap.size w w1 := hW1.trans g1
  obtain ⟨v2, w2, r2, o2, g2, -⟩ := o1.push hg1.size x (by simp)
  have hg2 : Below w.heap.size w w2 := hg1.trans g2
  obtain ⟨v3, w3, r3, o3, g3, -⟩ := o2.app hg2.size none 0 [] (is_nil _ _ _) (by simp)
  have HB3 : Hid (Below w.heap.size w w3) := hg2.trans g3
  have HO3 : Hid (AL lo v3 [x] w3) := o3.mono hlo
  clear o1 o2 o3 g1 g2 g3 hW1 hg1 hg2
  go_enter Try.func51, Try.ntmps51
  go_wp2_with fail
  go_loop [5] (fun i => i = .int .i64 0) (fun _ => 0)
  case atStart => rfl
  case round =>
    obtain rfl := hrel
    go_wp2_with (first | (at_builtin; refine wpList_append_run rfl (.tmp 34) (.tmp 37) 23 rfl _ _ rfl rfl _ _ r1 ?_) | (at_builtin; refine wpList_append_run rfl (.tmp 39) (.tmp 41) 23 rfl _ _ rfl rfl _ _ r2 ?_) | (at_builtin; refine wpList_append_run rfl (.tmp 43) (.tmp 46) 23 rfl _ _ rfl rfl _ _ r3 ?_))
    go_ret
    exact ⟨v3, [x], rfl, Nat.le_refl _, HO3.out, HB3.out⟩
set_option maxHeartbeats 2000000 in
theorem put_rowJ (R cS lo : Nat) (S : List Int) (x : Int) (w : World) (hn : S.length ≤ 900) (hlo : lo ≤ w.heap.size) (hS : AL lo (.slice (some ⟨R, 0, none⟩) S.length cS) S w) (hcS : S.length ≤ cS) :
    Calls Try.prog 51 #[.slice (some ⟨R, 0, none⟩) S.length cS, .int .i64 x] w (PutOut lo (S.length + 1) w) := by
  have HAL := hid hS
  have HS := hid (is_ofJ hS)
  clear hS
  go_enter Try.func51, Try.ntmps51
  go_wp2_with fail
  go_loop [5] (fun i => ∃ j : Nat, j ≤ S.length ∧ i = .int .i64 j) (fun i => S.length - (intOf i).toNat)
  case atStart => exact ⟨0, Nat.zero_le _, rfl⟩
  case round =>
    obtain ⟨j, hj, rfl⟩ := hrel
    by_cases hjl : j < S.length
    · obtain ⟨R', off', e, hb', hc'⟩ := HS.out.cell (by omega)
      injection e with e; injection e with e1 e2 _
      subst e1; subst e2
      have y0 := hc' j hjl
      clear hc'
      by_cases hx : S[j] < x
      · have hd : decide (S[j] < x) = true := decide_eq_true hx
        clear hx
        generalize S[j] = y at *
        rw [Nat.zero_add] at y0
        go_wp2_with fail
        go_round
        · exact ⟨j + 1, by omega, by go_num⟩
        · simp [intOf]; omega
      · have hd : decide (S[j] < x) = false := decide_eq_false hx
        by_cases hne : S[j] = x
        · have hd2 : (S[j] == x) = true := by simpa using hne
          clear hx hne
          generalize S[j] = y at *
          rw [Nat.zero_add] at y0
          go_wp2_with fail
          go_ret
          exact ⟨_, S, rfl, by omega, HAL.out, Below.refl _ _⟩
        · have hd2 : (S[j] == x) = false := beq_eq_false_iff_ne.2 hne
          clear hx hne
          generalize S[j] = y at *
          rw [Nat.zero_add] at y0
          have hT : (S.take j).length = j := by rw [List.length_take]; omega
          have hD : (S.drop j).length = S.length - j := by rw [List.length_drop]
          have hW1 := boxB w (.cells #[] 3)
          obtain ⟨v1, w1, r1, o1, g1, -⟩ := (AL.lit w).app hW1.size (some ⟨R, 0, none⟩) cS (S.take j) (((is_take HS.out j).below hW1).mono hW1.size) (by rw [List.length_take]; simp; omega)
          rw [hT] at r1
          have hg1 : Below w.heap.size w w1 := hW1.trans g1
          obtain ⟨v2, w2, r2, o2, g2, -⟩ := o1.push hg1.size x (by rw [List.nil_append, List.length_take]; omega)
          have hg2 : Below w.heap.size w w2 := hg1.trans g2
          obtain ⟨v3, w3, r3, o3, g3, -⟩ := o2.app hg2.size (some ⟨R, j, none⟩) (cS - j) (S.drop j) (((by have := is_drop HS.out j; rwa [Nat.zero_add] at this : Is w.heap.size (some ⟨R, j, none⟩) (S.drop j) w).below hg2).mono hg2.size) (by simp; omega)
          rw [hD] at r3
          have HB3 : Hid (Below w.heap.size w w3) := hg2.trans g3
          have HO3 := hid (o3.mono hlo)
          have HLN : Hid (((([] ++ S.take j) ++ [x]) ++ S.drop j).length ≤ S.length + 1) := by
            show _ ≤ _
            simp
            omega
          clear o1 o2 o3 g1 g2 g3 hW1 hg1 hg2 HS hT hD HAL
          go_wp2_with (first | (at_builtin; refine wpList_append_run rfl (.tmp 34) (.tmp 37) 23 rfl _ _ rfl rfl _ _ r1 ?_) | (at_builtin; refine wpList_append_run rfl (.tmp 39) (.tmp 41) 23 rfl _ _ rfl rfl _ _ r2 ?_) | (at_builtin; refine wpList_append_run rfl (.tmp 43) (.tmp 46) 23 rfl _ _ rfl rfl _ _ r3 ?_))
          go_ret
          exact ⟨v3, _, rfl, HLN.out, HO3.out, HB3.out⟩
    · obtain rfl : j = S.length := by omega
      clear hj
      rcases Nat.lt_or_ge S.length cS with hcc | hcc
      · have hc0 : cS - S.length ≠ 0 := by omega
        have hc1 : cS ≠ S.length := by omega
        have hW1 := boxB w (.cells #[] 3)
        obtain ⟨v1, w1, r1, o1, g1, -⟩ := (AL.lit w).app hW1.size (some ⟨R, 0, none⟩) cS S ((HS.out.below hW1).mono hW1.size) (by simp; omega)
        have hg1 : Below w.heap.size w w1 := hW1.trans g1
        obtain ⟨v2, w2, r2, o2, g2, -⟩ := o1.push hg1.size x (by rw [List.nil_append]; omega)
        have hg2 : Below w.heap.size w w2 := hg1.trans g2
        obtain ⟨v3, w3, r3, o3, g3, -⟩ := o2.app hg2.size (some ⟨R, S.length, none⟩) (cS - S.length) [] (is_nil _ _ _) (by simp; omega)
        have HB3 : Hid (Below w.heap.size w w3) := hg2.trans g3
        have HO3 := hid (o3.mono hlo)
        have HLN : Hid (((([] ++ S) ++ [x]) ++ ([] : List Int)).length ≤ S.length + 1) := by show _ ≤ _; simp
        clear o1 o2 o3 g1 g2 g3 hW1 hg1 hg2 HS HAL
        rw [List.length_nil] at r3
        go_wp2_with (first | (at_builtin; refine wpList_append_run rfl (.tmp 34) (.tmp 37) 23 rfl _ _ rfl rfl _ _ r1 ?_) | (at_builtin; refine wpList_append_run rfl (.tmp 39) (.tmp 41) 23 rfl _ _ rfl rfl _ _ r2 ?_) | (at_builtin; refine wpList_append_run rfl (.tmp 43) (.tmp 46) 23 rfl _ _ rfl rfl _ _ r3 ?_))
        go_ret
        exact ⟨v3, _, rfl, HLN.out, HO3.out, HB3.out⟩
      · obtain rfl : cS = S.length := by omega
        clear hcc hcS
        have hW1 := boxB w (.cells #[] 3)
        obtain ⟨v1, w1, r1, o1, g1, -⟩ := (AL.lit w).app hW1.size (some ⟨R, 0, none⟩) S.length S ((HS.out.below hW1).mono hW1.size) (by simp; omega)
        have hg1 : Below w.heap.size w w1 := hW1.trans g1
        obtain ⟨v2, w2, r2, o2, g2, -⟩ := o1.push hg1.size x (by rw [List.nil_append]; omega)
        have hg2 : Below w.heap.size w w2 := hg1.trans g2
        obtain ⟨v3, w3, r3, o3, g3, -⟩ := o2.app hg2.size (some ⟨R, 0, none⟩) 0 [] (is_nil _ _ _) (by simp; omega)
        have HB3 : Hid (Below w.heap.size w w3) := hg2.trans g3
        have HO3 := hid (o3.mono hlo)
        have HLN : Hid (((([] ++ S) ++ [x]) ++ ([] : List Int)).length ≤ S.length + 1) := by show _ ≤ _; simp
        clear o1 o2 o3 g1 g2 g3 hW1 hg1 hg2 HS HAL
        rw [List.length_nil] at r3
        go_wp2_with (first | (at_builtin; refine wpList_append_run rfl (.tmp 34) (.tmp 37) 23 rfl _ _ rfl rfl _ _ r1 ?_) | (at_builtin; refine wpList_append_run rfl (.tmp 39) (.tmp 41) 23 rfl _ _ rfl rfl _ _ r2 ?_) | (at_builtin; refine wpList_append_run rfl (.tmp 43) (.tmp 46) 23 rfl _ _ rfl rfl _ _ r3 ?_))
        go_ret
        exact ⟨v3, _, rfl, HLN.out, HO3.out, HB3.out⟩
theorem put_anyJ (lo : Nat) (v : Value) (S : List Int) (x : Int) (w : World) (hn : S.length ≤ 900) (hlo : lo ≤ w.heap.size) (h : AL lo v S w) : Calls Try.prog 51 #[v, .int .i64 x] w (PutOut lo (S.length + 1) w) := by
  rcases h.form with ⟨rfl, rfl⟩ | ⟨R, cS, rfl, hcS, hR⟩
  · exact put_nilJ x lo w hlo
  · exact put_rowJ R cS lo S x w hn hlo h hcS
end Go.Proofs.Ytipeillhafcliaa
