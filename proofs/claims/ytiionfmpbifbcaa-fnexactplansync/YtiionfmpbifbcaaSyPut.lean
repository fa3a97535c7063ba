/- The model's l1Put: a number put to its place, once. -/
import Derived.Test.YtiionfmpbifbcaaSyA
import Derived.Test.YtiionfmpbifbcaaASort
namespace Go.Proofs.Ytiionfmpbifbcaa
set_option maxRecDepth 100000
open Go Go.ChangeShapes Go.WideShapes Go.ChangeAt Go.RowKit
theorem is_of {lo R c : Nat} {S : List Int} {w : World} (h : AL lo (.slice (some ⟨R, 0, none⟩) S.length c) S w) : Is w.heap.size (some ⟨R, 0, none⟩) S w := by
  obtain ⟨b, c', e, ho, _⟩ := h.own
  injection e with e _ _
  subst e
  exact ho.is
set_option maxHeartbeats 1000000 in
theorem put_nil (x : Int) (w : World) :
    Calls Try.prog 66 #[.slice none 0 0, .int .i64 x] w fun e w' => ∃ v, e = .returned v ∧ AL w.heap.size v [x] w' ∧ Below w.heap.size w w' := by
  have hW1 := boxB w (.cells #[] 3)
  obtain ⟨v1, w1, r1, o1, g1, -⟩ := (AL.lit w).app hW1.size none 0 [] (is_nil _ _ _) (by simp)
  have hg1 : Below w.heap.size w w1 := hW1.trans g1
  obtain ⟨v2, w2, r2, o2, g2, -⟩ := o1.push hg1.size x (by simp)
  have hg2 : Below w.heap.size w w2 := hg1.trans g2
  obtain ⟨v3, w3, r3, o3, g3, -⟩ := o2.app hg2.size none 0 [] (is_nil _ _ _) (by simp)
  have HB3 : Hid (Below w.heap.size w w3) := hg2.trans g3
  have HO3 : Hid (AL w.heap.size v3 [x] w3) := o3
  clear o1 o2 o3 g1 g2 g3 hW1 hg1 hg2
  go_enter Try.func66, Try.ntmps66
  go_wp2_with fail
  go_loop [5] (fun i => i = .int .i64 0) (fun _ => 0)
  case atStart => rfl
  case round =>
    obtain rfl := hrel
    go_wp2_with (first | (at_builtin; refine wpList_append_run rfl (.tmp 34) (.tmp 37) 34 rfl _ _ rfl rfl _ _ r1 ?_) | (at_builtin; refine wpList_append_run rfl (.tmp 39) (.tmp 41) 34 rfl _ _ rfl rfl _ _ r2 ?_) | (at_builtin; refine wpList_append_run rfl (.tmp 43) (.tmp 46) 34 rfl _ _ rfl rfl _ _ r3 ?_))
    go_ret
    exact ⟨v3, rfl, HO3.out, HB3.out⟩
set_option maxHeartbeats 2000000 in
theorem put_row (R cS : Nat) (S : List Int) (x : Int) (w : World) (hn : S.length ≤ 9000) (hS : Is w.heap.size (some ⟨R, 0, none⟩) S w) (hcS : S.length ≤ cS) (hx : x ∉ S) :
    Calls Try.prog 66 #[.slice (some ⟨R, 0, none⟩) S.length cS, .int .i64 x] w fun e w' => ∃ v, e = .returned v ∧ AL w.heap.size v (insN x S) w' ∧ Below w.heap.size w w' := by
  have HS := hid hS
  have HL := hid (leadN_at x S)
  have HLE := hid (leadN_le x S)
  have HX : Hid (∀ j (h : j < S.length), S[j] ≠ x) := fun j h e => hx (e ▸ List.getElem_mem h)
  clear hx hS
  go_enter Try.func66, Try.ntmps66
  go_wp2_with fail
  go_loop [5] (fun i => ∃ j : Nat, j ≤ leadN x S ∧ i = .int .i64 j) (fun i => S.length - (intOf i).toNat)
  case atStart => exact ⟨0, Nat.zero_le _, rfl⟩
  case round =>
    obtain ⟨j, hj, rfl⟩ := hrel
    obtain ⟨h1, h2, h3⟩ := HL.out j hj
    have hle := HLE.out
    by_cases hjl : j < S.length
    · obtain ⟨R', off', e, hb', hc'⟩ := HS.out.cell (by omega)
      injection e with e; injection e with e1 e2 _
      subst e1; subst e2
      have y0 := hc' j hjl
      have hne := HX.out j hjl
      clear hc'
      by_cases hx : S[j] < x
      · have hd : decide (S[j] < x) = true := decide_eq_true hx
        have hj2 : j + 1 ≤ leadN x S := by
          rcases Nat.lt_or_ge j (leadN x S) with h | h
          · exact h
          · have := h3 (by omega) hjl; omega
        clear h1 h2 h3 hx hne
        generalize S[j] = y at *
        rw [Nat.zero_add] at y0
        go_wp2_with fail
        go_round
        · exact ⟨j + 1, hj2, by go_num⟩
        · simp [intOf]; omega
      · have hd : decide (S[j] < x) = false := decide_eq_false hx
        have hd2 : (S[j] == x) = false := beq_eq_false_iff_ne.2 hne
        have hj2 : j = leadN x S := by
          rcases Nat.lt_or_ge j (leadN x S) with h | h
          · obtain ⟨_, h5⟩ := h2 h; omega
          · omega
        clear h1 h2 h3 hx hne
        generalize S[j] = y at *
        rw [Nat.zero_add] at y0
        have HI : Hid (insN x S = S.take j ++ x :: S.drop j) := by show _ = _; rw [hj2]; exact insN_lead x S
        clear hj2 hj hle HL HLE
        have hT : (S.take j).length = j := by rw [List.length_take]; omega
        have hD : (S.drop j).length = S.length - j := by rw [List.length_drop]
        have hW1 := boxB w (.cells #[] 3)
        obtain ⟨v1, w1, r1, o1, g1, -⟩ := (AL.lit w).app hW1.size (some ⟨R, 0, none⟩) cS (S.take j) (((is_take HS.out j).below hW1).mono hW1.size) (by rw [List.length_take]; simp; omega)
        rw [hT] at r1
        have hg1 : Below w.heap.size w w1 := hW1.trans g1
        obtain ⟨v2, w2, r2, o2, g2, -⟩ := o1.push hg1.size x (by rw [List.nil_append, List.length_take]; omega)
        have hg2 : Below w.heap.size w w2 := hg1.trans g2
        obtain ⟨v3, w3, r3, o3, g3, -⟩ := o2.app hg2.size (some ⟨R, j, none⟩) (cS - j) (S.drop j) (((by have := is_drop HS.out j; rwa [Nat.zero_add] at this : Is w.heap.size (some ⟨R, j, none⟩) (S.drop j) w).below hg2).mono hg2.size) (by simp; omega)
        rw [hD] at r3
        have HB3 : Hid (Below w.heap.size w w3) := hg2.trans g3
        have HO3 : Hid (AL w.heap.size v3 (insN x S) w3) := by
          show AL w.heap.size v3 (insN x S) w3
          rw [HI.out]
          rwa [List.nil_append, List.append_assoc] at o3
        clear o1 o2 o3 g1 g2 g3 hW1 hg1 hg2 HI HS hT hD HX
        go_wp2_with (first | (at_builtin; refine wpList_append_run rfl (.tmp 34) (.tmp 37) 34 rfl _ _ rfl rfl _ _ r1 ?_) | (at_builtin; refine wpList_append_run rfl (.tmp 39) (.tmp 41) 34 rfl _ _ rfl rfl _ _ r2 ?_) | (at_builtin; refine wpList_append_run rfl (.tmp 43) (.tmp 46) 34 rfl _ _ rfl rfl _ _ r3 ?_))
        go_ret
        exact ⟨v3, rfl, HO3.out, HB3.out⟩
    · have hj2 : j = leadN x S := by omega
      obtain rfl : j = S.length := by omega
      have HI : Hid (insN x S = S ++ [x]) := by
        show _ = _
        rw [insN_lead x S, ← hj2, List.take_length, List.drop_length]
      clear hj2 hj hle HL HLE h1 h2 h3 HX
      rcases Nat.lt_or_ge S.length cS with hcc | hcc
      · have hc0 : cS - S.length ≠ 0 := by omega
        have hc1 : cS ≠ S.length := by omega
        have hW1 := boxB w (.cells #[] 3)
        obtain ⟨v1, w1, r1, o1, g1, -⟩ := (AL.lit w).app hW1.size (some ⟨R, 0, none⟩) cS S ((HS.out.below hW1).mono hW1.size) (by simp; omega)
        have hg1 : Below w.heap.size w w1 := hW1.trans g1
        obtain ⟨v2, w2, r2, o2, g2, -⟩ := o1.push hg1.size x (by rw [List.nil_append]; omega)
        have hg2 : Below w.heap.size w w2 := hg1.trans g2
        obtain ⟨v3, w3, r3, o3, g3, -⟩ := o2.app hg2.size (some ⟨R, S.length, none⟩) (cS - S.length) [] (is_nil _ _ _) (by simp; omega)
        have HB3 : Hid (Below w.heap.size w w3) := hg2.trans g3
        have HO3 : Hid (AL w.heap.size v3 (insN x S) w3) := by
          show AL w.heap.size v3 (insN x S) w3
          rw [HI.out]
          rwa [List.nil_append, List.append_nil] at o3
        clear o1 o2 o3 g1 g2 g3 hW1 hg1 hg2 HI HS
        rw [List.length_nil] at r3
        go_wp2_with (first | (at_builtin; refine wpList_append_run rfl (.tmp 34) (.tmp 37) 34 rfl _ _ rfl rfl _ _ r1 ?_) | (at_builtin; refine wpList_append_run rfl (.tmp 39) (.tmp 41) 34 rfl _ _ rfl rfl _ _ r2 ?_) | (at_builtin; refine wpList_append_run rfl (.tmp 43) (.tmp 46) 34 rfl _ _ rfl rfl _ _ r3 ?_))
        go_ret
        exact ⟨v3, rfl, HO3.out, HB3.out⟩
      · obtain rfl : cS = S.length := by omega
        clear hcc hcS
        have hW1 := boxB w (.cells #[] 3)
        obtain ⟨v1, w1, r1, o1, g1, -⟩ := (AL.lit w).app hW1.size (some ⟨R, 0, none⟩) S.length S ((HS.out.below hW1).mono hW1.size) (by simp; omega)
        have hg1 : Below w.heap.size w w1 := hW1.trans g1
        obtain ⟨v2, w2, r2, o2, g2, -⟩ := o1.push hg1.size x (by rw [List.nil_append]; omega)
        have hg2 : Below w.heap.size w w2 := hg1.trans g2
        obtain ⟨v3, w3, r3, o3, g3, -⟩ := o2.app hg2.size (some ⟨R, 0, none⟩) 0 [] (is_nil _ _ _) (by simp; omega)
        have HB3 : Hid (Below w.heap.size w w3) := hg2.trans g3
        have HO3 : Hid (AL w.heap.size v3 (insN x S) w3) := by
          show AL w.heap.size v3 (insN x S) w3
          rw [HI.out]
          rwa [List.nil_append, List.append_nil] at o3
        clear o1 o2 o3 g1 g2 g3 hW1 hg1 hg2 HI HS
        rw [List.length_nil] at r3
        go_wp2_with (first | (at_builtin; refine wpList_append_run rfl (.tmp 34) (.tmp 37) 34 rfl _ _ rfl rfl _ _ r1 ?_) | (at_builtin; refine wpList_append_run rfl (.tmp 39) (.tmp 41) 34 rfl _ _ rfl rfl _ _ r2 ?_) | (at_builtin; refine wpList_append_run rfl (.tmp 43) (.tmp 46) 34 rfl _ _ rfl rfl _ _ r3 ?_))
        go_ret
        exact ⟨v3, rfl, HO3.out, HB3.out⟩
/-- a number that is not there yet, put in order -/
theorem put_any (lo : Nat) (v : Value) (S : List Int) (x : Int) (w : World) (hn : S.length ≤ 9000) (h : AL lo v S w) (hx : x ∉ S) :
    Calls Try.prog 66 #[v, .int .i64 x] w fun e w' => ∃ v, e = .returned v ∧ AL w.heap.size v (insN x S) w' ∧ Below w.heap.size w w' := by
  rcases h.form with ⟨rfl, rfl⟩ | ⟨R, cS, rfl, hcS, hR⟩
  · exact put_nil x w
  · exact put_row R cS S x w hn (is_of h) hcS hx
/-- a number put in, once -/
def putI (x : Int) (S : List Int) : List Int := if x ∈ S then S else insN x S
theorem putI_len (x : Int) (S : List Int) : (putI x S).length ≤ S.length + 1 := by
  unfold putI
  by_cases h : x ∈ S
  · rw [if_pos h]; omega
  · rw [if_neg h, (insN_perm x S).length_eq]; simp
theorem putI_sorted (x : Int) {S : List Int} (h : S.Pairwise (· ≤ ·)) : (putI x S).Pairwise (· ≤ ·) := by
  unfold putI
  by_cases hx : x ∈ S
  · rw [if_pos hx]; exact h
  · rw [if_neg hx]; exact insN_sorted x S h
theorem low_mem (x : Int) : ∀ S : List Int, S.Pairwise (· ≤ ·) → x ∈ S → ∃ k, ∃ h : k < S.length, S[k] = x ∧ ∀ i (hi : i < S.length), i < k → S[i] < x
  | [], _, h => by cases h
  | y :: r, hs, h => by
    have hs' := List.pairwise_cons.1 hs
    by_cases hy : y < x
    · have hr : x ∈ r := by
        rcases List.mem_cons.1 h with e | e
        · omega
        · exact e
      obtain ⟨k, hk, h1, h2⟩ := low_mem x r hs'.2 hr
      refine ⟨k + 1, by simpa using hk, by simpa using h1, fun i hi hik => ?_⟩
      cases i with
      | zero => exact hy
      | succ i => exact h2 i (by simpa using hi) (by omega)
    · have hyx : y = x := by
        rcases List.mem_cons.1 h with e2 | e2
        · exact e2.symm
        · have := hs'.1 x e2; omega
      exact ⟨0, by simp, hyx, fun i hi h0 => absurd h0 (Nat.not_lt_zero _)⟩
set_option maxHeartbeats 2000000 in
theorem put_same (R cS : Nat) (S : List Int) (x : Int) (w : World) (hn : S.length ≤ 9000) (hS : Is w.heap.size (some ⟨R, 0, none⟩) S w) (k : Nat) (hk : k < S.length) (hx : S[k] = x) (hl : ∀ i (hi : i < S.length), i < k → S[i] < x) :
    Calls Try.prog 66 #[.slice (some ⟨R, 0, none⟩) S.length cS, .int .i64 x] w fun e w' => e = .returned (.slice (some ⟨R, 0, none⟩) S.length cS) ∧ w' = w := by
  have HS := hid hS
  have HL := hid hl
  have HX : Hid (∀ j (h : j < S.length), j = k → S[j] = x) := fun j h e => by subst e; exact hx
  clear hx hS hl
  go_enter Try.func66, Try.ntmps66
  go_wp2_with fail
  go_loop [5] (fun i => ∃ j : Nat, j ≤ k ∧ i = .int .i64 j) (fun i => S.length - (intOf i).toNat)
  case atStart => exact ⟨0, Nat.zero_le _, rfl⟩
  case round =>
    obtain ⟨j, hj, rfl⟩ := hrel
    have hjl : j < S.length := by omega
    obtain ⟨R', off', e, hb', hc'⟩ := HS.out.cell (by omega)
    injection e with e; injection e with e1 e2 _
    subst e1; subst e2
    have y0 := hc' j hjl
    rw [Nat.zero_add] at y0
    clear hc'
    by_cases hjk : j < k
    · have hlt := HL.out j hjl hjk
      have hd : decide (S[j] < x) = true := decide_eq_true hlt
      clear hlt
      generalize S[j] = y at *
      go_wp2_with fail
      go_round
      · exact ⟨j + 1, by omega, by go_num⟩
      · simp [intOf]; omega
    · have he := HX.out j hjl (by omega)
      rw [he] at y0
      have hd4 : decide (x < x) = false := decide_eq_false (by omega)
      have hd5 : (x == x) = true := beq_iff_eq.2 rfl
      clear he hjk HL HX HS
      go_wp2_with fail
      go_ret
      exact ⟨rfl, rfl⟩
theorem putI_any (lo : Nat) (v : Value) (S : List Int) (x : Int) (w : World) (hn : S.length ≤ 9000) (hlo : lo ≤ w.heap.size) (h : AL lo v S w) (hs : S.Pairwise (· ≤ ·)) :
    Calls Try.prog 66 #[v, .int .i64 x] w fun e w' => ∃ v', e = .returned v' ∧ AL lo v' (putI x S) w' ∧ Below w.heap.size w w' := by
  by_cases hx : x ∈ S
  · have e : putI x S = S := by unfold putI; rw [if_pos hx]
    rw [e]
    have h0 := h
    rcases h.form with ⟨rfl, rfl⟩ | ⟨R, cS, rfl, hcS, hR⟩
    · cases hx
    · obtain ⟨k, hk, h5, h6⟩ := low_mem x S hs hx
      exact (put_same R cS S x w hn (is_of h) k hk h5 h6).mono fun _ _ ⟨h1, h2⟩ => ⟨_, h1, by rw [h2]; exact h0, by rw [h2]; exact Below.refl _ _⟩
  · have e : putI x S = insN x S := by unfold putI; rw [if_neg hx]
    rw [e]
    exact (put_any lo v S x w hn h hx).mono fun _ _ ⟨v', h1, h2, h3⟩ => ⟨v', h1, h2.mono hlo, h3⟩
end Go.Proofs.Ytiionfmpbifbcaa
