/- Ways along tracks: the program's complex numbers and the model's sums. -/
import Derived.Test.YtpjmblhfahbopaaAGood
import Derived.Test.YtpjmblhfahbopaaARound
namespace Go.Proofs.Ytpjmblhfahbopaa
set_option maxRecDepth 100000
open Go Go.ChangeShapes Go.WideShapes Go.ChangeAt Go.RowKit
/-- steps up, and down, along tracks -/
def ups : Int → List Int → Nat
  | _, [] => 0
  | s, t :: r => upN s t + ups t r
def dns : Int → List Int → Nat
  | _, [] => 0
  | s, t :: r => upN t s + dns t r
/-- where the arm is behind them -/
def armAt : Int → List Int → Int
  | s, [] => s
  | _, t :: r => armAt t r
theorem ups_snoc (t : Int) : ∀ (l : List Int) (s : Int), ups s (l ++ [t]) = ups s l + upN (armAt s l) t
  | [], s => by simp [ups, armAt]
  | x :: r, s => by simp only [List.cons_append, ups, armAt]; rw [ups_snoc t r x]; omega
theorem dns_snoc (t : Int) : ∀ (l : List Int) (s : Int), dns s (l ++ [t]) = dns s l + upN t (armAt s l)
  | [], s => by simp [dns, armAt]
  | x :: r, s => by simp only [List.cons_append, dns, armAt]; rw [dns_snoc t r x]; omega
theorem arm_snoc (t : Int) : ∀ (l : List Int) (s : Int), armAt s (l ++ [t]) = t
  | [], s => rfl
  | x :: r, s => by simp only [List.cons_append, armAt]; exact arm_snoc t r x
theorem upN_le (a b : Int) (ha : 0 ≤ a ∧ a ≤ 200) (hb : 0 ≤ b ∧ b ≤ 200) : upN a b ≤ 200 := by unfold upN; omega
theorem ups_le : ∀ (l : List Int) (s : Int), 0 ≤ s ∧ s ≤ 200 → (∀ x ∈ l, 0 ≤ x ∧ x ≤ 200) → ups s l ≤ 200 * l.length
  | [], s, _, _ => by simp [ups]
  | x :: r, s, hs, h => by
    have h1 := upN_le s x hs (h x (List.mem_cons_self))
    have h2 := ups_le r x (h x (List.mem_cons_self)) (fun y hy => h y (List.mem_cons_of_mem _ hy))
    simp only [ups, List.length_cons]; omega
theorem dns_le : ∀ (l : List Int) (s : Int), 0 ≤ s ∧ s ≤ 200 → (∀ x ∈ l, 0 ≤ x ∧ x ≤ 200) → dns s l ≤ 200 * l.length
  | [], s, _, _ => by simp [dns]
  | x :: r, s, hs, h => by
    have h1 := upN_le x s (h x (List.mem_cons_self)) hs
    have h2 := dns_le r x (h x (List.mem_cons_self)) (fun y hy => h y (List.mem_cons_of_mem _ hy))
    simp only [dns, List.length_cons]; omega
theorem arm_in : ∀ (l : List Int) (s : Int), 0 ≤ s ∧ s ≤ 200 → (∀ x ∈ l, 0 ≤ x ∧ x ≤ 200) → 0 ≤ armAt s l ∧ armAt s l ≤ 200
  | [], _, hs, _ => hs
  | x :: r, _, _, h => arm_in r x (h x (List.mem_cons_self)) (fun y hy => h y (List.mem_cons_of_mem _ hy))
/-- all steps together -/
def trav (s : Int) (l : List Int) : Nat := ups s l + dns s l
theorem trav_le (l : List Int) (s : Int) (hs : 0 ≤ s ∧ s ≤ 200) (h : ∀ x ∈ l, 0 ≤ x ∧ x ≤ 200) : trav s l ≤ 400 * l.length := by
  have := ups_le l s hs h; have := dns_le l s hs h; unfold trav; omega
theorem sum_run (A B C D : Nat) (h1 : A + C < 2 ^ 53) (h2 : B + D < 2 ^ 53) (w : World) : (binOp .add 42 (.complex .f64 (fl A) (fl B)) (.complex .f64 (fl C) (fl D))).run Try.prog w = .ok (.complex .f64 (fl (A + C)) (fl (B + D))) w := by
  refine run_complex_sum w .add (Or.inl rfl) _ _ _ _ _ _ _ _ ?_
  unfold cSumBits
  rw [sum_fl A C h1, sum_fl B D h2]; rfl
theorem mem_take_in {l : List Int} {k : Nat} (h : ∀ x ∈ l, (0 : Int) ≤ x ∧ x ≤ 200) : ∀ x ∈ l.take k, (0 : Int) ≤ x ∧ x ≤ 200 := fun x hx => h x (List.mem_of_mem_take hx)
set_option maxHeartbeats 2000000 in
theorem along_any (s : Int) (a : Option Addr) (cap : Nat) (l : List Int) (w : World) (hs : 0 ≤ s ∧ s ≤ 200) (hl : ∀ x ∈ l, (0 : Int) ≤ x ∧ x ≤ 200) (hn : l.length ≤ 9) (hZ : Is w.heap.size a l w) :
    Calls Try.prog 32 #[.int .i64 s, .slice a l.length cap] w fun e w' => e = .returned (.complex .f64 (fl (ups s l)) (fl (dns s l))) ∧ w' = w := by
  have HZ : Hid (Is w.heap.size a l w) := hZ
  have HL : Hid (∀ x ∈ l, (0 : Int) ≤ x ∧ x ≤ 200) := hl
  have HS : Hid (0 ≤ s ∧ s ≤ 200) := hs
  clear hZ hl hs
  go_enter Try.func32, Try.ntmps32
  go_wp2
  go_loopw [5, 6, 12] (fun g m i wr => ∃ k : Nat, k ≤ l.length ∧ i = .int .i64 k ∧ g = .complex .f64 (fl (ups s (l.take k))) (fl (dns s (l.take k))) ∧ m = .int .i64 (armAt s (l.take k)) ∧ wr = w) (fun _ _ i _ => l.length - (intOf i).toNat)
  case atStart => exact ⟨0, Nat.zero_le _, rfl, by simp [ups, dns, fl_zero], by simp [armAt], rfl⟩
  case round =>
    obtain ⟨k, hk, rfl, rfl, rfl, hwr⟩ := hrel
    subst hwr
    by_cases hlt : k < l.length
    · obtain ⟨b, off, rfl, hb, hc⟩ := HZ.out.cell (by omega)
      have x0 := hc k hlt
      clear hc
      have hx := HL.out l[k] (List.getElem_mem hlt)
      have ht : ∀ x ∈ l.take k, (0 : Int) ≤ x ∧ x ≤ 200 := mem_take_in HL.out
      have ha := arm_in (l.take k) s HS.out ht
      have u1 := ups_le (l.take k) s HS.out ht
      have u2 := dns_le (l.take k) s HS.out ht
      rw [List.length_take] at u1 u2
      have u3 := upN_le _ _ ha hx
      have u4 := upN_le _ _ hx ha
      have HU : Hid (ups s (l.take (k + 1)) = ups s (l.take k) + upN (armAt s (l.take k)) l[k]) := by
        show _ = _
        rw [take_snoc l k hlt, ups_snoc]
      have HD : Hid (dns s (l.take (k + 1)) = dns s (l.take k) + upN l[k] (armAt s (l.take k))) := by
        show _ = _
        rw [take_snoc l k hlt, dns_snoc]
      have HA : Hid (armAt s (l.take (k + 1)) = l[k]) := by
        show _ = _
        rw [take_snoc l k hlt, arm_snoc]
      have hsum := sum_run (ups s (l.take k)) (dns s (l.take k)) (upN (armAt s (l.take k)) l[k]) (upN l[k] (armAt s (l.take k))) (by omega) (by omega)
      have HBt := hid (between_any (armAt s (l.take k)) l[k] wr ha hx)
      clear u1 u2 u3 u4 ht ha hx
      generalize l[k] = x at *
      generalize armAt s (l.take k) = m at *
      go_wp2_with fail
      refine HBt.out.mono ?_
      rintro e w2 ⟨rfl, hw2⟩
      rw [hw2]
      clear hw2
      generalize fl (upN m x) = f1 at *
      generalize fl (upN x m) = f2 at *
      go_wp2
      go_roundw
      case rel => exact ⟨k + 1, by omega, by go_num, by rw [HU.out, HD.out], by rw [HA.out], by trivial⟩
      case measure => simp [intOf]; omega
    · obtain rfl : k = l.length := by omega
      have e : l.take l.length = l := List.take_length
      rw [e]
      go_wp2
      go_ret
      exact ⟨rfl, rfl⟩
set_option maxHeartbeats 400000 in
theorem l8Way_any (a b : Int) (w : World) (ha : 0 ≤ a ∧ a ≤ 200) (hb : 0 ≤ b ∧ b ≤ 200) : Calls Try.prog 41 #[.int .i64 a, .int .i64 b] w fun e w' => e = .returned (.int .i64 ((upN a b + upN b a : Nat) : Int)) ∧ w' = w := by
  by_cases h : a < b
  · have e : ((upN a b + upN b a : Nat) : Int) = b - a := by unfold upN; omega
    have d : decide (a < b) = true := decide_eq_true h
    rw [e]
    go_enter Try.func41, Try.ntmps41
    go_wp2
    go_ret
    exact ⟨rfl, rfl⟩
  · have e : ((upN a b + upN b a : Nat) : Int) = a - b := by unfold upN; omega
    have d : decide (a < b) = false := decide_eq_false h
    rw [e]
    go_enter Try.func41, Try.ntmps41
    go_wp2
    go_ret
    exact ⟨rfl, rfl⟩
set_option maxHeartbeats 2000000 in
theorem l8Travel_any (s : Int) (a : Option Addr) (cap : Nat) (l : List Int) (w : World) (hs : 0 ≤ s ∧ s ≤ 200) (hl : ∀ x ∈ l, (0 : Int) ≤ x ∧ x ≤ 200) (hn : l.length ≤ 9) (hZ : Is w.heap.size a l w) :
    Calls Try.prog 35 #[.int .i64 s, .slice a l.length cap] w fun e w' => e = .returned (.int .i64 (trav s l : Int)) ∧ w' = w := by
  have HZ : Hid (Is w.heap.size a l w) := hZ
  have HL : Hid (∀ x ∈ l, (0 : Int) ≤ x ∧ x ≤ 200) := hl
  have HS : Hid (0 ≤ s ∧ s ≤ 200) := hs
  clear hZ hl hs
  go_enter Try.func35, Try.ntmps35
  go_wp2
  go_loopw [0, 5, 10] (fun m g i wr => ∃ k : Nat, k ≤ l.length ∧ i = .int .i64 k ∧ g = .int .i64 (trav s (l.take k) : Int) ∧ m = .int .i64 (armAt s (l.take k)) ∧ wr = w) (fun _ _ i _ => l.length - (intOf i).toNat)
  case atStart => exact ⟨0, Nat.zero_le _, rfl, by simp [trav, ups, dns], by simp [armAt], rfl⟩
  case round =>
    obtain ⟨k, hk, rfl, rfl, rfl, hwr⟩ := hrel
    subst hwr
    by_cases hlt : k < l.length
    · obtain ⟨b, off, rfl, hb, hc⟩ := HZ.out.cell (by omega)
      have x0 := hc k hlt
      clear hc
      have hx := HL.out l[k] (List.getElem_mem hlt)
      have ht : ∀ x ∈ l.take k, (0 : Int) ≤ x ∧ x ≤ 200 := mem_take_in HL.out
      have ha := arm_in (l.take k) s HS.out ht
      have u1 := trav_le (l.take k) s HS.out ht
      rw [List.length_take] at u1
      have u3 := upN_le _ _ ha hx
      have u4 := upN_le _ _ hx ha
      have HU : Hid (trav s (l.take (k + 1)) = trav s (l.take k) + (upN (armAt s (l.take k)) l[k] + upN l[k] (armAt s (l.take k)))) := by
        show _ = _
        unfold trav
        rw [take_snoc l k hlt, ups_snoc, dns_snoc]; omega
      have HA : Hid (armAt s (l.take (k + 1)) = l[k]) := by
        show _ = _
        rw [take_snoc l k hlt, arm_snoc]
      have HBt := hid (l8Way_any (armAt s (l.take k)) l[k] wr ha hx)
      have u5 : upN (armAt s (l.take k)) l[k] + upN l[k] (armAt s (l.take k)) ≤ 400 := by omega
      clear u3 u4 ht ha hx
      generalize l[k] = x at *
      generalize armAt s (l.take k) = m at *
      generalize upN m x + upN x m = st at *
      have u6 : trav s (l.take k) ≤ 4000 := by omega
      generalize trav s (l.take k) = tv at *
      clear u1
      go_wp2_with fail
      refine HBt.out.mono ?_
      rintro e w2 ⟨rfl, hw2⟩
      rw [hw2]
      clear hw2
      go_wp2
      go_roundw
      case rel => exact ⟨k + 1, by omega, by go_num, by rw [HU.out]; go_num, by rw [HA.out], by trivial⟩
      case measure => simp [intOf]; omega
    · obtain rfl : k = l.length := by omega
      have e : l.take l.length = l := List.take_length
      rw [e]
      go_wp2
      go_ret
      exact ⟨rfl, rfl⟩
/-- what TravelOf answers -/
def travN (s : Int) (l : List Int) : Int := if goodT s l then (trav s l : Int) else 0
theorem goodT_parts {s : Int} {l : List Int} (h : goodT s l = true) : (0 ≤ s ∧ s ≤ 200) ∧ goodA l = true := by
  unfold goodT at h; rw [Bool.and_eq_true] at h; exact ⟨trkB_iff.1 h.1, h.2⟩
theorem travN_no {s : Int} {l : List Int} (h : goodT s l = false) : travN s l = 0 := by unfold travN; rw [h]; rfl
theorem travN_yes {s : Int} {l : List Int} (h : goodT s l = true) : travN s l = ((ups s l + dns s l : Nat) : Int) := by unfold travN; rw [h]; rfl
/-- the head of every function: start and asks are looked at -/
theorem goodT_cases (s : Int) (l : List Int) : (trkB s = false ∧ goodT s l = false) ∨ (trkB s = true ∧ goodA l = false ∧ goodT s l = false) ∨ (trkB s = true ∧ goodA l = true ∧ goodT s l = true) := by
  unfold goodT
  cases trkB s <;> cases goodA l <;> simp
set_option maxHeartbeats 1000000 in
theorem stravel_any (s : Int) (a : Option Addr) (cap : Nat) (l : List Int) (w : World) (hn : l.length ≤ 1048576) (hZ : Is w.heap.size a l w) :
    Calls Try.prog 11 #[.int .i64 s, .slice a l.length cap] w fun e w' => e = .returned (.tuple #[.int .i64 (travN s l), .bool (goodT s l)]) ∧ w' = w := by
  have HG := hid (l8Good_any s a cap l w hn hZ)
  cases hg : goodT s l
  · rw [travN_no hg]
    rw [hg] at HG
    go_enter Try.func11, Try.ntmps11
    go_wp2_with fail
    refine HG.out.mono ?_
    rintro e w2 ⟨rfl, hw2⟩
    rw [hw2]
    clear hw2
    go_wp2
    go_ret2
    exact ⟨rfl, rfl⟩
  · have hp := goodT_parts hg
    have HT := hid (l8Travel_any s a cap l w hp.1 (goodA_mem hp.2) (by have := goodA_len hp.2; omega) hZ)
    rw [hg] at HG
    rw [travN_yes hg]
    have e : ups s l + dns s l = trav s l := rfl
    rw [e]
    clear hg hp e
    generalize trav s l = tv at *
    go_enter Try.func11, Try.ntmps11
    go_wp2_with fail
    refine HG.out.mono ?_
    rintro e w2 ⟨rfl, hw2⟩
    rw [hw2]
    clear hw2
    go_wp2_with fail
    refine HT.out.mono ?_
    rintro e w2 ⟨rfl, hw2⟩
    rw [hw2]
    clear hw2
    go_wp2
    go_ret2
    exact ⟨rfl, rfl⟩
set_option maxHeartbeats 1000000 in
theorem itravel_any (s : Int) (a : Option Addr) (cap : Nat) (l : List Int) (w : World) (hn : l.length ≤ 1048576) (hZ : Is w.heap.size a l w) :
    Calls Try.prog 10 #[.int .i64 s, .slice a l.length cap] w fun e w' => e = .returned (.tuple #[.int .i64 (travN s l), .bool (goodT s l)]) ∧ w' = w := by
  have HT := hid (isTrack_any s w)
  have HG := hid (igoodA_any a cap l w hn hZ)
  rcases goodT_cases s l with ⟨ht, hg⟩ | ⟨ht, ha, hg⟩ | ⟨ht, ha, hg⟩
  · rw [travN_no hg, hg]
    rw [ht] at HT
    go_enter Try.func10, Try.ntmps10
    go_wp2_with fail
    refine HT.out.mono ?_
    rintro e w2 ⟨rfl, hw2⟩
    rw [hw2]
    clear hw2
    go_wp2
    go_ret2
    exact ⟨rfl, rfl⟩
  · rw [travN_no hg, hg]
    rw [ht] at HT
    rw [ha] at HG
    go_enter Try.func10, Try.ntmps10
    go_wp2_with fail
    refine HT.out.mono ?_
    rintro e w2 ⟨rfl, hw2⟩
    rw [hw2]
    clear hw2
    go_wp2_with fail
    refine HG.out.mono ?_
    rintro e w2 ⟨rfl, hw2⟩
    rw [hw2]
    clear hw2
    go_wp2
    go_ret2
    exact ⟨rfl, rfl⟩
  · have h9 := goodA_len ha
    have hT := trkB_iff.1 ht
    have u1 := ups_le l s hT (goodA_mem ha)
    have u2 := dns_le l s hT (goodA_mem ha)
    have HA := hid (along_any s a cap l w hT (goodA_mem ha) (by omega) hZ)
    have HS := hid (steps_any (ups s l) (dns s l) w (by omega) (by omega))
    rw [travN_yes hg, hg]
    rw [ht] at HT
    rw [ha] at HG
    clear hg hT u1 u2 ht ha h9
    generalize ups s l = U at *
    generalize dns s l = D at *
    generalize fl U = fU at *
    generalize fl D = fD at *
    go_enter Try.func10, Try.ntmps10
    go_wp2_with fail
    refine HT.out.mono ?_
    rintro e w2 ⟨rfl, hw2⟩
    rw [hw2]
    clear hw2
    go_wp2_with fail
    refine HG.out.mono ?_
    rintro e w2 ⟨rfl, hw2⟩
    rw [hw2]
    clear hw2
    go_wp2_with fail
    refine HA.out.mono ?_
    rintro e w2 ⟨rfl, hw2⟩
    rw [hw2]
    clear hw2
    go_wp2_with fail
    refine HS.out.mono ?_
    rintro e w2 ⟨rfl, hw2⟩
    rw [hw2]
    clear hw2
    go_wp2
    go_ret2
    exact ⟨rfl, rfl⟩
end Go.Proofs.Ytpjmblhfahbopaa
