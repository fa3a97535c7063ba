/- slices.Repeat of one number, at most five times. -/
import Derived.Test.YtikmkkklgdkpaaaFcM
import Derived.Test.YtikmkkklgdkpaaaAApp
import Derived.Deep.RegionHeldLaw
namespace Go.Proofs.Ytikmkkklgdkpaaa
set_option maxRecDepth 100000
open Go Go.ChangeShapes Go.WideShapes Go.ChangeAt Go.RowKit
theorem five_of {n : Nat} (h1 : 1 ≤ n) (h5 : n ≤ 5) : n = 1 ∨ n = 2 ∨ n = 3 ∨ n = 4 ∨ n = 5 := by omega
set_option maxHeartbeats 4000000 in
theorem mul64_one (n : Nat) (w : World) (h1 : 1 ≤ n) (h5 : n ≤ 5) : Calls Try.prog 87 #[.int .u64 1, .int .u64 (n : Int)] w fun e w' => e = .returned (.tuple #[.int .u64 0, .int .u64 (n : Int)]) ∧ w' = w := by
  rcases five_of h1 h5 with rfl | rfl | rfl | rfl | rfl
  all_goals
    go_enter Try.func87, Try.ntmps87
    go_wp2
    go_ret2
    exact ⟨rfl, rfl⟩
set_option maxHeartbeats 1000000 in
theorem mul_one (n : Nat) (w : World) (h1 : 1 ≤ n) (h5 : n ≤ 5) : Calls Try.prog 69 #[.int .u64 1, .int .u64 (n : Int)] w fun e w' => e = .returned (.tuple #[.int .u64 0, .int .u64 (n : Int)]) ∧ w' = w := by
  have HC := hid (mul64_one n w h1 h5)
  go_enter Try.func69, Try.ntmps69
  go_wp2_with fail
  refine HC.out.mono ?_
  rintro e w2 ⟨rfl, hw2⟩
  rw [hw2]
  clear hw2
  go_wp2_with fail
  go_ret2
  exact ⟨rfl, rfl⟩
/-- a row of n cells whose first m are -1, the others nought -/
def rp (m n : Nat) : Array Value := (List.replicate m (Value.int .i64 (-1)) ++ List.replicate (n - m) (Value.int .i64 0)).toArray
theorem rp_size {m n : Nat} (h : m ≤ n) : (rp m n).size = n := by simp [rp]; omega
theorem rp_made (n : Nat) : madeCells (Value.int .i64 0).cells n = rp 0 n := by
  apply Array.ext
  · simp [madeCells, rp]
  · intro i h1 h2
    simp [madeCells, rp, Value.cells, Nat.mod_one]
theorem rp_at {m n i : Nat} (h : i < m) : (rp m n)[i]? = some (Value.int .i64 (-1)) := by
  unfold rp
  rw [List.getElem?_toArray, List.getElem?_append_left (by simpa using h), List.getElem?_replicate]
  simp [h]
theorem rp_more {m n c : Nat} (h : m + c ≤ n) : ((rp m n).toList.take m ++ List.replicate c (Value.int .i64 (-1)) ++ (rp m n).toList.drop (m + c)).toArray = rp (m + c) n := by
  unfold rp
  congr 1
  rw [List.toList_toArray, List.take_append_of_le_length (by simp), List.take_of_length_le (by simp), List.drop_append, List.length_replicate, List.drop_eq_nil_of_le (by simp), List.nil_append, List.drop_replicate, List.replicate_append_replicate]
  congr 2
  omega
theorem copy_rp (w : World) (R m n dCap sLen sCap c : Nat) (a : Addr) (hm : m + c ≤ n) (hc : c = Nat.min sLen (n - m)) (hg : w.heap[R]? = some (.cells (rp m n) 3)) (hs : ∀ j, j < c → w.cell? (a.add j) = some (.int .i64 (-1))) (ty : TypeId) :
    (Builtin.copy_ #[22, 22] ty #[.slice (some ⟨R, m, none⟩) (n - m) dCap, .slice (some a) sLen sCap]).run Try.prog w = .ok (.int .i64 (c : Nat)) (w.setRow R (rp (m + c) n)) := by
  have h := run_copy_row (P := Try.prog) w 22 22 ty 3 R m (n - m) dCap a sLen sCap (rp m n) 3 (List.replicate c (.int .i64 (-1))) Try.underlying22 (by kernel_rfl) hg (by rw [List.length_replicate]; exact hc) (fun j v hv => by
    rw [List.getElem?_replicate] at hv
    by_cases hj : j < c
    · rw [if_pos hj] at hv; cases hv; exact hs j hj
    · rw [if_neg hj] at hv; cases hv) (by rw [List.length_replicate, rp_size (by omega)]; omega) (fun v hv => by rw [List.eq_of_mem_replicate hv]; rfl)
  rw [List.length_replicate, rp_more hm] at h
  exact h
theorem wpList_copy_run {P : Program} {ops : Array Oper} {rest : List Oper} {o : Oper} {a : Act} {w : World} {Q : Exit → Act → World → Prop}
    (hg : o.guard = none) (s x : Operand) (t : TypeId) (hop : o.op = Op.call { callee := Callee.builtin Builtin.copy, args := #[s, x], argTypes := #[t, t] })
    (v y : Value) (hs : a.eval s = v) (hx : a.eval x = y) (v' : Value) (w' : World) (hrun : ∀ ty, (Builtin.copy_ #[t, t] ty #[v, y]).run P w = .ok v' w') (h : wpList P ops Q rest (a.put o.dst v') w') :
    wpList P ops Q (o :: rest) a w :=
  wpList_plain hg fun _ hK => by
    unfold Oper.wp
    simp [execOp, hop, resolve, invoke, builtin, hs, hx, hrun, Result.andThen]
    exact hK _ _ h
theorem step_copy_run {P : Program} {ops : Array Oper} {o : Oper} {a : Act} {w : World} {K : Act → World → Prop} {Q : Exit → Act → World → Prop} {E : Prop}
    (hg : o.guard = none) (s x : Operand) (t : TypeId) (hop : o.op = Op.call { callee := Callee.builtin Builtin.copy, args := #[s, x], argTypes := #[t, t] })
    (v y : Value) (hs : a.eval s = v) (hx : a.eval x = y) (v' : Value) (w' : World) (hrun : ∀ ty, (Builtin.copy_ #[t, t] ty #[v, y]).run P w = .ok v' w') (hK : K (a.put o.dst v') w') :
    if Region.wanted o (yielded ops a.tmps) = true then Oper.wp P o a w K Q else E := by
  have hw : Region.wanted o (yielded ops a.tmps) = true := by simp [Region.wanted, hg]
  rw [if_pos hw]
  unfold Oper.wp
  simp [execOp, hop, resolve, invoke, builtin, hs, hx, hrun, Result.andThen]
  exact hK
theorem setRow_get {w : World} {R : Nat} {cur cs : Array Value} (h : w.heap[R]? = some (.cells cur 3)) : (w.setRow R cs).heap[R]? = some (.cells cs 3) := setRow_heap w R cur cs 3 _ h
theorem But.setRow {g : Nat} {w : World} (cs : Array Value) : But g w (w.setRow g cs) :=
  ⟨rfl, rfl, rfl, by simp [World.setRow], fun k _ hB => setRow_other w g k cs hB⟩
theorem setRow_but (w : World) (R : Nat) (cs : Array Value) : But R w (w.setRow R cs) := But.setRow cs
set_option maxHeartbeats 2000000 in
theorem repeat_any (b off cx n : Nat) (w : World) (h1 : 1 ≤ n) (h5 : n ≤ 5) (hx : w.cell? ⟨b, off, none⟩ = some (.int .i64 (-1))) :
    Calls Try.prog 36 #[.slice (some ⟨b, off, none⟩) 1 cx, .int .i64 (n : Int)] w fun e w' => e = .returned (.slice (some ⟨w.heap.size, 0, none⟩) n n) ∧ w'.heap[w.heap.size]? = some (.cells (rp n n) 3) ∧ Below w.heap.size w w' := by
  have hb := World.block_lt_of_cell? _ _ hx
  have hbb : b < w.heap.size := hb
  have hmk := make_ints n (by omega)
  rw [rp_made] at hmk
  have HM := hid (mul_one n w h1 h5)
  have HG0 := hid (heap_last w (.cells (rp 0 n) 3))
  have HB0 := hid (boxB w (.cells (rp 0 n) 3))
  have HX : Hid (∀ v, Below w.heap.size w v → v.cell? ⟨b, off, none⟩ = some (.int .i64 (-1))) := fun v g => (g.cell (p := ⟨b, off, none⟩) hbb).trans hx
  have hc1 : 1 = Nat.min 1 (n - 0) := by show 1 = min 1 (n - 0); omega
  have hs0 : ∀ j, j < 1 → (w.alloc (.cells (rp 0 n) 3)).cell? ((⟨b, off, none⟩ : Addr).add j) = some (.int .i64 (-1)) := fun j hj => by
    have hj0 : j = 0 := by omega
    subst hj0
    exact HX.out _ HB0.out
  have r0 := copy_rp (w.alloc (.cells (rp 0 n) 3)) w.heap.size 0 n n 1 cx 1 ⟨b, off, none⟩ (by omega) hc1 HG0.out hs0
  rw [Nat.sub_zero, Nat.zero_add] at r0
  have HG1 := hid (setRow_get (cs := rp 1 n) HG0.out)
  have HB1 : Hid (Below w.heap.size w ((w.alloc (.cells (rp 0 n) 3)).setRow w.heap.size (rp 1 n))) := HB0.out.trans ((setRow_but _ _ _).below (Nat.le_refl _) HB0.out.size)
  have d1 : decide ((9223372036854775807 : Int) < (n : Int)) = false := decide_eq_false (by omega)
  have d2 : decide ((n : Int) < 0) = false := decide_eq_false (by omega)
  clear hx hc1 hb hs0
  go_enter Try.func36, Try.ntmps36
  go_wp2_with fail
  refine HM.out.mono ?_
  rintro e w2 ⟨rfl, hw2⟩
  rw [hw2]
  clear hw2 HM
  go_wp2_with (refine wpList_copy_run rfl _ _ 22 rfl _ _ rfl rfl _ _ r0 ?_)
  generalize (w.alloc (.cells (rp 0 n) 3)).setRow w.heap.size (rp 1 n) = W1 at *
  clear r0 hmk d1 d2
  generalize hR : w.heap.size = R at HG1
  go_loopw [8] (fun i wr => ∃ m : Nat, 1 ≤ m ∧ m ≤ n ∧ i = .int .i64 m ∧ wr.heap[R]? = some (.cells (rp m n) 3) ∧ Below w.heap.size w wr) (fun i _ => n - (intOf i).toNat)
  case atStart => exact ⟨1, Nat.le_refl _, h1, rfl, HG1.out, HB1.out⟩
  case round =>
    obtain ⟨m, hm1, hmn, rfl, hg, hbel⟩ := hrel
    have HG := hid hg
    have HBEL := hid hbel
    clear hg hbel
    by_cases hlt : m < n
    · obtain ⟨c, hc⟩ : ∃ c, c = Nat.min m (n - m) := ⟨_, rfl⟩
      have hc2 : 1 ≤ c ∧ m + c ≤ n := by rw [hc]; show 1 ≤ min m (n - m) ∧ m + min m (n - m) ≤ n; omega
      have hs1 : ∀ j, j < c → wr.drew.cell? ((⟨R, 0, none⟩ : Addr).add j) = some (.int .i64 (-1)) := fun j hj => by
        have hjm : j < m := by rw [hc] at hj; exact Nat.lt_of_lt_of_le hj (Nat.min_le_left _ _)
        have e0 : (⟨R, 0, none⟩ : Addr).add j = ⟨R, j, none⟩ := by simp [Addr.add]; exact fun h => h.symm
        rw [e0]
        exact (box_cell (wr := wr) HG.out j).trans (rp_at hjm)
      have r1 := copy_rp wr.drew R m n (n - m) m n c ⟨R, 0, none⟩ hc2.2 hc HG.out hs1
      have HG2 := hid (setRow_get (w := wr.drew) (cs := rp (m + c) n) HG.out)
      have HB2 : Hid (Below w.heap.size w (wr.drew.setRow R (rp (m + c) n))) := HBEL.out.drew.trans ((setRow_but wr.drew R _).below (by omega) HBEL.out.drew.size)
      have hw : IntKind.i64.wrap ((m : Int) + (c : Int)) = ((m + c : Nat) : Int) := by rw [IntKind.wrap_i64]; omega
      have HC := hid hc2
      have hcw : wrap64 ((m : Int) + (c : Int)) = ((m + c : Nat) : Int) := by unfold wrap64; omega
      clear hs1 hc hc2
      go_wp2_with fail
      go_region_held_law (fun _ => True) (first | exact trivial) (first | (refine step_copy_run rfl _ _ 22 rfl _ _ rfl rfl _ _ r1 ?_))
      all_goals
        go_wp2_with fail
        go_roundw
        case rel => exact ⟨m + c, by have := HC.out; omega, HC.out.2, by rfl, HG2.out, HB2.out⟩
        case measure => have := HC.out; simp [intOf]; omega
    · obtain rfl : m = n := by omega
      go_wp2_with fail
      go_ret
      subst hR
      exact ⟨rfl, HG.out, HBEL.out⟩
end Go.Proofs.Ytikmkkklgdkpaaa
