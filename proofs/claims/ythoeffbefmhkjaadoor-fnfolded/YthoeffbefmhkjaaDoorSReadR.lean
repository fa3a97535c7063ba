/- Walks of the model's l3Read, ReadRecord. -/
import Derived.Test.YthoeffbefmhkjaaDoorText
import Derived.Test.YthoeffbefmhkjaaDoorCut
import Derived.Test.YthoeffbefmhkjaaDoorQA
import Derived.Deep.RegionHeld
namespace Go.Proofs.YthoeffbefmhkjaaDoor
set_option maxRecDepth 100000
open Go.ChangeShapes Go.WideShapes Go.ChangeAt Go.RowKit G00541
set_option maxHeartbeats 400000 in
theorem l3read_out (s : ByteArray) (p : Nat) (w : World) (hp : s.size ≤ p) :
    Calls Tryd.prog 41 #[.string s, .int .i64 p] w fun e w' => e = .returned (.tuple #[zrec, .int .i64 (-1)]) ∧ Below w.heap.size w w' := by
  have hd : decide ((s.size : Int) ≤ (p : Int)) = true := by simp; omega
  go_enter Tryd.func41, Tryd.ntmps41
  go_wp2
  refine bodyPost_ret (v := .tuple #[zrec, .int .i64 (-1)]) (by simp [results, Tryd.results41, go_sem, zrec]) rfl ⟨rfl, (Below.refl _ _).alloc (Nat.le_refl _) _⟩
set_option maxHeartbeats 400000 in
theorem l3read_short (s : ByteArray) (p n : Nat) (w : World) (hs : s.size ≤ 300) (hp : p < s.size) (hn : s[p].toNat = n) (hn2 : n < 256) (h : n < 5 ∨ s.size - p - 1 < n) :
    Calls Tryd.prog 41 #[.string s, .int .i64 p] w fun e w' => e = .returned (.tuple #[zrec, .int .i64 (-1)]) ∧ Below w.heap.size w w' := by
  have hd : decide ((s.size : Int) ≤ (p : Int)) = false := by simp; omega
  by_cases h5 : n < 5
  · have hd5 : decide ((n : Int) < 5) = true := by simp; omega
    go_enter Tryd.func41, Tryd.ntmps41
    go_wp2
    refine bodyPost_ret (v := .tuple #[zrec, .int .i64 (-1)]) (by simp [results, Tryd.results41, go_sem, zrec]) rfl ⟨rfl, (Below.refl _ _).alloc (Nat.le_refl _) _⟩
  · have hd5 : decide ((n : Int) < 5) = false := by simp; omega
    have hd6 : decide ((s.size : Int) - (p : Int) - 1 < (n : Int)) = true := by simp; omega
    go_enter Tryd.func41, Tryd.ntmps41
    go_wp2
    refine bodyPost_ret (v := .tuple #[zrec, .int .i64 (-1)]) (by simp [results, Tryd.results41, go_sem, zrec]) rfl ⟨rfl, (Below.refl _ _).alloc (Nat.le_refl _) _⟩
set_option maxHeartbeats 1000000 in
theorem l3read_bad (s T D : ByteArray) (p n x0 x1 x2 : Nat) (w : World) (hs : s.size ≤ 300) (hp : p < s.size) (hn : s[p].toNat = n) (hn2 : n < 256) (h5 : 5 ≤ n) (hle : n ≤ s.size - p - 1)
    (hT : T.size = n) (e0 : T[0].toNat = x0) (e1 : T[1].toNat = x1) (e2 : T[2].toNat = x2) (b0 : x0 < 256) (b1 : x1 < 256) (b2 : x2 < 256)
    (hc1 : ∀ v, Sem.run Tryd.prog (Instr.slice 9 (.string s) (some (.int .i64 ((p : Int) + 1))) (some (.int .i64 ((p : Int) + 1 + (n : Int)))) none) v = .ok (.string T) v)
    (hc2 : ∀ v, Sem.run Tryd.prog (Instr.slice 9 (.string T) (some (.int .i64 3)) (some (.int .i64 ((n : Int) - 2))) none) v = .ok (.string D) v)
    (HG : Hid (∀ v, Calls Tryd.prog 49 #[.agg #[.int .i64 x0, .int .i64 x1, .int .i64 x2, .string D]] v fun e w' => e = .returned (.bool false) ∧ Below v.heap.size v w')) :
    Calls Tryd.prog 41 #[.string s, .int .i64 p] w fun e w' => e = .returned (.tuple #[zrec, .int .i64 (-1)]) ∧ Below w.heap.size w w' := by
  have hd : decide ((s.size : Int) ≤ (p : Int)) = false := by simp; omega
  have hd5 : decide ((n : Int) < 5) = false := by simp; omega
  have hd6 : decide ((s.size : Int) - (p : Int) - 1 < (n : Int)) = false := by simp; omega
  go_enter Tryd.func41, Tryd.ntmps41
  go_wp2_with fail
  go_big_region
  generalize hW1 : ((w.alloc (.cells #[.int .i64 0, .int .i64 0, .int .i64 0, .string ⟨#[]⟩] 36)).alloc (.cells #[.int .i64 x0, .int .i64 x1, .int .i64 x2, .string D] 36)).drew = w1
  have HZ1 : Hid (ZeroAt w w.heap.size w1) := by rw [← hW1]; exact ((ZeroAt.start w).below ((Below.refl _ _).alloc (Nat.le_refl _) _)).drew
  have HR1 : Hid (RecAt (w.heap.size + 1) x0 x1 x2 D w1) := by rw [← hW1]; exact (by have := (RecAt.start x0 x1 x2 D (w.alloc (.cells #[.int .i64 0, .int .i64 0, .int .i64 0, .string ⟨#[]⟩] 36)) 36).drew; rw [heap_size] at this; exact this)
  clear hW1
  obtain ⟨c0, c1, c2, c3, _⟩ := HR1.out
  go_wp2_with fail
  refine wp_region_any (by kernel_rfl) ?_
  change wpAny _ _ _ _ _ _ _ (World.drew _)
  refine wpAny_ready (rs := [0]) (by kernel_rfl) (by simp) ?_
  refine AllReady.cons rfl (fun K hK => ?_) AllReady.nil
  go_simp
  refine hK _ _ ?_
  clear hK K
  refine wpAny_ready (rs := [1]) (by kernel_rfl) (by simp) ?_
  refine AllReady.cons rfl (fun K hK => ?_) AllReady.nil
  go_simp
  go_wp2_with (go_at_call 49; refine (HG.out _).mono ?_; rintro e w2 ⟨rfl, g2⟩)
  refine wpAny_ready (rs := [2]) (by kernel_rfl) (by simp) ?_
  refine AllReady.cons rfl (fun K hK => ?_) AllReady.nil
  go_simp
  refine hK _ _ ?_
  clear hK K
  refine wpAny_ready (rs := [3]) (by kernel_rfl) (by simp) ?_
  refine AllReady.cons rfl (fun K hK => ?_) AllReady.nil
  go_simp
  refine hK _ _ ?_
  clear hK K
  refine wpAny_take (i := 6) (v := undef) rfl (by kernel_rfl) (by kernel_rfl) (by kernel_rfl) (fun _ _ _ h => h) (Or.inr ⟨by rfl, rfl⟩) ?_
  refine wpAny_take (i := 7) (v := undef) rfl (by kernel_rfl) (by kernel_rfl) (by kernel_rfl) (fun _ _ _ h => h) (Or.inr ⟨by rfl, rfl⟩) ?_
  refine wpAny_take (i := 8) (v := undef) rfl (by kernel_rfl) (by kernel_rfl) (by kernel_rfl) (fun _ _ _ h => h) (Or.inr ⟨by rfl, rfl⟩) ?_
  refine wpAny_take (i := 9) (v := undef) rfl (by kernel_rfl) (by kernel_rfl) (by kernel_rfl) (fun _ _ _ h => h) (Or.inr ⟨by rfl, rfl⟩) ?_
  refine wpAny_take (i := 10) (v := undef) rfl (by kernel_rfl) (by kernel_rfl) (by kernel_rfl) (fun _ _ _ h => h) (Or.inr ⟨by rfl, rfl⟩) ?_
  refine wpAny_take (i := 11) (v := undef) rfl (by kernel_rfl) (by kernel_rfl) (by kernel_rfl) (fun _ _ _ h => h) (Or.inr ⟨by rfl, rfl⟩) ?_
  refine wpAny_take (i := 12) (v := undef) rfl (by kernel_rfl) (by kernel_rfl) (by kernel_rfl) (fun _ _ _ h => h) (Or.inr ⟨by rfl, rfl⟩) ?_
  refine wpAny_ready (rs := [4]) (by kernel_rfl) (by simp) ?_
  refine AllReady.cons rfl (fun K hK => ?_) AllReady.nil
  go_simp
  refine hK _ _ ?_
  clear hK K
  refine wpAny_ready (rs := [5]) (by kernel_rfl) (by simp) ?_
  refine AllReady.cons rfl (fun K hK => ?_) AllReady.nil
  go_simp
  refine hK _ _ ?_
  clear hK K
  refine wpAny_ready (rs := [13]) (by kernel_rfl) (by simp) ?_
  refine AllReady.cons rfl (fun K hK => ?_) AllReady.nil
  go_simp
  refine hK _ _ ?_
  clear hK K
  refine wpAny_ready (rs := [14]) (by kernel_rfl) (by simp) ?_
  refine AllReady.cons rfl (fun K hK => ?_) AllReady.nil
  go_simp
  refine hK _ _ ?_
  clear hK K
  refine wpAny_done (by kernel_rfl) ?_ _
  all_goals
    have HZ2 : Hid (ZeroAt w w.heap.size w2) := HZ1.out.drew.below g2
    clear g2
    obtain ⟨z0, z1, z2, z3, f0, f1, f2, f3, _, _, _⟩ := HZ2.out
    go_wp2
    refine bodyPost_ret (v := .tuple #[zrec, .int .i64 (-1)]) (by simp [results, Tryd.results41, go_sem, zrec, z0, z1, z2, z3]) rfl ⟨rfl, setFour HZ2.out.bel (Nat.le_refl _) _ _ _ _⟩

end Go.Proofs.YthoeffbefmhkjaaDoor
