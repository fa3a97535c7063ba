/- Walks of what is drawn for the laws on devices, on. -/
import Derived.Test.YteofdaecknlkdaaDraws
namespace Go.Proofs.Yteofdaecknlkdaa
set_option maxRecDepth 100000
open Go.ChangeShapes Go.WideShapes Go.ChangeAt Go.RowKit
set_option maxHeartbeats 1000000 in
theorem drawFinish_any (len cap : Nat) (a : Option Addr) (w : World) (hK : Code w.heap.size len cap a w) :
    Calls Try.prog 13 #[.slice a len cap] w fun e w' => ∃ (zs : List Zn) (R c : Nat) (k : Int), e = .returned (.tuple #[.agg #[.slice (some ⟨R, 0, none⟩) zs.length c], .int .i64 k]) ∧ w.heap.size ≤ R ∧ ZRow R zs w' ∧ small 61 zs ∧ Below w.heap.size w w' := by
  have HK : Hid (∀ o, Code (w.alloc o).heap.size len cap a (w.alloc o)) := fun o => (hK.below ((Below.refl _ _).alloc (Nat.le_refl _) _)).mono (by rw [heap_size]; omega)
  clear hK
  go_enter Try.func13, Try.ntmps13
  go_wp2_with fail
  refine (drawReset_any len cap a _ (HK.out _)).mono ?_
  rintro e w1 ⟨zs, R, c, k, rfl, hR, hrow, hsm, hb⟩
  rw [heap_size] at hR hb
  have hq : w1.heap[w.heap.size]? = some (.cells #[.slice none 0 0] 25) := (hb.block _ (by omega)).trans (heap_last _ _)
  have r0 := (block_cell hq).1
  have r1 := (block_cell hq).2
  have HB : Hid (Below w.heap.size w w1) := ((Below.refl _ _).alloc (Nat.le_refl _) _).trans (hb.mono (by omega))
  have HR : Hid (ZRow R zs w1 ∧ small 61 zs) := ⟨hrow, hsm⟩
  clear hb hrow hsm hq HK
  go_wp2_with fail
  refine bodyPost_ret (v := .tuple #[.agg #[.slice (some ⟨R, 0, none⟩) zs.length c], .int .i64 k]) (by simp [results, Try.results13, go_sem, r0]) rfl ⟨zs, R, c, k, rfl, by omega, HR.out.1.same (by simp [World.setCell]) (Below.heap_setCell _ _ _ _ (by show R ≠ w.heap.size; omega)), HR.out.2, HB.out.setCell (Nat.le_refl _) _⟩
set_option maxHeartbeats 4000000 in
theorem drawRead_any (len cap : Nat) (a : Option Addr) (w : World) (hK : Code w.heap.size len cap a w) :
    Calls Try.prog 21 #[.slice a len cap] w fun e w' => ∃ (zs : List Zn) (R c : Nat) (k f l : Int), e = .returned (.tuple #[.agg #[.slice (some ⟨R, 0, none⟩) zs.length c], .int .i64 k, .int .i64 f, .int .i64 l]) ∧ w.heap.size ≤ R ∧ ZRow R zs w' ∧ small 61 zs ∧ Below w.heap.size w w' := by
  have HS : Hid (∀ T o, Cur (w.heap.size + 1) 0 (.slice a len cap) ((w.alloc o).alloc (.cells #[.slice a len cap, .int .i64 0, .int .u64 0] T)) ∧ Code (w.heap.size + 1) len cap a ((w.alloc o).alloc (.cells #[.slice a len cap, .int .i64 0, .int .u64 0] T))) := fun T o => start_cur len cap a w T o hK
  have HK : Hid (Code w.heap.size len cap a w) := hK
  clear hK
  go_enter Try.func21, Try.ntmps21
  go_wp2_with fail
  refine (device_any (w.heap.size + 1) 0 len cap a _ (by omega) (HS.out _ _).1 (HS.out _ _).2).mono ?_
  rintro e w1 ⟨zs, R, c, rfl, hR, hrow, hsm, hC, hB⟩
  have hD := start_dd (c := c) HK.out hR hrow hC hB
  have HD : Hid (Dd w1.heap.size R c (0 + 200) len cap a w zs (w1.alloc (.cells #[.slice (some ⟨R, 0, none⟩) zs.length c] 25))) := hD
  have HSM : Hid (small 61 zs) := hsm
  have hz1 := hsm.1
  have hz2 := hsm.2.1
  have hcD := (block_cell hD.dev).1
  have hcR := (block_cell hD.res).1
  have hfR := (block_cell hD.res).2
  have hne : w.heap.size ≠ w1.heap.size := by have := hD.ordD; omega
  have HOR : Hid (w.heap.size ≤ R) := by have := hD.ordR; show w.heap.size ≤ R; omega
  clear hsm hB hC hrow hR HS HK hD
  generalize hW2 : w1.alloc (.cells #[.slice (some ⟨R, 0, none⟩) zs.length c] 25) = w2 at HD hcD hcR hfR
  generalize hDD : w1.heap.size = D at *
  go_wp2_with fail
  clear hW2 hDD
  have hwr : IntKind.i64.wrap ((zs.length : Int) + 1) = (zs.length : Int) + 1 := by rw [IntKind.wrap_i64]; omega
  go_region_held (fun v => v.cell? ⟨D, 0, none⟩ = some (.slice (some ⟨R, 0, none⟩) zs.length c)) (go_keep) (first
    | (go_at_call 33
       refine (pick_dd _ _ ?_ ?_ ?_ HD.out.drew).mono ?_
       · omega
       · omega
       · omega
       rintro e w5 ⟨q1, rfl, q1a, q1b, hHD5, hcD5, hcR5, hfR5⟩
       have HD5 : Hid (Dd D R c (0 + 200 + 2) len cap a w zs w5) := hHD5
       clear hHD5 HD)
    | (go_at_call 33
       refine (pick_dd _ _ ?_ ?_ ?_ HD5.out).mono ?_
       · omega
       · omega
       · omega
       rintro e w6 ⟨q2, rfl, q2a, q2b, hHD5, hcD6, hcR6, hfR6⟩
       have HD6 : Hid (Dd D R c (0 + 200 + 2 + 2) len cap a w zs w6) := hHD5
       clear hHD5 HD5)
    | (go_at_call 33
       refine (pick_dd _ _ ?_ ?_ ?_ HD6.out).mono ?_
       · omega
       · omega
       · omega
       rintro e w7 ⟨q3, rfl, q3a, q3b, hHD5, hcD7, hcR7, hfR7⟩
       have HD7 : Hid (Dd D R c (0 + 200 + 2 + 2 + 2) len cap a w zs w7) := hHD5
       clear hHD5 HD6)
    | (go_at_call 33
       refine (pick_dd _ _ ?_ ?_ ?_ HD7.out).mono ?_
       · omega
       · omega
       · omega
       rintro e w8 ⟨q4, rfl, q4a, q4b, hHD5, hcD8, hcR8, hfR8⟩
       have HD8 : Hid (Dd D R c (0 + 200 + 2 + 2 + 2 + 2) len cap a w zs w8) := hHD5
       clear hHD5 HD7)
    | (go_at_call 33
       refine (pick_dd _ _ ?_ ?_ ?_ HD8.out).mono ?_
       · omega
       · omega
       · omega
       rintro e w9 ⟨q5, rfl, q5a, q5b, hHD5, hcD9, hcR9, hfR9⟩
       have HD9 : Hid (Dd D R c (0 + 200 + 2 + 2 + 2 + 2 + 2) len cap a w zs w9) := hHD5
       clear hHD5 HD8))
  go_wp2_with fail
  generalize IntKind.i64.wrap (q1 - IntKind.i64.wrap (q2.tdiv 8)) = k1
  generalize IntKind.i64.wrap (q3 - IntKind.i64.wrap (q4.tdiv 8)) = f1
  obtain ⟨g1, g2⟩ := HD9.out.done (.slice (some ⟨R, 0, none⟩) zs.length c)
  exact bodyPost_ret (v := .tuple #[.agg #[.slice (some ⟨R, 0, none⟩) zs.length c], .int .i64 k1, .int .i64 f1, .int .i64 q5]) (by simp [results, Try.results21, go_sem, hcR9]) rfl ⟨zs, R, c, k1, f1, q5, rfl, HOR.out, g1, HSM.out, g2⟩
end Go.Proofs.Yteofdaecknlkdaa
