/- Walks of what is drawn for the laws on devices. -/
import Derived.Test.YteofdaecknlkdaaDevice
import Derived.Deep.RegionHeld
namespace Go.Proofs.Yteofdaecknlkdaa
set_option maxRecDepth 100000
open Go.ChangeShapes Go.WideShapes Go.ChangeAt Go.RowKit
/-- behind the drawing of a device: the result's block is the first new one, the cursor's the second, the device lies at D, its row at R -/
structure Dd (D R c N len cap : Nat) (a : Option Addr) (w0 : World) (zs : List Zn) (w : World) : Prop where
  cur : Cur (w0.heap.size + 1) N (.slice a len cap) w
  code : Code (w0.heap.size + 1) len cap a w
  below : Below w0.heap.size w0 w
  ordD : w0.heap.size + 1 < D
  ordR : w0.heap.size + 1 < R
  res : w.heap[w0.heap.size]? = some (.cells #[.slice none 0 0] 25)
  dev : w.heap[D]? = some (.cells #[.slice (some ⟨R, 0, none⟩) zs.length c] 25)
  row : ZRow R zs w
theorem Dd.step {D R c N M len cap : Nat} {a : Option Addr} {w0 w w' : World} {zs : List Zn} (h : Dd D R c N len cap a w0 zs w) (hc : Cur (w0.heap.size + 1) M (.slice a len cap) w') (g : But (w0.heap.size + 1) w w') : Dd D R c M len cap a w0 zs w' := by
  have h1 := h.ordD
  have h2 := h.ordR
  have h3 := h.below.size
  have h4 := block_lt h.res
  exact ⟨hc, h.code.but g (Nat.le_refl _) (by omega), h.below.trans (g.below (by omega) h3), h1, h2, (g.block _ h4 (by omega)).trans h.res, (g.block _ (block_lt h.dev) (by omega)).trans h.dev, h.row.same g.size (g.block R h.row.lt (by omega))⟩
theorem Dd.drew {D R c N len cap : Nat} {a : Option Addr} {w0 w : World} {zs : List Zn} (h : Dd D R c N len cap a w0 zs w) : Dd D R c N len cap a w0 zs w.drew :=
  ⟨h.cur.drew, ⟨h.code.small, h.code.cell⟩, h.below.drew, h.ordD, h.ordR, h.res, h.dev, h.row.drew⟩
theorem Dd.done {D R c N len cap : Nat} {a : Option Addr} {w0 w : World} {zs : List Zn} (h : Dd D R c N len cap a w0 zs w) (v : Value) : ZRow R zs (w.setCell ⟨w0.heap.size, 0, none⟩ v) ∧ Below w0.heap.size w0 (w.setCell ⟨w0.heap.size, 0, none⟩ v) := by
  have h2 := h.ordR
  exact ⟨h.row.same (by simp [World.setCell]) (Below.heap_setCell _ _ _ _ (by show R ≠ w0.heap.size; omega)), h.below.setCell (Nat.le_refl _) _⟩
set_option maxHeartbeats 1000000 in
theorem pick_dd (n : Int) {D R c N len cap : Nat} {a : Option Addr} {w0 : World} {zs : List Zn} (W : World) (n1 : 1 ≤ n) (n2 : n ≤ 100000) (hN : N ≤ 999998) (h : Dd D R c N len cap a w0 zs W) :
    Calls Try.prog 33 #[.pointer (some ⟨w0.heap.size + 1, 0, none⟩), .int .i64 n] W fun e w' => ∃ v : Int, e = .returned (.int .i64 v) ∧ 0 ≤ v ∧ v < n ∧ Dd D R c (N + 2) len cap a w0 zs w' ∧
      w'.cell? ⟨D, 0, none⟩ = some (.slice (some ⟨R, 0, none⟩) zs.length c) ∧ w'.cell? ⟨w0.heap.size, 0, none⟩ = some (.slice none 0 0) ∧ w'.frozen? ⟨w0.heap.size, 0, none⟩ = false := by
  refine (pick_any n _ N len cap a W n1 n2 hN h.cur h.code).mono ?_
  rintro e w' ⟨v, rfl, v0, v1, hC, hB⟩
  have h' := h.step hC hB
  exact ⟨v, rfl, v0, v1, h', (block_cell h'.dev).1, (block_cell h'.res).1, (block_cell h'.res).2⟩
set_option maxHeartbeats 1000000 in
theorem piece_dd {D R c N len cap : Nat} {a : Option Addr} {w0 : World} {zs : List Zn} (W : World) (hN : N ≤ 999998) (h : Dd D R c N len cap a w0 zs W) :
    Calls Try.prog 34 #[.pointer (some ⟨w0.heap.size + 1, 0, none⟩)] W fun e w' => ∃ s : ByteArray, e = .returned (.string s) ∧ s.size ≤ 21 ∧ Dd D R c (N + 2) len cap a w0 zs w' ∧
      w'.cell? ⟨D, 0, none⟩ = some (.slice (some ⟨R, 0, none⟩) zs.length c) ∧ w'.cell? ⟨w0.heap.size, 0, none⟩ = some (.slice none 0 0) ∧ w'.frozen? ⟨w0.heap.size, 0, none⟩ = false := by
  refine (piece_any _ N len cap a W hN h.cur h.code).mono ?_
  rintro e w' ⟨s, rfl, hs, hC, hB⟩
  have h' := h.step hC hB
  exact ⟨s, rfl, hs, h', (block_cell h'.dev).1, (block_cell h'.res).1, (block_cell h'.res).2⟩
/-- the cursor stands behind the result's block -/
theorem start_cur (len cap : Nat) (a : Option Addr) (w : World) (T : TypeId) (o : Obj) (hK : Code w.heap.size len cap a w) :
    Cur (w.heap.size + 1) 0 (.slice a len cap) ((w.alloc o).alloc (.cells #[.slice a len cap, .int .i64 0, .int .u64 0] T)) ∧ Code (w.heap.size + 1) len cap a ((w.alloc o).alloc (.cells #[.slice a len cap, .int .i64 0, .int .u64 0] T)) := by
  have h := Cur.start (.slice a len cap) T (w.alloc o)
  rw [heap_size] at h
  exact ⟨h, (hK.below (((Below.refl _ _).alloc (Nat.le_refl _) _).alloc (by simp) _)).mono (by omega)⟩
/-- a device that was drawn behind the result's block -/
theorem start_dd {len cap R c : Nat} {a : Option Addr} {w w1 : World} {zs : List Zn} {N : Nat} {T : TypeId} (hK : Code w.heap.size len cap a w) (hR : ((w.alloc (.cells #[.slice none 0 0] 25)).alloc (.cells #[.slice a len cap, .int .i64 0, .int .u64 0] T)).heap.size ≤ R) (hr : ZRow R zs w1)
    (hC : Cur (w.heap.size + 1) N (.slice a len cap) w1) (hB : But (w.heap.size + 1) ((w.alloc (.cells #[.slice none 0 0] 25)).alloc (.cells #[.slice a len cap, .int .i64 0, .int .u64 0] T)) w1) :
    Dd w1.heap.size R c N len cap a w zs (w1.alloc (.cells #[.slice (some ⟨R, 0, none⟩) zs.length c] 25)) := by
  have hs := hB.size
  rw [heap_size, heap_size] at hs hR
  have hb : Below w.heap.size w w1 := (((Below.refl _ _).alloc (Nat.le_refl _) _).alloc (by simp) _).trans (hB.below (by omega) (by rw [heap_size, heap_size]; omega))
  have hba : Below w.heap.size w (w1.alloc (.cells #[.slice (some ⟨R, 0, none⟩) zs.length c] 25)) := hb.alloc hb.size _
  exact ⟨hC.alloc _, (hK.below hba).mono (by omega), hba, by omega, by omega, (Below.heap_alloc _ _ _ (by omega)).trans ((hB.block _ (by rw [heap_size, heap_size]; omega) (by omega)).trans (heap_mid2 _ _ _)), heap_last _ _, hr.below ((Below.refl _ _).alloc (Nat.le_refl _) _)⟩
set_option maxHeartbeats 1000000 in
theorem drawGood_any (len cap : Nat) (a : Option Addr) (w : World) (hK : Code w.heap.size len cap a w) :
    Calls Try.prog 49 #[.slice a len cap] w fun e w' => ∃ (zs : List Zn) (R c : Nat), e = .returned (.agg #[.slice (some ⟨R, 0, none⟩) zs.length c]) ∧ w.heap.size ≤ R ∧ ZRow R zs w' ∧ small 61 zs ∧ Below w.heap.size w w' := by
  have HS : Hid (∀ T o, Cur (w.heap.size + 1) 0 (.slice a len cap) ((w.alloc o).alloc (.cells #[.slice a len cap, .int .i64 0, .int .u64 0] T)) ∧ Code (w.heap.size + 1) len cap a ((w.alloc o).alloc (.cells #[.slice a len cap, .int .i64 0, .int .u64 0] T))) := fun T o => start_cur len cap a w T o hK
  clear hK
  go_enter Try.func49, Try.ntmps49
  go_wp2_with fail
  refine (device_any (w.heap.size + 1) 0 len cap a _ (by omega) (HS.out _ _).1 (HS.out _ _).2).mono ?_
  rintro e w1 ⟨zs, R, c, rfl, hR, hrow, hsm, hC, hB⟩
  have hs := hB.size
  rw [heap_size, heap_size] at hs hR
  have hq : w1.heap[w.heap.size]? = some (.cells #[.slice none 0 0] 25) := (hB.block _ (by rw [heap_size, heap_size]; omega) (by omega)).trans (heap_mid2 _ _ _)
  have r0 := (block_cell hq).1
  have r1 := (block_cell hq).2
  have HB : Hid (Below w.heap.size w w1) := (((Below.refl _ _).alloc (Nat.le_refl _) _).alloc (by simp) _).trans (hB.below (by omega) (by rw [heap_size, heap_size]; omega))
  have HR : Hid (ZRow R zs w1 ∧ small 61 zs) := ⟨hrow, hsm⟩
  clear hB hC hrow hsm hq HS
  go_wp2_with fail
  refine bodyPost_ret (v := .agg #[.slice (some ⟨R, 0, none⟩) zs.length c]) (by simp [results, Try.results49, go_sem, r0]) rfl ⟨zs, R, c, rfl, by omega, HR.out.1.same (by simp [World.setCell]) (Below.heap_setCell _ _ _ _ (by show R ≠ w.heap.size; omega)), HR.out.2, HB.out.setCell (Nat.le_refl _) _⟩
set_option maxHeartbeats 1000000 in
theorem drawFlush_any (len cap : Nat) (a : Option Addr) (w : World) (hK : Code w.heap.size len cap a w) :
    Calls Try.prog 29 #[.slice a len cap] w fun e w' => ∃ (zs : List Zn) (R c : Nat), e = .returned (.agg #[.slice (some ⟨R, 0, none⟩) zs.length c]) ∧ w.heap.size ≤ R ∧ ZRow R zs w' ∧ small 61 zs ∧ Below w.heap.size w w' := by
  have HK : Hid (∀ o, Code (w.alloc o).heap.size len cap a (w.alloc o)) := fun o => (hK.below ((Below.refl _ _).alloc (Nat.le_refl _) _)).mono (by rw [heap_size]; omega)
  clear hK
  go_enter Try.func29, Try.ntmps29
  go_wp2_with fail
  refine (drawGood_any len cap a _ (HK.out _)).mono ?_
  rintro e w1 ⟨zs, R, c, rfl, hR, hrow, hsm, hb⟩
  rw [heap_size] at hR hb
  have hq : w1.heap[w.heap.size]? = some (.cells #[.slice none 0 0] 25) := (hb.block _ (by omega)).trans (heap_last _ _)
  have r0 := (block_cell hq).1
  have r1 := (block_cell hq).2
  have HB : Hid (Below w.heap.size w w1) := ((Below.refl _ _).alloc (Nat.le_refl _) _).trans (hb.mono (by omega))
  have HR : Hid (ZRow R zs w1 ∧ small 61 zs) := ⟨hrow, hsm⟩
  clear hb hrow hsm hq HK
  go_wp2_with fail
  refine bodyPost_ret (v := .agg #[.slice (some ⟨R, 0, none⟩) zs.length c]) (by simp [results, Try.results29, go_sem, r0]) rfl ⟨zs, R, c, rfl, by omega, HR.out.1.same (by simp [World.setCell]) (Below.heap_setCell _ _ _ _ (by show R ≠ w.heap.size; omega)), HR.out.2, HB.out.setCell (Nat.le_refl _) _⟩
set_option maxHeartbeats 2000000 in
theorem drawReset_any (len cap : Nat) (a : Option Addr) (w : World) (hK : Code w.heap.size len cap a w) :
    Calls Try.prog 44 #[.slice a len cap] w fun e w' => ∃ (zs : List Zn) (R c : Nat) (k : Int), e = .returned (.tuple #[.agg #[.slice (some ⟨R, 0, none⟩) zs.length c], .int .i64 k]) ∧ w.heap.size ≤ R ∧ ZRow R zs w' ∧ small 61 zs ∧ Below w.heap.size w w' := by
  have HS : Hid (∀ T o, Cur (w.heap.size + 1) 0 (.slice a len cap) ((w.alloc o).alloc (.cells #[.slice a len cap, .int .i64 0, .int .u64 0] T)) ∧ Code (w.heap.size + 1) len cap a ((w.alloc o).alloc (.cells #[.slice a len cap, .int .i64 0, .int .u64 0] T))) := fun T o => start_cur len cap a w T o hK
  have HK : Hid (Code w.heap.size len cap a w) := hK
  clear hK
  go_enter Try.func44, Try.ntmps44
  go_wp2_with fail
  refine (device_any (w.heap.size + 1) 0 len cap a _ (by omega) (HS.out _ _).1 (HS.out _ _).2).mono ?_
  rintro e w1 ⟨zs, R, c, rfl, hR, hrow, hsm, hC, hB⟩
  have hD := start_dd (c := c) HK.out hR hrow hC hB
  have HD : Hid (Dd w1.heap.size R c (0 + 200) len cap a w zs (w1.alloc (.cells #[.slice (some ⟨R, 0, none⟩) zs.length c] 25))) := hD
  have HSM : Hid (small 61 zs) := hsm
  have hz1 := hsm.1
  have hz2 := hsm.2.1
  have hcD := (block_cell hD.dev).1
  have hcR := (block_cell hD.res).1
  have hfR := (block_cell hD.res).2
  have hne : w.heap.size ≠ w1.heap.size := by have := hD.ordD; omega
  have HOR : Hid (w.heap.size ≤ R) := by have := hD.ordR; show w.heap.size ≤ R; omega
  clear hsm hB hC hrow hR HS HK hD
  generalize hW2 : w1.alloc (.cells #[.slice (some ⟨R, 0, none⟩) zs.length c] 25) = w2 at HD hcD hcR hfR
  generalize hDD : w1.heap.size = D at *
  go_wp2_with fail
  clear hW2 hDD
  have hwr : IntKind.i64.wrap ((zs.length : Int) + 2) = (zs.length : Int) + 2 := by rw [IntKind.wrap_i64]; omega
  go_region_held (fun v => v.cell? ⟨D, 0, none⟩ = some (.slice (some ⟨R, 0, none⟩) zs.length c)) (go_keep) (first 
    | (go_at_call 33
       refine (pick_dd _ _ ?_ ?_ ?_ HD.out.drew).mono ?_
       · omega
       · omega
       · omega
       rintro e w5 ⟨q, rfl, q0, q1, hHD5, hcD5, hcR5, hfR5⟩
       have HD5 : Hid (Dd D R c (0 + 200 + 2) len cap a w zs w5) := hHD5
       clear hHD5))
  go_wp2_with fail
  obtain ⟨g1, g2⟩ := HD5.out.done (.slice (some ⟨R, 0, none⟩) zs.length c)
  exact bodyPost_ret (v := .tuple #[.agg #[.slice (some ⟨R, 0, none⟩) zs.length c], .int .i64 (IntKind.i64.wrap (q - 1))]) (by simp [results, Try.results44, go_sem, hcR5]) rfl ⟨zs, R, c, _, rfl, HOR.out, g1, HSM.out, g2⟩
set_option maxHeartbeats 2000000 in
theorem drawAppend_any (len cap : Nat) (a : Option Addr) (w : World) (hK : Code w.heap.size len cap a w) :
    Calls Try.prog 5 #[.slice a len cap] w fun e w' => ∃ (zs : List Zn) (R c : Nat) (k : Int) (s : ByteArray), e = .returned (.tuple #[.agg #[.slice (some ⟨R, 0, none⟩) zs.length c], .int .i64 k, .string s]) ∧ s.size ≤ 21 ∧ w.heap.size ≤ R ∧ ZRow R zs w' ∧ small 61 zs ∧ Below w.heap.size w w' := by
  have HS : Hid (∀ T o, Cur (w.heap.size + 1) 0 (.slice a len cap) ((w.alloc o).alloc (.cells #[.slice a len cap, .int .i64 0, .int .u64 0] T)) ∧ Code (w.heap.size + 1) len cap a ((w.alloc o).alloc (.cells #[.slice a len cap, .int .i64 0, .int .u64 0] T))) := fun T o => start_cur len cap a w T o hK
  have HK : Hid (Code w.heap.size len cap a w) := hK
  clear hK
  go_enter Try.func5, Try.ntmps5
  go_wp2_with fail
  refine (device_any (w.heap.size + 1) 0 len cap a _ (by omega) (HS.out _ _).1 (HS.out _ _).2).mono ?_
  rintro e w1 ⟨zs, R, c, rfl, hR, hrow, hsm, hC, hB⟩
  have hD := start_dd (c := c) HK.out hR hrow hC hB
  have HD : Hid (Dd w1.heap.size R c (0 + 200) len cap a w zs (w1.alloc (.cells #[.slice (some ⟨R, 0, none⟩) zs.length c] 25))) := hD
  have HSM : Hid (small 61 zs) := hsm
  have hz1 := hsm.1
  have hz2 := hsm.2.1
  have hcD := (block_cell hD.dev).1
  have hcR := (block_cell hD.res).1
  have hfR := (block_cell hD.res).2
  have hne : w.heap.size ≠ w1.heap.size := by have := hD.ordD; omega
  have HOR : Hid (w.heap.size ≤ R) := by have := hD.ordR; show w.heap.size ≤ R; omega
  clear hsm hB hC hrow hR HS HK hD
  generalize hW2 : w1.alloc (.cells #[.slice (some ⟨R, 0, none⟩) zs.length c] 25) = w2 at HD hcD hcR hfR
  generalize hDD : w1.heap.size = D at *
  go_wp2_with fail
  clear hW2 hDD
  have hwr : IntKind.i64.wrap ((zs.length : Int) + 2) = (zs.length : Int) + 2 := by rw [IntKind.wrap_i64]; omega
  go_region_held (fun v => v.cell? ⟨D, 0, none⟩ = some (.slice (some ⟨R, 0, none⟩) zs.length c)) (go_keep) (first 
    | (go_at_call 33
       refine (pick_dd _ _ ?_ ?_ ?_ HD.out.drew).mono ?_
       · omega
       · omega
       · omega
       rintro e w5 ⟨q, rfl, q0, q1, hHD5, hcD5, hcR5, hfR5⟩
       have HD5 : Hid (Dd D R c (0 + 200 + 2) len cap a w zs w5) := hHD5
       clear hHD5)
    | (go_at_call 34
       refine (piece_dd _ ?_ HD5.out).mono ?_
       · omega
       rintro e w6 ⟨s, rfl, hs, hHD6, hcD6, hcR6, hfR6⟩
       have HD6 : Hid (Dd D R c (0 + 200 + 2 + 2) len cap a w zs w6) := hHD6
       clear hHD6))
  go_wp2_with fail
  obtain ⟨g1, g2⟩ := HD6.out.done (.slice (some ⟨R, 0, none⟩) zs.length c)
  exact bodyPost_ret (v := .tuple #[.agg #[.slice (some ⟨R, 0, none⟩) zs.length c], .int .i64 (IntKind.i64.wrap (q - 1)), .string s]) (by simp [results, Try.results5, go_sem, hcR6]) rfl ⟨zs, R, c, _, s, rfl, hs, HOR.out, g1, HSM.out, g2⟩
set_option maxHeartbeats 1000000 in
theorem drawNew_any (len cap : Nat) (a : Option Addr) (w : World) (hK : Code w.heap.size len cap a w) :
    Calls Try.prog 23 #[.slice a len cap] w fun e w' => ∃ k : Int, e = .returned (.int .i64 k) ∧ Below w.heap.size w w' := by
  have HK : Hid (Code w.heap.size len cap a w) := hK
  clear hK
  go_enter Try.func23, Try.ntmps23
  go_wp2_with fail
  refine (pick_any _ w.heap.size 0 len cap a _ (by omega) (by omega) (by omega) (Cur.start _ _ w) (HK.out.start _)).mono ?_
  rintro e w1 ⟨v, rfl, v0, v1, hC, hB⟩
  have HB : Hid (Below w.heap.size w w1) := hB.done
  clear hC hB
  go_wp2_with fail
  go_ret
  exact ⟨_, rfl, HB.out⟩
end Go.Proofs.Yteofdaecknlkdaa
