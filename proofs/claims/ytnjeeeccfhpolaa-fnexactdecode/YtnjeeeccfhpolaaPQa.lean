/- The program's small functions over packets. -/
import Derived.Test.YtnjeeeccfhpolaaPRk
import Derived.Test.YtnjeeeccfhpolaaPLs
import Derived.Deep.RegionHeld
namespace Go.Proofs.Ytnjeeeccfhpolaa
set_option maxRecDepth 100000
open Go Go.ChangeShapes Go.WideShapes Go.ChangeAt Go.RowKit
set_option maxHeartbeats 1000000 in
theorem implUnlike_good (a b : ByteArray) (w : World) (h1 : a.size = b.size) (h2 : a.size ≤ 400) :
    Calls Try.prog 75 #[.string a, .string b] w fun e w' => e = .returned (.tuple #[.string (xorT a b), .bool true]) ∧ Below w.heap.size w w' := by
  have hX := xorL_length a b h1
  have hne : ((a.size : Int) != (b.size : Int)) = false := by rw [bne_eq_false_iff_eq]; omega
  have hd : decide ((400 : Int) < (a.size : Int)) = false := by simp; omega
  have hr0 : ByteRow w.heap.size ((xorL a b).take 0 ++ (List.replicate a.size 0).drop 0) (w.alloc (.cells (madeCells (Value.int .u8 0).cells a.size) 5)) := ByteRow.made w a.size
  have HR : Hid (ByteRow w.heap.size ((xorL a b).take 0 ++ (List.replicate a.size 0).drop 0) (w.alloc (.cells (madeCells (Value.int .u8 0).cells a.size) 5))) := hr0
  clear hr0
  have hmk := make_bytes a.size (by omega)
  generalize madeCells (Value.int .u8 0).cells a.size = M at *
  have H1 : Hid (a.size = b.size) := h1
  clear h1
  go_enter Try.func75, Try.ntmps75
  go_wp2
  go_loopw [23] (fun i wr => ∃ k : Nat, k ≤ a.size ∧ i = .int .i64 k ∧ ByteRow w.heap.size ((xorL a b).take k ++ (List.replicate a.size 0).drop k) wr ∧ Below w.heap.size w wr) (fun i _ => a.size - (ivl i).toNat)
  case atStart => exact ⟨0, Nat.zero_le _, rfl, HR.out, (Below.refl _ _).alloc (Nat.le_refl _) _⟩
  case round =>
    obtain ⟨k, hk, rfl, hrow, hbel⟩ := hrel
    by_cases hlt : k < a.size
    · have hlb : k < b.size := by have := H1.out; omega
      have hlen := mix_length (xorL a b) (List.replicate a.size 0) k (by omega) (by simp; omega)
      obtain ⟨y, hcell⟩ : ∃ y : Int, wr.cell? ⟨w.heap.size, k, none⟩ = some (.int .u8 y) := ⟨_, hrow.cell k (by omega)⟩
      have hfree := hrow.free k (by omega)
      have HROW : Hid (ByteRow w.heap.size ((xorL a b).take k ++ (List.replicate a.size 0).drop k) wr) := hrow
      have HBEL : Hid (Below w.heap.size w wr) := hbel
      clear hrow hbel hlen
      go_wp2
      go_region
      all_goals go_wp2
      all_goals go_roundw
      case rel => exact ⟨k + 1, by omega, by go_num, HROW.out.step (by omega) (by simp; omega) (xorL_val a b k hlt hlb (by omega)), (HBEL.out.setCell (Nat.le_refl _) _).drew⟩
      case measure => simp [ivl]; omega
    · rw [mix_end _ _ _ (by omega) (by simp; omega)] at hrow
      have hback := hrow.back (P := Try.prog) (n := a.size) (cap := a.size) hX.symm 73 9 Try.underlying73 Try.underlying5 Try.underlying9
      have HBEL : Hid (Below w.heap.size w wr) := hbel
      clear hrow hbel
      go_wp2
      go_ret2
      exact ⟨rfl, HBEL.out⟩
set_option maxHeartbeats 1000000 in
theorem unlikePackets_any (z : Nat) (y x : Pk) (w : World) (hz : z ≤ 400) (gy : okP z y) (gx : okP z x) :
    Calls Try.prog 57 #[.agg #[.int .i64 y.ms, .string y.tx], .agg #[.int .i64 x.ms, .string x.tx]] w fun e w' => e = .returned (.agg #[.int .i64 (unP y x).ms, .string (unP y x).tx]) ∧ Below w.heap.size w w' := by
  obtain ⟨⟨ym, hym, hy1⟩, hy2⟩ : (∃ k : Nat, y.ms = (k : Int) ∧ k < 1024) ∧ y.tx.size = z := ⟨gy.1.nat, gy.2⟩
  obtain ⟨⟨xm, hxm, hx1⟩, hx2⟩ : (∃ k : Nat, x.ms = (k : Int) ∧ k < 1024) ∧ x.tx.size = z := ⟨gx.1.nat, gx.2⟩
  have hxo := i64_xor ym xm (by omega) (by omega)
  have HX : Hid (∀ v, Calls Try.prog 75 #[.string y.tx, .string x.tx] v fun e w' => e = .returned (.tuple #[.string (xorT y.tx x.tx), .bool true]) ∧ Below v.heap.size v w') := fun v => implUnlike_good _ _ v (hy2.trans hx2.symm) (by omega)
  have hu : unP y x = ⟨((ym ^^^ xm : Nat) : Int), xorT y.tx x.tx⟩ := by
    unfold unP unI
    rw [hym, hxm, Int.toNat_natCast, Int.toNat_natCast]
  rw [hu, hym, hxm]
  clear gy gx hym hxm hy2 hx2 hu
  have b1 := boxB w (.cells #[.int .i64 ym, .string y.tx] 28)
  have k1 := heap_last w (.cells #[.int .i64 ym, .string y.tx] 28)
  have n1 := heap_size w (.cells #[.int .i64 ym, .string y.tx] 28)
  generalize y.tx = yt at *
  generalize x.tx = xt at *
  generalize hw1 : w.alloc (.cells #[.int .i64 ym, .string yt] 28) = w1 at *
  have b2 := boxB w1 (.cells #[.int .i64 xm, .string xt] 28)
  have k2 := heap_last w1 (.cells #[.int .i64 xm, .string xt] 28)
  have n2 := heap_size w1 (.cells #[.int .i64 xm, .string xt] 28)
  generalize hw2 : w1.alloc (.cells #[.int .i64 xm, .string xt] 28) = w2 at *
  have b3 := boxB w2 (.cells #[.int .i64 0, .string ⟨#[]⟩] 28)
  have k3 := heap_last w2 (.cells #[.int .i64 0, .string ⟨#[]⟩] 28)
  generalize hw3 : w2.alloc (.cells #[.int .i64 0, .string ⟨#[]⟩] 28) = w3 at *
  have K1 : w3.heap[w.heap.size]? = some (.cells #[.int .i64 ym, .string yt] 28) := (b3.block _ (by omega)).trans ((b2.block _ (kbox k1)).trans k1)
  have K2 : w3.heap[w1.heap.size]? = some (.cells #[.int .i64 xm, .string xt] 28) := (b3.block _ (kbox k2)).trans k2
  have HB3 : Hid (Below w.heap.size w w3) := b1.trans ((b2.trans (b3.mono b2.size)).mono b1.size)
  have HK1 := hid K1
  have HK2 := hid K2
  have HK3 := hid k3
  have NE := hid (And.intro n1 n2)
  clear b1 b2 b3 k1 k2 k3 K1 K2 n1 n2
  have y1 : w3.cell? ⟨w.heap.size, 1, none⟩ = some (.string yt) := box_cell HK1.out 1
  have x1 : w3.cell? ⟨w1.heap.size, 1, none⟩ = some (.string xt) := box_cell HK2.out 1
  go_enter Try.func57, Try.ntmps57
  go_wp2_with fail
  refine (HX.out _).mono ?_
  rintro e w9 ⟨rfl, b9⟩
  have K1' := (b9.block _ (kbox HK1.out)).trans HK1.out
  have K2' := (b9.block _ (kbox HK2.out)).trans HK2.out
  have K3' := (b9.block _ (kbox HK3.out)).trans HK3.out
  have y0 : w9.cell? ⟨w.heap.size, 0, none⟩ = some (.int .i64 ym) := box_cell K1' 0
  have x0 : w9.cell? ⟨w1.heap.size, 0, none⟩ = some (.int .i64 xm) := box_cell K2' 0
  have z0 : w9.cell? ⟨w2.heap.size, 0, none⟩ = some (.int .i64 0) := box_cell K3' 0
  have z1 : w9.cell? ⟨w2.heap.size, 1, none⟩ = some (.string ⟨#[]⟩) := box_cell K3' 1
  have f0 : w9.frozen? ⟨w2.heap.size, 0, none⟩ = false := box_free K3' 0
  have f1 : w9.frozen? ⟨w2.heap.size, 1, none⟩ = false := box_free K3' 1
  have HB9 : Hid (Below w.heap.size w w9) := HB3.out.trans (b9.mono HB3.out.size)
  clear b9 K1' K2' K3' y1 x1 HX
  go_wp2_with fail
  refine bodyPost_ret (v := .agg #[.int .i64 ((ym ^^^ xm : Nat) : Int), .string (xorT yt xt)]) (by simp [results, Try.results57, go_sem, z0, z1]) rfl ⟨rfl, ?_⟩
  have := NE.out
  exact setB (setB HB9.out _ _ (by omega) _) _ _ (by omega) _
set_option maxHeartbeats 1000000 in
theorem hasP_any (z BM BB : Nat) (x : Pk) (b : Nat) (w : World) (hx : okP z x) (hb : b < 64) (hB1 : BM < w.heap.size) (hB2 : BB < w.heap.size) (h1 : w.cell? ⟨BM, 0, none⟩ = some (.func (.func 46) #[] #[])) (h2 : w.cell? ⟨BB, 0, none⟩ = some (.int .i64 b)) :
    Calls Try.prog 72 #[.agg #[.int .i64 x.ms, .string x.tx], .pointer (some ⟨BM, 0, none⟩), .pointer (some ⟨BB, 0, none⟩)] w fun e w' => e = .returned (.bool (hasP b x)) ∧ Below w.heap.size w w' := by
  obtain ⟨k, hk0, hk⟩ := hx.1.nat
  have hv : hasP b x = k.testBit b := by unfold hasP hasI; rw [hk0, Int.toNat_natCast]
  rw [hv, hk0]
  have HH := hid (fun v => hasBit_any k b (by omega) hb v)
  generalize x.tx = xt at *
  have HT := hid (fun v => maskOf_any (k : Int) xt v)
  generalize k.testBit b = r at *
  have gA := boxB w (.cells #[.int .i64 (k : Int), .string xt] 28)
  have kA := heap_last w (.cells #[.int .i64 (k : Int), .string xt] 28)
  generalize hW : w.alloc (.cells #[.int .i64 (k : Int), .string xt] 28) = w1 at *
  have BD : Below w1.heap.size w1 w1.drew := (Below.refl _ _).drew
  have HS : Hid (∀ v, Below w1.heap.size w1 v → v.cell? ⟨BM, 0, none⟩ = some (.func (.func 46) #[] #[]) ∧ v.cell? ⟨BB, 0, none⟩ = some (.int .i64 b) ∧ v.cell? ⟨w.heap.size, 0, none⟩ = some (.int .i64 (k : Int)) ∧ v.cell? ⟨w.heap.size, 1, none⟩ = some (.string xt)) := fun v g => by
    have e1 := gA.size
    have k9 := (g.block _ (kbox kA)).trans kA
    exact ⟨((g.cell (p := ⟨BM, 0, none⟩) (by show BM < _; omega)).trans (gA.cell (p := ⟨BM, 0, none⟩) hB1)).trans h1, ((g.cell (p := ⟨BB, 0, none⟩) (by show BB < _; omega)).trans (gA.cell (p := ⟨BB, 0, none⟩) hB2)).trans h2, box_cell k9 0, box_cell k9 1⟩
  have HG := hid gA
  clear hx hv h1 h2 gA kA hk0 hB1 hB2
  go_enter Try.func72, Try.ntmps72
  go_wp2_with fail
  obtain ⟨d0, d1, d2, d3⟩ := HS.out _ BD
  go_region_held (fun v => v.cell? ⟨BM, 0, none⟩ = some (.func (.func 46) #[] #[]) ∧ v.cell? ⟨BB, 0, none⟩ = some (.int .i64 b) ∧ v.cell? ⟨w.heap.size, 0, none⟩ = some (.int .i64 (k : Int)) ∧ v.cell? ⟨w.heap.size, 1, none⟩ = some (.string xt)) (first | exact HS.out _ (by with_reducible assumption)) (first | (go_at_call 46; refine (HT.out _).mono ?_; rintro e w9 ⟨rfl, b9⟩; have B9 : Below w1.heap.size w1 w9 := BD.trans (b9.mono BD.size)) | (go_at_call 64; refine (HH.out _).mono ?_; rintro e w8 ⟨rfl, hw8⟩; rw [hw8]; clear hw8))
  all_goals
    go_wp2_with fail
    go_ret
    exact ⟨rfl, HG.out.trans (B9.mono HG.out.size)⟩
/-- the first for which something is so, as a number -/
def ixG {α : Type} (p : α → Bool) (L : List α) : Int := if L.findIdx p < L.length then (L.findIdx p : Int) else -1
theorem ixG_yes {α : Type} {p : α → Bool} {L : List α} {k : Nat} (hk : k < L.length) (h1 : p L[k] = true) (h2 : ∀ j (hj : j < L.length), j < k → p L[j] = false) : ixG p L = (k : Int) := by
  have e : L.findIdx p = k := by
    rw [List.findIdx_eq hk]
    exact ⟨h1, fun j hj => h2 j (by omega) hj⟩
  unfold ixG
  rw [e, if_pos hk]
theorem ixG_no {α : Type} {p : α → Bool} {L : List α} (h : ∀ j (hj : j < L.length), p L[j] = false) : ixG p L = -1 := by
  have e : L.findIdx p = L.length := List.findIdx_eq_length.2 (fun x hx => by
    obtain ⟨i, hi, rfl⟩ := List.getElem_of_mem hx
    exact h i hi)
  unfold ixG
  rw [e, if_neg (Nat.lt_irrefl _)]
set_option maxHeartbeats 1000000 in
theorem indexP_has (BM BB : Nat) (a : Option Addr) (cap : Nat) (L : List Pk) (pr : Pk → Bool) (w : World) (hn : L.length ≤ 1048576) (hc : ∀ v (x : Pk), x ∈ L → Below w.heap.size w v → Calls Try.prog 72 #[.agg #[.int .i64 x.ms, .string x.tx], .pointer (some ⟨BM, 0, none⟩), .pointer (some ⟨BB, 0, none⟩)] v fun e w' => e = .returned (.bool (pr x)) ∧ Below v.heap.size v w') (hZ : Ps w.heap.size a L w) :
    Calls Try.prog 73 #[.slice a L.length cap, .func (.func 72) #[] #[.pointer (some ⟨BM, 0, none⟩), .pointer (some ⟨BB, 0, none⟩)]] w fun e w' => e = .returned (.int .i64 (ixG pr L)) ∧ Below w.heap.size w w' := by
  have HZ := hid hZ
  have HC := hid hc
  clear hZ hc
  go_enter Try.func73, Try.ntmps73
  go_wp2_with fail
  go_loopw [8] (fun i wr => ∃ k : Nat, k ≤ L.length ∧ i = .int .i64 k ∧ (∀ j (h : j < L.length), j < k → pr L[j] = false) ∧ Below w.heap.size w wr) (fun i _ => L.length - (ivl i).toNat)
  case atStart => exact ⟨0, Nat.zero_le _, rfl, (fun _ _ h => absurd h (Nat.not_lt_zero _)), Below.refl _ _⟩
  case round =>
    obtain ⟨k, hk, rfl, hall, hbel⟩ := hrel
    have HALL := hid hall
    have HBEL := hid hbel
    clear hall
    by_cases hlt : k < L.length
    · obtain ⟨b0, off, rfl, hb0, hc⟩ := HZ.out.cell (by omega)
      obtain ⟨c0, c1⟩ := hc k hlt
      have x0 := (hbel.cell (p := ⟨b0, off + k * 2, none⟩) hb0).trans c0
      have x1 := (hbel.cell (p := ⟨b0, off + k * 2 + 1, none⟩) hb0).trans c1
      have HCk := hid (HC.out wr L[k] (List.getElem_mem hlt) hbel)
      have HY : Hid (pr L[k] = true → ixG pr L = (k : Int)) := fun g => ixG_yes hlt g HALL.out
      have HN : Hid (pr L[k] = false → ∀ j (h : j < L.length), j < k + 1 → pr L[j] = false) := fun g j hj hjk => by
        by_cases e : j = k
        · subst e; exact g
        · exact HALL.out j hj (by omega)
      clear hc hbel HALL c0 c1
      generalize L[k] = m at *
      generalize pr m = x at *
      generalize m.ms = ms at *
      generalize m.tx = mt at *
      go_wp2_with fail
      refine HCk.out.mono ?_
      rintro e w2 ⟨rfl, g2⟩
      have HB2 : Hid (Below w.heap.size w w2) := HBEL.out.trans (g2.mono HBEL.out.size)
      clear g2 HCk
      cases x
      · go_wp2_with fail
        go_roundw
        case rel => exact ⟨k + 1, by omega, by go_num, HN.out (by first | rfl | trivial), HB2.out⟩
        case measure => simp [ivl]; omega
      · go_wp2_with fail
        go_ret
        exact ⟨ret_iv (HY.out (by first | rfl | trivial)).symm, HB2.out⟩
    · have HE : Hid (ixG pr L = -1) := ixG_no (fun j hj => HALL.out j hj (by omega))
      clear hbel
      go_wp2
      go_ret
      exact ⟨ret_iv HE.out.symm, HBEL.out⟩
set_option maxHeartbeats 1000000 in
theorem indexP_more (a : Option Addr) (cap : Nat) (L : List Pk) (pr : Pk → Bool) (w : World) (hn : L.length ≤ 1048576) (hc : ∀ v (x : Pk), x ∈ L → Below w.heap.size w v → Calls Try.prog 59 #[.agg #[.int .i64 x.ms, .string x.tx]] v fun e w' => e = .returned (.bool (pr x)) ∧ Below v.heap.size v w') (hZ : Ps w.heap.size a L w) :
    Calls Try.prog 73 #[.slice a L.length cap, .func (.func 59) #[] #[]] w fun e w' => e = .returned (.int .i64 (ixG pr L)) ∧ Below w.heap.size w w' := by
  have HZ := hid hZ
  have HC := hid hc
  clear hZ hc
  go_enter Try.func73, Try.ntmps73
  go_wp2_with fail
  go_loopw [8] (fun i wr => ∃ k : Nat, k ≤ L.length ∧ i = .int .i64 k ∧ (∀ j (h : j < L.length), j < k → pr L[j] = false) ∧ Below w.heap.size w wr) (fun i _ => L.length - (ivl i).toNat)
  case atStart => exact ⟨0, Nat.zero_le _, rfl, (fun _ _ h => absurd h (Nat.not_lt_zero _)), Below.refl _ _⟩
  case round =>
    obtain ⟨k, hk, rfl, hall, hbel⟩ := hrel
    have HALL := hid hall
    have HBEL := hid hbel
    clear hall
    by_cases hlt : k < L.length
    · obtain ⟨b0, off, rfl, hb0, hc⟩ := HZ.out.cell (by omega)
      obtain ⟨c0, c1⟩ := hc k hlt
      have x0 := (hbel.cell (p := ⟨b0, off + k * 2, none⟩) hb0).trans c0
      have x1 := (hbel.cell (p := ⟨b0, off + k * 2 + 1, none⟩) hb0).trans c1
      have HCk := hid (HC.out wr L[k] (List.getElem_mem hlt) hbel)
      have HY : Hid (pr L[k] = true → ixG pr L = (k : Int)) := fun g => ixG_yes hlt g HALL.out
      have HN : Hid (pr L[k] = false → ∀ j (h : j < L.length), j < k + 1 → pr L[j] = false) := fun g j hj hjk => by
        by_cases e : j = k
        · subst e; exact g
        · exact HALL.out j hj (by omega)
      clear hc hbel HALL c0 c1
      generalize L[k] = m at *
      generalize pr m = x at *
      generalize m.ms = ms at *
      generalize m.tx = mt at *
      go_wp2_with fail
      refine HCk.out.mono ?_
      rintro e w2 ⟨rfl, g2⟩
      have HB2 : Hid (Below w.heap.size w w2) := HBEL.out.trans (g2.mono HBEL.out.size)
      clear g2 HCk
      cases x
      · go_wp2_with fail
        go_roundw
        case rel => exact ⟨k + 1, by omega, by go_num, HN.out (by first | rfl | trivial), HB2.out⟩
        case measure => simp [ivl]; omega
      · go_wp2_with fail
        go_ret
        exact ⟨ret_iv (HY.out (by first | rfl | trivial)).symm, HB2.out⟩
    · have HE : Hid (ixG pr L = -1) := ixG_no (fun j hj => HALL.out j hj (by omega))
      clear hbel
      go_wp2
      go_ret
      exact ⟨ret_iv HE.out.symm, HBEL.out⟩
set_option maxHeartbeats 1000000 in
theorem cloneP_any (a : Option Addr) (cap : Nat) (L : List Pk) (w : World) (hn : L.length ≤ 1048576) (hZ : Ps w.heap.size a L w) :
    Calls Try.prog 71 #[.slice a L.length cap] w fun e w' => ∃ v, e = .returned v ∧ GL KP w.heap.size v L w' ∧ Below w.heap.size w w' := by
  cases a with
  | none =>
    have hL : L = [] := by
      cases L with
      | nil => rfl
      | cons x l => obtain ⟨b, off, e, -⟩ := hZ.cell (by simp); cases e
    subst hL
    clear hZ
    have hnl : ∀ W, (binOp .eql 36 (.slice none 0 cap) (.slice none 0 0)).run Try.prog W = .ok (.bool true) W := fun W => by simp [binOp, run_equal_slice_nil W 36 28 none 0 cap Try.underlying36]
    go_enter Try.func71, Try.ntmps71
    go_wp2_with fail
    go_ret
    exact ⟨_, rfl, GL.nil _ _ _, Below.refl _ _⟩
  | some ad =>
    have g0 := boxB w (.cells #[] 28)
    obtain ⟨v, w1, r0', o0, g1, -⟩ := (GL.lit KP w).app KP.ok g0.size (some ad) cap L ((hZ.below g0).mono g0.size) (by simp; omega)
    have r0 : ∀ ty, (Builtin.append_ #[36, 36] ty #[.slice (some ⟨w.heap.size, 0, none⟩) 0 0, .slice (some ad) L.length cap]).run Try.prog (w.alloc (.cells #[] 28)) = .ok v w1 := r0'
    have HO := hid o0
    have HB := hid (g0.trans g1)
    have hnl : ∀ W, (binOp .eql 36 (.slice (some ad) L.length cap) (.slice none 0 0)).run Try.prog W = .ok (.bool false) W := fun W => by simp [binOp, run_equal_slice_nil W 36 28 (some ad) L.length cap Try.underlying36]
    clear r0' o0 g1 hZ g0
    go_enter Try.func71, Try.ntmps71
    go_wp2_with (at_builtin; refine wpList_append_run rfl (.tmp 5) (.tmp 6) 36 rfl _ _ rfl rfl _ _ r0 ?_)
    go_ret
    exact ⟨_, rfl, HO.out, HB.out⟩
end Go.Proofs.Ytnjeeeccfhpolaa
