/- Truth values of one's own, in a block that holds nothing else; one appended. -/
import Derived.WalkKit
import Derived.ProofKit
import Derived.OpenShut
import Derived.ChangeOld
import Derived.Below
import Derived.Carry
import Derived.OpenVars
import Derived.Test.YtlbhfgcpflhccaaBut
import Derived.SizedLaws
import Derived.Test.YtlbhfgcpflhccaaChecked
import Derived.Test.YtlbhfgcpflhccaaR
import Derived.Test.YtlbhfgcpflhccaaTwo
import Derived.Laws.BytesArg
import Derived.Deep.RegionHeld
import Derived.Test.YtlbhfgcpflhccaaGRow
import Derived.Test.YtlbhfgcpflhccaaOut
import Derived.Test.YtlbhfgcpflhccaaVDo
import Derived.Test.YtlbhfgcpflhccaaIFold
import Derived.Test.YtlbhfgcpflhccaaIFk
import Derived.Test.YtlbhfgcpflhccaaIDo
import Derived.Test.YtlbhfgcpflhccaaVMark
import Derived.Test.YtlbhfgcpflhccaaVOpen
import Derived.Test.YtlbhfgcpflhccaaVApp
import Derived.Maps.AppendAt
namespace Go.Proofs.Ytlbhfgcpflhccaa
open Go Go.ChangeShapes Go.WideShapes Go.ChangeAt Go.RowKit
def paramsRowed (P : Program) (ts : List TypeId) : Bool := ts.all fun t => P.readableRec t && decide (t < P.types.size)
theorem below_all {H : Type} {enc : TypeId × Value → H} {P : Program} (hl : laidOutB P = true) {W W' : World} (hb : Below W.heap.size W W') :
    ∀ {ts : List TypeId} {vs : List Value} {ds : List (DataW H)} {ps : List MemPlace}, paramsRowed P ts = true → DataW.TrodAll enc P W 0 (fun _ => true) true ts vs ds ps →
      DataW.TrodAll enc P W' 0 (fun b => decide (b < W.heap.size)) true ts vs ds ps
  | [], [], [], _, _, h => h
  | [], [], _ :: _, _, _, h => h.elim
  | [], _ :: _, _, _, _, h => h.elim
  | _ :: _, [], _, _, _, h => h.elim
  | _ :: _, _ :: _, [], _, _, h => h.elim
  | t :: ts, v :: vs, d :: ds, ps, hp, h => by
    obtain ⟨p, q, h1, h2, e⟩ := h
    have hp' : (P.readableRec t && decide (t < P.types.size)) = true ∧ paramsRowed P ts = true := by
      unfold paramsRowed at hp ⊢
      rw [List.all_cons, Bool.and_eq_true] at hp
      exact hp
    obtain ⟨ha, hr⟩ := hp'
    rw [Bool.and_eq_true] at ha
    have hlt : ∀ x ∈ p, x.block < W.heap.size := by obtain ⟨m, hm⟩ := h1; exact DataW.trod_lt m _ _ _ hm
    exact ⟨p, q, Below.trod hl ha.1 (of_decide_eq_true ha.2) h1 hb hlt, below_all hl hb hr h2, e⟩
theorem law_post {H : Type} {enc : TypeId × Value → H} {P : Program} {f : Func} {s : ChangeSpec} {W W' : World} {args : Array Value} {ds gs : List (DataW H)} {before : List MemPlace}
    (hl : laidOutB P = true) (hp : paramsRowed P f.params.toList = true) (hv : varsRowed P s.vars = true)
    (hfn : s.fn H (ds ++ gs) = { results := [.lit (.bool true)], args := ds, vars := gs })
    (hres : DataW.TrodAll enc P W' W.heap.size (fun _ => false) false f.resultTypes.toList ((Value.bool true).resultList f.resultTypes.size) [.lit (.bool true)] [])
    (hW : DataW.Whole enc P f.params.toList s.vars false W args.toList ds gs before) (bel : Below W.heap.size W W') :
    s.post enc P f false true false false W args (.bool true) W' := by
  have hW' := hW
  obtain ⟨p, q, hA, hV, rfl, hfz, hnd⟩ := hW
  refine ⟨ds, gs, _, [], p, q, hW', ?_, ?_, ?_, bel.frame _, fun h => by cases h⟩
  · rw [hfn]; exact hres
  · rw [hfn]; exact below_all hl bel hp hA
  · rw [hfn]; exact Below.trodVars hl bel hv hV
end Go.Proofs.Ytlbhfgcpflhccaa
namespace Go.Proofs.Ytlbhfgcpflhccaa
open Go Go.ChangeShapes Go.WideShapes Go.ChangeAt Go.RowKit
theorem code_of {H : Type} {enc : TypeId × Value → H} {P : Program} {t : TypeId} (ht : P.underlying t = some (.slice 5)) (he : P.underlying 5 = some (.int .u8)) (hc : P.cellsOf 5 = 1)
    {W : World} {a : Option Addr} {len cap : Nat} {d : DataW H} {p : List MemPlace} (h : DataW.Trod enc P W 0 (fun _ => true) true t (.slice a len cap) d p) :
    (len = 0 ∨ ∃ zs : List Int, zs.length = cap ∧ len ≤ cap ∧ d = .slice (lits .u8 (zs.take len)) (lits .u8 (zs.drop len))) ∧ (len ≤ 1048576 → Code W.heap.size len cap a W) := by
  obtain ⟨fuel, hf⟩ := h
  rcases open_ints ht he hc hf with ⟨hcs, hx⟩ | ⟨x, l, c, zs, hcs, _, hl, hm, hz, hx, hcell, hwz⟩
  · simp [Value.cells] at hcs
    obtain ⟨rfl, rfl, rfl⟩ := hcs
    exact ⟨Or.inl rfl, fun _ => ⟨by omega, fun h0 => absurd h0 (Nat.lt_irrefl _)⟩⟩
  · simp [Value.cells] at hcs
    obtain ⟨rfl, rfl, rfl⟩ := hcs
    have hz' : zs.length = cap := by simpa using hz
    have hd : d = .slice (lits .u8 (zs.take len)) (lits .u8 (zs.drop len)) := congrArg Prod.fst hx
    refine ⟨Or.inr ⟨zs, hz', hl, hd⟩, fun hs => ⟨hs, fun h0 => ?_⟩⟩
    obtain ⟨b, off, rfl, hc2⟩ := ints_at hcell (by omega)
    refine ⟨b, off, rfl, World.block_lt_of_cell? _ _ (hc2 0 (by omega)), fun i hi => ?_⟩
    have hm2 : zs.getD i 0 ∈ zs := by
      rw [List.getD_eq_getElem?_getD, List.getElem?_eq_getElem (by omega)]
      exact List.getElem_mem _
    have hb := bounds_u8 (hwz _ hm2)
    exact ⟨zs.getD i 0, by omega, by omega, hc2 i (by omega)⟩
theorem code_len {H : Type} {P : Program} {ts : List TypeId} {ds : List (DataW H)} (h : (DataW.weightsEach P ts ds).all (· ≤ reachBytes) = true) {j : Nat} {t : TypeId} {len cap : Nat} {zs : List Int}
    (hz : zs.length = cap) (hl : len ≤ cap) (ht : ts[j]? = some t) (hd : ds[j]? = some (.slice (lits .u8 (zs.take len)) (lits .u8 (zs.drop len)))) (hu : P.underlying t = some (.slice 5)) (hb : P.bytesOf 5 = 1) : len ≤ 4611686018427387903 := by
  have := sized_slice h ht hd hu
  have hr := reachBytes_lt
  rw [hb] at this
  simp [lits] at this
  omega
end Go.Proofs.Ytlbhfgcpflhccaa
namespace Go.Proofs.Ytlbhfgcpflhccaa
set_option maxRecDepth 100000
open Go.ChangeShapes Go.WideShapes Go.ChangeAt Go.RowKit
theorem u64_ge (n : Int) : 0 ≤ IntKind.u64.wrap n := by rw [IntKind.wrap_u64]; omega
theorem u64_lt (n : Int) : IntKind.u64.wrap n < 18446744073709551616 := by rw [IntKind.wrap_u64]; omega
theorem and255 (x : Int) (h0 : 0 ≤ x) (h1 : x < 18446744073709551616) : 0 ≤ wrap64 (bits .and .u64 x 255) ∧ wrap64 (bits .and .u64 x 255) ≤ 255 := by
  obtain ⟨n, rfl⟩ := Int.eq_ofNat_of_zero_le h0
  rw [show (255 : Int) = ((255 : Nat) : Int) from rfl, u64_and_nat _ _ (by omega) (by decide), nat_mask8]
  unfold wrap64
  omega
set_option maxHeartbeats 1000000 in
theorem next_any (B N len cap : Nat) (a : Option Addr) (w : World) (hN : N ≤ 1000000) (hC : Cur B N (.slice a len cap) w) (hK : Code B len cap a w) :
    Calls Try.prog 65 #[.pointer (some ⟨B, 0, none⟩)] w fun e w' => ∃ v : Int, e = .returned (.int .i64 v) ∧ 0 ≤ v ∧ v ≤ 255 ∧ Cur B (N + 1) (.slice a len cap) w' ∧ But B w w' := by
  obtain ⟨p, p0, p1, hp⟩ := hC.place
  obtain ⟨s, s0, s1, hs⟩ := hC.seed
  have hc := hC.code
  have f1 := hC.free1
  have f2 := hC.free2
  have hsm := hK.small
  have HC : Hid (Cur B N (.slice a len cap) w) := hC
  have HS : Hid (s < 18446744073709551616) := s1
  by_cases hlt : p < len
  · obtain ⟨b, off, rfl, hb, hcells⟩ := hK.cell (by omega)
    obtain ⟨z, z0, z1, hz⟩ := hcells p.toNat (by omega)
    have hbB : b ≠ B := by omega
    clear hC hcells s1 hK
    go_enter Try.func65, Try.ntmps65
    go_wp2
    go_region
    go_wp2
    go_region
    go_wp2
    go_region
    go_wp2
    go_ret
    exact ⟨z, rfl, z0, by omega, ((HC.out.step p _ p0 p1 (u64_ge _) (u64_lt _)).drew.drew).drew, (((((But.refl _ _).setCell 1 _).setCell 2 _).drew).drew).drew⟩
  · have hd : decide (p < (len : Int)) = false := by simp; omega
    have he : decide (p + 1 ≤ (len : Int)) = false := by simp; omega
    clear hC hK s1
    go_enter Try.func65, Try.ntmps65
    go_wp2
    go_region
    go_wp2
    go_region
    go_wp2
    go_ret
    refine ⟨_, rfl, ?_, ?_, ((HC.out.step p _ p0 p1 (u64_ge _) (u64_lt _)).drew).drew, ((((But.refl _ _).setCell 1 _).setCell 2 _).drew).drew⟩
    · exact (and255 _ (by have := u64_ge (IntKind.u64.wrap (IntKind.u64.wrap (s * 6364136223846793005)) + 1442695040888963407); omega) (by have := u64_lt (IntKind.u64.wrap (IntKind.u64.wrap (s * 6364136223846793005)) + 1442695040888963407); omega)).1
    · exact (and255 _ (by have := u64_ge (IntKind.u64.wrap (IntKind.u64.wrap (s * 6364136223846793005)) + 1442695040888963407); omega) (by have := u64_lt (IntKind.u64.wrap (IntKind.u64.wrap (s * 6364136223846793005)) + 1442695040888963407); omega)).2
set_option maxHeartbeats 1000000 in
theorem pick_any (n : Int) (B N len cap : Nat) (a : Option Addr) (w : World) (n1 : 1 ≤ n) (n2 : n ≤ 100000) (hN : N ≤ 999998) (hC : Cur B N (.slice a len cap) w) (hK : Code B len cap a w) :
    Calls Try.prog 52 #[.pointer (some ⟨B, 0, none⟩), .int .i64 n] w fun e w' => ∃ v : Int, e = .returned (.int .i64 v) ∧ 0 ≤ v ∧ v < n ∧ Cur B (N + 2) (.slice a len cap) w' ∧ But B w w' := by
  by_cases h1 : n ≤ 1
  · have hd : decide (n ≤ 1) = true := by simpa using h1
    have HC : Hid (Cur B N (.slice a len cap) w) := hC
    clear hC hK
    go_enter Try.func52, Try.ntmps52
    go_wp2_with fail
    go_ret
    exact ⟨0, rfl, by omega, by omega, HC.out.mono (by omega), But.refl _ _⟩
  · have hd : decide (n ≤ 1) = false := by simpa using h1
    have hlt := hC.lt
    by_cases h2 : 200 < n
    · have he : decide (200 < n) = true := by simpa using h2
      have HC : Hid (Cur B N (.slice a len cap) w) := hC
      have HK : Hid (Code B len cap a w) := hK
      clear hC hK h1
      go_enter Try.func52, Try.ntmps52
      go_wp2_with fail
      refine (next_any B N len cap a _ (by omega) HC.out HK.out).mono ?_
      rintro e w1 ⟨v, rfl, v0, v1, hC1, hB1⟩
      have HC1 : Hid (Cur B (N + 1) (.slice a len cap) w1) := hC1
      have HB1 : Hid (But B w w1) := hB1
      clear hC1 hB1
      go_wp2_with fail
      refine (next_any B (N + 1) len cap a _ (by omega) HC1.out (HK.out.but HB1.out (Nat.le_refl _) (by omega))).mono ?_
      rintro e w2 ⟨u, rfl, u0, u1, hC2, hB2⟩
      have HC2 : Hid (Cur B (N + 1 + 1) (.slice a len cap) w2) := hC2
      have HB2 : Hid (But B w1 w2) := hB2
      clear hC2 hB2
      go_wp2
      go_ret
      exact ⟨_, rfl, Int.emod_nonneg _ (by omega), Int.emod_lt_of_pos _ (by omega), HC2.out, HB1.out.trans HB2.out⟩
    · have he : decide (200 < n) = false := by simpa using h2
      have HC : Hid (Cur B N (.slice a len cap) w) := hC
      have HK : Hid (Code B len cap a w) := hK
      clear hC hK
      go_enter Try.func52, Try.ntmps52
      go_wp2_with fail
      refine (next_any B N len cap a _ (by omega) HC.out HK.out).mono ?_
      rintro e w1 ⟨v, rfl, v0, v1, hC1, hB1⟩
      have HC1 : Hid (Cur B (N + 1) (.slice a len cap) w1) := hC1
      have HB1 : Hid (But B w w1) := hB1
      clear hC1 hB1
      go_wp2
      go_ret
      exact ⟨_, rfl, Int.emod_nonneg _ (by omega), Int.emod_lt_of_pos _ (by omega), HC1.out.mono (by omega), HB1.out⟩
set_option maxHeartbeats 1000000 in
theorem one_any (n : Int) (B N len cap : Nat) (a : Option Addr) (w : World) (n1 : 1 ≤ n) (n2 : n ≤ 100000) (hN : N ≤ 999998) (hC : Cur B N (.slice a len cap) w) (hK : Code B len cap a w) :
    Calls Try.prog 59 #[.pointer (some ⟨B, 0, none⟩), .int .i64 n] w fun e w' => ∃ v : Bool, e = .returned (.bool v) ∧ Cur B (N + 2) (.slice a len cap) w' ∧ But B w w' := by
  have HC : Hid (Cur B N (.slice a len cap) w) := hC
  have HK : Hid (Code B len cap a w) := hK
  clear hC hK
  go_enter Try.func59, Try.ntmps59
  go_wp2_with fail
  refine (pick_any _ B N len cap a _ n1 n2 hN HC.out HK.out).mono ?_
  rintro e w1 ⟨v, rfl, v0, v1, hC1, hB1⟩
  have HR : Hid (Cur B (N + 2) (.slice a len cap) w1 ∧ But B w w1) := ⟨hC1, hB1⟩
  clear hC1 hB1
  go_wp2
  go_ret
  exact ⟨_, rfl, HR.out.1, HR.out.2⟩
set_option maxHeartbeats 1000000 in
theorem among_any (zs : List Int) (kz L B N len cap c : Nat) (a : Option Addr) (w : World) (hkz : zs.length = kz) (z1 : 1 ≤ zs.length) (z2 : zs.length ≤ 1000) (hL : L < w.heap.size) (hLB : L ≠ B)
    (hz : ∀ i, i < zs.length → w.cell? ⟨L, i, none⟩ = some (.int .i64 (zs.getD i 0))) (hN : N ≤ 999998) (hC : Cur B N (.slice a len cap) w) (hK : Code B len cap a w) :
    Calls Try.prog 63 #[.pointer (some ⟨B, 0, none⟩), .slice (some ⟨L, 0, none⟩) kz c] w fun e w' => ∃ i : Nat, i < zs.length ∧ e = .returned (.int .i64 (zs.getD i 0)) ∧ Cur B (N + 2) (.slice a len cap) w' ∧ But B w w' := by
  subst hkz
  have HC : Hid (Cur B N (.slice a len cap) w) := hC
  have HK : Hid (Code B len cap a w) := hK
  have HZ : Hid (∀ i, i < zs.length → w.cell? ⟨L, i, none⟩ = some (.int .i64 (zs.getD i 0))) := hz
  clear hC hK hz
  go_enter Try.func63, Try.ntmps63
  go_wp2_with fail
  refine (pick_any _ B N len cap a _ (by omega) (by omega) hN HC.out HK.out).mono ?_
  rintro e w1 ⟨v, rfl, v0, v1, hC1, hB1⟩
  have hcell : w1.cell? ⟨L, v.toNat, none⟩ = some (.int .i64 (zs.getD v.toNat 0)) := (hB1.cell L v.toNat hL hLB).trans (HZ.out v.toNat (by omega))
  have HR : Hid (Cur B (N + 2) (.slice a len cap) w1 ∧ But B w w1) := ⟨hC1, hB1⟩
  have hvl : v.toNat < zs.length := by omega
  clear hC1 hB1
  generalize hzv : zs.getD v.toNat 0 = z at hcell
  have HZV : Hid (zs.getD v.toNat 0 = z) := hzv
  clear hzv
  go_wp2
  go_ret
  exact ⟨v.toNat, hvl, by rw [HZV.out]; rfl, HR.out.1, HR.out.2⟩
theorem lits_at (zs : List Int) (w : World) (i : Nat) (h : i < zs.length) : (w.alloc (.cells (zs.map (Value.int .i64)).toArray 3)).cell? ⟨w.heap.size, i, none⟩ = some (.int .i64 (zs.getD i 0)) := by
  rw [World.cell?_alloc_new]
  simp [h]
end Go.Proofs.Ytlbhfgcpflhccaa
namespace Go.Proofs.Ytlbhfgcpflhccaa
set_option maxRecDepth 100000
open Go.ChangeShapes Go.WideShapes Go.ChangeAt Go.RowKit G00541
/-- while a record is drawn: the cursor at B; the answer's place at X, all zero; the record at Y -/
structure Dr (w : World) (B N X Y len cap : Nat) (a : Option Addr) (k p n : Int) (D : ByteArray) (v : World) : Prop where
  cur : Cur B N (.slice a len cap) v
  code : Code B len cap a v
  z0 : v.cell? ⟨X, 0, none⟩ = some (.int .i64 0)
  z1 : v.cell? ⟨X, 1, none⟩ = some (.int .i64 0)
  z2 : v.cell? ⟨X, 2, none⟩ = some (.int .i64 0)
  z3 : v.cell? ⟨X, 3, none⟩ = some (.string ⟨#[]⟩)
  f0 : v.frozen? ⟨X, 0, none⟩ = false
  f1 : v.frozen? ⟨X, 1, none⟩ = false
  f2 : v.frozen? ⟨X, 2, none⟩ = false
  f3 : v.frozen? ⟨X, 3, none⟩ = false
  c0 : v.cell? ⟨Y, 0, none⟩ = some (.int .i64 k)
  c1 : v.cell? ⟨Y, 1, none⟩ = some (.int .i64 p)
  c2 : v.cell? ⟨Y, 2, none⟩ = some (.int .i64 n)
  c3 : v.cell? ⟨Y, 3, none⟩ = some (.string D)
  g0 : v.frozen? ⟨Y, 0, none⟩ = false
  g1 : v.frozen? ⟨Y, 1, none⟩ = false
  g2 : v.frozen? ⟨Y, 2, none⟩ = false
  g3 : v.frozen? ⟨Y, 3, none⟩ = false
  but : But B w v
  bx : w.heap.size ≤ X
  bY : w.heap.size ≤ Y
  ne : X ≠ Y
  bB : B < w.heap.size
  lx : X < v.heap.size
  ly : Y < v.heap.size
section
variable {w : World} {B N X Y len cap : Nat} {a : Option Addr} {k p n : Int} {D : ByteArray} {v : World}
theorem Dr.step {v' : World} {N' : Nat} (h : Dr w B N X Y len cap a k p n D v) (hC : Cur B N' (.slice a len cap) v') (g : But B v v') : Dr w B N' X Y len cap a k p n D v' := by
  have hX : X ≠ B := by have := h.bx; have := h.bB; omega
  have hY : Y ≠ B := by have := h.bY; have := h.bB; omega
  have x := fun i => g.cell X i h.lx hX
  have y := fun i => g.cell Y i h.ly hY
  have fx := fun i => g.frozen X i h.lx hX
  have fy := fun i => g.frozen Y i h.ly hY
  exact ⟨hC, h.code.but g (Nat.le_refl _) (by have := h.bx; have := h.bB; have := h.lx; omega), (x 0).trans h.z0, (x 1).trans h.z1, (x 2).trans h.z2, (x 3).trans h.z3, (fx 0).trans h.f0, (fx 1).trans h.f1, (fx 2).trans h.f2, (fx 3).trans h.f3,
    (y 0).trans h.c0, (y 1).trans h.c1, (y 2).trans h.c2, (y 3).trans h.c3, (fy 0).trans h.g0, (fy 1).trans h.g1, (fy 2).trans h.g2, (fy 3).trans h.g3, h.but.trans g, h.bx, h.bY, h.ne, h.bB, Nat.lt_of_lt_of_le h.lx g.size, Nat.lt_of_lt_of_le h.ly g.size⟩
theorem Dr.alloc (h : Dr w B N X Y len cap a k p n D v) (o : Obj) : Dr w B N X Y len cap a k p n D (v.alloc o) := h.step (h.cur.alloc o) ((But.refl B v).alloc o)
theorem Dr.drew (h : Dr w B N X Y len cap a k p n D v) : Dr w B N X Y len cap a k p n D v.drew := h.step h.cur.drew (But.refl B v).drew
theorem Dr.setY (h : Dr w B N X Y len cap a k p n D v) (i : Nat) (u : Value) {k' p' n' : Int} {D' : ByteArray}
    (h0 : (v.setCell ⟨Y, i, none⟩ u).cell? ⟨Y, 0, none⟩ = some (.int .i64 k')) (h1 : (v.setCell ⟨Y, i, none⟩ u).cell? ⟨Y, 1, none⟩ = some (.int .i64 p')) (h2 : (v.setCell ⟨Y, i, none⟩ u).cell? ⟨Y, 2, none⟩ = some (.int .i64 n')) (h3 : (v.setCell ⟨Y, i, none⟩ u).cell? ⟨Y, 3, none⟩ = some (.string D')) :
    Dr w B N X Y len cap a k' p' n' D' (v.setCell ⟨Y, i, none⟩ u) := by
  have g : But Y v (v.setCell ⟨Y, i, none⟩ u) := (But.refl Y v).setCell i u
  have hY : Y ≠ B := by have := h.bY; have := h.bB; omega
  have x := fun j => g.cell X j h.lx h.ne
  have fx := fun j => g.frozen X j h.lx h.ne
  have fy : ∀ j, (v.setCell ⟨Y, i, none⟩ u).frozen? ⟨Y, j, none⟩ = v.frozen? ⟨Y, j, none⟩ := fun j => World.frozen?_setCell ..
  exact ⟨h.cur.setOther hY i u, h.code.but g (by have := h.bY; have := h.bB; omega) (by have := h.bx; have := h.bB; have := h.lx; omega), (x 0).trans h.z0, (x 1).trans h.z1, (x 2).trans h.z2, (x 3).trans h.z3, (fx 0).trans h.f0, (fx 1).trans h.f1, (fx 2).trans h.f2, (fx 3).trans h.f3,
    h0, h1, h2, h3, (fy 0).trans h.g0, (fy 1).trans h.g1, (fy 2).trans h.g2, (fy 3).trans h.g3, h.but.setNew h.bY i u, h.bx, h.bY, h.ne, h.bB, Nat.lt_of_lt_of_le h.lx g.size, Nat.lt_of_lt_of_le h.ly g.size⟩
theorem ne_off {Y i j : Nat} (h : i ≠ j) : (⟨Y, i, none⟩ : Addr) ≠ ⟨Y, j, none⟩ := fun e => h (congrArg Addr.off e)
theorem Dr.setK (h : Dr w B N X Y len cap a k p n D v) (k' : Int) : Dr w B N X Y len cap a k' p n D (v.setCell ⟨Y, 0, none⟩ (.int .i64 k')) :=
  h.setY 0 _ (World.cell?_setCell_same _ _ _ h.c0) ((World.cell?_setCell_other _ _ _ _ (ne_off (by decide))).trans h.c1) ((World.cell?_setCell_other _ _ _ _ (ne_off (by decide))).trans h.c2) ((World.cell?_setCell_other _ _ _ _ (ne_off (by decide))).trans h.c3)
theorem Dr.setP (h : Dr w B N X Y len cap a k p n D v) (p' : Int) : Dr w B N X Y len cap a k p' n D (v.setCell ⟨Y, 1, none⟩ (.int .i64 p')) :=
  h.setY 1 _ ((World.cell?_setCell_other _ _ _ _ (ne_off (by decide))).trans h.c0) (World.cell?_setCell_same _ _ _ h.c1) ((World.cell?_setCell_other _ _ _ _ (ne_off (by decide))).trans h.c2) ((World.cell?_setCell_other _ _ _ _ (ne_off (by decide))).trans h.c3)
theorem Dr.setN (h : Dr w B N X Y len cap a k p n D v) (n' : Int) : Dr w B N X Y len cap a k p n' D (v.setCell ⟨Y, 2, none⟩ (.int .i64 n')) :=
  h.setY 2 _ ((World.cell?_setCell_other _ _ _ _ (ne_off (by decide))).trans h.c0) ((World.cell?_setCell_other _ _ _ _ (ne_off (by decide))).trans h.c1) (World.cell?_setCell_same _ _ _ h.c2) ((World.cell?_setCell_other _ _ _ _ (ne_off (by decide))).trans h.c3)
theorem Dr.setD (h : Dr w B N X Y len cap a k p n D v) (D' : ByteArray) : Dr w B N X Y len cap a k p n D' (v.setCell ⟨Y, 3, none⟩ (.string D')) :=
  h.setY 3 _ ((World.cell?_setCell_other _ _ _ _ (ne_off (by decide))).trans h.c0) ((World.cell?_setCell_other _ _ _ _ (ne_off (by decide))).trans h.c1) ((World.cell?_setCell_other _ _ _ _ (ne_off (by decide))).trans h.c2) (World.cell?_setCell_same _ _ _ h.c3)
theorem Dr.cast {N' : Nat} (e : N = N') (h : Dr w B N X Y len cap a k p n D v) : Dr w B N' X Y len cap a k p n D v := e ▸ h
/-- the answer is laid into its place -/
theorem Dr.fin (h : Dr w B N X Y len cap a k p n D v) {u0 u1 u2 u3 : Value} :
    Cur B N (.slice a len cap) ((((v.setCell ⟨X, 0, none⟩ u0).setCell ⟨X, 1, none⟩ u1).setCell ⟨X, 2, none⟩ u2).setCell ⟨X, 3, none⟩ u3) ∧ But B w ((((v.setCell ⟨X, 0, none⟩ u0).setCell ⟨X, 1, none⟩ u1).setCell ⟨X, 2, none⟩ u2).setCell ⟨X, 3, none⟩ u3) := by
  have hX : X ≠ B := by have := h.bx; have := h.bB; omega
  exact ⟨(((h.cur.setOther hX _ _).setOther hX _ _).setOther hX _ _).setOther hX _ _, (((h.but.setNew h.bx _ _).setNew h.bx _ _).setNew h.bx _ _).setNew h.bx _ _⟩
end
theorem bytes_two (w : World) (x y : Int) : Sem.run Try.prog (convert 22 9 (.slice (some ⟨w.heap.size, 0, none⟩) 2 2)) (w.alloc (.cells #[.int .u8 x, .int .u8 y] 5)) =
    .ok (.string (strOfNums [x, y])) (w.alloc (.cells #[.int .u8 x, .int .u8 y] 5)) :=
  run_convert_bytes_arg (w.alloc (.cells #[.int .u8 x, .int .u8 y] 5)) 22 5 Try.underlying22 Try.underlying5 w.heap.size 0 2 2 [x, y] rfl (fun i hi => by
    rcases (by omega : i = 0 ∨ i = 1) with rfl | rfl
    · go_simp
    · go_simp) 9 Try.underlying9
theorem size_two (x y : Int) : (strOfNums [x, y]).size = 2 := strOfNums_size _
theorem rv_eq (k p n : Int) (D : ByteArray) : Value.agg #[.int .i64 k, .int .i64 p, .int .i64 n, .string D] = rval ⟨k, p, n, D.data.toList⟩ := by unfold rval; rw [str_back]
theorem len_le {D : ByteArray} (h : D.size ≤ 8) : D.data.toList.length ≤ 9 := by rw [bytes_size]; omega
theorem len_le1 {D : ByteArray} (h : D.size ≤ 8) : (D ++ ⟨#[120]⟩ : ByteArray).data.toList.length ≤ 9 := by
  rw [bytes_size, ByteArray.size_append]
  show D.size + 1 ≤ 9
  omega
set_option maxHeartbeats 4000000 in
theorem record_any (B N len cap : Nat) (a : Option Addr) (w : World) (hN : N ≤ 900000) (hC : Cur B N (.slice a len cap) w) (hK : Code B len cap a w) :
    Calls Try.prog 64 #[.pointer (some ⟨B, 0, none⟩)] w fun e w' => ∃ r : Rc, e = .returned (rval r) ∧ r.data.length ≤ 9 ∧ Cur B (N + 40) (.slice a len cap) w' ∧ But B w w' := by
  have hlt := hC.lt
  have HC : Hid (∀ o1 o2, Cur B N (.slice a len cap) ((w.alloc o1).alloc o2)) := fun o1 o2 => (hC.alloc o1).alloc o2
  have HK : Hid (∀ o1 o2, Code B len cap a ((w.alloc o1).alloc o2)) := fun o1 o2 => hK.but (((But.refl B w).alloc o1).alloc o2) (Nat.le_refl _) (Nat.le_of_lt hC.lt)
  clear hC hK
  go_enter Try.func64, Try.ntmps64
  go_wp2_with fail
  refine (among_any [1, 1, 1, 2, 3] 5 (w.heap.size + 1) B N len cap 5 a _ rfl (by decide) (by decide) (by simp) (by omega) (fun i hi => by have := lits_at [1, 1, 1, 2, 3] (w.alloc (.cells #[.int .i64 0, .int .i64 0, .int .i64 0, .string ⟨#[]⟩] 37)) i hi; rw [heap_size] at this; exact this) (by omega) (HC.out _ _) (HK.out _ _)).mono ?_
  rintro e w1 ⟨i, hi, rfl, hC1, hB1⟩
  generalize ([1, 1, 1, 2, 3] : List Int).getD i 0 = rk at *
  have hs1 := hB1.size
  rw [heap_size, heap_size] at hs1
  have HC1 : Hid (Cur B (N + 2) (.slice a len cap) w1) := hC1
  have HB1 : Hid (But B (w.alloc (.cells #[.int .i64 0, .int .i64 0, .int .i64 0, .string ⟨#[]⟩] 37)) w1) := ((But.refl B _).alloc _).trans hB1
  have HK1 : Hid (Code B len cap a w1) := (HK.out _ _).but hB1 (Nat.le_refl _) (by rw [heap_size, heap_size]; omega)
  clear hC1 hB1 HC HK hi
  go_wp2_with fail
  refine (pick_any _ B _ len cap a _ (by omega) (by omega) (by omega) HC1.out HK1.out).mono ?_
  rintro e w2 ⟨rp, rfl, p0, p1, hC2, hB2⟩
  have hs2 := hB2.size
  have HC2 : Hid (Cur B (N + 2 + 2) (.slice a len cap) w2) := hC2
  have HB2 : Hid (But B (w.alloc (.cells #[.int .i64 0, .int .i64 0, .int .i64 0, .string ⟨#[]⟩] 37)) w2) := HB1.out.trans hB2
  have HK2 : Hid (Code B len cap a w2) := HK1.out.but hB2 (Nat.le_refl _) (by omega)
  clear hC2 hB2 HC1 HB1 HK1
  go_wp2_with fail
  refine (pick_any _ B _ len cap a _ (by omega) (by omega) (by omega) HC2.out HK2.out).mono ?_
  rintro e w3 ⟨m, rfl, m0, m1, hC3, hB3⟩
  have hs3 := hB3.size
  obtain ⟨n, rfl⟩ : ∃ n : Nat, m = (n : Int) := ⟨m.toNat, by omega⟩
  have hn4 : n ≤ 3 := by omega
  have HDA : Hid (∀ k' n' : Int, Dr w B (N + 2 + 2 + 2) w.heap.size w3.heap.size len cap a k' rp n' ⟨#[]⟩ (w3.alloc (.cells #[.int .i64 k', .int .i64 rp, .int .i64 n', .string ⟨#[]⟩] 37))) := by
    intro k' n'
    have hb := HB2.out.trans hB3
    have x := fun i => hb.cell w.heap.size i (by simp) (by omega)
    have fx := fun i => hb.frozen w.heap.size i (by simp) (by omega)
    have bb : But B w w3 := ((But.refl B w).alloc _).trans hb
    have go : ∀ j, (w3.alloc (.cells #[.int .i64 k', .int .i64 rp, .int .i64 n', .string ⟨#[]⟩] 37)).cell? ⟨w.heap.size, j, none⟩ = w3.cell? ⟨w.heap.size, j, none⟩ := fun j => World.cell?_alloc_lt _ _ _ (by show w.heap.size < w3.heap.size; omega)
    have gf : ∀ j, (w3.alloc (.cells #[.int .i64 k', .int .i64 rp, .int .i64 n', .string ⟨#[]⟩] 37)).frozen? ⟨w.heap.size, j, none⟩ = w3.frozen? ⟨w.heap.size, j, none⟩ := fun j => ((But.refl B w3).alloc _).frozen _ _ (by omega) (by omega)
    refine ⟨hC3.alloc _, (HK2.out.but hB3 (Nat.le_refl _) (by omega)).but ((But.refl B _).alloc _) (Nat.le_refl _) (by omega), ((go 0).trans (x 0)).trans (by go_simp), ((go 1).trans (x 1)).trans (by go_simp), ((go 2).trans (x 2)).trans (by go_simp), ((go 3).trans (x 3)).trans (by go_simp), ((gf 0).trans (fx 0)).trans (by go_simp), ((gf 1).trans (fx 1)).trans (by go_simp), ((gf 2).trans (fx 2)).trans (by go_simp), ((gf 3).trans (fx 3)).trans (by go_simp), by go_simp, by go_simp, by go_simp, by go_simp, by go_simp, by go_simp, by go_simp, by go_simp, bb.alloc _, Nat.le_refl _, by omega, by omega, hlt, by rw [heap_size]; omega, by rw [heap_size]; omega⟩
  have HD0 : Hid (Dr w B (N + 2 + 2 + 2) w.heap.size w3.heap.size len cap a rk rp (1 + (n : Int)) ⟨#[]⟩ (w3.alloc (.cells #[.int .i64 rk, .int .i64 rp, .int .i64 (1 + (n : Int)), .string ⟨#[]⟩] 37))) := HDA.out rk _
  have HD3 : Hid (Dr w B (N + 2 + 2 + 2) w.heap.size w3.heap.size len cap a 3 rp 0 ⟨#[]⟩ (w3.alloc (.cells #[.int .i64 3, .int .i64 rp, .int .i64 0, .string ⟨#[]⟩] 37))) := HDA.out 3 0
  clear HDA
  clear hC3 hB3 HC2 HB2 HK2
  by_cases k1 : rk = 1
  · subst k1
    go_wp2_with fail
    go_loopw [4] (fun i wr => ∃ (j : Nat) (D : ByteArray), j ≤ 1 + n ∧ i = .int .i64 j ∧ D.size = 2 * j ∧ Dr w B (N + 6 + 4 * j) w.heap.size w3.heap.size len cap a 1 rp (1 + (n : Int)) D wr) (fun i _ => 1 + n - (intOf i).toNat)
    case atStart => exact ⟨0, ⟨#[]⟩, by omega, rfl, rfl, HD0.out⟩
    case round =>
      obtain ⟨j, D, hj, rfl, hDs, hd⟩ := hrel
      have HD : Hid (Dr w B (N + 6 + 4 * j) w.heap.size w3.heap.size len cap a 1 rp (1 + (n : Int)) D wr) := hd
      obtain ⟨_, _, _, _, _, _, _, _, _, _, c0, c1, c2, c3, g0, g1, g2, g3, _, _, _, _, _, _, hly⟩ := hd
      have hDs' : D.size ≤ 8 := by omega
      have HDS : Hid (D.size = 2 * j) := hDs
      clear hDs
      by_cases hlt2 : j < 1 + n
      · have hdl : decide ((j : Int) < 1 + (n : Int)) = true := by simp; omega
        have hcv := bytes_two
        have hsz := size_two
        go_wp2_with fail
        go_region_with (first
          | (go_at_call 52
             refine (pick_any _ B _ len cap a _ (by omega) (by omega) (by omega) HD8.out.cur HD8.out.code).mono ?_
             rintro e w9 ⟨v9, rfl, va9, vb9, hC9, hB9⟩
             have HD9 : Hid (Dr w B (N + 6 + 4 * j + 2 + 2) w.heap.size w3.heap.size len cap a 1 rp (1 + (n : Int)) D w9) := HD8.out.step hC9 hB9
             have x9 := HD9.out.c3
             have y9 := HD9.out.g3
             have l9 := HD9.out.ly
             clear hC9 hB9)
          | (go_at_call 52
             refine (pick_any _ B _ len cap a _ (by omega) (by omega) (by omega) HD.out.drew.cur HD.out.drew.code).mono ?_
             rintro e w8 ⟨v8, rfl, va8, vb8, hC8, hB8⟩
             have HD8 : Hid (Dr w B (N + 6 + 4 * j + 2) w.heap.size w3.heap.size len cap a 1 rp (1 + (n : Int)) D w8) := HD.out.drew.step hC8 hB8
             have x8 := HD8.out.c3
             have y8 := HD8.out.g3
             clear hC8 hB8))
        all_goals
          go_wp2_with fail
          go_roundw
          · refine ⟨j + 1, _, by omega, by go_num, ?_, Dr.cast (N := N + 6 + 4 * j + 2 + 2) (by omega) (by first | exact (HD9.out.alloc _).setD _ | exact (HD9.out.setD _).alloc _)⟩
            rw [ByteArray.size_append, size_two, HDS.out]; omega
          · simp [intOf]; omega
      · have hdl : decide ((j : Int) < 1 + (n : Int)) = false := by simp; omega
        have hNj : N + 6 + 4 * j ≤ N + 22 := by omega
        clear c0 c1 c3 g0 g1 g2 g3
        go_wp2_with fail
        refine (pick_any _ B (N + 6 + 4 * j) len cap a _ (by omega) (by omega) (by omega) HD.out.cur HD.out.code).mono ?_
        rintro e w7 ⟨q, rfl, q0, q1, hC7, hB7⟩
        have HD7 : Hid (Dr w B ((N + 6 + 4 * j) + 2) w.heap.size w3.heap.size len cap a 1 rp (1 + (n : Int)) D w7) := HD.out.step hC7 hB7
        clear hC7 hB7 HD
        by_cases e0 : q = 0
        · subst e0
          go_wp2_with fail
          refine (among_any [-1, 15, 200, 201] 4 w7.heap.size B _ len cap 4 a _ rfl (by decide) (by decide) (by simp) (by have := HD7.out.lx; have := HD7.out.bx; have := HD7.out.bB; omega) (fun i hi => lits_at [-1, 15, 200, 201] w7 i hi) (by omega) (HD7.out.alloc _).cur (HD7.out.alloc _).code).mono ?_
          rintro e w8 ⟨i, hi, rfl, hC8, hB8⟩
          generalize ([-1, 15, 200, 201] : List Int).getD i 0 = m at *
          have HD8 : Hid (Dr w B ((N + 6 + 4 * j) + 2 + 2) w.heap.size w3.heap.size len cap a 1 rp (1 + (n : Int)) D w8) := (HD7.out.alloc _).step hC8 hB8
          clear hC8 hB8 HD7
          obtain ⟨_, _, z0, z1, z2, z3, f0, f1, f2, f3, c0, c1, c2, c3, g0, g1, g2, g3, _, hbx, hby, hne, hbB, hlx, hly⟩ := HD8.out
          have hne2 : w3.heap.size ≠ w.heap.size := fun h => hne h.symm
          go_wp2
          refine bodyPost_ret (v := .agg #[.int .i64 1, .int .i64 m, .int .i64 (1 + (n : Int)), .string D]) (by simp [results, Try.results64, go_sem, z0, z1, z2, z3]) rfl ⟨⟨1, m, (1 + (n : Int)), D.data.toList⟩, congrArg Ending.returned (rv_eq _ _ _ _), len_le hDs', (HD8.out.setP m).fin.1.mono (by omega), (HD8.out.setP m).fin.2⟩
        by_cases e1 : q = 1
        · subst e1
          go_wp2_with fail
          refine (pick_any _ B _ len cap a _ (by omega) (by omega) (by omega) HD7.out.cur HD7.out.code).mono ?_
          rintro e w8 ⟨m, rfl, m0, m1, hC8, hB8⟩
          have HD8 : Hid (Dr w B ((N + 6 + 4 * j) + 2 + 2) w.heap.size w3.heap.size len cap a 1 rp (1 + (n : Int)) D w8) := HD7.out.step hC8 hB8
          clear hC8 hB8 HD7
          obtain ⟨_, _, z0, z1, z2, z3, f0, f1, f2, f3, c0, c1, c2, c3, g0, g1, g2, g3, _, hbx, hby, hne, hbB, hlx, hly⟩ := HD8.out
          have hne2 : w3.heap.size ≠ w.heap.size := fun h => hne h.symm
          go_wp2
          refine bodyPost_ret (v := .agg #[.int .i64 m, .int .i64 rp, .int .i64 (1 + (n : Int)), .string D]) (by simp [results, Try.results64, go_sem, z0, z1, z2, z3]) rfl ⟨⟨m, rp, (1 + (n : Int)), D.data.toList⟩, congrArg Ending.returned (rv_eq _ _ _ _), len_le hDs', (HD8.out.setK m).fin.1.mono (by omega), (HD8.out.setK m).fin.2⟩
        have d0 : (q == 0) = false := by rw [beq_eq_false_iff_ne]; exact e0
        have d1 : (q == 1) = false := by rw [beq_eq_false_iff_ne]; exact e1
        obtain ⟨_, _, z0, z1, z2, z3, f0, f1, f2, f3, c0, c1, c2, c3, g0, g1, g2, g3, _, hbx, hby, hne, hbB, hlx, hly⟩ := HD7.out
        have hne2 : w3.heap.size ≠ w.heap.size := fun h => hne h.symm
        by_cases e2 : q = 2
        · subst e2
          have hxs : (⟨#[120]⟩ : ByteArray).size = 1 := rfl
          go_wp2
          refine bodyPost_ret (v := .agg #[.int .i64 1, .int .i64 rp, .int .i64 (1 + (n : Int)), .string (D ++ ⟨#[120]⟩)]) (by simp [results, Try.results64, go_sem, z0, z1, z2, z3]) rfl ⟨⟨1, rp, (1 + (n : Int)), (D ++ ⟨#[120]⟩ : ByteArray).data.toList⟩, congrArg Ending.returned (rv_eq _ _ _ _), len_le1 hDs', (HD7.out.setD _).fin.1.mono (by omega), (HD7.out.setD _).fin.2⟩
        · have d2 : (q == 2) = false := by rw [beq_eq_false_iff_ne]; exact e2
          go_wp2
          refine bodyPost_ret (v := .agg #[.int .i64 1, .int .i64 rp, .int .i64 (1 + (n : Int)), .string D]) (by simp [results, Try.results64, go_sem, z0, z1, z2, z3]) rfl ⟨⟨1, rp, (1 + (n : Int)), D.data.toList⟩, congrArg Ending.returned (rv_eq _ _ _ _), len_le hDs', HD7.out.fin.1.mono (by omega), HD7.out.fin.2⟩
  by_cases k3 : rk = 3
  · subst k3
    have HD : Hid (Dr w B (N + 2 + 2 + 2) w.heap.size w3.heap.size len cap a 3 rp 0 ⟨#[]⟩ (w3.alloc (.cells #[.int .i64 3, .int .i64 rp, .int .i64 0, .string ⟨#[]⟩] 37))) := HD3
    have hDs' : (⟨#[]⟩ : ByteArray).size ≤ 8 := by decide
    clear HD0 HD3
    go_wp2_with fail
    refine (pick_any _ B (N + 2 + 2 + 2) len cap a _ (by omega) (by omega) (by omega) HD.out.cur HD.out.code).mono ?_
    rintro e w7 ⟨q, rfl, q0, q1, hC7, hB7⟩
    have HD7 : Hid (Dr w B ((N + 2 + 2 + 2) + 2) w.heap.size w3.heap.size len cap a 3 rp 0 (⟨#[]⟩ : ByteArray) w7) := HD.out.step hC7 hB7
    clear hC7 hB7 HD
    by_cases e0 : q = 0
    · subst e0
      go_wp2_with fail
      refine (among_any [-1, 15, 200, 201] 4 w7.heap.size B _ len cap 4 a _ rfl (by decide) (by decide) (by simp) (by have := HD7.out.lx; have := HD7.out.bx; have := HD7.out.bB; omega) (fun i hi => lits_at [-1, 15, 200, 201] w7 i hi) (by omega) (HD7.out.alloc _).cur (HD7.out.alloc _).code).mono ?_
      rintro e w8 ⟨i, hi, rfl, hC8, hB8⟩
      generalize ([-1, 15, 200, 201] : List Int).getD i 0 = m at *
      have HD8 : Hid (Dr w B ((N + 2 + 2 + 2) + 2 + 2) w.heap.size w3.heap.size len cap a 3 rp 0 (⟨#[]⟩ : ByteArray) w8) := (HD7.out.alloc _).step hC8 hB8
      clear hC8 hB8 HD7
      obtain ⟨_, _, z0, z1, z2, z3, f0, f1, f2, f3, c0, c1, c2, c3, g0, g1, g2, g3, _, hbx, hby, hne, hbB, hlx, hly⟩ := HD8.out
      have hne2 : w3.heap.size ≠ w.heap.size := fun h => hne h.symm
      go_wp2
      refine bodyPost_ret (v := .agg #[.int .i64 3, .int .i64 m, .int .i64 0, .string (⟨#[]⟩ : ByteArray)]) (by simp [results, Try.results64, go_sem, z0, z1, z2, z3]) rfl ⟨⟨3, m, 0, (⟨#[]⟩ : ByteArray).data.toList⟩, congrArg Ending.returned (rv_eq _ _ _ _), len_le hDs', (HD8.out.setP m).fin.1.mono (by omega), (HD8.out.setP m).fin.2⟩
    by_cases e1 : q = 1
    · subst e1
      go_wp2_with fail
      refine (pick_any _ B _ len cap a _ (by omega) (by omega) (by omega) HD7.out.cur HD7.out.code).mono ?_
      rintro e w8 ⟨m, rfl, m0, m1, hC8, hB8⟩
      have HD8 : Hid (Dr w B ((N + 2 + 2 + 2) + 2 + 2) w.heap.size w3.heap.size len cap a 3 rp 0 (⟨#[]⟩ : ByteArray) w8) := HD7.out.step hC8 hB8
      clear hC8 hB8 HD7
      obtain ⟨_, _, z0, z1, z2, z3, f0, f1, f2, f3, c0, c1, c2, c3, g0, g1, g2, g3, _, hbx, hby, hne, hbB, hlx, hly⟩ := HD8.out
      have hne2 : w3.heap.size ≠ w.heap.size := fun h => hne h.symm
      go_wp2
      refine bodyPost_ret (v := .agg #[.int .i64 m, .int .i64 rp, .int .i64 0, .string (⟨#[]⟩ : ByteArray)]) (by simp [results, Try.results64, go_sem, z0, z1, z2, z3]) rfl ⟨⟨m, rp, 0, (⟨#[]⟩ : ByteArray).data.toList⟩, congrArg Ending.returned (rv_eq _ _ _ _), len_le hDs', (HD8.out.setK m).fin.1.mono (by omega), (HD8.out.setK m).fin.2⟩
    have d0 : (q == 0) = false := by rw [beq_eq_false_iff_ne]; exact e0
    have d1 : (q == 1) = false := by rw [beq_eq_false_iff_ne]; exact e1
    obtain ⟨_, _, z0, z1, z2, z3, f0, f1, f2, f3, c0, c1, c2, c3, g0, g1, g2, g3, _, hbx, hby, hne, hbB, hlx, hly⟩ := HD7.out
    have hne2 : w3.heap.size ≠ w.heap.size := fun h => hne h.symm
    by_cases e2 : q = 2
    · subst e2
      have hxs : (⟨#[120]⟩ : ByteArray).size = 1 := rfl
      go_wp2
      refine bodyPost_ret (v := .agg #[.int .i64 3, .int .i64 rp, .int .i64 0, .string ((⟨#[]⟩ : ByteArray) ++ ⟨#[120]⟩)]) (by simp [results, Try.results64, go_sem, z0, z1, z2, z3]) rfl ⟨⟨3, rp, 0, ((⟨#[]⟩ : ByteArray) ++ ⟨#[120]⟩ : ByteArray).data.toList⟩, congrArg Ending.returned (rv_eq _ _ _ _), len_le1 hDs', (HD7.out.setD _).fin.1.mono (by omega), (HD7.out.setD _).fin.2⟩
    · have d2 : (q == 2) = false := by rw [beq_eq_false_iff_ne]; exact e2
      go_wp2
      refine bodyPost_ret (v := .agg #[.int .i64 3, .int .i64 rp, .int .i64 0, .string (⟨#[]⟩ : ByteArray)]) (by simp [results, Try.results64, go_sem, z0, z1, z2, z3]) rfl ⟨⟨3, rp, 0, (⟨#[]⟩ : ByteArray).data.toList⟩, congrArg Ending.returned (rv_eq _ _ _ _), len_le hDs', HD7.out.fin.1.mono (by omega), HD7.out.fin.2⟩
  · have d1 : (rk == 1) = false := by rw [beq_eq_false_iff_ne]; exact k1
    have d3 : (rk == 3) = false := by rw [beq_eq_false_iff_ne]; exact k3
    have HD : Hid (Dr w B (N + 2 + 2 + 2) w.heap.size w3.heap.size len cap a rk rp (1 + (n : Int)) ⟨#[]⟩ (w3.alloc (.cells #[.int .i64 rk, .int .i64 rp, .int .i64 (1 + (n : Int)), .string ⟨#[]⟩] 37))) := HD0
    have hDs' : (⟨#[]⟩ : ByteArray).size ≤ 8 := by decide
    go_wp2_with fail
    refine (pick_any _ B (N + 2 + 2 + 2) len cap a _ (by omega) (by omega) (by omega) HD.out.cur HD.out.code).mono ?_
    rintro e w7 ⟨q, rfl, q0, q1, hC7, hB7⟩
    have HD7 : Hid (Dr w B ((N + 2 + 2 + 2) + 2) w.heap.size w3.heap.size len cap a rk rp (1 + (n : Int)) (⟨#[]⟩ : ByteArray) w7) := HD.out.step hC7 hB7
    clear hC7 hB7 HD
    by_cases e0 : q = 0
    · subst e0
      go_wp2_with fail
      refine (among_any [-1, 15, 200, 201] 4 w7.heap.size B _ len cap 4 a _ rfl (by decide) (by decide) (by simp) (by have := HD7.out.lx; have := HD7.out.bx; have := HD7.out.bB; omega) (fun i hi => lits_at [-1, 15, 200, 201] w7 i hi) (by omega) (HD7.out.alloc _).cur (HD7.out.alloc _).code).mono ?_
      rintro e w8 ⟨i, hi, rfl, hC8, hB8⟩
      generalize ([-1, 15, 200, 201] : List Int).getD i 0 = m at *
      have HD8 : Hid (Dr w B ((N + 2 + 2 + 2) + 2 + 2) w.heap.size w3.heap.size len cap a rk rp (1 + (n : Int)) (⟨#[]⟩ : ByteArray) w8) := (HD7.out.alloc _).step hC8 hB8
      clear hC8 hB8 HD7
      obtain ⟨_, _, z0, z1, z2, z3, f0, f1, f2, f3, c0, c1, c2, c3, g0, g1, g2, g3, _, hbx, hby, hne, hbB, hlx, hly⟩ := HD8.out
      have hne2 : w3.heap.size ≠ w.heap.size := fun h => hne h.symm
      go_wp2
      refine bodyPost_ret (v := .agg #[.int .i64 rk, .int .i64 m, .int .i64 (1 + (n : Int)), .string (⟨#[]⟩ : ByteArray)]) (by simp [results, Try.results64, go_sem, z0, z1, z2, z3]) rfl ⟨⟨rk, m, (1 + (n : Int)), (⟨#[]⟩ : ByteArray).data.toList⟩, congrArg Ending.returned (rv_eq _ _ _ _), len_le hDs', (HD8.out.setP m).fin.1.mono (by omega), (HD8.out.setP m).fin.2⟩
    by_cases e1 : q = 1
    · subst e1
      go_wp2_with fail
      refine (pick_any _ B _ len cap a _ (by omega) (by omega) (by omega) HD7.out.cur HD7.out.code).mono ?_
      rintro e w8 ⟨m, rfl, m0, m1, hC8, hB8⟩
      have HD8 : Hid (Dr w B ((N + 2 + 2 + 2) + 2 + 2) w.heap.size w3.heap.size len cap a rk rp (1 + (n : Int)) (⟨#[]⟩ : ByteArray) w8) := HD7.out.step hC8 hB8
      clear hC8 hB8 HD7
      obtain ⟨_, _, z0, z1, z2, z3, f0, f1, f2, f3, c0, c1, c2, c3, g0, g1, g2, g3, _, hbx, hby, hne, hbB, hlx, hly⟩ := HD8.out
      have hne2 : w3.heap.size ≠ w.heap.size := fun h => hne h.symm
      go_wp2
      refine bodyPost_ret (v := .agg #[.int .i64 m, .int .i64 rp, .int .i64 (1 + (n : Int)), .string (⟨#[]⟩ : ByteArray)]) (by simp [results, Try.results64, go_sem, z0, z1, z2, z3]) rfl ⟨⟨m, rp, (1 + (n : Int)), (⟨#[]⟩ : ByteArray).data.toList⟩, congrArg Ending.returned (rv_eq _ _ _ _), len_le hDs', (HD8.out.setK m).fin.1.mono (by omega), (HD8.out.setK m).fin.2⟩
    have d0 : (q == 0) = false := by rw [beq_eq_false_iff_ne]; exact e0
    have d1 : (q == 1) = false := by rw [beq_eq_false_iff_ne]; exact e1
    obtain ⟨_, _, z0, z1, z2, z3, f0, f1, f2, f3, c0, c1, c2, c3, g0, g1, g2, g3, _, hbx, hby, hne, hbB, hlx, hly⟩ := HD7.out
    have hne2 : w3.heap.size ≠ w.heap.size := fun h => hne h.symm
    by_cases e2 : q = 2
    · subst e2
      have hxs : (⟨#[120]⟩ : ByteArray).size = 1 := rfl
      go_wp2
      refine bodyPost_ret (v := .agg #[.int .i64 rk, .int .i64 rp, .int .i64 (1 + (n : Int)), .string ((⟨#[]⟩ : ByteArray) ++ ⟨#[120]⟩)]) (by simp [results, Try.results64, go_sem, z0, z1, z2, z3]) rfl ⟨⟨rk, rp, (1 + (n : Int)), ((⟨#[]⟩ : ByteArray) ++ ⟨#[120]⟩ : ByteArray).data.toList⟩, congrArg Ending.returned (rv_eq _ _ _ _), len_le1 hDs', (HD7.out.setD _).fin.1.mono (by omega), (HD7.out.setD _).fin.2⟩
    · have d2 : (q == 2) = false := by rw [beq_eq_false_iff_ne]; exact e2
      go_wp2
      refine bodyPost_ret (v := .agg #[.int .i64 rk, .int .i64 rp, .int .i64 (1 + (n : Int)), .string (⟨#[]⟩ : ByteArray)]) (by simp [results, Try.results64, go_sem, z0, z1, z2, z3]) rfl ⟨⟨rk, rp, (1 + (n : Int)), (⟨#[]⟩ : ByteArray).data.toList⟩, congrArg Ending.returned (rv_eq _ _ _ _), len_le hDs', HD7.out.fin.1.mono (by omega), HD7.out.fin.2⟩
end Go.Proofs.Ytlbhfgcpflhccaa
namespace Go.Proofs.Ytlbhfgcpflhccaa
set_option maxRecDepth 100000
open Go Go.ChangeShapes Go.WideShapes Go.ChangeAt Go.RowKit
def bcell (n : Bool) : List Value := [.bool n]
/-- a slice of truth values in memory below block B -/
def Bs (B : Nat) (a : Option Addr) (l : List Bool) (w : World) : Prop := GSl B 1 a (l.map bcell) w
theorem Bs.cell {B : Nat} {a : Option Addr} {l : List Bool} {w : World} (h : Bs B a l w) (h0 : 0 < l.length) : ∃ b off, a = some ⟨b, off, none⟩ ∧ b < B ∧ ∀ i (hi : i < l.length), w.cell? ⟨b, off + i, none⟩ = some (.bool l[i]) := by
  obtain ⟨b, off, e, hb, hc⟩ := GSl.cell h (by simpa using h0)
  refine ⟨b, off, e, hb, fun i hi => ?_⟩
  have c0 := hc i (by simpa using hi) 0 (by decide)
  rw [List.getElem_map, Nat.mul_one, Nat.add_zero] at c0
  exact c0
theorem Bs.below {B : Nat} {a : Option Addr} {l : List Bool} {w w' : World} (h : Bs B a l w) (g : Below B w w') : Bs B a l w' := GSl.below h g
theorem Bs.mono {B B' : Nat} {a : Option Addr} {l : List Bool} {w : World} (h : Bs B a l w) (hB : B ≤ B') : Bs B' a l w := GSl.mono h hB
/-- a row of truth values that a call itself has made -/
def BRow (R : Nat) (l : List Bool) (w : World) : Prop := GRow R 1 (l.map bcell) w
theorem BRow.lt {R : Nat} {l : List Bool} {w : World} (h : BRow R l w) : R < w.heap.size := GRow.lt h
theorem BRow.cell {R : Nat} {l : List Bool} {w : World} (h : BRow R l w) (i : Nat) (hi : i < l.length) : w.cell? ⟨R, i, none⟩ = some (.bool l[i]) := by
  have c0 := GRow.cell h i (by simpa using hi) 0 (by decide)
  rw [List.getElem_map, Nat.mul_one, Nat.add_zero] at c0
  exact c0
theorem BRow.free {R : Nat} {l : List Bool} {w : World} (h : BRow R l w) (j : Nat) (hj : j < l.length) : w.frozen? ⟨R, j, none⟩ = false := GRow.free h j (by simpa using hj)
theorem BRow.below {R : Nat} {l : List Bool} {w w' : World} (h : BRow R l w) (hb : Below w.heap.size w w') : BRow R l w' := GRow.below h hb
theorem BRow.same {R : Nat} {l : List Bool} {w w' : World} (h : BRow R l w) (hs : w.heap.size ≤ w'.heap.size) (hb : w'.heap[R]? = w.heap[R]?) : BRow R l w' := GRow.same h hs hb
theorem BRow.sl {R B : Nat} {l : List Bool} {w : World} (h : BRow R l w) (hB : R < B) : Bs B (some ⟨R, 0, none⟩) l w := GRow.sl h hB
theorem BRow.set {R : Nat} {l : List Bool} {w : World} (h : BRow R l w) (k : Nat) (hk : k < l.length) (n : Bool) : BRow R (l.set k n) (w.setCell ⟨R, k, none⟩ (.bool n)) := by
  have hk' : k < (l.map bcell).length := by simpa using hk
  have := GRow.set h k 0 hk' (by decide) (.bool n)
  rw [Nat.mul_one, Nat.add_zero] at this
  unfold BRow
  have e : (l.set k n).map bcell = (l.map bcell).set k ((l.map bcell)[k].set 0 (.bool n)) := by
    rw [List.map_set, List.getElem_map]; rfl
  rw [e]
  exact this
/-- truth values that are owned in blocks lo .. hi - 1 (or none) -/
def OwnB (lo hi : Nat) (a : Option Addr) (l : List Bool) (w : World) : Prop := l = [] ∨ ∃ R, lo ≤ R ∧ R < hi ∧ a = some ⟨R, 0, none⟩ ∧ BRow R l w
theorem OwnB.out {lo hi l2 h2 : Nat} {a : Option Addr} {l : List Bool} {w w' : World} (h : OwnB lo hi a l w) (g : Out l2 h2 w w') (hd : hi ≤ l2 ∨ h2 ≤ lo) : OwnB lo hi a l w' := by
  rcases h with h | ⟨R, h1, h3, e, hr⟩
  · exact Or.inl h
  · exact Or.inr ⟨R, h1, h3, e, hr.same g.size (g.block R hr.lt (by omega))⟩
theorem OwnB.below {lo hi : Nat} {a : Option Addr} {l : List Bool} {w w' : World} (h : OwnB lo hi a l w) (g : Below w.heap.size w w') : OwnB lo hi a l w' := by
  rcases h with h | ⟨R, h1, h3, e, hr⟩
  · exact Or.inl h
  · exact Or.inr ⟨R, h1, h3, e, hr.below g⟩
theorem OwnB.bs {lo hi : Nat} {a : Option Addr} {l : List Bool} {w : World} (h : OwnB lo hi a l w) : Bs w.heap.size a l w := by
  rcases h with rfl | ⟨R, h1, h3, rfl, hr⟩
  · exact ⟨fun h0 => absurd h0 (by simp)⟩
  · exact hr.sl hr.lt
end Go.Proofs.Ytlbhfgcpflhccaa
namespace Go.Proofs.Ytlbhfgcpflhccaa
set_option maxRecDepth 100000
open Go Go.ChangeShapes Go.WideShapes Go.ChangeAt Go.RowKit G00541
theorem doK_twoB (ts : List ByteArray) (k : Int) (p : Nat) (D : ByteArray) (ht : ∀ t ∈ ts, t.size = 2) : ∀ j, (k = 1 → 2 * j ≤ D.size) → ∀ t ∈ doK ts k p D j, t.size = 2
  | 0, _, t, h => ht t h
  | j + 1, hD, t, h => by
    rcases List.mem_or_eq_of_mem_set h with h1 | h1
    · exact doK_twoB ts k p D ht j (fun e => by have := hD e; omega) t h1
    · subst h1
      unfold pieceT
      split
      · rename_i e
        have h2 := hD e
        have := ByteArray.size_extract (a := D) (b := 2 * j) (e := 2 * j + 2)
        omega
      · rfl
theorem goodBs_doL (L : List Rc) : ∀ (B : List ByteArray), goodBs B = true → goodL L = true → goodBs (doL B L) = true := by
  induction L with
  | nil => intro B h _; exact h
  | cons r l ih =>
    intro B h hg
    unfold goodL at hg
    rw [List.all_cons, Bool.and_eq_true] at hg
    have h16 := goodBs_len h
    have hr := good_cases hg.1
    have h2 : goodBs (doR B r) = true := by
      refine goodBs_all (by rw [doR_len]; exact h16) (fun k hk => ?_)
      refine doK_twoB B r.kind r.place.toNat (str r.data) (fun t ht => ?_) r.long.toNat (fun e => ?_) _ (List.getElem_mem hk)
      · obtain ⟨i, hi, rfl⟩ := List.getElem_of_mem ht
        exact goodBs_two h i hi
      · rw [str_size]
        have := hr.2.2.2.2.2.2.2.1 e
        have := hr.2.2.2.1
        omega
    exact ih (doR B r) h2 hg.2
theorem MkOk.take {F : Int} {L : List Rc} (h : MkOk F L) (n : Nat) : MkOk F (L.take n) := fun k hk h3 => by
  have hk' : k < n ∧ k < L.length := by rw [List.length_take] at hk; omega
  rw [List.getElem_take] at h3 ⊢
  rw [h k hk'.2 h3, List.take_take, Nat.min_eq_left (by omega)]
theorem markF_app (F : Int) (L M : List Rc) : markF F (L ++ M) = markF (markF F L) M := by unfold markF; rw [List.foldl_append]
theorem MkOk.drop {F : Int} {L : List Rc} (h : MkOk F L) (n : Nat) : MkOk (markF F (L.take n)) (L.drop n) := fun k hk h3 => by
  have hk' : n + k < L.length := by rw [List.length_drop] at hk; omega
  rw [List.getElem_drop] at h3 ⊢
  rw [h (n + k) hk' h3, ← markF_app, ← List.take_add]
theorem MkOk.snoc {F : Int} {L : List Rc} (h : MkOk F L) (r : Rc) (hr : r.kind = 3 → r.place = markF F L + 1) : MkOk F (L ++ [r]) := fun k hk h3 => by
  by_cases e : k < L.length
  · rw [List.getElem_append_left e] at h3 ⊢
    rw [h k e h3, List.take_append_of_le_length (by omega)]
  · have e2 : k = L.length := by rw [List.length_append] at hk; simp at hk; omega
    subst e2
    rw [List.getElem_append_right (Nat.le_refl _)] at h3 ⊢
    simp only [Nat.sub_self, List.getElem_cons_zero] at h3 ⊢
    rw [hr h3, List.take_append_of_le_length (Nat.le_refl _), List.take_length]
theorem goodL_app {L : List Rc} (h : goodL L = true) (r : Rc) (hr : goodR r = true) : goodL (L ++ [r]) = true := by
  unfold goodL at h ⊢
  rw [List.all_append, h]
  simp [hr]
theorem goodL_dropK {L : List Rc} (h : goodL L = true) (n : Nat) : goodL (L.drop n) = true := by
  unfold goodL at h ⊢
  rw [List.all_eq_true] at h ⊢
  exact fun x hx => h x (List.mem_of_mem_drop hx)
theorem goodV_do {B : List ByteArray} {F : Int} {L : List Rc} {s : Int} {o : Op} {v : Vol} (hg : GoodV B F L s) (h : doV B F L s o = some v) : GoodV v.1 v.2.1 v.2.2.1 v.2.2.2 := by
  have hlen := hg.len
  have hs0 := hg.s0
  have hs1 := hg.s1
  unfold doV at h
  split at h
  · unfold recDo at h
    split at h
    · rename_i hc
      injection h with h; subst h
      have hr : goodR (opR o) = true := by
        have := hc.1
        unfold recOk at this
        rw [Bool.and_eq_true] at this
        exact this.2
      exact ⟨hg.bs, by simp only [List.length_append]; simp; omega, goodL_app hg.recs _ hr, hg.mok.snoc _ (fun e => hc.2.2 e), hs0, by simp only [List.length_append]; simp; omega, hg.f0, hg.f1⟩
    · cases h
  · split at h
    · split at h
      · injection h with h; subst h
        exact ⟨hg.bs, hg.len, hg.recs, hg.mok, by simp only; omega, by simp only; omega, hg.f0, hg.f1⟩
      · split at h
        · unfold crashDo at h
          split at h
          · rename_i hc
            injection h with h; subst h
            refine ⟨hg.bs, ?_, goodL_take hg.recs _, hg.mok.take _, by simp only; omega, ?_, hg.f0, hg.f1⟩
            · simp only [List.length_take]; omega
            · simp only [List.length_take]; omega
          · cases h
        · split at h
          · unfold foldDo at h
            injection h with h; subst h
            have hm := markF_in F L hg.f0 hg.f1 s.toNat (by omega) (fun j hj _ => good_at hg.recs j hj)
            refine ⟨goodBs_doL _ _ hg.bs (goodL_take hg.recs _), ?_, goodL_dropK hg.recs _, hg.mok.drop _, by simp only; omega, ?_, hm.1, hm.2⟩
            · simp only [List.length_drop]; omega
            · simp only [List.length_drop]; omega
          · cases h
    · cases h
/-- a volume behind ops -/
def nextV (v : Vol) (o : Op) : Vol := (doV v.1 v.2.1 v.2.2.1 v.2.2.2 o).getD v
def didV (v : Vol) (o : Op) : Bool := (doV v.1 v.2.1 v.2.2.1 v.2.2.2 o).isSome
def newV : Vol := (blankT, 0, [], 0)
def runV : List Op → Vol × List Bool → Vol × List Bool
  | [], s => s
  | o :: l, s => runV l (nextV s.1 o, s.2 ++ [didV s.1 o])
def GoodVol (v : Vol) : Prop := GoodV v.1 v.2.1 v.2.2.1 v.2.2.2
theorem GoodVol.new : GoodVol newV := ⟨by decide +kernel, by decide, rfl, fun k h => absurd h (Nat.not_lt_zero _), by decide, by decide, by decide, by decide⟩
theorem GoodVol.next {v : Vol} (h : GoodVol v) (o : Op) : GoodVol (nextV v o) := by
  unfold nextV
  cases e : doV v.1 v.2.1 v.2.2.1 v.2.2.2 o with
  | none => exact h
  | some u => exact goodV_do h e
theorem runV_snoc (l : List Op) (o : Op) (s : Vol × List Bool) : runV (l ++ [o]) s = (nextV (runV l s).1 o, (runV l s).2 ++ [didV (runV l s).1 o]) := by
  induction l generalizing s with
  | nil => rfl
  | cons x l ih => exact ih _
theorem runV_good (l : List Op) (s : Vol × List Bool) (h : GoodVol s.1) : GoodVol (runV l s).1 := by
  induction l generalizing s with
  | nil => exact h
  | cons x l ih => exact ih _ (h.next x)
theorem runV_len (l : List Op) (s : Vol × List Bool) : (runV l s).2.length = s.2.length + l.length := by
  induction l generalizing s with
  | nil => rfl
  | cons x l ih =>
    have := ih (nextV s.1 x, s.2 ++ [didV s.1 x])
    show (runV l (nextV s.1 x, s.2 ++ [didV s.1 x])).2.length = _
    rw [this, List.length_append, List.length_cons]
    simp
    omega
/-- what playing tells -/
def plOk (l : List Op) : Bool := decide (l.length ≤ 60)
def plV (l : List Op) : Vol := if l.length ≤ 60 then (runV l (newV, [])).1 else ([], 0, [], 0)
def plD (l : List Op) : List Bool := if l.length ≤ 60 then (runV l (newV, [])).2 else []
/-- the answer of PlayVolume -/
def POut (v : Vol) (d : List Bool) (ok : Bool) (w : World) (e : Ending) (w' : World) : Prop := ∃ aB kB aL kL a k, v.2.2.1.length ≤ kL ∧ e = .returned (.tuple #[.agg #[.slice aB v.1.length kB, .int .i64 v.2.1, .slice aL v.2.2.1.length kL, .int .i64 v.2.2.2], .slice a d.length k, .bool ok]) ∧
  ∃ l1 h1 l2 h2, w.heap.size ≤ l1 ∧ h1 ≤ w'.heap.size ∧ w.heap.size ≤ l2 ∧ h2 ≤ w'.heap.size ∧ l1 ≤ h1 ∧ l2 ≤ h2 ∧ (h1 ≤ l2 ∨ h2 ≤ l1) ∧ OwnV l1 h1 aB v.1 aL v.2.2.1 w' ∧ OwnB l2 h2 a d w' ∧ Below w.heap.size w w'
end Go.Proofs.Ytlbhfgcpflhccaa
namespace Go.Proofs.Ytlbhfgcpflhccaa
set_option maxRecDepth 100000
open Go.ChangeShapes Go.WideShapes Go.ChangeAt Go.RowKit G00541
def DOutK (o : Option Vol) (w : World) (e : Ending) (w' : World) : Prop := match o with
  | some v => ∃ aB kB aL kL, v.2.2.1.length ≤ kL ∧ e = .returned (.tuple #[.agg #[.slice aB v.1.length kB, .int .i64 v.2.1, .slice aL v.2.2.1.length kL, .int .i64 v.2.2.2], .bool true]) ∧ OwnV w.heap.size w'.heap.size aB v.1 aL v.2.2.1 w' ∧ Below w.heap.size w w'
  | none => e = .returned (.tuple #[.agg #[.slice none 0 0, .int .i64 0, .slice none 0 0, .int .i64 0], .bool false]) ∧ Below w.heap.size w w'
set_option maxHeartbeats 8000000 in
theorem idoV_k (aB aL : Option Addr) (kB kL : Nat) (B : List ByteArray) (F : Int) (L : List Rc) (s : Int) (k p n m : Int) (D : ByteArray) (w : World) (hf : B.length ≤ 1048576 ∧ L.length ≤ 1048576) (hk : L.length ≤ kL) (hB : Ss w.heap.size aB B w) (hL : Rs w.heap.size aL L w) (hg : GoodV B F L s) :
    Calls Try.prog 16 #[.agg #[.slice aB B.length kB, .int .i64 F, .slice aL L.length kL, .int .i64 s], .agg #[.int .i64 k, .int .i64 p, .int .i64 n, .string D, .int .i64 m]] w fun e w' => DOutK (doV B F L s ⟨k, p, n, D, m⟩) w e w' := by
  have HK := hid (DK.start w #[.slice aB B.length kB, .int .i64 F, .slice aL L.length kL, .int .i64 s] #[.int .i64 k, .int .i64 p, .int .i64 n, .string D, .int .i64 m] #[.slice none 0 0, .int .i64 0, .slice none 0 0, .int .i64 0])
  have HG : Hid (∀ v, Below w.heap.size w v → Calls Try.prog 13 #[.agg #[.slice aB B.length kB, .int .i64 F, .slice aL L.length kL, .int .i64 s]] v fun e w' => e = .returned (.bool true) ∧ Below v.heap.size v w') := fun v g => by
    have := igoodV_any aB aL kB kL B F L s v hf ((hB.below g).mono g.size) ((hL.below g).mono g.size)
    rw [goodV_iff.2 hg] at this
    exact this
  have HND : Hid (∀ v, Calls Try.prog 34 #[.agg #[.int .i64 k, .int .i64 p, .int .i64 n, .string D, .int .i64 m]] v fun e w' => e = .returned (.bool (needOk ⟨k, p, n, D, m⟩)) ∧ Below v.heap.size v w') := fun v => need_any k p n m D v
  have HCP : Hid (∀ v, Below w.heap.size w v → Calls Try.prog 43 #[.agg #[.slice aB B.length kB, .int .i64 F, .slice aL L.length kL, .int .i64 s]] v fun e w' => CpOut B F L s v e w') := fun v g => copyVolume_any aB aL kB kL B F L s v hg ((hB.below g).mono g.size) ((hL.below g).mono g.size)
  have HMB : Hid (∀ v, Below w.heap.size w v → Calls Try.prog 44 #[.int .i64 F, .slice aL L.length kL] v fun e w' => e = .returned (.int .i64 (markF F L)) ∧ Below v.heap.size v w') := fun v g => markBehind_any aL kL F L v hf.2 ((hL.below g).mono g.size)
  have HRF : Hid (∀ v, Calls Try.prog 10 #[.agg #[.int .i64 k, .int .i64 p, .int .i64 n, .string D, .int .i64 m]] v fun e w' => ForOut ⟨k, p, n, D, m⟩ v e w') := fun v => irec_any k p n m D v
  have HFS : Hid (∀ v, Below w.heap.size w v → Calls Try.prog 46 #[.agg #[.slice aB B.length kB, .int .i64 F, .slice aL L.length kL, .int .i64 s]] v fun e w' => FdOutK B F L s.toNat v e w') := fun v g => foldSure_k aB aL kB kL B F L s s.toNat v (by have := hg.s0; omega) hg hk ((hB.below g).mono g.size) ((hL.below g).mono g.size)
  have HCR : Hid (∀ q : Nat, q ≤ L.length → ∃ c, (∀ v, Sem.run Try.prog (Instr.slice 26 (.slice aL L.length kL) none (some (.int .i64 (q : Int))) none) v = .ok (.slice aL (L.take q).length c) v) ∧ ∀ v, Below w.heap.size w v → Calls Try.prog 45 #[.slice aL (L.take q).length c] v fun e w' => ∃ b c, e = .returned (.slice b (L.take q).length c) ∧ w'.ownsRow v.heap.size 37 4 (.slice b (L.take q).length c) (L.take q).length (rvals (L.take q)) ∧ Below v.heap.size v w') := fun q hq => by
    obtain ⟨c, hc⟩ := cut_low aL kL L q q rfl hq hk
    exact ⟨c, hc, fun v g => copyRecords_any aL c (L.take q) v (by rw [List.length_take]; have := hg.len; omega) (fun j h => by have := good_small (good_at (goodL_take hg.recs q) j h); omega) (((hL.take q).below g).mono g.size)⟩
  have HL40 : Hid (L.length ≤ 40) := hg.len
  have HM : Hid (0 ≤ markF F L ∧ markF F L ≤ 200) := by
    have := markF_in F L hg.f0 hg.f1 L.length (Nat.le_refl _) (fun j hj _ => good_at hg.recs j hj)
    rw [markF_all] at this
    exact this
  have hlen := hg.len
  have hs0 := hg.s0
  clear hB hL hg hf hk
  generalize hW : (((w.alloc (.cells #[.slice aB B.length kB, .int .i64 F, .slice aL L.length kL, .int .i64 s] 28)).alloc (.cells #[.int .i64 k, .int .i64 p, .int .i64 n, .string D, .int .i64 m] 35)).alloc (.cells #[.slice none 0 0, .int .i64 0, .slice none 0 0, .int .i64 0] 28)) = W at *
  obtain ⟨x0, x1, x2, x3⟩ := HK.out.vol
  go_enter Try.func16, Try.ntmps16
  go_wp2_with fail
  clear hW
  refine (HG.out _ HK.out.below).mono ?_
  rintro e w2 ⟨rfl, b2⟩
  have HK2 := hid (HK.out.on b2)
  clear b2 HK HG x0 x1 x2 x3
  obtain ⟨x0, x1, x2, x3⟩ := HK2.out.vol
  obtain ⟨o0, o1, o2, o3, o4⟩ := HK2.out.op
  go_wp2_with fail
  refine (HND.out _).mono ?_
  rintro e w3 ⟨rfl, b3⟩
  have HK3 := hid (HK2.out.on b3)
  clear b3 HK2 HND x0 x1 x2 x3 o0 o1 o2 o3 o4
  cases hnd : needOk ⟨k, p, n, D, m⟩
  · have HNO := hid (doV_need (B := B) (F := F) (L := L) (s := s) hnd)
    clear hnd
    have hKz := HK3.out.fill (.slice none 0 0) (.int .i64 0) (.slice none 0 0) (.int .i64 0)
    have ez0 : ((((w3.setCell ⟨w.heap.size + 1 + 1, 0, none⟩ (.slice none 0 0)).setCell ⟨w.heap.size + 1 + 1, 1, none⟩ (.int .i64 0)).setCell ⟨w.heap.size + 1 + 1, 2, none⟩ (.slice none 0 0)).setCell ⟨w.heap.size + 1 + 1, 3, none⟩ (.int .i64 0)).cell? ⟨w.heap.size + 1 + 1, 0, none⟩ = some (.slice none 0 0) := box_cell hKz.z 0
    have ez1 : ((((w3.setCell ⟨w.heap.size + 1 + 1, 0, none⟩ (.slice none 0 0)).setCell ⟨w.heap.size + 1 + 1, 1, none⟩ (.int .i64 0)).setCell ⟨w.heap.size + 1 + 1, 2, none⟩ (.slice none 0 0)).setCell ⟨w.heap.size + 1 + 1, 3, none⟩ (.int .i64 0)).cell? ⟨w.heap.size + 1 + 1, 1, none⟩ = some (.int .i64 0) := box_cell hKz.z 1
    have ez2 : ((((w3.setCell ⟨w.heap.size + 1 + 1, 0, none⟩ (.slice none 0 0)).setCell ⟨w.heap.size + 1 + 1, 1, none⟩ (.int .i64 0)).setCell ⟨w.heap.size + 1 + 1, 2, none⟩ (.slice none 0 0)).setCell ⟨w.heap.size + 1 + 1, 3, none⟩ (.int .i64 0)).cell? ⟨w.heap.size + 1 + 1, 2, none⟩ = some (.slice none 0 0) := box_cell hKz.z 2
    have ez3 : ((((w3.setCell ⟨w.heap.size + 1 + 1, 0, none⟩ (.slice none 0 0)).setCell ⟨w.heap.size + 1 + 1, 1, none⟩ (.int .i64 0)).setCell ⟨w.heap.size + 1 + 1, 2, none⟩ (.slice none 0 0)).setCell ⟨w.heap.size + 1 + 1, 3, none⟩ (.int .i64 0)).cell? ⟨w.heap.size + 1 + 1, 3, none⟩ = some (.int .i64 0) := box_cell hKz.z 3
    have HBz := hid hKz.below
    obtain ⟨⟨z0, z1, z2, z3⟩, f0, f1, f2, f3⟩ := HK3.out.cells
    clear hKz
    go_wp2_with fail
    generalize ((((w3.setCell ⟨w.heap.size + 1 + 1, 0, none⟩ (.slice none 0 0)).setCell ⟨w.heap.size + 1 + 1, 1, none⟩ (.int .i64 0)).setCell ⟨w.heap.size + 1 + 1, 2, none⟩ (.slice none 0 0)).setCell ⟨w.heap.size + 1 + 1, 3, none⟩ (.int .i64 0)) = XX at *
    refine bodyPost_ret (v := .tuple #[.agg #[.slice none 0 0, .int .i64 0, .slice none 0 0, .int .i64 0], .bool false]) (by simp [results, Try.results16, go_sem, ez0, ez1, ez2, ez3]) rfl ?_
    rw [HNO.out]
    exact ⟨rfl, HBz.out⟩
  obtain ⟨x0, x1, x2, x3⟩ := HK3.out.vol
  obtain ⟨o0, o1, o2, o3, o4⟩ := HK3.out.op
  have HND := hid hnd
  clear hnd
  go_wp2_with fail
  refine (HCP.out _ HK3.out.below).mono ?_
  rintro e w4 ⟨mid, a1, c1, a2, c2, rfl, hov, b4⟩
  have hK4 := HK3.out.on b4
  have b5 := boxB w4 (.cells #[.slice a1 B.length c1, .int .i64 F, .slice a2 L.length c2, .int .i64 s] 28)
  have hXD : (w4.alloc (.cells #[.slice a1 B.length c1, .int .i64 F, .slice a2 L.length c2, .int .i64 s] 28)).heap[w4.heap.size]? = some (.cells #[.slice a1 B.length c1, .int .i64 F, .slice a2 L.length c2, .int .i64 s] 28) := heap_last _ _
  have hlo := HK3.out.size
  have b4s := b4.size
  have hbd : ∀ g, (Value.slice a1 B.length c1).ownBlock = some g → g < w4.heap.size := fun g hg => (hov.base.lt g hg).2
  have hld : ∀ g, (Value.slice a2 L.length c2).ownBlock = some g → g < w4.heap.size := fun g hg => (hov.log.lt g hg).2
  have HOV := hid (hov.below b5)
  have HK5 := hid (hK4.on b5)
  have HXD := hid hXD
  have hsz5 : (w4.alloc (.cells #[.slice a1 B.length c1, .int .i64 F, .slice a2 L.length c2, .int .i64 s] 28)).heap.size = w4.heap.size + 1 := heap_size _ _
  have HBD := hid hbd
  have HLD := hid hld
  clear hov b4 hK4 b5 hXD HK3 HCP x0 x1 x2 x3 o0 o1 o2 o3 o4 hbd hld
  generalize hW5 : w4.alloc (.cells #[.slice a1 B.length c1, .int .i64 F, .slice a2 L.length c2, .int .i64 s] 28) = W5 at *
  have hXDlt : w4.heap.size < W5.heap.size := by omega
  have hX3 : w.heap.size + 3 ≤ w4.heap.size := by have := b4s; omega
  clear hsz5 b4s
  obtain ⟨x0, x1, x2, x3⟩ := HK5.out.vol
  obtain ⟨o0, o1, o2, o3, o4⟩ := HK5.out.op
  have d0 : W5.cell? ⟨w4.heap.size, 0, none⟩ = some (.slice a1 B.length c1) := box_cell HXD.out 0
  have g0 : W5.frozen? ⟨w4.heap.size, 0, none⟩ = false := box_free HXD.out 0
  have d1 : W5.cell? ⟨w4.heap.size, 1, none⟩ = some (.int .i64 F) := box_cell HXD.out 1
  have g1 : W5.frozen? ⟨w4.heap.size, 1, none⟩ = false := box_free HXD.out 1
  have d2 : W5.cell? ⟨w4.heap.size, 2, none⟩ = some (.slice a2 L.length c2) := box_cell HXD.out 2
  have g2 : W5.frozen? ⟨w4.heap.size, 2, none⟩ = false := box_free HXD.out 2
  have d3 : W5.cell? ⟨w4.heap.size, 3, none⟩ = some (.int .i64 s) := box_cell HXD.out 3
  have g3 : W5.frozen? ⟨w4.heap.size, 3, none⟩ = false := box_free HXD.out 3
  by_cases k6 : 1 ≤ k ∧ k ≤ 6
  case neg =>
    have HNO := hid (doV_other (B := B) (F := F) (L := L) (s := s) (o := ⟨k, p, n, D, m⟩) k6)
    have e1 : (k == 1) = false := beq_eq_false_iff_ne.2 (by omega)
    have e2 : (k == 2) = false := beq_eq_false_iff_ne.2 (by omega)
    have e3 : (k == 3) = false := beq_eq_false_iff_ne.2 (by omega)
    have e4 : (k == 4) = false := beq_eq_false_iff_ne.2 (by omega)
    have e5 : (k == 5) = false := beq_eq_false_iff_ne.2 (by omega)
    have e6 : (k == 6) = false := beq_eq_false_iff_ne.2 (by omega)
    have dd1 : decide (k = 1) = false := decide_eq_false (by omega)
    have dd2 : decide (k = 2) = false := decide_eq_false (by omega)
    have dd3 : decide (k = 3) = false := decide_eq_false (by omega)
    have dd4 : decide (k = 4) = false := decide_eq_false (by omega)
    have dd5 : decide (k = 5) = false := decide_eq_false (by omega)
    have dd6 : decide (k = 6) = false := decide_eq_false (by omega)
    clear k6
    have hKz := HK5.out.fill (.slice none 0 0) (.int .i64 0) (.slice none 0 0) (.int .i64 0)
    have ez0 : ((((W5.setCell ⟨w.heap.size + 1 + 1, 0, none⟩ (.slice none 0 0)).setCell ⟨w.heap.size + 1 + 1, 1, none⟩ (.int .i64 0)).setCell ⟨w.heap.size + 1 + 1, 2, none⟩ (.slice none 0 0)).setCell ⟨w.heap.size + 1 + 1, 3, none⟩ (.int .i64 0)).cell? ⟨w.heap.size + 1 + 1, 0, none⟩ = some (.slice none 0 0) := box_cell hKz.z 0
    have ez1 : ((((W5.setCell ⟨w.heap.size + 1 + 1, 0, none⟩ (.slice none 0 0)).setCell ⟨w.heap.size + 1 + 1, 1, none⟩ (.int .i64 0)).setCell ⟨w.heap.size + 1 + 1, 2, none⟩ (.slice none 0 0)).setCell ⟨w.heap.size + 1 + 1, 3, none⟩ (.int .i64 0)).cell? ⟨w.heap.size + 1 + 1, 1, none⟩ = some (.int .i64 0) := box_cell hKz.z 1
    have ez2 : ((((W5.setCell ⟨w.heap.size + 1 + 1, 0, none⟩ (.slice none 0 0)).setCell ⟨w.heap.size + 1 + 1, 1, none⟩ (.int .i64 0)).setCell ⟨w.heap.size + 1 + 1, 2, none⟩ (.slice none 0 0)).setCell ⟨w.heap.size + 1 + 1, 3, none⟩ (.int .i64 0)).cell? ⟨w.heap.size + 1 + 1, 2, none⟩ = some (.slice none 0 0) := box_cell hKz.z 2
    have ez3 : ((((W5.setCell ⟨w.heap.size + 1 + 1, 0, none⟩ (.slice none 0 0)).setCell ⟨w.heap.size + 1 + 1, 1, none⟩ (.int .i64 0)).setCell ⟨w.heap.size + 1 + 1, 2, none⟩ (.slice none 0 0)).setCell ⟨w.heap.size + 1 + 1, 3, none⟩ (.int .i64 0)).cell? ⟨w.heap.size + 1 + 1, 3, none⟩ = some (.int .i64 0) := box_cell hKz.z 3
    have HBz := hid hKz.below
    obtain ⟨⟨z0, z1, z2, z3⟩, f0, f1, f2, f3⟩ := HK5.out.cells
    clear hKz
    go_wp2_with fail
    generalize ((((W5.setCell ⟨w.heap.size + 1 + 1, 0, none⟩ (.slice none 0 0)).setCell ⟨w.heap.size + 1 + 1, 1, none⟩ (.int .i64 0)).setCell ⟨w.heap.size + 1 + 1, 2, none⟩ (.slice none 0 0)).setCell ⟨w.heap.size + 1 + 1, 3, none⟩ (.int .i64 0)) = XX at *
    refine bodyPost_ret (v := .tuple #[.agg #[.slice none 0 0, .int .i64 0, .slice none 0 0, .int .i64 0], .bool false]) (by simp [results, Try.results16, go_sem, ez0, ez1, ez2, ez3]) rfl ?_
    rw [HNO.out]
    exact ⟨rfl, HBz.out⟩
  have HRS : Hid (¬ (1 ≤ k ∧ k ≤ 3) → restOk ⟨k, p, n, D, m⟩) := fun h => of_decide_eq_true ((need_rest (o := ⟨k, p, n, D, m⟩) h).symm.trans HND.out)
  by_cases k4 : k = 4
  · subst k4
    have HEQ := hid (doV_four (B := B) (F := F) (L := L) (s := s) (o := ⟨4, p, n, D, m⟩) rfl (HRS.out (by omega)))
    have hK6 := HK5.out.step (setB (Below.refl (w.heap.size + 3) W5) w4.heap.size 3 hX3 (.int .i64 (L.length : Int)))
    have hO6 := HOV.out.apart w4.heap.size 3 (.int .i64 (L.length : Int)) (fun g hg => by have := HBD.out g hg; omega) (fun g hg => by have := HLD.out g hg; omega)
    have hKr := hK6.fill (.slice a1 B.length c1) (.int .i64 F) (.slice a2 L.length c2) (.int .i64 (L.length : Int))
    have er0 : (((((W5.setCell ⟨w4.heap.size, 3, none⟩ (.int .i64 (L.length : Int))).setCell ⟨w.heap.size + 1 + 1, 0, none⟩ (.slice a1 B.length c1)).setCell ⟨w.heap.size + 1 + 1, 1, none⟩ (.int .i64 F)).setCell ⟨w.heap.size + 1 + 1, 2, none⟩ (.slice a2 L.length c2)).setCell ⟨w.heap.size + 1 + 1, 3, none⟩ (.int .i64 (L.length : Int))).cell? ⟨w.heap.size + 1 + 1, 0, none⟩ = some (.slice a1 B.length c1) := box_cell hKr.z 0
    have er1 : (((((W5.setCell ⟨w4.heap.size, 3, none⟩ (.int .i64 (L.length : Int))).setCell ⟨w.heap.size + 1 + 1, 0, none⟩ (.slice a1 B.length c1)).setCell ⟨w.heap.size + 1 + 1, 1, none⟩ (.int .i64 F)).setCell ⟨w.heap.size + 1 + 1, 2, none⟩ (.slice a2 L.length c2)).setCell ⟨w.heap.size + 1 + 1, 3, none⟩ (.int .i64 (L.length : Int))).cell? ⟨w.heap.size + 1 + 1, 1, none⟩ = some (.int .i64 F) := box_cell hKr.z 1
    have er2 : (((((W5.setCell ⟨w4.heap.size, 3, none⟩ (.int .i64 (L.length : Int))).setCell ⟨w.heap.size + 1 + 1, 0, none⟩ (.slice a1 B.length c1)).setCell ⟨w.heap.size + 1 + 1, 1, none⟩ (.int .i64 F)).setCell ⟨w.heap.size + 1 + 1, 2, none⟩ (.slice a2 L.length c2)).setCell ⟨w.heap.size + 1 + 1, 3, none⟩ (.int .i64 (L.length : Int))).cell? ⟨w.heap.size + 1 + 1, 2, none⟩ = some (.slice a2 L.length c2) := box_cell hKr.z 2
    have er3 : (((((W5.setCell ⟨w4.heap.size, 3, none⟩ (.int .i64 (L.length : Int))).setCell ⟨w.heap.size + 1 + 1, 0, none⟩ (.slice a1 B.length c1)).setCell ⟨w.heap.size + 1 + 1, 1, none⟩ (.int .i64 F)).setCell ⟨w.heap.size + 1 + 1, 2, none⟩ (.slice a2 L.length c2)).setCell ⟨w.heap.size + 1 + 1, 3, none⟩ (.int .i64 (L.length : Int))).cell? ⟨w.heap.size + 1 + 1, 3, none⟩ = some (.int .i64 (L.length : Int)) := box_cell hKr.z 3
    have HBr := hid hKr.below
    have hOr := (((hO6.set (w.heap.size + 1 + 1) 0 (.slice a1 B.length c1) (by omega)).set (w.heap.size + 1 + 1) 1 (.int .i64 F) (by omega)).set (w.heap.size + 1 + 1) 2 (.slice a2 L.length c2) (by omega)).set (w.heap.size + 1 + 1) 3 (.int .i64 (L.length : Int)) (by omega)
    have HCr := hid (rw_capV hOr.log)
    try rw [hnq] at HCr
    try rw [hl1] at HCr
    have HOr := hid (hOr.lower (show w.heap.size ≤ w3.heap.size by omega)).own
    obtain ⟨⟨z0, z1, z2, z3⟩, f0, f1, f2, f3⟩ := hK6.cells
    clear hKr hOr
    go_wp2_with fail
    generalize (((((W5.setCell ⟨w4.heap.size, 3, none⟩ (.int .i64 (L.length : Int))).setCell ⟨w.heap.size + 1 + 1, 0, none⟩ (.slice a1 B.length c1)).setCell ⟨w.heap.size + 1 + 1, 1, none⟩ (.int .i64 F)).setCell ⟨w.heap.size + 1 + 1, 2, none⟩ (.slice a2 L.length c2)).setCell ⟨w.heap.size + 1 + 1, 3, none⟩ (.int .i64 (L.length : Int))) = XX at *
    refine bodyPost_ret (v := .tuple #[.agg #[.slice a1 B.length c1, .int .i64 F, .slice a2 L.length c2, .int .i64 (L.length : Int)], .bool true]) (by simp [results, Try.results16, go_sem, er0, er1, er2, er3]) rfl ?_
    rw [HEQ.out]
    exact ⟨_, _, _, _, HCr.out, rfl, HOr.out, HBr.out⟩
  by_cases k6f : k = 6
  · subst k6f
    have HEQ := hid (doV_six (B := B) (F := F) (L := L) (s := s) (o := ⟨6, p, n, D, m⟩) rfl (HRS.out (by omega)))
    have HC6 := hid (HFS.out W5 HK5.out.below)
    unfold FdOutK at HC6
    generalize hB9 : doL B (L.take s.toNat) = B9 at *
    generalize hm9 : markF F (L.take s.toNat) = mk at *
    generalize hL9 : L.drop s.toNat = L9 at *
    have HEQ2 : Hid (doV B F L s ⟨6, p, n, D, m⟩ = some (B9, mk, L9, 0)) := by
      show doV B F L s ⟨6, p, n, D, m⟩ = _
      rw [HEQ.out]; unfold foldDo; rw [hB9, hm9, hL9]
    have HDO : Hid (∀ e w', (∃ aB' kB' aL' kL', L9.length ≤ kL' ∧ e = .returned (.tuple #[.agg #[.slice aB' B9.length kB', .int .i64 mk, .slice aL' L9.length kL', .int .i64 0], .bool true]) ∧ OwnV w.heap.size w'.heap.size aB' B9 aL' L9 w' ∧ Below w.heap.size w w') → DOutK (doV B F L s ⟨6, p, n, D, m⟩) w e w') := fun e w' h => by rw [HEQ2.out]; exact h
    clear hB9 hm9 hL9 HEQ
    generalize B9.length = n1 at *
    generalize L9.length = n2 at *
    go_wp2_with fail
    refine HC6.out.mono ?_
    rintro e w6 ⟨b1, j1, b2, j2, hc6, rfl, ho6, b6⟩
    have HCr := hid hc6
    clear hc6
    have hK6 := HK5.out.on b6
    have hX6 := (b6.block w4.heap.size hXDlt).trans HXD.out
    have hs6 := b6.size
    clear d0 d1 d2 d3 g0 g1 g2 g3 x0 x1 x2 x3 o0 o1 o2 o3 o4
    have d0 : w6.cell? ⟨w4.heap.size, 0, none⟩ = some (.slice a1 B.length c1) := box_cell hX6 0
    have g0 : w6.frozen? ⟨w4.heap.size, 0, none⟩ = false := box_free hX6 0
    have d1 : w6.cell? ⟨w4.heap.size, 1, none⟩ = some (.int .i64 F) := box_cell hX6 1
    have g1 : w6.frozen? ⟨w4.heap.size, 1, none⟩ = false := box_free hX6 1
    have d2 : w6.cell? ⟨w4.heap.size, 2, none⟩ = some (.slice a2 L.length c2) := box_cell hX6 2
    have g2 : w6.frozen? ⟨w4.heap.size, 2, none⟩ = false := box_free hX6 2
    have d3 : w6.cell? ⟨w4.heap.size, 3, none⟩ = some (.int .i64 s) := box_cell hX6 3
    have g3 : w6.frozen? ⟨w4.heap.size, 3, none⟩ = false := box_free hX6 3
    have hK7 := hK6.step (setB (setB (setB (setB (Below.refl (w.heap.size + 3) w6) w4.heap.size 0 hX3 (.slice b1 n1 j1)) w4.heap.size 1 hX3 (.int .i64 mk)) w4.heap.size 2 hX3 (.slice b2 n2 j2)) w4.heap.size 3 hX3 (.int .i64 0))
    have hKr := hK7.fill (.slice b1 n1 j1) (.int .i64 mk) (.slice b2 n2 j2) (.int .i64 0)
    have er0 : ((((((((w6.setCell ⟨w4.heap.size, 0, none⟩ (.slice b1 n1 j1)).setCell ⟨w4.heap.size, 1, none⟩ (.int .i64 mk)).setCell ⟨w4.heap.size, 2, none⟩ (.slice b2 n2 j2)).setCell ⟨w4.heap.size, 3, none⟩ (.int .i64 0)).setCell ⟨w.heap.size + 1 + 1, 0, none⟩ (.slice b1 n1 j1)).setCell ⟨w.heap.size + 1 + 1, 1, none⟩ (.int .i64 mk)).setCell ⟨w.heap.size + 1 + 1, 2, none⟩ (.slice b2 n2 j2)).setCell ⟨w.heap.size + 1 + 1, 3, none⟩ (.int .i64 0)).cell? ⟨w.heap.size + 1 + 1, 0, none⟩ = some (.slice b1 n1 j1) := box_cell hKr.z 0
    have er1 : ((((((((w6.setCell ⟨w4.heap.size, 0, none⟩ (.slice b1 n1 j1)).setCell ⟨w4.heap.size, 1, none⟩ (.int .i64 mk)).setCell ⟨w4.heap.size, 2, none⟩ (.slice b2 n2 j2)).setCell ⟨w4.heap.size, 3, none⟩ (.int .i64 0)).setCell ⟨w.heap.size + 1 + 1, 0, none⟩ (.slice b1 n1 j1)).setCell ⟨w.heap.size + 1 + 1, 1, none⟩ (.int .i64 mk)).setCell ⟨w.heap.size + 1 + 1, 2, none⟩ (.slice b2 n2 j2)).setCell ⟨w.heap.size + 1 + 1, 3, none⟩ (.int .i64 0)).cell? ⟨w.heap.size + 1 + 1, 1, none⟩ = some (.int .i64 mk) := box_cell hKr.z 1
    have er2 : ((((((((w6.setCell ⟨w4.heap.size, 0, none⟩ (.slice b1 n1 j1)).setCell ⟨w4.heap.size, 1, none⟩ (.int .i64 mk)).setCell ⟨w4.heap.size, 2, none⟩ (.slice b2 n2 j2)).setCell ⟨w4.heap.size, 3, none⟩ (.int .i64 0)).setCell ⟨w.heap.size + 1 + 1, 0, none⟩ (.slice b1 n1 j1)).setCell ⟨w.heap.size + 1 + 1, 1, none⟩ (.int .i64 mk)).setCell ⟨w.heap.size + 1 + 1, 2, none⟩ (.slice b2 n2 j2)).setCell ⟨w.heap.size + 1 + 1, 3, none⟩ (.int .i64 0)).cell? ⟨w.heap.size + 1 + 1, 2, none⟩ = some (.slice b2 n2 j2) := box_cell hKr.z 2
    have er3 : ((((((((w6.setCell ⟨w4.heap.size, 0, none⟩ (.slice b1 n1 j1)).setCell ⟨w4.heap.size, 1, none⟩ (.int .i64 mk)).setCell ⟨w4.heap.size, 2, none⟩ (.slice b2 n2 j2)).setCell ⟨w4.heap.size, 3, none⟩ (.int .i64 0)).setCell ⟨w.heap.size + 1 + 1, 0, none⟩ (.slice b1 n1 j1)).setCell ⟨w.heap.size + 1 + 1, 1, none⟩ (.int .i64 mk)).setCell ⟨w.heap.size + 1 + 1, 2, none⟩ (.slice b2 n2 j2)).setCell ⟨w.heap.size + 1 + 1, 3, none⟩ (.int .i64 0)).cell? ⟨w.heap.size + 1 + 1, 3, none⟩ = some (.int .i64 0) := box_cell hKr.z 3
    have HBr := hid hKr.below
    have hP0 := ownV_set ho6 w4.heap.size 0 (.slice b1 n1 j1) hXDlt
    have hP1 := ownV_set hP0 w4.heap.size 1 (.int .i64 mk) hXDlt
    have hP2 := ownV_set hP1 w4.heap.size 2 (.slice b2 n2 j2) hXDlt
    have hP3 := ownV_set hP2 w4.heap.size 3 (.int .i64 0) hXDlt
    have hP4 := ownV_set hP3 (w.heap.size + 1 + 1) 0 (.slice b1 n1 j1) (by omega)
    have hP5 := ownV_set hP4 (w.heap.size + 1 + 1) 1 (.int .i64 mk) (by omega)
    have hP6 := ownV_set hP5 (w.heap.size + 1 + 1) 2 (.slice b2 n2 j2) (by omega)
    have hP7 := ownV_set hP6 (w.heap.size + 1 + 1) 3 (.int .i64 0) (by omega)
    have hz8 : ((((((((w6.setCell ⟨w4.heap.size, 0, none⟩ (.slice b1 n1 j1)).setCell ⟨w4.heap.size, 1, none⟩ (.int .i64 mk)).setCell ⟨w4.heap.size, 2, none⟩ (.slice b2 n2 j2)).setCell ⟨w4.heap.size, 3, none⟩ (.int .i64 0)).setCell ⟨w.heap.size + 1 + 1, 0, none⟩ (.slice b1 n1 j1)).setCell ⟨w.heap.size + 1 + 1, 1, none⟩ (.int .i64 mk)).setCell ⟨w.heap.size + 1 + 1, 2, none⟩ (.slice b2 n2 j2)).setCell ⟨w.heap.size + 1 + 1, 3, none⟩ (.int .i64 0)).heap.size = w6.heap.size := by simp [World.setCell]
    have HOr : Hid (OwnV w.heap.size ((((((((w6.setCell ⟨w4.heap.size, 0, none⟩ (.slice b1 n1 j1)).setCell ⟨w4.heap.size, 1, none⟩ (.int .i64 mk)).setCell ⟨w4.heap.size, 2, none⟩ (.slice b2 n2 j2)).setCell ⟨w4.heap.size, 3, none⟩ (.int .i64 0)).setCell ⟨w.heap.size + 1 + 1, 0, none⟩ (.slice b1 n1 j1)).setCell ⟨w.heap.size + 1 + 1, 1, none⟩ (.int .i64 mk)).setCell ⟨w.heap.size + 1 + 1, 2, none⟩ (.slice b2 n2 j2)).setCell ⟨w.heap.size + 1 + 1, 3, none⟩ (.int .i64 0)).heap.size b1 B9 b2 L9 ((((((((w6.setCell ⟨w4.heap.size, 0, none⟩ (.slice b1 n1 j1)).setCell ⟨w4.heap.size, 1, none⟩ (.int .i64 mk)).setCell ⟨w4.heap.size, 2, none⟩ (.slice b2 n2 j2)).setCell ⟨w4.heap.size, 3, none⟩ (.int .i64 0)).setCell ⟨w.heap.size + 1 + 1, 0, none⟩ (.slice b1 n1 j1)).setCell ⟨w.heap.size + 1 + 1, 1, none⟩ (.int .i64 mk)).setCell ⟨w.heap.size + 1 + 1, 2, none⟩ (.slice b2 n2 j2)).setCell ⟨w.heap.size + 1 + 1, 3, none⟩ (.int .i64 0))) := by
      show OwnV w.heap.size ((((((((w6.setCell ⟨w4.heap.size, 0, none⟩ (.slice b1 n1 j1)).setCell ⟨w4.heap.size, 1, none⟩ (.int .i64 mk)).setCell ⟨w4.heap.size, 2, none⟩ (.slice b2 n2 j2)).setCell ⟨w4.heap.size, 3, none⟩ (.int .i64 0)).setCell ⟨w.heap.size + 1 + 1, 0, none⟩ (.slice b1 n1 j1)).setCell ⟨w.heap.size + 1 + 1, 1, none⟩ (.int .i64 mk)).setCell ⟨w.heap.size + 1 + 1, 2, none⟩ (.slice b2 n2 j2)).setCell ⟨w.heap.size + 1 + 1, 3, none⟩ (.int .i64 0)).heap.size b1 B9 b2 L9 ((((((((w6.setCell ⟨w4.heap.size, 0, none⟩ (.slice b1 n1 j1)).setCell ⟨w4.heap.size, 1, none⟩ (.int .i64 mk)).setCell ⟨w4.heap.size, 2, none⟩ (.slice b2 n2 j2)).setCell ⟨w4.heap.size, 3, none⟩ (.int .i64 0)).setCell ⟨w.heap.size + 1 + 1, 0, none⟩ (.slice b1 n1 j1)).setCell ⟨w.heap.size + 1 + 1, 1, none⟩ (.int .i64 mk)).setCell ⟨w.heap.size + 1 + 1, 2, none⟩ (.slice b2 n2 j2)).setCell ⟨w.heap.size + 1 + 1, 3, none⟩ (.int .i64 0))
      rw [hz8]
      exact ownV_lower hP7 (by omega)
    obtain ⟨⟨z0, z1, z2, z3⟩, f0, f1, f2, f3⟩ := hK6.cells
    clear hKr hP0 hP1 hP2 hP3 hP4 hP5 hP6 hP7 hK7 ho6 b6 hz8
    go_wp2_with fail
    generalize ((((((((w6.setCell ⟨w4.heap.size, 0, none⟩ (.slice b1 n1 j1)).setCell ⟨w4.heap.size, 1, none⟩ (.int .i64 mk)).setCell ⟨w4.heap.size, 2, none⟩ (.slice b2 n2 j2)).setCell ⟨w4.heap.size, 3, none⟩ (.int .i64 0)).setCell ⟨w.heap.size + 1 + 1, 0, none⟩ (.slice b1 n1 j1)).setCell ⟨w.heap.size + 1 + 1, 1, none⟩ (.int .i64 mk)).setCell ⟨w.heap.size + 1 + 1, 2, none⟩ (.slice b2 n2 j2)).setCell ⟨w.heap.size + 1 + 1, 3, none⟩ (.int .i64 0)) = XX at *
    refine bodyPost_ret (v := .tuple #[.agg #[.slice b1 n1 j1, .int .i64 mk, .slice b2 n2 j2, .int .i64 0], .bool true]) (by simp [results, Try.results16, go_sem, er0, er1, er2, er3]) rfl ?_
    exact HDO.out _ _ ⟨_, _, _, _, HCr.out, rfl, HOr.out, HBr.out⟩
  by_cases k5 : k = 5
  · subst k5
    have HEQ := hid (doV_five (B := B) (F := F) (L := L) (s := s) (o := ⟨5, p, n, D, m⟩) rfl (HRS.out (by omega)))
    by_cases hc : s ≤ m ∧ m ≤ L.length
    case neg =>
      have HNO : Hid (doV B F L s ⟨5, p, n, D, m⟩ = none) := by
        show doV B F L s ⟨5, p, n, D, m⟩ = none
        rw [HEQ.out]; unfold crashDo; rw [if_neg hc]
      by_cases h1 : s ≤ m
      · have q1 : decide (m < s) = false := decide_eq_false (by omega)
        have q2 : decide ((L.length : Int) < m) = true := decide_eq_true (by omega)
        clear hc HEQ h1
        have hKz := HK5.out.fill (.slice none 0 0) (.int .i64 0) (.slice none 0 0) (.int .i64 0)
        have ez0 : ((((W5.setCell ⟨w.heap.size + 1 + 1, 0, none⟩ (.slice none 0 0)).setCell ⟨w.heap.size + 1 + 1, 1, none⟩ (.int .i64 0)).setCell ⟨w.heap.size + 1 + 1, 2, none⟩ (.slice none 0 0)).setCell ⟨w.heap.size + 1 + 1, 3, none⟩ (.int .i64 0)).cell? ⟨w.heap.size + 1 + 1, 0, none⟩ = some (.slice none 0 0) := box_cell hKz.z 0
        have ez1 : ((((W5.setCell ⟨w.heap.size + 1 + 1, 0, none⟩ (.slice none 0 0)).setCell ⟨w.heap.size + 1 + 1, 1, none⟩ (.int .i64 0)).setCell ⟨w.heap.size + 1 + 1, 2, none⟩ (.slice none 0 0)).setCell ⟨w.heap.size + 1 + 1, 3, none⟩ (.int .i64 0)).cell? ⟨w.heap.size + 1 + 1, 1, none⟩ = some (.int .i64 0) := box_cell hKz.z 1
        have ez2 : ((((W5.setCell ⟨w.heap.size + 1 + 1, 0, none⟩ (.slice none 0 0)).setCell ⟨w.heap.size + 1 + 1, 1, none⟩ (.int .i64 0)).setCell ⟨w.heap.size + 1 + 1, 2, none⟩ (.slice none 0 0)).setCell ⟨w.heap.size + 1 + 1, 3, none⟩ (.int .i64 0)).cell? ⟨w.heap.size + 1 + 1, 2, none⟩ = some (.slice none 0 0) := box_cell hKz.z 2
        have ez3 : ((((W5.setCell ⟨w.heap.size + 1 + 1, 0, none⟩ (.slice none 0 0)).setCell ⟨w.heap.size + 1 + 1, 1, none⟩ (.int .i64 0)).setCell ⟨w.heap.size + 1 + 1, 2, none⟩ (.slice none 0 0)).setCell ⟨w.heap.size + 1 + 1, 3, none⟩ (.int .i64 0)).cell? ⟨w.heap.size + 1 + 1, 3, none⟩ = some (.int .i64 0) := box_cell hKz.z 3
        have HBz := hid hKz.below
        obtain ⟨⟨z0, z1, z2, z3⟩, f0, f1, f2, f3⟩ := HK5.out.cells
        clear hKz
        go_wp2_with fail
        generalize ((((W5.setCell ⟨w.heap.size + 1 + 1, 0, none⟩ (.slice none 0 0)).setCell ⟨w.heap.size + 1 + 1, 1, none⟩ (.int .i64 0)).setCell ⟨w.heap.size + 1 + 1, 2, none⟩ (.slice none 0 0)).setCell ⟨w.heap.size + 1 + 1, 3, none⟩ (.int .i64 0)) = XX at *
        refine bodyPost_ret (v := .tuple #[.agg #[.slice none 0 0, .int .i64 0, .slice none 0 0, .int .i64 0], .bool false]) (by simp [results, Try.results16, go_sem, ez0, ez1, ez2, ez3]) rfl ?_
        rw [HNO.out]
        exact ⟨rfl, HBz.out⟩
      · have q1 : decide (m < s) = true := decide_eq_true (by omega)
        clear hc HEQ h1
        have hKz := HK5.out.fill (.slice none 0 0) (.int .i64 0) (.slice none 0 0) (.int .i64 0)
        have ez0 : ((((W5.setCell ⟨w.heap.size + 1 + 1, 0, none⟩ (.slice none 0 0)).setCell ⟨w.heap.size + 1 + 1, 1, none⟩ (.int .i64 0)).setCell ⟨w.heap.size + 1 + 1, 2, none⟩ (.slice none 0 0)).setCell ⟨w.heap.size + 1 + 1, 3, none⟩ (.int .i64 0)).cell? ⟨w.heap.size + 1 + 1, 0, none⟩ = some (.slice none 0 0) := box_cell hKz.z 0
        have ez1 : ((((W5.setCell ⟨w.heap.size + 1 + 1, 0, none⟩ (.slice none 0 0)).setCell ⟨w.heap.size + 1 + 1, 1, none⟩ (.int .i64 0)).setCell ⟨w.heap.size + 1 + 1, 2, none⟩ (.slice none 0 0)).setCell ⟨w.heap.size + 1 + 1, 3, none⟩ (.int .i64 0)).cell? ⟨w.heap.size + 1 + 1, 1, none⟩ = some (.int .i64 0) := box_cell hKz.z 1
        have ez2 : ((((W5.setCell ⟨w.heap.size + 1 + 1, 0, none⟩ (.slice none 0 0)).setCell ⟨w.heap.size + 1 + 1, 1, none⟩ (.int .i64 0)).setCell ⟨w.heap.size + 1 + 1, 2, none⟩ (.slice none 0 0)).setCell ⟨w.heap.size + 1 + 1, 3, none⟩ (.int .i64 0)).cell? ⟨w.heap.size + 1 + 1, 2, none⟩ = some (.slice none 0 0) := box_cell hKz.z 2
        have ez3 : ((((W5.setCell ⟨w.heap.size + 1 + 1, 0, none⟩ (.slice none 0 0)).setCell ⟨w.heap.size + 1 + 1, 1, none⟩ (.int .i64 0)).setCell ⟨w.heap.size + 1 + 1, 2, none⟩ (.slice none 0 0)).setCell ⟨w.heap.size + 1 + 1, 3, none⟩ (.int .i64 0)).cell? ⟨w.heap.size + 1 + 1, 3, none⟩ = some (.int .i64 0) := box_cell hKz.z 3
        have HBz := hid hKz.below
        obtain ⟨⟨z0, z1, z2, z3⟩, f0, f1, f2, f3⟩ := HK5.out.cells
        clear hKz
        go_wp2_with fail
        generalize ((((W5.setCell ⟨w.heap.size + 1 + 1, 0, none⟩ (.slice none 0 0)).setCell ⟨w.heap.size + 1 + 1, 1, none⟩ (.int .i64 0)).setCell ⟨w.heap.size + 1 + 1, 2, none⟩ (.slice none 0 0)).setCell ⟨w.heap.size + 1 + 1, 3, none⟩ (.int .i64 0)) = XX at *
        refine bodyPost_ret (v := .tuple #[.agg #[.slice none 0 0, .int .i64 0, .slice none 0 0, .int .i64 0], .bool false]) (by simp [results, Try.results16, go_sem, ez0, ez1, ez2, ez3]) rfl ?_
        rw [HNO.out]
        exact ⟨rfl, HBz.out⟩
    obtain ⟨q, rfl⟩ : ∃ q : Nat, m = q := ⟨m.toNat, by have := hs0; omega⟩
    have hq : q ≤ L.length := by omega
    have q1 : decide ((q : Int) < s) = false := decide_eq_false (by omega)
    have q2 : decide ((L.length : Int) < (q : Int)) = false := decide_eq_false (by omega)
    have q3 : decide (L.length < q) = false := decide_eq_false (by omega)
    have HEQ2 : Hid (doV B F L s ⟨5, p, n, D, (q : Int)⟩ = some (B, F, L.take q, (q : Int))) := by
      show doV B F L s ⟨5, p, n, D, (q : Int)⟩ = _
      rw [HEQ.out]; unfold crashDo; rw [if_pos hc]; rfl
    obtain ⟨cc, hc1, hcr⟩ := HCR.out q hq
    have HC6 := hid (hcr W5 HK5.out.below)
    have hnq : (L.take q).length = q := by rw [List.length_take]; omega
    rw [hnq] at hc1 HC6
    clear hc HEQ hcr
    go_wp2_with fail
    refine HC6.out.mono ?_
    rintro e w6 ⟨b2, j2, rfl, ho6, b6⟩
    have hK6 := HK5.out.on b6
    have hX6 := (b6.block w4.heap.size hXDlt).trans HXD.out
    have hs6 := b6.size
    have hO6 : OV w3.heap.size W5.heap.size a1 c1 B b2 j2 (L.take q) w6 := ⟨by have := HOV.out.lm; have := HOV.out.mh; omega, hs6, rw_below HOV.out.base b6, fun g hg => by have := HBD.out g hg; omega, by rw [hnq]; exact ho6⟩
    clear d0 d1 d2 d3 g0 g1 g2 g3 x0 x1 x2 x3 o0 o1 o2 o3 o4
    have d0 : w6.cell? ⟨w4.heap.size, 0, none⟩ = some (.slice a1 B.length c1) := box_cell hX6 0
    have g0 : w6.frozen? ⟨w4.heap.size, 0, none⟩ = false := box_free hX6 0
    have d1 : w6.cell? ⟨w4.heap.size, 1, none⟩ = some (.int .i64 F) := box_cell hX6 1
    have g1 : w6.frozen? ⟨w4.heap.size, 1, none⟩ = false := box_free hX6 1
    have d2 : w6.cell? ⟨w4.heap.size, 2, none⟩ = some (.slice a2 L.length c2) := box_cell hX6 2
    have g2 : w6.frozen? ⟨w4.heap.size, 2, none⟩ = false := box_free hX6 2
    have d3 : w6.cell? ⟨w4.heap.size, 3, none⟩ = some (.int .i64 s) := box_cell hX6 3
    have g3 : w6.frozen? ⟨w4.heap.size, 3, none⟩ = false := box_free hX6 3
    have hlg : ∀ g, (Value.slice b2 (L.take q).length j2).ownBlock = some g → g ≠ w4.heap.size := fun g hg => by have := (hO6.log.lt g hg).1; omega
    have hO7 := (hO6.apart w4.heap.size 2 (.slice b2 q j2) (fun g hg => by have := HBD.out g hg; omega) hlg).apart w4.heap.size 3 (.int .i64 (q : Int)) (fun g hg => by have := HBD.out g hg; omega) hlg
    have hK7 := hK6.step (setB (setB (Below.refl (w.heap.size + 3) w6) w4.heap.size 2 hX3 (.slice b2 q j2)) w4.heap.size 3 hX3 (.int .i64 (q : Int)))
    have HDO : Hid (∀ e w', (∃ aB' kB' aL' kL', q ≤ kL' ∧ e = .returned (.tuple #[.agg #[.slice aB' B.length kB', .int .i64 F, .slice aL' q kL', .int .i64 (q : Int)], .bool true]) ∧ OwnV w.heap.size w'.heap.size aB' B aL' (L.take q) w' ∧ Below w.heap.size w w') → DOutK (doV B F L s ⟨5, p, n, D, (q : Int)⟩) w e w') := fun e w' h => by
      rw [HEQ2.out]
      obtain ⟨x1, x2, x3, x4, h0, h1, h2, h3⟩ := h
      exact ⟨x1, x2, x3, x4, Nat.le_trans (Nat.le_of_eq hnq) h0, by rw [h1, hnq], h2, h3⟩
    have hKr := hK7.fill (.slice a1 B.length c1) (.int .i64 F) (.slice b2 q j2) (.int .i64 (q : Int))
    have er0 : ((((((w6.setCell ⟨w4.heap.size, 2, none⟩ (.slice b2 q j2)).setCell ⟨w4.heap.size, 3, none⟩ (.int .i64 (q : Int))).setCell ⟨w.heap.size + 1 + 1, 0, none⟩ (.slice a1 B.length c1)).setCell ⟨w.heap.size + 1 + 1, 1, none⟩ (.int .i64 F)).setCell ⟨w.heap.size + 1 + 1, 2, none⟩ (.slice b2 q j2)).setCell ⟨w.heap.size + 1 + 1, 3, none⟩ (.int .i64 (q : Int))).cell? ⟨w.heap.size + 1 + 1, 0, none⟩ = some (.slice a1 B.length c1) := box_cell hKr.z 0
    have er1 : ((((((w6.setCell ⟨w4.heap.size, 2, none⟩ (.slice b2 q j2)).setCell ⟨w4.heap.size, 3, none⟩ (.int .i64 (q : Int))).setCell ⟨w.heap.size + 1 + 1, 0, none⟩ (.slice a1 B.length c1)).setCell ⟨w.heap.size + 1 + 1, 1, none⟩ (.int .i64 F)).setCell ⟨w.heap.size + 1 + 1, 2, none⟩ (.slice b2 q j2)).setCell ⟨w.heap.size + 1 + 1, 3, none⟩ (.int .i64 (q : Int))).cell? ⟨w.heap.size + 1 + 1, 1, none⟩ = some (.int .i64 F) := box_cell hKr.z 1
    have er2 : ((((((w6.setCell ⟨w4.heap.size, 2, none⟩ (.slice b2 q j2)).setCell ⟨w4.heap.size, 3, none⟩ (.int .i64 (q : Int))).setCell ⟨w.heap.size + 1 + 1, 0, none⟩ (.slice a1 B.length c1)).setCell ⟨w.heap.size + 1 + 1, 1, none⟩ (.int .i64 F)).setCell ⟨w.heap.size + 1 + 1, 2, none⟩ (.slice b2 q j2)).setCell ⟨w.heap.size + 1 + 1, 3, none⟩ (.int .i64 (q : Int))).cell? ⟨w.heap.size + 1 + 1, 2, none⟩ = some (.slice b2 q j2) := box_cell hKr.z 2
    have er3 : ((((((w6.setCell ⟨w4.heap.size, 2, none⟩ (.slice b2 q j2)).setCell ⟨w4.heap.size, 3, none⟩ (.int .i64 (q : Int))).setCell ⟨w.heap.size + 1 + 1, 0, none⟩ (.slice a1 B.length c1)).setCell ⟨w.heap.size + 1 + 1, 1, none⟩ (.int .i64 F)).setCell ⟨w.heap.size + 1 + 1, 2, none⟩ (.slice b2 q j2)).setCell ⟨w.heap.size + 1 + 1, 3, none⟩ (.int .i64 (q : Int))).cell? ⟨w.heap.size + 1 + 1, 3, none⟩ = some (.int .i64 (q : Int)) := box_cell hKr.z 3
    have HBr := hid hKr.below
    have hOr := (((hO7.set (w.heap.size + 1 + 1) 0 (.slice a1 B.length c1) (by omega)).set (w.heap.size + 1 + 1) 1 (.int .i64 F) (by omega)).set (w.heap.size + 1 + 1) 2 (.slice b2 q j2) (by omega)).set (w.heap.size + 1 + 1) 3 (.int .i64 (q : Int)) (by omega)
    have HCr := hid (rw_capV hOr.log)
    try rw [hnq] at HCr
    try rw [hl1] at HCr
    have HOr := hid (hOr.lower (show w.heap.size ≤ w3.heap.size by omega)).own
    obtain ⟨⟨z0, z1, z2, z3⟩, f0, f1, f2, f3⟩ := hK6.cells
    have HNQ := hid hnq
    clear hKr hOr hK7 hO7 hO6 ho6 b6 hlg hnq
    go_wp2_with fail
    generalize ((((((w6.setCell ⟨w4.heap.size, 2, none⟩ (.slice b2 q j2)).setCell ⟨w4.heap.size, 3, none⟩ (.int .i64 (q : Int))).setCell ⟨w.heap.size + 1 + 1, 0, none⟩ (.slice a1 B.length c1)).setCell ⟨w.heap.size + 1 + 1, 1, none⟩ (.int .i64 F)).setCell ⟨w.heap.size + 1 + 1, 2, none⟩ (.slice b2 q j2)).setCell ⟨w.heap.size + 1 + 1, 3, none⟩ (.int .i64 (q : Int))) = XX at *
    refine bodyPost_ret (v := .tuple #[.agg #[.slice a1 B.length c1, .int .i64 F, .slice b2 q j2, .int .i64 (q : Int)], .bool true]) (by simp [results, Try.results16, go_sem, er0, er1, er2, er3]) rfl ?_
    exact HDO.out _ _ ⟨_, _, _, _, HCr.out, rfl, HOr.out, HBr.out⟩
  by_cases kk1 : k = 1
  · subst kk1
    have hXw := hXDlt
    have hXb := HXD.out
    have hOb := HOV.out
    clear d0 d1 d2 d3 g0 g1 g2 g3 x0 x1 x2 x3
    go_wp2_with fail
    refine (HRF.out _).mono ?_
    rintro e w6 ⟨rfl, b6⟩
    have hK6 := HK5.out.on b6
    have hX6 := (b6.block w4.heap.size hXw).trans hXb
    have hs6 := b6.size
    have hO6 := hOb.below b6
    clear b6
    cases hr : recOk ⟨1, p, n, D, m⟩
    · rw [recV_no hr]
      have HNO : Hid (doV B F L s ⟨1, p, n, D, m⟩ = none) := (doV_rec (o := ⟨1, p, n, D, m⟩) (show (1 : Int) ≤ 1 ∧ (1 : Int) ≤ 3 by omega)).trans (recDo_no hr)
      have HK7 := hid (hK6.on (boxB w6 (.cells #[.int .i64 0, .int .i64 0, .int .i64 0, .string ⟨#[]⟩] 37)))
      clear hr hK6 hX6 hO6
      have hKz := HK7.out.fill (.slice none 0 0) (.int .i64 0) (.slice none 0 0) (.int .i64 0)
      have ez0 : (((((w6.alloc (.cells #[.int .i64 0, .int .i64 0, .int .i64 0, .string ⟨#[]⟩] 37)).setCell ⟨w.heap.size + 1 + 1, 0, none⟩ (.slice none 0 0)).setCell ⟨w.heap.size + 1 + 1, 1, none⟩ (.int .i64 0)).setCell ⟨w.heap.size + 1 + 1, 2, none⟩ (.slice none 0 0)).setCell ⟨w.heap.size + 1 + 1, 3, none⟩ (.int .i64 0)).cell? ⟨w.heap.size + 1 + 1, 0, none⟩ = some (.slice none 0 0) := box_cell hKz.z 0
      have ez1 : (((((w6.alloc (.cells #[.int .i64 0, .int .i64 0, .int .i64 0, .string ⟨#[]⟩] 37)).setCell ⟨w.heap.size + 1 + 1, 0, none⟩ (.slice none 0 0)).setCell ⟨w.heap.size + 1 + 1, 1, none⟩ (.int .i64 0)).setCell ⟨w.heap.size + 1 + 1, 2, none⟩ (.slice none 0 0)).setCell ⟨w.heap.size + 1 + 1, 3, none⟩ (.int .i64 0)).cell? ⟨w.heap.size + 1 + 1, 1, none⟩ = some (.int .i64 0) := box_cell hKz.z 1
      have ez2 : (((((w6.alloc (.cells #[.int .i64 0, .int .i64 0, .int .i64 0, .string ⟨#[]⟩] 37)).setCell ⟨w.heap.size + 1 + 1, 0, none⟩ (.slice none 0 0)).setCell ⟨w.heap.size + 1 + 1, 1, none⟩ (.int .i64 0)).setCell ⟨w.heap.size + 1 + 1, 2, none⟩ (.slice none 0 0)).setCell ⟨w.heap.size + 1 + 1, 3, none⟩ (.int .i64 0)).cell? ⟨w.heap.size + 1 + 1, 2, none⟩ = some (.slice none 0 0) := box_cell hKz.z 2
      have ez3 : (((((w6.alloc (.cells #[.int .i64 0, .int .i64 0, .int .i64 0, .string ⟨#[]⟩] 37)).setCell ⟨w.heap.size + 1 + 1, 0, none⟩ (.slice none 0 0)).setCell ⟨w.heap.size + 1 + 1, 1, none⟩ (.int .i64 0)).setCell ⟨w.heap.size + 1 + 1, 2, none⟩ (.slice none 0 0)).setCell ⟨w.heap.size + 1 + 1, 3, none⟩ (.int .i64 0)).cell? ⟨w.heap.size + 1 + 1, 3, none⟩ = some (.int .i64 0) := box_cell hKz.z 3
      have HBz := hid hKz.below
      obtain ⟨⟨z0, z1, z2, z3⟩, f0, f1, f2, f3⟩ := HK7.out.cells
      clear hKz
      go_wp2_with fail
      generalize (((((w6.alloc (.cells #[.int .i64 0, .int .i64 0, .int .i64 0, .string ⟨#[]⟩] 37)).setCell ⟨w.heap.size + 1 + 1, 0, none⟩ (.slice none 0 0)).setCell ⟨w.heap.size + 1 + 1, 1, none⟩ (.int .i64 0)).setCell ⟨w.heap.size + 1 + 1, 2, none⟩ (.slice none 0 0)).setCell ⟨w.heap.size + 1 + 1, 3, none⟩ (.int .i64 0)) = XX at *
      refine bodyPost_ret (v := .tuple #[.agg #[.slice none 0 0, .int .i64 0, .slice none 0 0, .int .i64 0], .bool false]) (by simp [results, Try.results16, go_sem, ez0, ez1, ez2, ez3]) rfl ?_
      rw [HNO.out]
      exact ⟨rfl, HBz.out⟩
    rw [recV_yes hr]
    have b7 := boxB w6 (.cells #[.int .i64 1, .int .i64 p, .int .i64 n, .string D] 37)
    have hK7 := hK6.on b7
    have hX7 := (b7.block w4.heap.size (by omega)).trans hX6
    have hO7 := hO6.below b7
    have hR7 : (w6.alloc (.cells #[.int .i64 1, .int .i64 p, .int .i64 n, .string D] 37)).heap[w6.heap.size]? = some (.cells #[.int .i64 1, .int .i64 p, .int .i64 n, .string D] 37) := heap_last _ _
    have hz7 : (w6.alloc (.cells #[.int .i64 1, .int .i64 p, .int .i64 n, .string D] 37)).heap.size = w6.heap.size + 1 := heap_size _ _
    generalize hW7 : w6.alloc (.cells #[.int .i64 1, .int .i64 p, .int .i64 n, .string D] 37) = W7 at *
    clear b7 hK6 hX6 hO6
    by_cases h40 : L.length = 40
    · have HNO : Hid (doV B F L s ⟨1, p, n, D, m⟩ = none) := by
        show doV B F L s ⟨1, p, n, D, m⟩ = none
        rw [doV_rec (o := ⟨1, p, n, D, m⟩) (show (1 : Int) ≤ 1 ∧ (1 : Int) ≤ 3 by omega)]; unfold recDo; rw [if_neg (fun g => g.2.1 h40)]
      have q40 : ((L.length : Int) == 40) = true := by rw [h40]; rfl
      have q41 : decide ((L.length : Int) = 40) = true := decide_eq_true (by omega)
      have q42 : decide (L.length = 40) = true := decide_eq_true h40
      have q43 : (L.length == 40) = true := by rw [h40]; rfl
      obtain ⟨x0, x1, x2, x3⟩ := hK7.vol
      have HK7 := hid hK7
      clear hr h40 hK7 hX7 hO7 hR7
      have hKz := HK7.out.fill (.slice none 0 0) (.int .i64 0) (.slice none 0 0) (.int .i64 0)
      have ez0 : ((((W7.setCell ⟨w.heap.size + 1 + 1, 0, none⟩ (.slice none 0 0)).setCell ⟨w.heap.size + 1 + 1, 1, none⟩ (.int .i64 0)).setCell ⟨w.heap.size + 1 + 1, 2, none⟩ (.slice none 0 0)).setCell ⟨w.heap.size + 1 + 1, 3, none⟩ (.int .i64 0)).cell? ⟨w.heap.size + 1 + 1, 0, none⟩ = some (.slice none 0 0) := box_cell hKz.z 0
      have ez1 : ((((W7.setCell ⟨w.heap.size + 1 + 1, 0, none⟩ (.slice none 0 0)).setCell ⟨w.heap.size + 1 + 1, 1, none⟩ (.int .i64 0)).setCell ⟨w.heap.size + 1 + 1, 2, none⟩ (.slice none 0 0)).setCell ⟨w.heap.size + 1 + 1, 3, none⟩ (.int .i64 0)).cell? ⟨w.heap.size + 1 + 1, 1, none⟩ = some (.int .i64 0) := box_cell hKz.z 1
      have ez2 : ((((W7.setCell ⟨w.heap.size + 1 + 1, 0, none⟩ (.slice none 0 0)).setCell ⟨w.heap.size + 1 + 1, 1, none⟩ (.int .i64 0)).setCell ⟨w.heap.size + 1 + 1, 2, none⟩ (.slice none 0 0)).setCell ⟨w.heap.size + 1 + 1, 3, none⟩ (.int .i64 0)).cell? ⟨w.heap.size + 1 + 1, 2, none⟩ = some (.slice none 0 0) := box_cell hKz.z 2
      have ez3 : ((((W7.setCell ⟨w.heap.size + 1 + 1, 0, none⟩ (.slice none 0 0)).setCell ⟨w.heap.size + 1 + 1, 1, none⟩ (.int .i64 0)).setCell ⟨w.heap.size + 1 + 1, 2, none⟩ (.slice none 0 0)).setCell ⟨w.heap.size + 1 + 1, 3, none⟩ (.int .i64 0)).cell? ⟨w.heap.size + 1 + 1, 3, none⟩ = some (.int .i64 0) := box_cell hKz.z 3
      have HBz := hid hKz.below
      obtain ⟨⟨z0, z1, z2, z3⟩, f0, f1, f2, f3⟩ := HK7.out.cells
      clear hKz
      go_wp2_with fail
      generalize ((((W7.setCell ⟨w.heap.size + 1 + 1, 0, none⟩ (.slice none 0 0)).setCell ⟨w.heap.size + 1 + 1, 1, none⟩ (.int .i64 0)).setCell ⟨w.heap.size + 1 + 1, 2, none⟩ (.slice none 0 0)).setCell ⟨w.heap.size + 1 + 1, 3, none⟩ (.int .i64 0)) = XX at *
      refine bodyPost_ret (v := .tuple #[.agg #[.slice none 0 0, .int .i64 0, .slice none 0 0, .int .i64 0], .bool false]) (by simp [results, Try.results16, go_sem, ez0, ez1, ez2, ez3]) rfl ?_
      rw [HNO.out]
      exact ⟨rfl, HBz.out⟩
    have q40 : ((L.length : Int) == 40) = false := beq_eq_false_iff_ne.2 (by omega)
    have q41 : decide ((L.length : Int) = 40) = false := decide_eq_false (by omega)
    have q42 : decide (L.length = 40) = false := decide_eq_false h40
    have q43 : (L.length == 40) = false := beq_eq_false_iff_ne.2 h40
    have HEQ : Hid (doV B F L s ⟨1, p, n, D, m⟩ = some (B, F, L ++ [opR ⟨1, p, n, D, m⟩], s)) := by
      show doV B F L s ⟨1, p, n, D, m⟩ = _
      rw [doV_rec (o := ⟨1, p, n, D, m⟩) (show (1 : Int) ≤ 1 ∧ (1 : Int) ≤ 3 by omega)]; unfold recDo; rw [if_pos ⟨hr, h40, fun g => by cases g⟩]
    have hRs : Rs (W7.alloc (.cells #[.int .i64 1, .int .i64 p, .int .i64 n, .string D] 37)).heap.size (some ⟨W7.heap.size, 0, none⟩) [opR ⟨1, p, n, D, m⟩] (W7.alloc (.cells #[.int .i64 1, .int .i64 p, .int .i64 n, .string D] 37)) := by
      have := rrow_one W7 (opR ⟨1, p, n, D, m⟩)
      have hD : str (opR ⟨1, p, n, D, m⟩).data = D := str_back D
      rw [hD] at this
      exact this
    have b8 := boxB W7 (.cells #[.int .i64 1, .int .i64 p, .int .i64 n, .string D] 37)
    obtain ⟨v9, w9, r9, o9, g9, gb9⟩ := app_rec (W7.alloc (.cells #[.int .i64 1, .int .i64 p, .int .i64 n, .string D] 37)) mid (.slice a2 L.length c2) L.length (rvals L) (rw_below hO7.log b8) (some ⟨W7.heap.size, 0, none⟩) 1 [opR ⟨1, p, n, D, m⟩] hRs (by show L.length + 1 ≤ 10000; omega) (by have := hO7.mh; have := b8.size; omega)
    obtain ⟨a9, c9, rfl⟩ := rw_form o9
    have hmid : w.heap.size + 3 ≤ mid := by have := hO7.lm; omega
    have g9b := below_of_grown (lo := mid) g9 (by have := hO7.mh; have := b8.size; omega) (fun j hj => (hO7.log.lt j hj).1)
    have hK9 := (hK7.on b8).step (g9b.mono hmid)
    have hne9 : ∀ g, (Value.slice a2 L.length c2).ownBlock = some g → g ≠ w4.heap.size := fun g hg => by have := HLD.out g hg; omega
    have hX9 := (g9.block w4.heap.size (by have := b8.size; omega) (fun e9 => hne9 _ e9.symm rfl)).trans ((b8.block w4.heap.size (by omega)).trans hX7)
    have hl1 : (L ++ [opR ⟨1, p, n, D, m⟩]).length = L.length + 1 := by rw [List.length_append]; rfl
    have hO9 : OV w3.heap.size mid a1 c1 B a9 c9 (L ++ [opR ⟨1, p, n, D, m⟩]) w9 := by
      refine ⟨hO7.lm, by have := hO7.mh; have := b8.size; have := g9.size; omega, rw_keep (rw_below hO7.base b8) (fun g hg => g9.block g (by have := (rw_below hO7.base b8).lt g hg; exact this.2) (fun e9 => ?_)), hO7.low, ?_⟩
      · have h8 := hO7.low g hg
        have h9 := (hO7.log.lt g e9.symm).1
        omega
      · rw [hl1, rvals_snoc]; exact o9
    have hlg : ∀ g, (Value.slice a9 (L ++ [opR ⟨1, p, n, D, m⟩]).length c9).ownBlock = some g → g ≠ w4.heap.size := fun g hg => by
      rw [hl1] at hg
      rcases gb9 with h8 | h8
      · exact hne9 g (by rw [← h8]; exact hg)
      · have h7 : (Value.slice a9 (L.length + 1) c9).ownBlock = some g := hg
        have h6 := h8.symm.trans h7
        injection h6 with h6
        have h5 : (W7.alloc (.cells #[.int .i64 1, .int .i64 p, .int .i64 n, .string D] 37)).heap.size = W7.heap.size + 1 := heap_size _ _
        omega
    have hO10 := hO9.apart w4.heap.size 2 (.slice a9 (L.length + 1) c9) (fun g hg => by have := HBD.out g hg; omega) hlg
    have hK10 := hK9.step (setB (Below.refl (w.heap.size + 3) w9) w4.heap.size 2 hX3 (.slice a9 (L.length + 1) c9))
    have d0 : w9.cell? ⟨w4.heap.size, 0, none⟩ = some (.slice a1 B.length c1) := box_cell hX9 0
    have g0 : w9.frozen? ⟨w4.heap.size, 0, none⟩ = false := box_free hX9 0
    have d1 : w9.cell? ⟨w4.heap.size, 1, none⟩ = some (.int .i64 F) := box_cell hX9 1
    have g1 : w9.frozen? ⟨w4.heap.size, 1, none⟩ = false := box_free hX9 1
    have d2 : w9.cell? ⟨w4.heap.size, 2, none⟩ = some (.slice a2 L.length c2) := box_cell hX9 2
    have g2 : w9.frozen? ⟨w4.heap.size, 2, none⟩ = false := box_free hX9 2
    have d3 : w9.cell? ⟨w4.heap.size, 3, none⟩ = some (.int .i64 s) := box_cell hX9 3
    have g3 : w9.frozen? ⟨w4.heap.size, 3, none⟩ = false := box_free hX9 3
    have dd2 : W7.cell? ⟨w4.heap.size, 2, none⟩ = some (.slice a2 L.length c2) := box_cell hX7 2
    have rr0 : W7.cell? ⟨w6.heap.size, 0, none⟩ = some (.int .i64 1) := box_cell hR7 0
    have rr1 : W7.cell? ⟨w6.heap.size, 1, none⟩ = some (.int .i64 p) := box_cell hR7 1
    have rr2 : W7.cell? ⟨w6.heap.size, 2, none⟩ = some (.int .i64 n) := box_cell hR7 2
    have rr3 : W7.cell? ⟨w6.heap.size, 3, none⟩ = some (.string D) := box_cell hR7 3
    have hKr := hK10.fill (.slice a1 B.length c1) (.int .i64 F) (.slice a9 (L.length + 1) c9) (.int .i64 s)
    have er0 : (((((w9.setCell ⟨w4.heap.size, 2, none⟩ (.slice a9 (L.length + 1) c9)).setCell ⟨w.heap.size + 1 + 1, 0, none⟩ (.slice a1 B.length c1)).setCell ⟨w.heap.size + 1 + 1, 1, none⟩ (.int .i64 F)).setCell ⟨w.heap.size + 1 + 1, 2, none⟩ (.slice a9 (L.length + 1) c9)).setCell ⟨w.heap.size + 1 + 1, 3, none⟩ (.int .i64 s)).cell? ⟨w.heap.size + 1 + 1, 0, none⟩ = some (.slice a1 B.length c1) := box_cell hKr.z 0
    have er1 : (((((w9.setCell ⟨w4.heap.size, 2, none⟩ (.slice a9 (L.length + 1) c9)).setCell ⟨w.heap.size + 1 + 1, 0, none⟩ (.slice a1 B.length c1)).setCell ⟨w.heap.size + 1 + 1, 1, none⟩ (.int .i64 F)).setCell ⟨w.heap.size + 1 + 1, 2, none⟩ (.slice a9 (L.length + 1) c9)).setCell ⟨w.heap.size + 1 + 1, 3, none⟩ (.int .i64 s)).cell? ⟨w.heap.size + 1 + 1, 1, none⟩ = some (.int .i64 F) := box_cell hKr.z 1
    have er2 : (((((w9.setCell ⟨w4.heap.size, 2, none⟩ (.slice a9 (L.length + 1) c9)).setCell ⟨w.heap.size + 1 + 1, 0, none⟩ (.slice a1 B.length c1)).setCell ⟨w.heap.size + 1 + 1, 1, none⟩ (.int .i64 F)).setCell ⟨w.heap.size + 1 + 1, 2, none⟩ (.slice a9 (L.length + 1) c9)).setCell ⟨w.heap.size + 1 + 1, 3, none⟩ (.int .i64 s)).cell? ⟨w.heap.size + 1 + 1, 2, none⟩ = some (.slice a9 (L.length + 1) c9) := box_cell hKr.z 2
    have er3 : (((((w9.setCell ⟨w4.heap.size, 2, none⟩ (.slice a9 (L.length + 1) c9)).setCell ⟨w.heap.size + 1 + 1, 0, none⟩ (.slice a1 B.length c1)).setCell ⟨w.heap.size + 1 + 1, 1, none⟩ (.int .i64 F)).setCell ⟨w.heap.size + 1 + 1, 2, none⟩ (.slice a9 (L.length + 1) c9)).setCell ⟨w.heap.size + 1 + 1, 3, none⟩ (.int .i64 s)).cell? ⟨w.heap.size + 1 + 1, 3, none⟩ = some (.int .i64 s) := box_cell hKr.z 3
    have HBr := hid hKr.below
    have hOr := (((hO10.set (w.heap.size + 1 + 1) 0 (.slice a1 B.length c1) (by omega)).set (w.heap.size + 1 + 1) 1 (.int .i64 F) (by omega)).set (w.heap.size + 1 + 1) 2 (.slice a9 (L.length + 1) c9) (by omega)).set (w.heap.size + 1 + 1) 3 (.int .i64 s) (by omega)
    have HCr := hid (rw_capV hOr.log)
    try rw [hnq] at HCr
    try rw [hl1] at HCr
    have HOr := hid (hOr.lower (show w.heap.size ≤ w3.heap.size by omega)).own
    have HDO : Hid (∀ e w', (∃ aB' kB' aL' kL', (L.length + 1) ≤ kL' ∧ e = .returned (.tuple #[.agg #[.slice aB' B.length kB', .int .i64 F, .slice aL' (L.length + 1) kL', .int .i64 s], .bool true]) ∧ OwnV w.heap.size w'.heap.size aB' B aL' (L ++ [opR ⟨1, p, n, D, m⟩]) w' ∧ Below w.heap.size w w') → DOutK (doV B F L s ⟨1, p, n, D, m⟩) w e w') := fun e w' h => by
      rw [HEQ.out]
      obtain ⟨x1, x2, x3, x4, h0, h1, h2, h3⟩ := h
      exact ⟨x1, x2, x3, x4, Nat.le_trans (Nat.le_of_eq hl1) h0, by rw [h1, hl1], h2, h3⟩
    obtain ⟨⟨z0, z1, z2, z3⟩, f0, f1, f2, f3⟩ := hK9.cells
    obtain ⟨y0, y1, y2, y3⟩ := hK7.vol
    clear hKr hOr hK10 hO10 hO9 hlg o9 g9 gb9 g9b hK9 hX9 hne9 hRs b8 hO7 hK7 hX7 hR7 hz7 hl1 hr h40
    go_wp2_with (at_builtin; refine wpList_append_run rfl (.tmp 58) (.tmp 60) 26 rfl _ _ rfl rfl _ _ r9 ?_)
    generalize (((((w9.setCell ⟨w4.heap.size, 2, none⟩ (.slice a9 (L.length + 1) c9)).setCell ⟨w.heap.size + 1 + 1, 0, none⟩ (.slice a1 B.length c1)).setCell ⟨w.heap.size + 1 + 1, 1, none⟩ (.int .i64 F)).setCell ⟨w.heap.size + 1 + 1, 2, none⟩ (.slice a9 (L.length + 1) c9)).setCell ⟨w.heap.size + 1 + 1, 3, none⟩ (.int .i64 s)) = XX at *
    refine bodyPost_ret (v := .tuple #[.agg #[.slice a1 B.length c1, .int .i64 F, .slice a9 (L.length + 1) c9, .int .i64 s], .bool true]) (by simp [results, Try.results16, go_sem, er0, er1, er2, er3]) rfl ?_
    exact HDO.out _ _ ⟨_, _, _, _, HCr.out, rfl, HOr.out, HBr.out⟩
  by_cases kk2 : k = 2
  · subst kk2
    have hXw := hXDlt
    have hXb := HXD.out
    have hOb := HOV.out
    clear d0 d1 d2 d3 g0 g1 g2 g3 x0 x1 x2 x3
    go_wp2_with fail
    refine (HRF.out _).mono ?_
    rintro e w6 ⟨rfl, b6⟩
    have hK6 := HK5.out.on b6
    have hX6 := (b6.block w4.heap.size hXw).trans hXb
    have hs6 := b6.size
    have hO6 := hOb.below b6
    clear b6
    cases hr : recOk ⟨2, p, n, D, m⟩
    · rw [recV_no hr]
      have HNO : Hid (doV B F L s ⟨2, p, n, D, m⟩ = none) := (doV_rec (o := ⟨2, p, n, D, m⟩) (show (1 : Int) ≤ 2 ∧ (2 : Int) ≤ 3 by omega)).trans (recDo_no hr)
      have HK7 := hid (hK6.on (boxB w6 (.cells #[.int .i64 0, .int .i64 0, .int .i64 0, .string ⟨#[]⟩] 37)))
      clear hr hK6 hX6 hO6
      have hKz := HK7.out.fill (.slice none 0 0) (.int .i64 0) (.slice none 0 0) (.int .i64 0)
      have ez0 : (((((w6.alloc (.cells #[.int .i64 0, .int .i64 0, .int .i64 0, .string ⟨#[]⟩] 37)).setCell ⟨w.heap.size + 1 + 1, 0, none⟩ (.slice none 0 0)).setCell ⟨w.heap.size + 1 + 1, 1, none⟩ (.int .i64 0)).setCell ⟨w.heap.size + 1 + 1, 2, none⟩ (.slice none 0 0)).setCell ⟨w.heap.size + 1 + 1, 3, none⟩ (.int .i64 0)).cell? ⟨w.heap.size + 1 + 1, 0, none⟩ = some (.slice none 0 0) := box_cell hKz.z 0
      have ez1 : (((((w6.alloc (.cells #[.int .i64 0, .int .i64 0, .int .i64 0, .string ⟨#[]⟩] 37)).setCell ⟨w.heap.size + 1 + 1, 0, none⟩ (.slice none 0 0)).setCell ⟨w.heap.size + 1 + 1, 1, none⟩ (.int .i64 0)).setCell ⟨w.heap.size + 1 + 1, 2, none⟩ (.slice none 0 0)).setCell ⟨w.heap.size + 1 + 1, 3, none⟩ (.int .i64 0)).cell? ⟨w.heap.size + 1 + 1, 1, none⟩ = some (.int .i64 0) := box_cell hKz.z 1
      have ez2 : (((((w6.alloc (.cells #[.int .i64 0, .int .i64 0, .int .i64 0, .string ⟨#[]⟩] 37)).setCell ⟨w.heap.size + 1 + 1, 0, none⟩ (.slice none 0 0)).setCell ⟨w.heap.size + 1 + 1, 1, none⟩ (.int .i64 0)).setCell ⟨w.heap.size + 1 + 1, 2, none⟩ (.slice none 0 0)).setCell ⟨w.heap.size + 1 + 1, 3, none⟩ (.int .i64 0)).cell? ⟨w.heap.size + 1 + 1, 2, none⟩ = some (.slice none 0 0) := box_cell hKz.z 2
      have ez3 : (((((w6.alloc (.cells #[.int .i64 0, .int .i64 0, .int .i64 0, .string ⟨#[]⟩] 37)).setCell ⟨w.heap.size + 1 + 1, 0, none⟩ (.slice none 0 0)).setCell ⟨w.heap.size + 1 + 1, 1, none⟩ (.int .i64 0)).setCell ⟨w.heap.size + 1 + 1, 2, none⟩ (.slice none 0 0)).setCell ⟨w.heap.size + 1 + 1, 3, none⟩ (.int .i64 0)).cell? ⟨w.heap.size + 1 + 1, 3, none⟩ = some (.int .i64 0) := box_cell hKz.z 3
      have HBz := hid hKz.below
      obtain ⟨⟨z0, z1, z2, z3⟩, f0, f1, f2, f3⟩ := HK7.out.cells
      clear hKz
      go_wp2_with fail
      generalize (((((w6.alloc (.cells #[.int .i64 0, .int .i64 0, .int .i64 0, .string ⟨#[]⟩] 37)).setCell ⟨w.heap.size + 1 + 1, 0, none⟩ (.slice none 0 0)).setCell ⟨w.heap.size + 1 + 1, 1, none⟩ (.int .i64 0)).setCell ⟨w.heap.size + 1 + 1, 2, none⟩ (.slice none 0 0)).setCell ⟨w.heap.size + 1 + 1, 3, none⟩ (.int .i64 0)) = XX at *
      refine bodyPost_ret (v := .tuple #[.agg #[.slice none 0 0, .int .i64 0, .slice none 0 0, .int .i64 0], .bool false]) (by simp [results, Try.results16, go_sem, ez0, ez1, ez2, ez3]) rfl ?_
      rw [HNO.out]
      exact ⟨rfl, HBz.out⟩
    rw [recV_yes hr]
    have b7 := boxB w6 (.cells #[.int .i64 2, .int .i64 p, .int .i64 n, .string D] 37)
    have hK7 := hK6.on b7
    have hX7 := (b7.block w4.heap.size (by omega)).trans hX6
    have hO7 := hO6.below b7
    have hR7 : (w6.alloc (.cells #[.int .i64 2, .int .i64 p, .int .i64 n, .string D] 37)).heap[w6.heap.size]? = some (.cells #[.int .i64 2, .int .i64 p, .int .i64 n, .string D] 37) := heap_last _ _
    have hz7 : (w6.alloc (.cells #[.int .i64 2, .int .i64 p, .int .i64 n, .string D] 37)).heap.size = w6.heap.size + 1 := heap_size _ _
    generalize hW7 : w6.alloc (.cells #[.int .i64 2, .int .i64 p, .int .i64 n, .string D] 37) = W7 at *
    clear b7 hK6 hX6 hO6
    by_cases h40 : L.length = 40
    · have HNO : Hid (doV B F L s ⟨2, p, n, D, m⟩ = none) := by
        show doV B F L s ⟨2, p, n, D, m⟩ = none
        rw [doV_rec (o := ⟨2, p, n, D, m⟩) (show (1 : Int) ≤ 2 ∧ (2 : Int) ≤ 3 by omega)]; unfold recDo; rw [if_neg (fun g => g.2.1 h40)]
      have q40 : ((L.length : Int) == 40) = true := by rw [h40]; rfl
      have q41 : decide ((L.length : Int) = 40) = true := decide_eq_true (by omega)
      have q42 : decide (L.length = 40) = true := decide_eq_true h40
      have q43 : (L.length == 40) = true := by rw [h40]; rfl
      obtain ⟨x0, x1, x2, x3⟩ := hK7.vol
      have HK7 := hid hK7
      clear hr h40 hK7 hX7 hO7 hR7
      have hKz := HK7.out.fill (.slice none 0 0) (.int .i64 0) (.slice none 0 0) (.int .i64 0)
      have ez0 : ((((W7.setCell ⟨w.heap.size + 1 + 1, 0, none⟩ (.slice none 0 0)).setCell ⟨w.heap.size + 1 + 1, 1, none⟩ (.int .i64 0)).setCell ⟨w.heap.size + 1 + 1, 2, none⟩ (.slice none 0 0)).setCell ⟨w.heap.size + 1 + 1, 3, none⟩ (.int .i64 0)).cell? ⟨w.heap.size + 1 + 1, 0, none⟩ = some (.slice none 0 0) := box_cell hKz.z 0
      have ez1 : ((((W7.setCell ⟨w.heap.size + 1 + 1, 0, none⟩ (.slice none 0 0)).setCell ⟨w.heap.size + 1 + 1, 1, none⟩ (.int .i64 0)).setCell ⟨w.heap.size + 1 + 1, 2, none⟩ (.slice none 0 0)).setCell ⟨w.heap.size + 1 + 1, 3, none⟩ (.int .i64 0)).cell? ⟨w.heap.size + 1 + 1, 1, none⟩ = some (.int .i64 0) := box_cell hKz.z 1
      have ez2 : ((((W7.setCell ⟨w.heap.size + 1 + 1, 0, none⟩ (.slice none 0 0)).setCell ⟨w.heap.size + 1 + 1, 1, none⟩ (.int .i64 0)).setCell ⟨w.heap.size + 1 + 1, 2, none⟩ (.slice none 0 0)).setCell ⟨w.heap.size + 1 + 1, 3, none⟩ (.int .i64 0)).cell? ⟨w.heap.size + 1 + 1, 2, none⟩ = some (.slice none 0 0) := box_cell hKz.z 2
      have ez3 : ((((W7.setCell ⟨w.heap.size + 1 + 1, 0, none⟩ (.slice none 0 0)).setCell ⟨w.heap.size + 1 + 1, 1, none⟩ (.int .i64 0)).setCell ⟨w.heap.size + 1 + 1, 2, none⟩ (.slice none 0 0)).setCell ⟨w.heap.size + 1 + 1, 3, none⟩ (.int .i64 0)).cell? ⟨w.heap.size + 1 + 1, 3, none⟩ = some (.int .i64 0) := box_cell hKz.z 3
      have HBz := hid hKz.below
      obtain ⟨⟨z0, z1, z2, z3⟩, f0, f1, f2, f3⟩ := HK7.out.cells
      clear hKz
      go_wp2_with fail
      generalize ((((W7.setCell ⟨w.heap.size + 1 + 1, 0, none⟩ (.slice none 0 0)).setCell ⟨w.heap.size + 1 + 1, 1, none⟩ (.int .i64 0)).setCell ⟨w.heap.size + 1 + 1, 2, none⟩ (.slice none 0 0)).setCell ⟨w.heap.size + 1 + 1, 3, none⟩ (.int .i64 0)) = XX at *
      refine bodyPost_ret (v := .tuple #[.agg #[.slice none 0 0, .int .i64 0, .slice none 0 0, .int .i64 0], .bool false]) (by simp [results, Try.results16, go_sem, ez0, ez1, ez2, ez3]) rfl ?_
      rw [HNO.out]
      exact ⟨rfl, HBz.out⟩
    have q40 : ((L.length : Int) == 40) = false := beq_eq_false_iff_ne.2 (by omega)
    have q41 : decide ((L.length : Int) = 40) = false := decide_eq_false (by omega)
    have q42 : decide (L.length = 40) = false := decide_eq_false h40
    have q43 : (L.length == 40) = false := beq_eq_false_iff_ne.2 h40
    have HEQ : Hid (doV B F L s ⟨2, p, n, D, m⟩ = some (B, F, L ++ [opR ⟨2, p, n, D, m⟩], s)) := by
      show doV B F L s ⟨2, p, n, D, m⟩ = _
      rw [doV_rec (o := ⟨2, p, n, D, m⟩) (show (1 : Int) ≤ 2 ∧ (2 : Int) ≤ 3 by omega)]; unfold recDo; rw [if_pos ⟨hr, h40, fun g => by cases g⟩]
    have hRs : Rs (W7.alloc (.cells #[.int .i64 2, .int .i64 p, .int .i64 n, .string D] 37)).heap.size (some ⟨W7.heap.size, 0, none⟩) [opR ⟨2, p, n, D, m⟩] (W7.alloc (.cells #[.int .i64 2, .int .i64 p, .int .i64 n, .string D] 37)) := by
      have := rrow_one W7 (opR ⟨2, p, n, D, m⟩)
      have hD : str (opR ⟨2, p, n, D, m⟩).data = D := str_back D
      rw [hD] at this
      exact this
    have b8 := boxB W7 (.cells #[.int .i64 2, .int .i64 p, .int .i64 n, .string D] 37)
    obtain ⟨v9, w9, r9, o9, g9, gb9⟩ := app_rec (W7.alloc (.cells #[.int .i64 2, .int .i64 p, .int .i64 n, .string D] 37)) mid (.slice a2 L.length c2) L.length (rvals L) (rw_below hO7.log b8) (some ⟨W7.heap.size, 0, none⟩) 1 [opR ⟨2, p, n, D, m⟩] hRs (by show L.length + 1 ≤ 10000; omega) (by have := hO7.mh; have := b8.size; omega)
    obtain ⟨a9, c9, rfl⟩ := rw_form o9
    have hmid : w.heap.size + 3 ≤ mid := by have := hO7.lm; omega
    have g9b := below_of_grown (lo := mid) g9 (by have := hO7.mh; have := b8.size; omega) (fun j hj => (hO7.log.lt j hj).1)
    have hK9 := (hK7.on b8).step (g9b.mono hmid)
    have hne9 : ∀ g, (Value.slice a2 L.length c2).ownBlock = some g → g ≠ w4.heap.size := fun g hg => by have := HLD.out g hg; omega
    have hX9 := (g9.block w4.heap.size (by have := b8.size; omega) (fun e9 => hne9 _ e9.symm rfl)).trans ((b8.block w4.heap.size (by omega)).trans hX7)
    have hl1 : (L ++ [opR ⟨2, p, n, D, m⟩]).length = L.length + 1 := by rw [List.length_append]; rfl
    have hO9 : OV w3.heap.size mid a1 c1 B a9 c9 (L ++ [opR ⟨2, p, n, D, m⟩]) w9 := by
      refine ⟨hO7.lm, by have := hO7.mh; have := b8.size; have := g9.size; omega, rw_keep (rw_below hO7.base b8) (fun g hg => g9.block g (by have := (rw_below hO7.base b8).lt g hg; exact this.2) (fun e9 => ?_)), hO7.low, ?_⟩
      · have h8 := hO7.low g hg
        have h9 := (hO7.log.lt g e9.symm).1
        omega
      · rw [hl1, rvals_snoc]; exact o9
    have hlg : ∀ g, (Value.slice a9 (L ++ [opR ⟨2, p, n, D, m⟩]).length c9).ownBlock = some g → g ≠ w4.heap.size := fun g hg => by
      rw [hl1] at hg
      rcases gb9 with h8 | h8
      · exact hne9 g (by rw [← h8]; exact hg)
      · have h7 : (Value.slice a9 (L.length + 1) c9).ownBlock = some g := hg
        have h6 := h8.symm.trans h7
        injection h6 with h6
        have h5 : (W7.alloc (.cells #[.int .i64 2, .int .i64 p, .int .i64 n, .string D] 37)).heap.size = W7.heap.size + 1 := heap_size _ _
        omega
    have hO10 := hO9.apart w4.heap.size 2 (.slice a9 (L.length + 1) c9) (fun g hg => by have := HBD.out g hg; omega) hlg
    have hK10 := hK9.step (setB (Below.refl (w.heap.size + 3) w9) w4.heap.size 2 hX3 (.slice a9 (L.length + 1) c9))
    have d0 : w9.cell? ⟨w4.heap.size, 0, none⟩ = some (.slice a1 B.length c1) := box_cell hX9 0
    have g0 : w9.frozen? ⟨w4.heap.size, 0, none⟩ = false := box_free hX9 0
    have d1 : w9.cell? ⟨w4.heap.size, 1, none⟩ = some (.int .i64 F) := box_cell hX9 1
    have g1 : w9.frozen? ⟨w4.heap.size, 1, none⟩ = false := box_free hX9 1
    have d2 : w9.cell? ⟨w4.heap.size, 2, none⟩ = some (.slice a2 L.length c2) := box_cell hX9 2
    have g2 : w9.frozen? ⟨w4.heap.size, 2, none⟩ = false := box_free hX9 2
    have d3 : w9.cell? ⟨w4.heap.size, 3, none⟩ = some (.int .i64 s) := box_cell hX9 3
    have g3 : w9.frozen? ⟨w4.heap.size, 3, none⟩ = false := box_free hX9 3
    have dd2 : W7.cell? ⟨w4.heap.size, 2, none⟩ = some (.slice a2 L.length c2) := box_cell hX7 2
    have rr0 : W7.cell? ⟨w6.heap.size, 0, none⟩ = some (.int .i64 2) := box_cell hR7 0
    have rr1 : W7.cell? ⟨w6.heap.size, 1, none⟩ = some (.int .i64 p) := box_cell hR7 1
    have rr2 : W7.cell? ⟨w6.heap.size, 2, none⟩ = some (.int .i64 n) := box_cell hR7 2
    have rr3 : W7.cell? ⟨w6.heap.size, 3, none⟩ = some (.string D) := box_cell hR7 3
    have hKr := hK10.fill (.slice a1 B.length c1) (.int .i64 F) (.slice a9 (L.length + 1) c9) (.int .i64 s)
    have er0 : (((((w9.setCell ⟨w4.heap.size, 2, none⟩ (.slice a9 (L.length + 1) c9)).setCell ⟨w.heap.size + 1 + 1, 0, none⟩ (.slice a1 B.length c1)).setCell ⟨w.heap.size + 1 + 1, 1, none⟩ (.int .i64 F)).setCell ⟨w.heap.size + 1 + 1, 2, none⟩ (.slice a9 (L.length + 1) c9)).setCell ⟨w.heap.size + 1 + 1, 3, none⟩ (.int .i64 s)).cell? ⟨w.heap.size + 1 + 1, 0, none⟩ = some (.slice a1 B.length c1) := box_cell hKr.z 0
    have er1 : (((((w9.setCell ⟨w4.heap.size, 2, none⟩ (.slice a9 (L.length + 1) c9)).setCell ⟨w.heap.size + 1 + 1, 0, none⟩ (.slice a1 B.length c1)).setCell ⟨w.heap.size + 1 + 1, 1, none⟩ (.int .i64 F)).setCell ⟨w.heap.size + 1 + 1, 2, none⟩ (.slice a9 (L.length + 1) c9)).setCell ⟨w.heap.size + 1 + 1, 3, none⟩ (.int .i64 s)).cell? ⟨w.heap.size + 1 + 1, 1, none⟩ = some (.int .i64 F) := box_cell hKr.z 1
    have er2 : (((((w9.setCell ⟨w4.heap.size, 2, none⟩ (.slice a9 (L.length + 1) c9)).setCell ⟨w.heap.size + 1 + 1, 0, none⟩ (.slice a1 B.length c1)).setCell ⟨w.heap.size + 1 + 1, 1, none⟩ (.int .i64 F)).setCell ⟨w.heap.size + 1 + 1, 2, none⟩ (.slice a9 (L.length + 1) c9)).setCell ⟨w.heap.size + 1 + 1, 3, none⟩ (.int .i64 s)).cell? ⟨w.heap.size + 1 + 1, 2, none⟩ = some (.slice a9 (L.length + 1) c9) := box_cell hKr.z 2
    have er3 : (((((w9.setCell ⟨w4.heap.size, 2, none⟩ (.slice a9 (L.length + 1) c9)).setCell ⟨w.heap.size + 1 + 1, 0, none⟩ (.slice a1 B.length c1)).setCell ⟨w.heap.size + 1 + 1, 1, none⟩ (.int .i64 F)).setCell ⟨w.heap.size + 1 + 1, 2, none⟩ (.slice a9 (L.length + 1) c9)).setCell ⟨w.heap.size + 1 + 1, 3, none⟩ (.int .i64 s)).cell? ⟨w.heap.size + 1 + 1, 3, none⟩ = some (.int .i64 s) := box_cell hKr.z 3
    have HBr := hid hKr.below
    have hOr := (((hO10.set (w.heap.size + 1 + 1) 0 (.slice a1 B.length c1) (by omega)).set (w.heap.size + 1 + 1) 1 (.int .i64 F) (by omega)).set (w.heap.size + 1 + 1) 2 (.slice a9 (L.length + 1) c9) (by omega)).set (w.heap.size + 1 + 1) 3 (.int .i64 s) (by omega)
    have HCr := hid (rw_capV hOr.log)
    try rw [hnq] at HCr
    try rw [hl1] at HCr
    have HOr := hid (hOr.lower (show w.heap.size ≤ w3.heap.size by omega)).own
    have HDO : Hid (∀ e w', (∃ aB' kB' aL' kL', (L.length + 1) ≤ kL' ∧ e = .returned (.tuple #[.agg #[.slice aB' B.length kB', .int .i64 F, .slice aL' (L.length + 1) kL', .int .i64 s], .bool true]) ∧ OwnV w.heap.size w'.heap.size aB' B aL' (L ++ [opR ⟨2, p, n, D, m⟩]) w' ∧ Below w.heap.size w w') → DOutK (doV B F L s ⟨2, p, n, D, m⟩) w e w') := fun e w' h => by
      rw [HEQ.out]
      obtain ⟨x1, x2, x3, x4, h0, h1, h2, h3⟩ := h
      exact ⟨x1, x2, x3, x4, Nat.le_trans (Nat.le_of_eq hl1) h0, by rw [h1, hl1], h2, h3⟩
    obtain ⟨⟨z0, z1, z2, z3⟩, f0, f1, f2, f3⟩ := hK9.cells
    obtain ⟨y0, y1, y2, y3⟩ := hK7.vol
    clear hKr hOr hK10 hO10 hO9 hlg o9 g9 gb9 g9b hK9 hX9 hne9 hRs b8 hO7 hK7 hX7 hR7 hz7 hl1 hr h40
    go_wp2_with (at_builtin; refine wpList_append_run rfl (.tmp 58) (.tmp 60) 26 rfl _ _ rfl rfl _ _ r9 ?_)
    generalize (((((w9.setCell ⟨w4.heap.size, 2, none⟩ (.slice a9 (L.length + 1) c9)).setCell ⟨w.heap.size + 1 + 1, 0, none⟩ (.slice a1 B.length c1)).setCell ⟨w.heap.size + 1 + 1, 1, none⟩ (.int .i64 F)).setCell ⟨w.heap.size + 1 + 1, 2, none⟩ (.slice a9 (L.length + 1) c9)).setCell ⟨w.heap.size + 1 + 1, 3, none⟩ (.int .i64 s)) = XX at *
    refine bodyPost_ret (v := .tuple #[.agg #[.slice a1 B.length c1, .int .i64 F, .slice a9 (L.length + 1) c9, .int .i64 s], .bool true]) (by simp [results, Try.results16, go_sem, er0, er1, er2, er3]) rfl ?_
    exact HDO.out _ _ ⟨_, _, _, _, HCr.out, rfl, HOr.out, HBr.out⟩
  obtain rfl : k = 3 := by omega
  have HKd := hid (HK5.out.on (Below.refl _ _).drew)
  have t0 : W5.drew.cell? ⟨w.heap.size + 1, 1, none⟩ = some (.int .i64 p) := o1
  have t1 : W5.drew.cell? ⟨w.heap.size, 1, none⟩ = some (.int .i64 F) := x1
  have t2 : W5.drew.cell? ⟨w.heap.size, 2, none⟩ = some (.slice aL L.length kL) := x2
  have HMd := hid (HMB.out W5.drew HKd.out.below)
  obtain ⟨mk, hmk⟩ : ∃ mk, markF F L = mk := ⟨_, rfl⟩
  rw [hmk] at HMd HM
  have HMK := hid hmk
  obtain ⟨m0, m1⟩ := HM.out
  have hwr : IntKind.i64.wrap (mk + 1) = mk + 1 := by rw [IntKind.wrap_i64]; omega
  have hOb := HOV.out
  have hXb := HXD.out
  clear hmk HMB HCR HFS HRS HM d0 d1 d2 d3 g0 g1 g2 g3
  by_cases hp : p = mk + 1
  · have e1 : (p == mk + 1) = true := by rw [hp]; exact beq_self_eq_true _
    have e2 : decide (p = mk + 1) = true := decide_eq_true hp
    have HP := hid hp
    clear hp
    go_wp2_with fail
    go_region_held (fun v => v.cell? ⟨w.heap.size + 1, 1, none⟩ = some (.int .i64 p) ∧ v.cell? ⟨w.heap.size, 1, none⟩ = some (.int .i64 F) ∧ v.cell? ⟨w.heap.size, 2, none⟩ = some (.slice aL L.length kL)) (first | exact ⟨by with_reducible assumption, by with_reducible assumption, by with_reducible assumption⟩) (first | (go_at_call 44; refine HMd.out.mono ?_; rintro e wm ⟨rfl, bm⟩; have hKm := HKd.out.on bm; have u0 : wm.cell? ⟨w.heap.size + 1, 1, none⟩ = some (.int .i64 p) := box_cell hKm.o 1; have u1 : wm.cell? ⟨w.heap.size, 1, none⟩ = some (.int .i64 F) := box_cell hKm.x 1; have u2 : wm.cell? ⟨w.heap.size, 2, none⟩ = some (.slice aL L.length kL) := box_cell hKm.x 2))
    all_goals
      have bm5 : Below W5.heap.size W5 wm := ⟨bm.os, bm.tape, bm.output, bm.size, bm.block⟩
      have hXw : w4.heap.size < wm.heap.size := Nat.lt_of_lt_of_le hXDlt bm5.size
      replace hXb := (bm5.block w4.heap.size hXDlt).trans hXb
      replace hOb := hOb.below bm5
      have HKm := hid hKm
      clear bm bm5 hKm u0 u1 u2 t0 t1 t2 x0 x1 x2 x3 o0 o1 o2 o3 o4 hW5
      obtain ⟨o0, o1, o2, o3, o4⟩ := HKm.out.op
      go_wp2_with fail
      refine (HRF.out _).mono ?_
      rintro e w6 ⟨rfl, b6⟩
      have hK6 := HKm.out.on b6
      have hX6 := (b6.block w4.heap.size hXw).trans hXb
      have hs6 := b6.size
      have hO6 := hOb.below b6
      clear b6
      cases hr : recOk ⟨3, p, n, D, m⟩
      · rw [recV_no hr]
        have HNO : Hid (doV B F L s ⟨3, p, n, D, m⟩ = none) := (doV_rec (o := ⟨3, p, n, D, m⟩) (show (1 : Int) ≤ 3 ∧ (3 : Int) ≤ 3 by omega)).trans (recDo_no hr)
        have HK7 := hid (hK6.on (boxB w6 (.cells #[.int .i64 0, .int .i64 0, .int .i64 0, .string ⟨#[]⟩] 37)))
        clear hr hK6 hX6 hO6
        have hKz := HK7.out.fill (.slice none 0 0) (.int .i64 0) (.slice none 0 0) (.int .i64 0)
        have ez0 : (((((w6.alloc (.cells #[.int .i64 0, .int .i64 0, .int .i64 0, .string ⟨#[]⟩] 37)).setCell ⟨w.heap.size + 1 + 1, 0, none⟩ (.slice none 0 0)).setCell ⟨w.heap.size + 1 + 1, 1, none⟩ (.int .i64 0)).setCell ⟨w.heap.size + 1 + 1, 2, none⟩ (.slice none 0 0)).setCell ⟨w.heap.size + 1 + 1, 3, none⟩ (.int .i64 0)).cell? ⟨w.heap.size + 1 + 1, 0, none⟩ = some (.slice none 0 0) := box_cell hKz.z 0
        have ez1 : (((((w6.alloc (.cells #[.int .i64 0, .int .i64 0, .int .i64 0, .string ⟨#[]⟩] 37)).setCell ⟨w.heap.size + 1 + 1, 0, none⟩ (.slice none 0 0)).setCell ⟨w.heap.size + 1 + 1, 1, none⟩ (.int .i64 0)).setCell ⟨w.heap.size + 1 + 1, 2, none⟩ (.slice none 0 0)).setCell ⟨w.heap.size + 1 + 1, 3, none⟩ (.int .i64 0)).cell? ⟨w.heap.size + 1 + 1, 1, none⟩ = some (.int .i64 0) := box_cell hKz.z 1
        have ez2 : (((((w6.alloc (.cells #[.int .i64 0, .int .i64 0, .int .i64 0, .string ⟨#[]⟩] 37)).setCell ⟨w.heap.size + 1 + 1, 0, none⟩ (.slice none 0 0)).setCell ⟨w.heap.size + 1 + 1, 1, none⟩ (.int .i64 0)).setCell ⟨w.heap.size + 1 + 1, 2, none⟩ (.slice none 0 0)).setCell ⟨w.heap.size + 1 + 1, 3, none⟩ (.int .i64 0)).cell? ⟨w.heap.size + 1 + 1, 2, none⟩ = some (.slice none 0 0) := box_cell hKz.z 2
        have ez3 : (((((w6.alloc (.cells #[.int .i64 0, .int .i64 0, .int .i64 0, .string ⟨#[]⟩] 37)).setCell ⟨w.heap.size + 1 + 1, 0, none⟩ (.slice none 0 0)).setCell ⟨w.heap.size + 1 + 1, 1, none⟩ (.int .i64 0)).setCell ⟨w.heap.size + 1 + 1, 2, none⟩ (.slice none 0 0)).setCell ⟨w.heap.size + 1 + 1, 3, none⟩ (.int .i64 0)).cell? ⟨w.heap.size + 1 + 1, 3, none⟩ = some (.int .i64 0) := box_cell hKz.z 3
        have HBz := hid hKz.below
        obtain ⟨⟨z0, z1, z2, z3⟩, f0, f1, f2, f3⟩ := HK7.out.cells
        clear hKz
        go_wp2_with fail
        generalize (((((w6.alloc (.cells #[.int .i64 0, .int .i64 0, .int .i64 0, .string ⟨#[]⟩] 37)).setCell ⟨w.heap.size + 1 + 1, 0, none⟩ (.slice none 0 0)).setCell ⟨w.heap.size + 1 + 1, 1, none⟩ (.int .i64 0)).setCell ⟨w.heap.size + 1 + 1, 2, none⟩ (.slice none 0 0)).setCell ⟨w.heap.size + 1 + 1, 3, none⟩ (.int .i64 0)) = XX at *
        refine bodyPost_ret (v := .tuple #[.agg #[.slice none 0 0, .int .i64 0, .slice none 0 0, .int .i64 0], .bool false]) (by simp [results, Try.results16, go_sem, ez0, ez1, ez2, ez3]) rfl ?_
        rw [HNO.out]
        exact ⟨rfl, HBz.out⟩
      rw [recV_yes hr]
      have b7 := boxB w6 (.cells #[.int .i64 3, .int .i64 p, .int .i64 n, .string D] 37)
      have hK7 := hK6.on b7
      have hX7 := (b7.block w4.heap.size (by omega)).trans hX6
      have hO7 := hO6.below b7
      have hR7 : (w6.alloc (.cells #[.int .i64 3, .int .i64 p, .int .i64 n, .string D] 37)).heap[w6.heap.size]? = some (.cells #[.int .i64 3, .int .i64 p, .int .i64 n, .string D] 37) := heap_last _ _
      have hz7 : (w6.alloc (.cells #[.int .i64 3, .int .i64 p, .int .i64 n, .string D] 37)).heap.size = w6.heap.size + 1 := heap_size _ _
      generalize hW7 : w6.alloc (.cells #[.int .i64 3, .int .i64 p, .int .i64 n, .string D] 37) = W7 at *
      clear b7 hK6 hX6 hO6
      by_cases h40 : L.length = 40
      · have HNO : Hid (doV B F L s ⟨3, p, n, D, m⟩ = none) := by
          show doV B F L s ⟨3, p, n, D, m⟩ = none
          rw [doV_rec (o := ⟨3, p, n, D, m⟩) (show (1 : Int) ≤ 3 ∧ (3 : Int) ≤ 3 by omega)]; unfold recDo; rw [if_neg (fun g => g.2.1 h40)]
        have q40 : ((L.length : Int) == 40) = true := by rw [h40]; rfl
        have q41 : decide ((L.length : Int) = 40) = true := decide_eq_true (by omega)
        have q42 : decide (L.length = 40) = true := decide_eq_true h40
        have q43 : (L.length == 40) = true := by rw [h40]; rfl
        obtain ⟨x0, x1, x2, x3⟩ := hK7.vol
        have HK7 := hid hK7
        clear hr h40 hK7 hX7 hO7 hR7
        have hKz := HK7.out.fill (.slice none 0 0) (.int .i64 0) (.slice none 0 0) (.int .i64 0)
        have ez0 : ((((W7.setCell ⟨w.heap.size + 1 + 1, 0, none⟩ (.slice none 0 0)).setCell ⟨w.heap.size + 1 + 1, 1, none⟩ (.int .i64 0)).setCell ⟨w.heap.size + 1 + 1, 2, none⟩ (.slice none 0 0)).setCell ⟨w.heap.size + 1 + 1, 3, none⟩ (.int .i64 0)).cell? ⟨w.heap.size + 1 + 1, 0, none⟩ = some (.slice none 0 0) := box_cell hKz.z 0
        have ez1 : ((((W7.setCell ⟨w.heap.size + 1 + 1, 0, none⟩ (.slice none 0 0)).setCell ⟨w.heap.size + 1 + 1, 1, none⟩ (.int .i64 0)).setCell ⟨w.heap.size + 1 + 1, 2, none⟩ (.slice none 0 0)).setCell ⟨w.heap.size + 1 + 1, 3, none⟩ (.int .i64 0)).cell? ⟨w.heap.size + 1 + 1, 1, none⟩ = some (.int .i64 0) := box_cell hKz.z 1
        have ez2 : ((((W7.setCell ⟨w.heap.size + 1 + 1, 0, none⟩ (.slice none 0 0)).setCell ⟨w.heap.size + 1 + 1, 1, none⟩ (.int .i64 0)).setCell ⟨w.heap.size + 1 + 1, 2, none⟩ (.slice none 0 0)).setCell ⟨w.heap.size + 1 + 1, 3, none⟩ (.int .i64 0)).cell? ⟨w.heap.size + 1 + 1, 2, none⟩ = some (.slice none 0 0) := box_cell hKz.z 2
        have ez3 : ((((W7.setCell ⟨w.heap.size + 1 + 1, 0, none⟩ (.slice none 0 0)).setCell ⟨w.heap.size + 1 + 1, 1, none⟩ (.int .i64 0)).setCell ⟨w.heap.size + 1 + 1, 2, none⟩ (.slice none 0 0)).setCell ⟨w.heap.size + 1 + 1, 3, none⟩ (.int .i64 0)).cell? ⟨w.heap.size + 1 + 1, 3, none⟩ = some (.int .i64 0) := box_cell hKz.z 3
        have HBz := hid hKz.below
        obtain ⟨⟨z0, z1, z2, z3⟩, f0, f1, f2, f3⟩ := HK7.out.cells
        clear hKz
        go_wp2_with fail
        generalize ((((W7.setCell ⟨w.heap.size + 1 + 1, 0, none⟩ (.slice none 0 0)).setCell ⟨w.heap.size + 1 + 1, 1, none⟩ (.int .i64 0)).setCell ⟨w.heap.size + 1 + 1, 2, none⟩ (.slice none 0 0)).setCell ⟨w.heap.size + 1 + 1, 3, none⟩ (.int .i64 0)) = XX at *
        refine bodyPost_ret (v := .tuple #[.agg #[.slice none 0 0, .int .i64 0, .slice none 0 0, .int .i64 0], .bool false]) (by simp [results, Try.results16, go_sem, ez0, ez1, ez2, ez3]) rfl ?_
        rw [HNO.out]
        exact ⟨rfl, HBz.out⟩
      have q40 : ((L.length : Int) == 40) = false := beq_eq_false_iff_ne.2 (by omega)
      have q41 : decide ((L.length : Int) = 40) = false := decide_eq_false (by omega)
      have q42 : decide (L.length = 40) = false := decide_eq_false h40
      have q43 : (L.length == 40) = false := beq_eq_false_iff_ne.2 h40
      have HEQ : Hid (doV B F L s ⟨3, p, n, D, m⟩ = some (B, F, L ++ [opR ⟨3, p, n, D, m⟩], s)) := by
        show doV B F L s ⟨3, p, n, D, m⟩ = _
        rw [doV_rec (o := ⟨3, p, n, D, m⟩) (show (1 : Int) ≤ 3 ∧ (3 : Int) ≤ 3 by omega)]; unfold recDo; rw [if_pos ⟨hr, h40, fun _ => by rw [HMK.out]; exact HP.out⟩]
      have hRs : Rs (W7.alloc (.cells #[.int .i64 3, .int .i64 p, .int .i64 n, .string D] 37)).heap.size (some ⟨W7.heap.size, 0, none⟩) [opR ⟨3, p, n, D, m⟩] (W7.alloc (.cells #[.int .i64 3, .int .i64 p, .int .i64 n, .string D] 37)) := by
        have := rrow_one W7 (opR ⟨3, p, n, D, m⟩)
        have hD : str (opR ⟨3, p, n, D, m⟩).data = D := str_back D
        rw [hD] at this
        exact this
      have b8 := boxB W7 (.cells #[.int .i64 3, .int .i64 p, .int .i64 n, .string D] 37)
      obtain ⟨v9, w9, r9, o9, g9, gb9⟩ := app_rec (W7.alloc (.cells #[.int .i64 3, .int .i64 p, .int .i64 n, .string D] 37)) mid (.slice a2 L.length c2) L.length (rvals L) (rw_below hO7.log b8) (some ⟨W7.heap.size, 0, none⟩) 1 [opR ⟨3, p, n, D, m⟩] hRs (by show L.length + 1 ≤ 10000; omega) (by have := hO7.mh; have := b8.size; omega)
      obtain ⟨a9, c9, rfl⟩ := rw_form o9
      have hmid : w.heap.size + 3 ≤ mid := by have := hO7.lm; omega
      have g9b := below_of_grown (lo := mid) g9 (by have := hO7.mh; have := b8.size; omega) (fun j hj => (hO7.log.lt j hj).1)
      have hK9 := (hK7.on b8).step (g9b.mono hmid)
      have hne9 : ∀ g, (Value.slice a2 L.length c2).ownBlock = some g → g ≠ w4.heap.size := fun g hg => by have := HLD.out g hg; omega
      have hX9 := (g9.block w4.heap.size (by have := b8.size; omega) (fun e9 => hne9 _ e9.symm rfl)).trans ((b8.block w4.heap.size (by omega)).trans hX7)
      have hl1 : (L ++ [opR ⟨3, p, n, D, m⟩]).length = L.length + 1 := by rw [List.length_append]; rfl
      have hO9 : OV w3.heap.size mid a1 c1 B a9 c9 (L ++ [opR ⟨3, p, n, D, m⟩]) w9 := by
        refine ⟨hO7.lm, by have := hO7.mh; have := b8.size; have := g9.size; omega, rw_keep (rw_below hO7.base b8) (fun g hg => g9.block g (by have := (rw_below hO7.base b8).lt g hg; exact this.2) (fun e9 => ?_)), hO7.low, ?_⟩
        · have h8 := hO7.low g hg
          have h9 := (hO7.log.lt g e9.symm).1
          omega
        · rw [hl1, rvals_snoc]; exact o9
      have hlg : ∀ g, (Value.slice a9 (L ++ [opR ⟨3, p, n, D, m⟩]).length c9).ownBlock = some g → g ≠ w4.heap.size := fun g hg => by
        rw [hl1] at hg
        rcases gb9 with h8 | h8
        · exact hne9 g (by rw [← h8]; exact hg)
        · have h7 : (Value.slice a9 (L.length + 1) c9).ownBlock = some g := hg
          have h6 := h8.symm.trans h7
          injection h6 with h6
          have h5 : (W7.alloc (.cells #[.int .i64 3, .int .i64 p, .int .i64 n, .string D] 37)).heap.size = W7.heap.size + 1 := heap_size _ _
          omega
      have hO10 := hO9.apart w4.heap.size 2 (.slice a9 (L.length + 1) c9) (fun g hg => by have := HBD.out g hg; omega) hlg
      have hK10 := hK9.step (setB (Below.refl (w.heap.size + 3) w9) w4.heap.size 2 hX3 (.slice a9 (L.length + 1) c9))
      have d0 : w9.cell? ⟨w4.heap.size, 0, none⟩ = some (.slice a1 B.length c1) := box_cell hX9 0
      have g0 : w9.frozen? ⟨w4.heap.size, 0, none⟩ = false := box_free hX9 0
      have d1 : w9.cell? ⟨w4.heap.size, 1, none⟩ = some (.int .i64 F) := box_cell hX9 1
      have g1 : w9.frozen? ⟨w4.heap.size, 1, none⟩ = false := box_free hX9 1
      have d2 : w9.cell? ⟨w4.heap.size, 2, none⟩ = some (.slice a2 L.length c2) := box_cell hX9 2
      have g2 : w9.frozen? ⟨w4.heap.size, 2, none⟩ = false := box_free hX9 2
      have d3 : w9.cell? ⟨w4.heap.size, 3, none⟩ = some (.int .i64 s) := box_cell hX9 3
      have g3 : w9.frozen? ⟨w4.heap.size, 3, none⟩ = false := box_free hX9 3
      have dd2 : W7.cell? ⟨w4.heap.size, 2, none⟩ = some (.slice a2 L.length c2) := box_cell hX7 2
      have rr0 : W7.cell? ⟨w6.heap.size, 0, none⟩ = some (.int .i64 3) := box_cell hR7 0
      have rr1 : W7.cell? ⟨w6.heap.size, 1, none⟩ = some (.int .i64 p) := box_cell hR7 1
      have rr2 : W7.cell? ⟨w6.heap.size, 2, none⟩ = some (.int .i64 n) := box_cell hR7 2
      have rr3 : W7.cell? ⟨w6.heap.size, 3, none⟩ = some (.string D) := box_cell hR7 3
      have hKr := hK10.fill (.slice a1 B.length c1) (.int .i64 F) (.slice a9 (L.length + 1) c9) (.int .i64 s)
      have er0 : (((((w9.setCell ⟨w4.heap.size, 2, none⟩ (.slice a9 (L.length + 1) c9)).setCell ⟨w.heap.size + 1 + 1, 0, none⟩ (.slice a1 B.length c1)).setCell ⟨w.heap.size + 1 + 1, 1, none⟩ (.int .i64 F)).setCell ⟨w.heap.size + 1 + 1, 2, none⟩ (.slice a9 (L.length + 1) c9)).setCell ⟨w.heap.size + 1 + 1, 3, none⟩ (.int .i64 s)).cell? ⟨w.heap.size + 1 + 1, 0, none⟩ = some (.slice a1 B.length c1) := box_cell hKr.z 0
      have er1 : (((((w9.setCell ⟨w4.heap.size, 2, none⟩ (.slice a9 (L.length + 1) c9)).setCell ⟨w.heap.size + 1 + 1, 0, none⟩ (.slice a1 B.length c1)).setCell ⟨w.heap.size + 1 + 1, 1, none⟩ (.int .i64 F)).setCell ⟨w.heap.size + 1 + 1, 2, none⟩ (.slice a9 (L.length + 1) c9)).setCell ⟨w.heap.size + 1 + 1, 3, none⟩ (.int .i64 s)).cell? ⟨w.heap.size + 1 + 1, 1, none⟩ = some (.int .i64 F) := box_cell hKr.z 1
      have er2 : (((((w9.setCell ⟨w4.heap.size, 2, none⟩ (.slice a9 (L.length + 1) c9)).setCell ⟨w.heap.size + 1 + 1, 0, none⟩ (.slice a1 B.length c1)).setCell ⟨w.heap.size + 1 + 1, 1, none⟩ (.int .i64 F)).setCell ⟨w.heap.size + 1 + 1, 2, none⟩ (.slice a9 (L.length + 1) c9)).setCell ⟨w.heap.size + 1 + 1, 3, none⟩ (.int .i64 s)).cell? ⟨w.heap.size + 1 + 1, 2, none⟩ = some (.slice a9 (L.length + 1) c9) := box_cell hKr.z 2
      have er3 : (((((w9.setCell ⟨w4.heap.size, 2, none⟩ (.slice a9 (L.length + 1) c9)).setCell ⟨w.heap.size + 1 + 1, 0, none⟩ (.slice a1 B.length c1)).setCell ⟨w.heap.size + 1 + 1, 1, none⟩ (.int .i64 F)).setCell ⟨w.heap.size + 1 + 1, 2, none⟩ (.slice a9 (L.length + 1) c9)).setCell ⟨w.heap.size + 1 + 1, 3, none⟩ (.int .i64 s)).cell? ⟨w.heap.size + 1 + 1, 3, none⟩ = some (.int .i64 s) := box_cell hKr.z 3
      have HBr := hid hKr.below
      have hOr := (((hO10.set (w.heap.size + 1 + 1) 0 (.slice a1 B.length c1) (by omega)).set (w.heap.size + 1 + 1) 1 (.int .i64 F) (by omega)).set (w.heap.size + 1 + 1) 2 (.slice a9 (L.length + 1) c9) (by omega)).set (w.heap.size + 1 + 1) 3 (.int .i64 s) (by omega)
      have HCr := hid (rw_capV hOr.log)
      try rw [hnq] at HCr
      try rw [hl1] at HCr
      have HOr := hid (hOr.lower (show w.heap.size ≤ w3.heap.size by omega)).own
      have HDO : Hid (∀ e w', (∃ aB' kB' aL' kL', (L.length + 1) ≤ kL' ∧ e = .returned (.tuple #[.agg #[.slice aB' B.length kB', .int .i64 F, .slice aL' (L.length + 1) kL', .int .i64 s], .bool true]) ∧ OwnV w.heap.size w'.heap.size aB' B aL' (L ++ [opR ⟨3, p, n, D, m⟩]) w' ∧ Below w.heap.size w w') → DOutK (doV B F L s ⟨3, p, n, D, m⟩) w e w') := fun e w' h => by
        rw [HEQ.out]
        obtain ⟨x1, x2, x3, x4, h0, h1, h2, h3⟩ := h
        exact ⟨x1, x2, x3, x4, Nat.le_trans (Nat.le_of_eq hl1) h0, by rw [h1, hl1], h2, h3⟩
      obtain ⟨⟨z0, z1, z2, z3⟩, f0, f1, f2, f3⟩ := hK9.cells
      obtain ⟨y0, y1, y2, y3⟩ := hK7.vol
      clear hKr hOr hK10 hO10 hO9 hlg o9 g9 gb9 g9b hK9 hX9 hne9 hRs b8 hO7 hK7 hX7 hR7 hz7 hl1 hr h40
      go_wp2_with (at_builtin; refine wpList_append_run rfl (.tmp 58) (.tmp 60) 26 rfl _ _ rfl rfl _ _ r9 ?_)
      generalize (((((w9.setCell ⟨w4.heap.size, 2, none⟩ (.slice a9 (L.length + 1) c9)).setCell ⟨w.heap.size + 1 + 1, 0, none⟩ (.slice a1 B.length c1)).setCell ⟨w.heap.size + 1 + 1, 1, none⟩ (.int .i64 F)).setCell ⟨w.heap.size + 1 + 1, 2, none⟩ (.slice a9 (L.length + 1) c9)).setCell ⟨w.heap.size + 1 + 1, 3, none⟩ (.int .i64 s)) = XX at *
      refine bodyPost_ret (v := .tuple #[.agg #[.slice a1 B.length c1, .int .i64 F, .slice a9 (L.length + 1) c9, .int .i64 s], .bool true]) (by simp [results, Try.results16, go_sem, er0, er1, er2, er3]) rfl ?_
      exact HDO.out _ _ ⟨_, _, _, _, HCr.out, rfl, HOr.out, HBr.out⟩
  · have e1 : (p == mk + 1) = false := beq_eq_false_iff_ne.2 hp
    have e2 : decide (p = mk + 1) = false := decide_eq_false hp
    go_wp2_with fail
    go_region_held (fun v => v.cell? ⟨w.heap.size + 1, 1, none⟩ = some (.int .i64 p) ∧ v.cell? ⟨w.heap.size, 1, none⟩ = some (.int .i64 F) ∧ v.cell? ⟨w.heap.size, 2, none⟩ = some (.slice aL L.length kL)) (first | exact ⟨by with_reducible assumption, by with_reducible assumption, by with_reducible assumption⟩) (first | (go_at_call 44; refine HMd.out.mono ?_; rintro e wm ⟨rfl, bm⟩; have hKm := HKd.out.on bm; have u0 : wm.cell? ⟨w.heap.size + 1, 1, none⟩ = some (.int .i64 p) := box_cell hKm.o 1; have u1 : wm.cell? ⟨w.heap.size, 1, none⟩ = some (.int .i64 F) := box_cell hKm.x 1; have u2 : wm.cell? ⟨w.heap.size, 2, none⟩ = some (.slice aL L.length kL) := box_cell hKm.x 2))
    all_goals
      have bm5 : Below W5.heap.size W5 wm := ⟨bm.os, bm.tape, bm.output, bm.size, bm.block⟩
      have hXw : w4.heap.size < wm.heap.size := Nat.lt_of_lt_of_le hXDlt bm5.size
      replace hXb := (bm5.block w4.heap.size hXDlt).trans hXb
      replace hOb := hOb.below bm5
      have HKm := hid hKm
      clear bm bm5 hKm u0 u1 u2 t0 t1 t2 x0 x1 x2 x3 o0 o1 o2 o3 o4 hW5
      have HNO : Hid (doV B F L s ⟨3, p, n, D, m⟩ = none) := by
        show doV B F L s ⟨3, p, n, D, m⟩ = none
        rw [doV_rec (o := ⟨3, p, n, D, m⟩) (show (1 : Int) ≤ 3 ∧ (3 : Int) ≤ 3 by omega)]; unfold recDo; rw [if_neg (fun g => hp (by rw [← HMK.out]; exact g.2.2 rfl))]
      clear hp
      have hKz := HKm.out.fill (.slice none 0 0) (.int .i64 0) (.slice none 0 0) (.int .i64 0)
      have ez0 : ((((wm.setCell ⟨w.heap.size + 1 + 1, 0, none⟩ (.slice none 0 0)).setCell ⟨w.heap.size + 1 + 1, 1, none⟩ (.int .i64 0)).setCell ⟨w.heap.size + 1 + 1, 2, none⟩ (.slice none 0 0)).setCell ⟨w.heap.size + 1 + 1, 3, none⟩ (.int .i64 0)).cell? ⟨w.heap.size + 1 + 1, 0, none⟩ = some (.slice none 0 0) := box_cell hKz.z 0
      have ez1 : ((((wm.setCell ⟨w.heap.size + 1 + 1, 0, none⟩ (.slice none 0 0)).setCell ⟨w.heap.size + 1 + 1, 1, none⟩ (.int .i64 0)).setCell ⟨w.heap.size + 1 + 1, 2, none⟩ (.slice none 0 0)).setCell ⟨w.heap.size + 1 + 1, 3, none⟩ (.int .i64 0)).cell? ⟨w.heap.size + 1 + 1, 1, none⟩ = some (.int .i64 0) := box_cell hKz.z 1
      have ez2 : ((((wm.setCell ⟨w.heap.size + 1 + 1, 0, none⟩ (.slice none 0 0)).setCell ⟨w.heap.size + 1 + 1, 1, none⟩ (.int .i64 0)).setCell ⟨w.heap.size + 1 + 1, 2, none⟩ (.slice none 0 0)).setCell ⟨w.heap.size + 1 + 1, 3, none⟩ (.int .i64 0)).cell? ⟨w.heap.size + 1 + 1, 2, none⟩ = some (.slice none 0 0) := box_cell hKz.z 2
      have ez3 : ((((wm.setCell ⟨w.heap.size + 1 + 1, 0, none⟩ (.slice none 0 0)).setCell ⟨w.heap.size + 1 + 1, 1, none⟩ (.int .i64 0)).setCell ⟨w.heap.size + 1 + 1, 2, none⟩ (.slice none 0 0)).setCell ⟨w.heap.size + 1 + 1, 3, none⟩ (.int .i64 0)).cell? ⟨w.heap.size + 1 + 1, 3, none⟩ = some (.int .i64 0) := box_cell hKz.z 3
      have HBz := hid hKz.below
      obtain ⟨⟨z0, z1, z2, z3⟩, f0, f1, f2, f3⟩ := HKm.out.cells
      clear hKz
      go_wp2_with fail
      generalize ((((wm.setCell ⟨w.heap.size + 1 + 1, 0, none⟩ (.slice none 0 0)).setCell ⟨w.heap.size + 1 + 1, 1, none⟩ (.int .i64 0)).setCell ⟨w.heap.size + 1 + 1, 2, none⟩ (.slice none 0 0)).setCell ⟨w.heap.size + 1 + 1, 3, none⟩ (.int .i64 0)) = XX at *
      refine bodyPost_ret (v := .tuple #[.agg #[.slice none 0 0, .int .i64 0, .slice none 0 0, .int .i64 0], .bool false]) (by simp [results, Try.results16, go_sem, ez0, ez1, ez2, ez3]) rfl ?_
      rw [HNO.out]
      exact ⟨rfl, HBz.out⟩
end Go.Proofs.Ytlbhfgcpflhccaa
namespace Go.Proofs.Ytlbhfgcpflhccaa
set_option maxRecDepth 100000
open Go Go.ChangeShapes Go.WideShapes Go.ChangeAt Go.RowKit G00541
def zeroOp : Op := ⟨0, 0, 0, ⟨#[]⟩, 0⟩
/-- a slice of ops in memory below block B -/
def Os (B : Nat) (a : Option Addr) (l : List Op) (w : World) : Prop := GSl B 5 a (l.map ocells) w
theorem Os.cell {B : Nat} {a : Option Addr} {l : List Op} {w : World} (h : Os B a l w) (h0 : 0 < l.length) : ∃ b off, a = some ⟨b, off, none⟩ ∧ b < B ∧ ∀ i (hi : i < l.length), w.cell? ⟨b, off + i * 5, none⟩ = some (.int .i64 l[i].kind) ∧ w.cell? ⟨b, off + i * 5 + 1, none⟩ = some (.int .i64 l[i].place) ∧ w.cell? ⟨b, off + i * 5 + 2, none⟩ = some (.int .i64 l[i].long) ∧ w.cell? ⟨b, off + i * 5 + 3, none⟩ = some (.string l[i].data) ∧ w.cell? ⟨b, off + i * 5 + 4, none⟩ = some (.int .i64 l[i].keep) := by
  obtain ⟨b, off, e, hb, hc⟩ := GSl.cell h (by simpa using h0)
  refine ⟨b, off, e, hb, fun i hi => ?_⟩
  have hi' : i < (l.map ocells).length := by simpa using hi
  have hr : (l.map ocells)[i] = ocells l[i] := List.getElem_map _
  have c0 := hc i hi' 0 (by decide)
  have c1 := hc i hi' 1 (by decide)
  have c2 := hc i hi' 2 (by decide)
  have c3 := hc i hi' 3 (by decide)
  have c4 := hc i hi' 4 (by decide)
  rw [hr] at c0 c1 c2 c3 c4
  exact ⟨c0, c1, c2, c3, c4⟩
theorem Os.below {B : Nat} {a : Option Addr} {l : List Op} {w w' : World} (h : Os B a l w) (g : Below B w w') : Os B a l w' := GSl.below h g
theorem Os.mono {B B' : Nat} {a : Option Addr} {l : List Op} {w : World} (h : Os B a l w) (hB : B ≤ B') : Os B' a l w := GSl.mono h hB
/-- a row of ops that a call itself has made -/
def ORow (R : Nat) (l : List Op) (w : World) : Prop := GRow R 5 (l.map ocells) w
theorem ORow.lt {R : Nat} {l : List Op} {w : World} (h : ORow R l w) : R < w.heap.size := GRow.lt h
theorem ORow.cell {R : Nat} {l : List Op} {w : World} (h : ORow R l w) (i : Nat) (hi : i < l.length) : w.cell? ⟨R, i * 5, none⟩ = some (.int .i64 l[i].kind) ∧ w.cell? ⟨R, i * 5 + 1, none⟩ = some (.int .i64 l[i].place) ∧ w.cell? ⟨R, i * 5 + 2, none⟩ = some (.int .i64 l[i].long) ∧ w.cell? ⟨R, i * 5 + 3, none⟩ = some (.string l[i].data) ∧ w.cell? ⟨R, i * 5 + 4, none⟩ = some (.int .i64 l[i].keep) := by
  have hi' : i < (l.map ocells).length := by simpa using hi
  have hr : (l.map ocells)[i] = ocells l[i] := List.getElem_map _
  have c0 := GRow.cell h i hi' 0 (by decide)
  have c1 := GRow.cell h i hi' 1 (by decide)
  have c2 := GRow.cell h i hi' 2 (by decide)
  have c3 := GRow.cell h i hi' 3 (by decide)
  have c4 := GRow.cell h i hi' 4 (by decide)
  rw [hr] at c0 c1 c2 c3 c4
  exact ⟨c0, c1, c2, c3, c4⟩
theorem ORow.free {R : Nat} {l : List Op} {w : World} (h : ORow R l w) (j : Nat) (hj : j < l.length * 5) : w.frozen? ⟨R, j, none⟩ = false := GRow.free h j (by simpa using hj)
theorem ORow.below {R : Nat} {l : List Op} {w w' : World} (h : ORow R l w) (hb : Below w.heap.size w w') : ORow R l w' := GRow.below h hb
theorem ORow.same {R : Nat} {l : List Op} {w w' : World} (h : ORow R l w) (hs : w.heap.size ≤ w'.heap.size) (hb : w'.heap[R]? = w.heap[R]?) : ORow R l w' := GRow.same h hs hb
theorem ORow.sl {R B : Nat} {l : List Op} {w : World} (h : ORow R l w) (hB : R < B) : Os B (some ⟨R, 0, none⟩) l w := GRow.sl h hB
theorem ORow.setAt {R : Nat} {l : List Op} {w : World} (h : ORow R l w) (k j : Nat) (hk : k < l.length) (hj : j < 5) (v : Value) (z : Op) (hz : (ocells l[k]).set j v = ocells z) :
    ORow R (l.set k z) (w.setCell ⟨R, k * 5 + j, none⟩ v) := by
  have hk' : k < (l.map ocells).length := by simpa using hk
  have := GRow.set h k j hk' hj v
  have hr : (l.map ocells)[k] = ocells l[k] := List.getElem_map _
  rw [hr, hz, ← List.map_set] at this
  exact this
theorem ORow.set {R : Nat} {l : List Op} {w : World} (h : ORow R l w) (k : Nat) (hk : k < l.length) (z : Op) :
    ORow R (l.set k z) (((((w.setCell ⟨R, k * 5, none⟩ (.int .i64 z.kind)).setCell ⟨R, k * 5 + 1, none⟩ (.int .i64 z.place)).setCell ⟨R, k * 5 + 2, none⟩ (.int .i64 z.long)).setCell ⟨R, k * 5 + 3, none⟩ (.string z.data)).setCell ⟨R, k * 5 + 4, none⟩ (.int .i64 z.keep)) := by
  have h0 := h.setAt k 0 hk (by decide) (.int .i64 z.kind) ⟨z.kind, l[k].place, l[k].long, l[k].data, l[k].keep⟩ rfl
  have h1 := h0.setAt k 1 (by simpa using hk) (by decide) (.int .i64 z.place) ⟨z.kind, z.place, l[k].long, l[k].data, l[k].keep⟩ (by rw [List.getElem_set_self]; rfl)
  have h2 := h1.setAt k 2 (by simpa using hk) (by decide) (.int .i64 z.long) ⟨z.kind, z.place, z.long, l[k].data, l[k].keep⟩ (by rw [List.getElem_set_self]; rfl)
  have h3 := h2.setAt k 3 (by simpa using hk) (by decide) (.string z.data) ⟨z.kind, z.place, z.long, z.data, l[k].keep⟩ (by rw [List.getElem_set_self]; rfl)
  have h4 := h3.setAt k 4 (by simpa using hk) (by decide) (.int .i64 z.keep) z (by rw [List.getElem_set_self]; rfl)
  simpa using h4
theorem ORow.setMark {R : Nat} {l : List Op} {w w1 : World} (h : ORow R l w) (k : Nat) (hk : k < l.length) (z : Op) (hb : Below (((w.setCell ⟨R, k * 5, none⟩ (.int .i64 z.kind)).setCell ⟨R, k * 5 + 1, none⟩ (.int .i64 z.place)).setCell ⟨R, k * 5 + 2, none⟩ (.int .i64 z.long)).heap.size (((w.setCell ⟨R, k * 5, none⟩ (.int .i64 z.kind)).setCell ⟨R, k * 5 + 1, none⟩ (.int .i64 z.place)).setCell ⟨R, k * 5 + 2, none⟩ (.int .i64 z.long)) w1) :
    ORow R (l.set k z) ((w1.setCell ⟨R, k * 5 + 3, none⟩ (.string z.data)).setCell ⟨R, k * 5 + 4, none⟩ (.int .i64 z.keep)) := by
  have h0 := h.setAt k 0 hk (by decide) (.int .i64 z.kind) ⟨z.kind, l[k].place, l[k].long, l[k].data, l[k].keep⟩ rfl
  have h1 := h0.setAt k 1 (by simpa using hk) (by decide) (.int .i64 z.place) ⟨z.kind, z.place, l[k].long, l[k].data, l[k].keep⟩ (by rw [List.getElem_set_self]; rfl)
  have h2 := h1.setAt k 2 (by simpa using hk) (by decide) (.int .i64 z.long) ⟨z.kind, z.place, z.long, l[k].data, l[k].keep⟩ (by rw [List.getElem_set_self]; rfl)
  have h3 := (h2.below hb).setAt k 3 (by simpa using hk) (by decide) (.string z.data) ⟨z.kind, z.place, z.long, z.data, l[k].keep⟩ (by rw [List.getElem_set_self]; rfl)
  have h4 := h3.setAt k 4 (by simpa using hk) (by decide) (.int .i64 z.keep) z (by rw [List.getElem_set_self]; rfl)
  simpa using h4
theorem ORow.made (w : World) (n : Nat) : ORow w.heap.size (List.replicate n zeroOp) (w.alloc (.cells (madeCells (Value.agg #[.int .i64 0, .int .i64 0, .int .i64 0, .string ⟨#[]⟩, .int .i64 0]).cells (n * 5)) 35)) := by
  have := GRow.made w 35 n #[.int .i64 0, .int .i64 0, .int .i64 0, .string ⟨#[]⟩, .int .i64 0]
  unfold ORow
  rw [List.map_replicate]
  exact this
/-- ops that are owned in blocks lo .. hi - 1 (or none) -/
def OwnO (lo hi : Nat) (a : Option Addr) (l : List Op) (w : World) : Prop := l = [] ∨ ∃ R, lo ≤ R ∧ R < hi ∧ a = some ⟨R, 0, none⟩ ∧ ORow R l w
theorem OwnO.below {lo hi : Nat} {a : Option Addr} {l : List Op} {w w' : World} (h : OwnO lo hi a l w) (g : Below w.heap.size w w') : OwnO lo hi a l w' := by
  rcases h with h | ⟨R, h1, h3, e, hr⟩
  · exact Or.inl h
  · exact Or.inr ⟨R, h1, h3, e, hr.below g⟩
theorem OwnO.out {lo hi l2 h2 : Nat} {a : Option Addr} {l : List Op} {w w' : World} (h : OwnO lo hi a l w) (g : Out l2 h2 w w') (hd : hi ≤ l2 ∨ h2 ≤ lo) : OwnO lo hi a l w' := by
  rcases h with h | ⟨R, h1, h3, e, hr⟩
  · exact Or.inl h
  · exact Or.inr ⟨R, h1, h3, e, hr.same g.size (g.block R hr.lt (by omega))⟩
theorem OwnO.os {lo hi : Nat} {a : Option Addr} {l : List Op} {w : World} (h : OwnO lo hi a l w) : Os w.heap.size a l w := by
  rcases h with rfl | ⟨R, h1, h3, rfl, hr⟩
  · exact ⟨fun h0 => absurd h0 (by simp)⟩
  · exact hr.sl hr.lt
theorem infoOp : (Try.prog.info? 35).map (fun i => (i.zero, i.size, i.bytes)) = some (some (.agg #[.int .i64 0, .int .i64 0, .int .i64 0, .string ⟨#[]⟩, .int .i64 0]), 5, 48) := by kernel_rfl
theorem make_ops (n : Nat) (hn : n ≤ 1048576) (W : World) : (Instr.makeSlice 23 (.int .i64 (n : Int)) (.int .i64 (n : Int))).run Try.prog W =
    .ok (.slice (some ⟨W.heap.size, 0, none⟩) n n) (W.alloc (.cells (madeCells (Value.agg #[.int .i64 0, .int .i64 0, .int .i64 0, .string ⟨#[]⟩, .int .i64 0]).cells (n * 5)) 35)) := by
  obtain ⟨i0, hi, hz0, hz1, hz2⟩ := info_parts infoOp
  have h := run_make (P := Try.prog) W 23 35 i0 _ Try.underlying23 hi hz0 .i64 .i64 (n : Int) (n : Int) (by omega) (by omega) (by rw [hz2]; omega) (by omega)
  rw [hz1] at h
  simpa using h
def mop (k : Nat) : Op := ⟨k, k + 1, k + 2, markT (k + 3), k + 4⟩
def omarks (n k : Nat) : List Op := (List.range n).map fun i => mop (k + 5 * i)
theorem omarks_len (n k : Nat) : (omarks n k).length = n := by simp [omarks]
theorem omarks_at (n k i : Nat) (h : i < (omarks n k).length) : (omarks n k)[i] = mop (k + 5 * i) := by simp [omarks]
theorem val_iN {k : IntKind} {a b : Int} (h : a = b) : Value.int k a = .int k b := by rw [h]
theorem ops_of {H : Type} {enc : TypeId × Value → H} {P : Program} {W : World} {r : Reach} {b0 : Nat} {tS t : TypeId} {f0 f1 f2 f3 f4 : Field} {v : Value} {d : DataW H} {ps : List MemPlace}
    (hS : P.underlying tS = some (.slice t)) (ht : P.underlying t = some (.struct #[f0, f1, f2, f3, f4])) (hc : P.cellsOf t = 5) (o0 : f0.offset = 0) (o1 : f1.offset = 1) (o2 : f2.offset = 2) (o3 : f3.offset = 3) (o4 : f4.offset = 4)
    (u0 : P.underlying f0.type = some (.int .i64)) (u1 : P.underlying f1.type = some (.int .i64)) (u2 : P.underlying f2.type = some (.int .i64)) (u3 : P.underlying f3.type = some .string) (u4 : P.underlying f4.type = some (.int .i64))
    (c0 : P.cellsOf f0.type = 1) (c1 : P.cellsOf f1.type = 1) (c2 : P.cellsOf f2.type = 1) (c3 : P.cellsOf f3.type = 1) (c4 : P.cellsOf f4.type = 1)
    (hval : Value.okWide P W r b0 tS v) (h : DataW.Trod enc P W 0 (fun _ => true) true tS v d ps) :
    ∃ (a : Option Addr) (cap : Nat) (l : List Op), v = .slice a l.length cap ∧ Os W.heap.size a l W ∧ (∀ r ∈ l, fitO r) ∧ l.length ≤ 9223372036854775807 := by
  obtain ⟨a, len, cap, rfl⟩ := okWide_slice hS hval
  obtain ⟨fuel, hf⟩ := h
  have hf' : DataW.trod enc P W 0 (fun _ => true) true fuel tS [.slice a len cap] = some (d, ps) := hf
  obtain ⟨rows, hlen, hgs, hrows, hmax⟩ := gsl_of hS hc (by decide) hf'
  obtain ⟨l, rfl, hq⟩ := list_of (f := ocells) (Q := fun r => fitO r) rows (fun r hr => by
    obtain ⟨n, x, hx⟩ := hrows r hr
    exact ocells_of ht hc o0 o1 o2 o3 o4 u0 u1 u2 u3 u4 c0 c1 c2 c3 c4 hx)
  have hlen' : l.length = len := by simpa using hlen
  subst hlen'
  have e : maxLen = 9223372036854775807 := by decide
  rw [e] at hmax
  exact ⟨a, cap, l, rfl, hgs, hq, hmax⟩
end Go.Proofs.Ytlbhfgcpflhccaa
namespace Go.Proofs.Ytlbhfgcpflhccaa
set_option maxRecDepth 100000
open Go.ChangeShapes Go.WideShapes Go.ChangeAt Go.RowKit
theorem infoB : (Try.prog.info? 4).map (fun i => (i.zero, i.size, i.bytes)) = some (some (.bool false), 1, 1) := by kernel_rfl
theorem make_bools (n : Nat) (hn : n ≤ 1048576) (W : World) : (Instr.makeSlice 29 (.int .i64 (n : Int)) (.int .i64 (n : Int))).run Try.prog W =
    .ok (.slice (some ⟨W.heap.size, 0, none⟩) n n) (W.alloc (.cells (madeCells (Value.bool false).cells n) 4)) := by
  obtain ⟨i0, hi, hz0, hz1, hz2⟩ := info_parts infoB
  have h := run_make (P := Try.prog) W 29 4 i0 _ Try.underlying29 hi hz0 .i64 .i64 (n : Int) (n : Int) (by omega) (by omega) (by rw [hz2]; omega) (by omega)
  rw [hz1] at h
  simpa using h
theorem BRow.made (w : World) (n : Nat) : BRow w.heap.size (List.replicate n false) (w.alloc (.cells (madeCells (Value.bool false).cells n) 4)) := by
  have := GRow.made w 4 n #[.bool false]
  unfold BRow
  rw [List.map_replicate]
  have e : (#[Value.bool false] : Array Value).size = 1 := rfl
  rw [e, Nat.mul_one] at this
  exact this
def bmk (k : Nat) : Bool := (k : Int) % 3 == 0
def bmarks (n k : Nat) : List Bool := (List.range n).map fun i => bmk (k + i)
theorem bmarks_len (n k : Nat) : (bmarks n k).length = n := by simp [bmarks]
theorem bmarks_at (n k i : Nat) (h : i < (bmarks n k).length) : (bmarks n k)[i] = bmk (k + i) := by simp [bmarks]
end Go.Proofs.Ytlbhfgcpflhccaa
namespace Go.Proofs.Ytlbhfgcpflhccaa
set_option maxRecDepth 100000
open Go Go.ChangeShapes Go.WideShapes Go.ChangeAt Go.RowKit G00541
theorem kboxV {w : World} {R : Nat} {o : Obj} (h : w.heap[R]? = some o) : R < w.heap.size := by
  obtain ⟨h1, _⟩ := Array.getElem?_eq_some_iff.1 h
  exact h1
theorem OwnV.same {lo hi : Nat} {aB : Option Addr} {B : List ByteArray} {aL : Option Addr} {L : List Rc} {w w' : World} (h : OwnV lo hi aB B aL L w) (hs : w.heap.size ≤ w'.heap.size) (g : ∀ k, lo ≤ k → k < hi → w'.heap[k]? = w.heap[k]?) : OwnV lo hi aB B aL L w' := by
  obtain ⟨mid, h1, h2, h3, h4⟩ := h
  refine ⟨mid, h1, h2, ?_, ?_⟩
  · rcases h3 with e | ⟨R, r1, r2, e, r⟩
    · exact Or.inl e
    · exact Or.inr ⟨R, r1, r2, e, r.same hs (g R r1 (by omega))⟩
  · rcases h4 with e | ⟨R, r1, r2, e, r⟩
    · exact Or.inl e
    · exact Or.inr ⟨R, r1, r2, e, r.same hs (g R (by omega) r2)⟩
/-- what the program's play keeps: its answer's box, its volume's, its row of truth values -/
structure PV (w : World) (X DB : Nat) (v : Vol) (aB : Option Addr) (kB : Nat) (aL : Option Addr) (kL : Nat) (d : List Bool) (lo hi : Nat) (wr : World) : Prop where
  be : Below w.heap.size w wr
  bz : wr.heap[w.heap.size]? = some (.cells #[.slice none 0 0, .int .i64 0, .slice none 0 0, .int .i64 0] 28)
  bv : wr.heap[X]? = some (.cells #[.slice aB v.1.length kB, .int .i64 v.2.1, .slice aL v.2.2.1.length kL, .int .i64 v.2.2.2] 28)
  row : BRow DB d wr
  own : OwnV lo hi aB v.1 aL v.2.2.1 wr
  cap : v.2.2.1.length ≤ kL
  wx : w.heap.size < X
  xd : X < DB
  ord : (w.heap.size < lo ∧ hi ≤ X) ∨ DB < lo
  lh : lo ≤ hi
  hs : hi ≤ wr.heap.size
theorem PV.on {w : World} {X DB : Nat} {v : Vol} {aB : Option Addr} {kB : Nat} {aL : Option Addr} {kL : Nat} {d : List Bool} {lo hi : Nat} {wr w' : World} (h : PV w X DB v aB kB aL kL d lo hi wr) (g : Below wr.heap.size wr w') : PV w X DB v aB kB aL kL d lo hi w' :=
  ⟨h.be.trans (g.mono h.be.size), (g.block _ (kboxV h.bz)).trans h.bz, (g.block _ (kboxV h.bv)).trans h.bv, h.row.below g, h.own.below g, h.cap, h.wx, h.xd, h.ord, h.lh, Nat.le_trans h.hs g.size⟩
theorem PV.put {w : World} {X DB : Nat} {v : Vol} {aB : Option Addr} {kB : Nat} {aL : Option Addr} {kL : Nat} {d : List Bool} {lo hi : Nat} {wr : World} (h : PV w X DB v aB kB aL kL d lo hi wr) (i : Nat) (hi' : i < d.length) (u : Vol) (aB' : Option Addr) (kB' : Nat) (aL' : Option Addr) (kL' : Nat) (lo' hi2 : Nat) (ho : OwnV lo' hi2 aB' u.1 aL' u.2.2.1 wr) (hc : u.2.2.1.length ≤ kL') (hl : DB < lo') (hlh : lo' ≤ hi2) (hh : hi2 ≤ wr.heap.size) :
    PV w X DB u aB' kB' aL' kL' (d.set i true) lo' hi2 (((((wr.setCell ⟨X, 0, none⟩ (.slice aB' u.1.length kB')).setCell ⟨X, 1, none⟩ (.int .i64 u.2.1)).setCell ⟨X, 2, none⟩ (.slice aL' u.2.2.1.length kL')).setCell ⟨X, 3, none⟩ (.int .i64 u.2.2.2)).setCell ⟨DB, i, none⟩ (.bool true)) := by
  have hx := h.wx
  have hd := h.xd
  have hk : ∀ q, q ≠ X → q ≠ DB → (((((wr.setCell ⟨X, 0, none⟩ (.slice aB' u.1.length kB')).setCell ⟨X, 1, none⟩ (.int .i64 u.2.1)).setCell ⟨X, 2, none⟩ (.slice aL' u.2.2.1.length kL')).setCell ⟨X, 3, none⟩ (.int .i64 u.2.2.2)).setCell ⟨DB, i, none⟩ (.bool true)).heap[q]? = wr.heap[q]? := fun q h1 h2 => by
    rw [keepB _ _ _ _ _ h2, keepB _ _ _ _ _ h1, keepB _ _ _ _ _ h1, keepB _ _ _ _ _ h1, keepB _ _ _ _ _ h1]
  have hz : (((((wr.setCell ⟨X, 0, none⟩ (.slice aB' u.1.length kB')).setCell ⟨X, 1, none⟩ (.int .i64 u.2.1)).setCell ⟨X, 2, none⟩ (.slice aL' u.2.2.1.length kL')).setCell ⟨X, 3, none⟩ (.int .i64 u.2.2.2)).setCell ⟨DB, i, none⟩ (.bool true)).heap.size = wr.heap.size := by simp [World.setCell]
  refine ⟨setB (setB (setB (setB (setB h.be _ _ (by omega) _) _ _ (by omega) _) _ _ (by omega) _) _ _ (by omega) _) _ _ (by omega) _, (hk _ (by omega) (by omega)).trans h.bz, ?_, ?_, ho.same (by rw [hz]; exact Nat.le_refl _) (fun q h1 h2 => hk q (by omega) (by omega)), hc, hx, hd, Or.inr hl, hlh, by rw [hz]; exact hh⟩
  · rw [keepB _ _ _ _ _ (by omega)]
    have := box_set (box_set (box_set (box_set h.bv 0 (.slice aB' u.1.length kB')) 1 (.int .i64 u.2.1)) 2 (.slice aL' u.2.2.1.length kL')) 3 (.int .i64 u.2.2.2)
    simpa using this
  · refine BRow.set (h.row.same (w' := (((wr.setCell ⟨X, 0, none⟩ (.slice aB' u.1.length kB')).setCell ⟨X, 1, none⟩ (.int .i64 u.2.1)).setCell ⟨X, 2, none⟩ (.slice aL' u.2.2.1.length kL')).setCell ⟨X, 3, none⟩ (.int .i64 u.2.2.2)) (by simp [World.setCell]) ?_) i hi' true
    rw [keepB _ _ _ _ _ (by omega), keepB _ _ _ _ _ (by omega), keepB _ _ _ _ _ (by omega), keepB _ _ _ _ _ (by omega)]
theorem take_rep (d : List Bool) (k n : Nat) (hk : k < n) (hd : d.length = k) (b : Bool) : (d ++ List.replicate (n - k) false).set k b = (d ++ [b]) ++ List.replicate (n - (k + 1)) false := by
  rw [List.set_append_right _ _ (by omega), hd, Nat.sub_self, show n - k = (n - (k + 1)) + 1 by omega, List.replicate_succ, List.set_cons_zero, List.append_assoc]
  rfl
theorem take_rep0 (d : List Bool) (k n : Nat) (hk : k < n) : d ++ List.replicate (n - k) false = (d ++ [false]) ++ List.replicate (n - (k + 1)) false := by
  rw [show n - k = (n - (k + 1)) + 1 by omega, List.replicate_succ, List.append_assoc]
  rfl
set_option maxHeartbeats 4000000 in
theorem iplay_yes (a : Option Addr) (cap : Nat) (l : List Op) (w : World) (hn : l.length ≤ 60) (hZ : Os w.heap.size a l w) :
    Calls Try.prog 6 #[.slice a l.length cap] w fun e w' => POut (runV l (newV, [])).1 (runV l (newV, [])).2 true w e w' := by
  have hd60 : decide ((60 : Int) < (l.length : Int)) = false := decide_eq_false (by omega)
  have g0 := boxB w (.cells #[.slice none 0 0, .int .i64 0, .slice none 0 0, .int .i64 0] 28)
  have k0 := heap_last w (.cells #[.slice none 0 0, .int .i64 0, .slice none 0 0, .int .i64 0] 28)
  have z0 := heap_size w (.cells #[.slice none 0 0, .int .i64 0, .slice none 0 0, .int .i64 0] 28)
  generalize hW0 : w.alloc (.cells #[.slice none 0 0, .int .i64 0, .slice none 0 0, .int .i64 0] 28) = w0 at *
  have HG0 := hid g0
  have HK0 := hid k0
  have HZ0 := hid z0
  have HZ := hid hZ
  have hmk := make_bools l.length (by omega)
  clear g0 k0 z0 hZ
  go_enter Try.func6, Try.ntmps6
  go_wp2_with fail
  refine (inew_any _).mono ?_
  rintro e w1 ⟨b, c, rfl, o1, g1⟩
  have gX := boxB w1 (.cells #[.slice b 16 c, .int .i64 0, .slice none 0 0, .int .i64 0] 28)
  have kX := heap_last w1 (.cells #[.slice b 16 c, .int .i64 0, .slice none 0 0, .int .i64 0] 28)
  have zX := heap_size w1 (.cells #[.slice b 16 c, .int .i64 0, .slice none 0 0, .int .i64 0] 28)
  obtain ⟨wx, hWX⟩ : ∃ wx, wx = w1.alloc (.cells #[.slice b 16 c, .int .i64 0, .slice none 0 0, .int .i64 0] 28) := ⟨_, rfl⟩
  rw [← hWX] at gX kX zX
  have HWX := hid hWX
  clear hWX
  have gM := boxB wx (.cells (madeCells (Value.bool false).cells l.length) 4)
  have rM := BRow.made wx l.length
  generalize madeCells (Value.bool false).cells l.length = M at *
  rw [zX] at rM
  have HP : Hid (PV w w1.heap.size (w1.heap.size + 1) newV b c none 0 (List.replicate l.length false) w0.heap.size w1.heap.size (wx.alloc (.cells M 4))) := by
    have hz0 := HZ0.out
    have hs1 := g1.size
    have g2 := HG0.out.trans (g1.mono HG0.out.size)
    have g3 := gX.trans (gM.mono gX.size)
    refine ⟨g2.trans (g3.mono g2.size), ?_, ?_, rM, (o1.below gX).below gM, by decide, by omega, by omega, Or.inl ⟨by omega, Nat.le_refl _⟩, by omega, by have := gM.size; omega⟩
    · exact (gM.block _ (by omega)).trans ((gX.block _ (by omega)).trans ((g1.block _ (by omega)).trans HK0.out))
    · exact (gM.block _ (kboxV kX)).trans kX
  clear g1 o1 gX kX zX gM rM HG0 HK0
  go_wp2_with fail
  rw [← HWX.out]
  clear HWX
  generalize wx.alloc (.cells M 4) = wm at *
  go_loopw [21] (fun i wr => ∃ (k : Nat) (aB : Option Addr) (kB : Nat) (aL : Option Addr) (kL : Nat) (lo hi : Nat), k ≤ l.length ∧ i = .int .i64 k ∧ PV w w1.heap.size (w1.heap.size + 1) (runV (l.take k) (newV, [])).1 aB kB aL kL ((runV (l.take k) (newV, [])).2 ++ List.replicate (l.length - k) false) lo hi wr) (fun i _ => l.length - (intOf i).toNat)
  case atStart => exact ⟨0, _, _, _, _, _, _, Nat.zero_le _, rfl, HP.out⟩
  case round =>
    clear HP
    obtain ⟨k, aB, kB, aL, kL, lo, hi, hk, rfl, hP⟩ := hrel
    by_cases hlt : k < l.length
    · obtain ⟨b', off, rfl, hb', hc⟩ := HZ.out.cell (by omega)
      obtain ⟨c0, c1, c2, c3, c4⟩ := hc k hlt
      have x0 := (hP.be.cell (p := ⟨b', off + k * 5, none⟩) hb').trans c0
      have x1 := (hP.be.cell (p := ⟨b', off + k * 5 + 1, none⟩) hb').trans c1
      have x2 := (hP.be.cell (p := ⟨b', off + k * 5 + 2, none⟩) hb').trans c2
      have x3 := (hP.be.cell (p := ⟨b', off + k * 5 + 3, none⟩) hb').trans c3
      have x4 := (hP.be.cell (p := ⟨b', off + k * 5 + 4, none⟩) hb').trans c4
      have HSN : Hid (runV (l.take (k + 1)) (newV, []) = (nextV (runV (l.take k) (newV, [])).1 l[k], (runV (l.take k) (newV, [])).2 ++ [didV (runV (l.take k) (newV, [])).1 l[k]])) := by
        show _ = _
        rw [List.take_succ_eq_append_getElem hlt, runV_snoc]
      have HDL : Hid ((runV (l.take k) (newV, [])).2.length = k) := by show _ = _; rw [runV_len, List.length_take]; simp; omega
      have HGD := hid (runV_good (l.take k) (newV, []) GoodVol.new)
      clear hc c0 c1 c2 c3 c4
      generalize (runV (l.take k) (newV, [])).1 = v at *
      generalize (runV (l.take k) (newV, [])).2 = d at *
      generalize hop : l[k] = o at *
      obtain ⟨o0, o1, o2, o3, o4⟩ := o
      simp only at x0 x1 x2 x3 x4
      have gO := boxB wr (.cells #[.int .i64 o0, .int .i64 o1, .int .i64 o2, .string o3, .int .i64 o4] 35)
      have kO := heap_last wr (.cells #[.int .i64 o0, .int .i64 o1, .int .i64 o2, .string o3, .int .i64 o4] 35)
      generalize hWO : wr.alloc (.cells #[.int .i64 o0, .int .i64 o1, .int .i64 o2, .string o3, .int .i64 o4] 35) = wo at *
      have hPo := hP.on gO
      have HPo := hid hPo
      have q0 : wo.cell? ⟨wr.heap.size, 0, none⟩ = some (.int .i64 o0) := box_cell kO 0
      have q1 : wo.cell? ⟨wr.heap.size, 1, none⟩ = some (.int .i64 o1) := box_cell kO 1
      have q2 : wo.cell? ⟨wr.heap.size, 2, none⟩ = some (.int .i64 o2) := box_cell kO 2
      have q3 : wo.cell? ⟨wr.heap.size, 3, none⟩ = some (.string o3) := box_cell kO 3
      have q4 : wo.cell? ⟨wr.heap.size, 4, none⟩ = some (.int .i64 o4) := box_cell kO 4
      have v0 : wo.cell? ⟨w1.heap.size, 0, none⟩ = some (.slice aB v.1.length kB) := box_cell hPo.bv 0
      have v1 : wo.cell? ⟨w1.heap.size, 1, none⟩ = some (.int .i64 v.2.1) := box_cell hPo.bv 1
      have v2 : wo.cell? ⟨w1.heap.size, 2, none⟩ = some (.slice aL v.2.2.1.length kL) := box_cell hPo.bv 2
      have v3 : wo.cell? ⟨w1.heap.size, 3, none⟩ = some (.int .i64 v.2.2.2) := box_cell hPo.bv 3
      have HDO := hid (idoV_k aB aL kB kL v.1 v.2.1 v.2.2.1 v.2.2.2 o0 o1 o2 o4 o3 wo (by have := goodBs_len HGD.out.bs; have := HGD.out.len; omega) hPo.cap hPo.own.read.1 hPo.own.read.2 HGD.out)
      clear hP hPo gO kO hop
      cases hdv : doV v.1 v.2.1 v.2.2.1 v.2.2.2 ⟨o0, o1, o2, o3, o4⟩ with
      | none =>
        rw [hdv] at HDO
        have HE : Hid (runV (l.take (k + 1)) (newV, []) = (v, d ++ [false])) := by
          show _ = _
          rw [HSN.out]
          unfold nextV didV
          rw [hdv]
          rfl
        clear hdv HSN HGD
        go_wp2_with fail
        refine HDO.out.mono ?_
        rintro e w2 ⟨rfl, g2⟩
        have g3 := boxB w2 (.cells #[.slice none 0 0, .int .i64 0, .slice none 0 0, .int .i64 0] 28)
        have h3 := (HPo.out.on g2).on g3
        have h4 := (HPo.out.on g2).on (setB (setB (setB (setB g3 w2.heap.size 0 (Nat.le_refl _) (.slice none 0 0)) w2.heap.size 1 (Nat.le_refl _) (.int .i64 0)) w2.heap.size 2 (Nat.le_refl _) (.slice none 0 0)) w2.heap.size 3 (Nat.le_refl _) (.int .i64 0))
        rw [take_rep0 d k l.length hlt] at h3 h4
        have HP3 := hid h3
        have HP4 := hid h4
        clear g2 g3 h3 h4 HDO HPo v0 v1 v2 v3 q0 q1 q2 q3 q4
        go_wp2_with fail
        go_roundw
        case rel => exact ⟨k + 1, aB, kB, aL, kL, lo, hi, by omega, by go_num, by rw [HE.out]; first | exact HP3.out | exact HP4.out⟩
        case measure => simp [intOf]; omega
      | some u =>
        rw [hdv] at HDO
        have HE : Hid (runV (l.take (k + 1)) (newV, []) = (u, d ++ [true])) := by
          show _ = _
          rw [HSN.out]
          unfold nextV didV
          rw [hdv]
          rfl
        clear hdv HSN HGD
        go_wp2_with fail
        refine HDO.out.mono ?_
        rintro e w2 ⟨aB', kB', aL', kL', hcap, rfl, ho2, g2⟩
        have g3 := boxB w2 (.cells #[.slice aB' u.1.length kB', .int .i64 u.2.1, .slice aL' u.2.2.1.length kL', .int .i64 u.2.2.2] 28)
        have k3 := heap_last w2 (.cells #[.slice aB' u.1.length kB', .int .i64 u.2.1, .slice aL' u.2.2.1.length kL', .int .i64 u.2.2.2] 28)
        have hP3 : PV w w1.heap.size (w1.heap.size + 1) v aB kB aL kL (d ++ List.replicate (l.length - k) false) lo hi (w2.alloc (.cells #[.slice aB' u.1.length kB', .int .i64 u.2.1, .slice aL' u.2.2.1.length kL', .int .i64 u.2.2.2] 28)) := (HPo.out.on g2).on g3
        have hon : w1.heap.size + 1 < wo.heap.size := HPo.out.row.lt
        have hs2 := g2.size
        have hs3 := g3.size
        have HP4 := hid (hP3.put k (by rw [List.length_append, HDL.out, List.length_replicate]; omega) u aB' kB' aL' kL' wo.heap.size w2.heap.size (ho2.below g3) hcap hon hs2 hs3)
        rw [take_rep d k l.length hlt HDL.out] at HP4
        have y0 := box_cell k3 0
        have y1 := box_cell k3 1
        have y2 := box_cell k3 2
        have y3 := box_cell k3 3
        have e0 := box_cell hP3.bv 0
        have e1 := box_cell hP3.bv 1
        have e2 := box_cell hP3.bv 2
        have e3 := box_cell hP3.bv 3
        have f0 := box_free hP3.bv 0
        have f1 := box_free hP3.bv 1
        have f2 := box_free hP3.bv 2
        have f3 := box_free hP3.bv 3
        have hkd : k < (d ++ List.replicate (l.length - k) false).length := by rw [List.length_append, HDL.out, List.length_replicate]; omega
        have r0 := hP3.row.cell k hkd
        have r1 := hP3.row.free k hkd
        generalize (d ++ List.replicate (l.length - k) false)[k] = rb at *
        clear g2 g3 ho2 k3 hP3 HDO HPo v0 v1 v2 v3 q0 q1 q2 q3 q4 hkd hs2 hs3 hon
        simp only [List.getElem?_toArray, List.getElem?_cons_zero, List.getElem?_cons_succ] at y0 y1 y2 y3 e0 e1 e2 e3
        generalize hW3 : w2.alloc (.cells #[.slice aB' u.1.length kB', .int .i64 u.2.1, .slice aL' u.2.2.1.length kL', .int .i64 u.2.2.2] 28) = w3 at *
        go_wp2_with fail
        go_roundw
        case rel => exact ⟨k + 1, aB', kB', aL', kL', _, _, by omega, by go_num, by rw [HE.out]; exact HP4.out⟩
        case measure => simp [intOf]; omega
    · obtain rfl : k = l.length := by omega
      rw [List.take_length, Nat.sub_self, List.replicate_zero, List.append_nil] at hP
      have HDL : Hid ((runV l (newV, [])).2.length = l.length) := by show _ = _; rw [runV_len]; simp
      obtain ⟨v, hv⟩ : ∃ v, (runV l (newV, [])).1 = v := ⟨_, rfl⟩
      obtain ⟨d, hdd⟩ : ∃ d, (runV l (newV, [])).2 = d := ⟨_, rfl⟩
      rw [hv, hdd] at hP
      rw [hdd] at HDL
      have HV := hid hv
      have HDD := hid hdd
      clear hv hdd
      have v0 : wr.cell? ⟨w1.heap.size, 0, none⟩ = some (.slice aB v.1.length kB) := box_cell hP.bv 0
      have v1 : wr.cell? ⟨w1.heap.size, 1, none⟩ = some (.int .i64 v.2.1) := box_cell hP.bv 1
      have v2 : wr.cell? ⟨w1.heap.size, 2, none⟩ = some (.slice aL v.2.2.1.length kL) := box_cell hP.bv 2
      have v3 : wr.cell? ⟨w1.heap.size, 3, none⟩ = some (.int .i64 v.2.2.2) := box_cell hP.bv 3
      have z0 : wr.cell? ⟨w.heap.size, 0, none⟩ = some (.slice none 0 0) := box_cell hP.bz 0
      have z1 : wr.cell? ⟨w.heap.size, 1, none⟩ = some (.int .i64 0) := box_cell hP.bz 1
      have z2 : wr.cell? ⟨w.heap.size, 2, none⟩ = some (.slice none 0 0) := box_cell hP.bz 2
      have z3 : wr.cell? ⟨w.heap.size, 3, none⟩ = some (.int .i64 0) := box_cell hP.bz 3
      have f0 := box_free hP.bz 0
      have f1 := box_free hP.bz 1
      have f2 := box_free hP.bz 2
      have f3 := box_free hP.bz 3
      have hbn := box_set (box_set (box_set (box_set hP.bz 0 (.slice aB v.1.length kB)) 1 (.int .i64 v.2.1)) 2 (.slice aL v.2.2.1.length kL)) 3 (.int .i64 v.2.2.2)
      have e0 := box_cell hbn 0
      have e1 := box_cell hbn 1
      have e2 := box_cell hbn 2
      have e3 := box_cell hbn 3
      simp only [List.setIfInBounds_toArray, List.set_cons_zero, List.set_cons_succ, List.getElem?_toArray, List.getElem?_cons_zero, List.getElem?_cons_succ] at e0 e1 e2 e3
      have HOUT : Hid (POut v d true w (.returned (.tuple #[.agg #[.slice aB v.1.length kB, .int .i64 v.2.1, .slice aL v.2.2.1.length kL, .int .i64 v.2.2.2], .slice (some ⟨w1.heap.size + 1, 0, none⟩) l.length l.length, .bool true])) ((((wr.setCell ⟨w.heap.size, 0, none⟩ (.slice aB v.1.length kB)).setCell ⟨w.heap.size, 1, none⟩ (.int .i64 v.2.1)).setCell ⟨w.heap.size, 2, none⟩ (.slice aL v.2.2.1.length kL)).setCell ⟨w.heap.size, 3, none⟩ (.int .i64 v.2.2.2))) := by
        have hx := hP.wx
        have hlt := hP.row.lt
        have hsz : ((((wr.setCell ⟨w.heap.size, 0, none⟩ (.slice aB v.1.length kB)).setCell ⟨w.heap.size, 1, none⟩ (.int .i64 v.2.1)).setCell ⟨w.heap.size, 2, none⟩ (.slice aL v.2.2.1.length kL)).setCell ⟨w.heap.size, 3, none⟩ (.int .i64 v.2.2.2)).heap.size = wr.heap.size := by simp [World.setCell]
        have hk : ∀ q, q ≠ w.heap.size → ((((wr.setCell ⟨w.heap.size, 0, none⟩ (.slice aB v.1.length kB)).setCell ⟨w.heap.size, 1, none⟩ (.int .i64 v.2.1)).setCell ⟨w.heap.size, 2, none⟩ (.slice aL v.2.2.1.length kL)).setCell ⟨w.heap.size, 3, none⟩ (.int .i64 v.2.2.2)).heap[q]? = wr.heap[q]? := fun q h1 => by
          rw [keepB _ _ _ _ _ h1, keepB _ _ _ _ _ h1, keepB _ _ _ _ _ h1, keepB _ _ _ _ _ h1]
        have hord := hP.ord
        have hlh := hP.lh
        have hhs := hP.hs
        refine ⟨aB, kB, aL, kL, some ⟨w1.heap.size + 1, 0, none⟩, l.length, hP.cap, by rw [HDL.out], lo, hi, w1.heap.size + 1, w1.heap.size + 1 + 1, by omega, by omega, by omega, by omega, hlh, by omega, by omega, hP.own.same (by omega) (fun q h1 h2 => hk q (by omega)), Or.inr ⟨w1.heap.size + 1, Nat.le_refl _, by omega, rfl, hP.row.same (by omega) (hk _ (by omega))⟩, setB (setB (setB (setB hP.be _ _ (Nat.le_refl _) _) _ _ (Nat.le_refl _) _) _ _ (Nat.le_refl _) _) _ _ (Nat.le_refl _) _⟩
      clear hP hbn
      go_wp2_with fail
      generalize ((((wr.setCell ⟨w.heap.size, 0, none⟩ (.slice aB v.1.length kB)).setCell ⟨w.heap.size, 1, none⟩ (.int .i64 v.2.1)).setCell ⟨w.heap.size, 2, none⟩ (.slice aL v.2.2.1.length kL)).setCell ⟨w.heap.size, 3, none⟩ (.int .i64 v.2.2.2)) = XX at *
      refine bodyPost_ret (v := .tuple #[.agg #[.slice aB v.1.length kB, .int .i64 v.2.1, .slice aL v.2.2.1.length kL, .int .i64 v.2.2.2], .slice (some ⟨w1.heap.size + 1, 0, none⟩) l.length l.length, .bool true]) (by simp [results, Try.results6, go_sem, e0, e1, e2, e3]) rfl ?_
      rw [HV.out, HDD.out]
      exact HOUT.out
end Go.Proofs.Ytlbhfgcpflhccaa
namespace Go.Proofs.Ytlbhfgcpflhccaa
set_option maxRecDepth 100000
open Go Go.ChangeShapes Go.WideShapes Go.ChangeAt Go.RowKit G00541
def tvals (l : List Bool) : List Value := l.map fun b => .bool b
theorem tvals_snoc (l : List Bool) (n : Bool) : tvals (l ++ [n]) = tvals l ++ [.bool n] := by simp [tvals]
/-- the block of a row holds truth values alone -/
def AllB (v : Value) (w : World) : Prop := ∀ g, v.ownBlock = some g → ∀ off u, w.cell? ⟨g, off, none⟩ = some u → ∃ b, u = .bool b
structure TB (lo : Nat) (v : Value) (l : List Bool) (w : World) : Prop where
  row : w.ownsRow lo 4 1 v l.length (tvals l)
  all : AllB v w
theorem TB.nil (lo : Nat) (w : World) : TB lo (.slice none 0 0) [] w := ⟨World.ownsRow_nil _ _ _ _, fun g h => by simp [Value.ownBlock] at h⟩
theorem TB.keep {lo : Nat} {v : Value} {l : List Bool} {w w' : World} (h : TB lo v l w) (hk : ∀ k, v.ownBlock = some k → w'.heap[k]? = w.heap[k]?) : TB lo v l w' :=
  ⟨rw_keep h.row hk, fun g hg off u hu => by
    refine h.all g hg off u ?_
    unfold World.cell? at hu ⊢
    simp only [hk g hg] at hu
    exact hu⟩
theorem TB.below {lo : Nat} {v : Value} {l : List Bool} {w w' : World} (h : TB lo v l w) (g : Below w.heap.size w w') : TB lo v l w' := h.keep (fun k hk => g.block k (World.ownsRow.lt h.row k hk).2)
theorem allB_box {w : World} {g : Nat} {cs : Array Value} {t : TypeId} (h : w.heap[g]? = some (.cells cs t)) (hc : ∀ u ∈ cs.toList, ∃ b, u = Value.bool b) (off : Nat) (u : Value) (hu : w.cell? ⟨g, off, none⟩ = some u) : ∃ b, u = .bool b := by
  rw [box_cell h] at hu
  exact hc u (Array.mem_toList_iff.2 (Array.mem_of_getElem? hu))
theorem zeros_b (n : Nat) : ∀ u ∈ (Builtin.zeroCells (Value.bool false).cells n).toList, ∃ b, u = Value.bool b := by
  intro u hu
  have hc : (Value.bool false).cells = #[.bool false] := rfl
  simp only [Builtin.zeroCells, hc, Array.toList_map, List.mem_map] at hu
  obtain ⟨i, _, rfl⟩ := hu
  refine ⟨false, ?_⟩
  have : i % 1 = 0 := Nat.mod_one i
  simp [this]
theorem tvals_b (l : List Bool) : ∀ u ∈ tvals l, ∃ b, u = Value.bool b := fun u hu => by
  obtain ⟨b, _, rfl⟩ := List.mem_map.1 hu
  exact ⟨b, rfl⟩
theorem TB.push {lo : Nat} {v : Value} {l : List Bool} {w : World} (h : TB lo v l w) (hlo : lo ≤ w.heap.size) (b : Bool) (hm : l.length + 1 ≤ 10000) :
    ∃ v' w', (∀ ty, (Builtin.append_ #[29, 29] ty #[v, .slice (some ⟨w.heap.size, 0, none⟩) 1 1]).run Try.prog (w.alloc (.cells #[.bool b] 4)) = .ok v' w') ∧ TB lo v' (l ++ [b]) w' ∧ (w.alloc (.cells #[.bool b] 4)).grownBy w' v.ownBlock ∧ (v'.ownBlock = v.ownBlock ∨ v'.ownBlock = some (w.heap.size + 1)) := by
  have gb := boxB w (.cells #[.bool b] 4)
  have hz := heap_size w (.cells #[.bool b] 4)
  have hbx := heap_last w (.cells #[.bool b] 4)
  have ha := h.below gb
  generalize hwa : w.alloc (.cells #[.bool b] 4) = wa at *
  obtain ⟨i, hi, hz0, hz1, hz2⟩ := info_parts infoB
  have hnews : ∀ j u, [Value.bool b][j]? = some u → wa.cell? ((⟨w.heap.size, 0, none⟩ : Addr).add j) = some u := fun j u hu => by
    have hj : j = 0 := by
      cases j with
      | zero => rfl
      | succ j => simp at hu
    subst hj
    have e : (⟨w.heap.size, 0, none⟩ : Addr).add 0 = ⟨w.heap.size, 0, none⟩ := rfl
    rw [e, box_cell hbx]
    exact hu
  have one1 : ∀ u ∈ [Value.bool b], u.oneCell' = true := fun u hu => by obtain rfl := List.mem_singleton.1 hu; rfl
  obtain ⟨v', w', hr, h2, h3, _, h5⟩ := run_append_own_at wa lo 29 29 4 i (.bool false) 1 1 Try.underlying29 hi hz0 hz1 hz2 rfl (by decide) v l.length (tvals l) ha.row ⟨w.heap.size, 0, none⟩ 1 1 [.bool b] rfl hnews one1 (by unfold maxLen; omega) (by omega) (by omega)
  rw [hz] at h5
  refine ⟨v', w', fun ty => hr, ⟨by rw [List.length_append, tvals_snoc]; exact h2, ?_⟩, h3, h5⟩
  have hdet : ∀ x y, (Builtin.append_ #[29, 29] 29 #[v, .slice (some ⟨w.heap.size, 0, none⟩) 1 1]).run Try.prog wa = .ok x y → v' = x ∧ w' = y := fun x y h => by
    have h' : (Builtin.append_ #[29, 29] 29 #[v, .slice (some ⟨w.heap.size, 0, none⟩) 1 1]).run Try.prog wa = .ok v' w' := hr
    rw [h'] at h
    injection h with h1 h2
    exact ⟨h1, h2⟩
  rcases ha.row.2 with ⟨rfl, hl0⟩ | ⟨g, cap, cur, rfl, hbg, hg, hnc, hcm, hcs, htake⟩
  · have hr2 := run_append_nil (P := Try.prog) wa 29 29 4 i (.bool false) Try.underlying29 hi hz0 ⟨w.heap.size, 0, none⟩ 1 1 [.bool b] (by rw [hz1]; rfl) hnews (by decide) (by decide) (by rw [hz2]; decide)
    obtain ⟨rfl, rfl⟩ := hdet _ _ hr2
    intro g hg off u hu
    have hg' : wa.heap.size = g := by simpa [Value.ownBlock] using hg
    subst hg'
    refine allB_box (heap_last wa.drew _) (fun u hu => ?_) off u hu
    rw [Array.toList_append] at hu
    rcases List.mem_append.1 hu with hu | hu
    · exact ⟨b, List.mem_singleton.1 hu⟩
    · exact zeros_b _ u hu
  · by_cases hroom : l.length + 1 ≤ cap
    · have hr2 := run_append_room (P := Try.prog) wa 29 29 4 i Try.underlying29 hi g l.length cap cur hg ⟨w.heap.size, 0, none⟩ 1 1 [.bool b] (by rw [hz1]; rfl) hnews one1 hroom (by rw [hz1, hcs]; simp; omega)
      obtain ⟨rfl, rfl⟩ := hdet _ _ hr2
      intro g' hg' off u hu
      have e : g = g' := by simpa [Value.ownBlock] using hg'
      subst e
      refine allB_box (setRow_heap wa g cur _ 4 _ hg) (fun u hu => ?_) off u hu
      have hcur : ∀ u ∈ cur.toList, ∃ b, u = Value.bool b := fun u hu => by
        obtain ⟨k, hk, rfl⟩ := List.getElem_of_mem hu
        refine ha.all g rfl k _ ?_
        rw [box_cell hg]
        rw [Array.length_toList] at hk
        simp [hk]
      rw [List.toList_toArray] at hu
      rcases List.mem_append.1 hu with hu | hu
      · rcases List.mem_append.1 hu with hu | hu
        · exact hcur u (List.mem_of_mem_take hu)
        · exact ⟨b, List.mem_singleton.1 hu⟩
      · exact hcur u (List.mem_of_mem_drop hu)
    · have holds : ∀ j u, (tvals l)[j]? = some u → wa.cell? ((⟨g, 0, none⟩ : Addr).add j) = some u := ha.row.cells (g := g) rfl
      have hlt : (tvals l).length = l.length := by simp [tvals]
      have hcl : cap < l.length + 1 := by omega
      have hr2 := run_append_grow (P := Try.prog) wa 29 29 4 i (.bool false) Try.underlying29 hi hz0 ⟨g, 0, none⟩ l.length cap (tvals l) (by rw [hz1, hlt, Nat.mul_one]) holds ⟨w.heap.size, 0, none⟩ 1 1 [.bool b] (by rw [hz1]; rfl) hnews hcl (by omega) (by rw [hz2]; have := nextslicecap_le hcl; omega)
      obtain ⟨rfl, rfl⟩ := hdet _ _ hr2
      intro g' hg' off u hu
      have e : wa.heap.size = g' := by simpa [Value.ownBlock] using hg'
      subst e
      refine allB_box (heap_last wa.drew _) (fun u hu => ?_) off u hu
      rw [Array.toList_append, Array.toList_append, List.toList_toArray, List.toList_toArray] at hu
      rcases List.mem_append.1 hu with hu | hu
      · rcases List.mem_append.1 hu with hu | hu
        · exact tvals_b l u hu
        · exact ⟨b, List.mem_singleton.1 hu⟩
      · exact zeros_b _ u hu
theorem tvals_flat (l : List Bool) : tvals l = (l.map bcell).flatten := by
  unfold tvals
  induction l with
  | nil => rfl
  | cons x l ih => rw [List.map_cons, List.map_cons, List.flatten_cons, ih]; rfl
theorem TB.own {lo : Nat} {v : Value} {l : List Bool} {w : World} (h : TB lo v l w) : ∃ b c, v = .slice b l.length c ∧ OwnB lo w.heap.size b l w := by
  have h9 := h.row
  by_cases h0 : 0 < l.length
  · have hv : v ≠ .slice none 0 0 := by
      intro e
      rcases h9.2 with ⟨_, h1⟩ | ⟨g, cap, cur, e2, _⟩
      · omega
      · rw [e] at e2; cases e2
    have e9 : tvals l = (l.map bcell).flatten := tvals_flat l
    rw [e9] at h9
    obtain ⟨R, cap, e, hR, hrow⟩ := GRow.ofOwns (rows := l.map bcell) (fun i hi => by rw [List.getElem_map]; rfl) h9 (by simp) hv
    exact ⟨_, cap, e, Or.inr ⟨R, hR, hrow.lt, rfl, hrow⟩⟩
  · obtain rfl : l = [] := List.eq_nil_of_length_eq_zero (by omega)
    rcases h9.2 with ⟨e, _⟩ | ⟨g, cap, cur, e, _⟩
    · exact ⟨none, 0, e, Or.inl rfl⟩
    · exact ⟨_, cap, e, Or.inl rfl⟩
/-- texts and records lie in no block of truth values: they stay while one is appended -/
theorem ss_apart {lo : Nat} {v : Value} {d : List Bool} {w w' : World} {B : Nat} {a : Option Addr} {l : List ByteArray} (h : TB lo v d w) (hs : Ss B a l w) (hB : B ≤ w.heap.size) (g : w.grownBy w' v.ownBlock) : Ss w'.heap.size a l w' := by
  refine ⟨fun h0 => ?_⟩
  obtain ⟨b, off, e, hb, hc⟩ := GSl.cell hs h0
  have hg := g.size
  refine ⟨b, off, e, by omega, fun i hi j hj => ?_⟩
  have hl : 0 < l.length := by simpa using h0
  obtain ⟨b2, off2, e2, hb2, hc2⟩ := Ss.cell hs hl
  have hbb : some b ≠ v.ownBlock := fun e3 => by
    rw [e] at e2
    injection e2 with e2
    injection e2 with e4 e5 _
    subst e4; subst e5
    obtain ⟨x, hx⟩ := h.all b e3.symm _ _ (hc2 0 hl)
    cases hx
  have hbk := g.block b (by omega) hbb
  have hcell := hc i hi j hj
  unfold World.cell? at hcell ⊢
  simp only [hbk]
  exact hcell
theorem rs_apart {lo : Nat} {v : Value} {d : List Bool} {w w' : World} {B : Nat} {a : Option Addr} {l : List Rc} (h : TB lo v d w) (hs : Rs B a l w) (hB : B ≤ w.heap.size) (g : w.grownBy w' v.ownBlock) : Rs w'.heap.size a l w' := by
  refine ⟨fun h0 => ?_⟩
  obtain ⟨b, off, e, hb, hc⟩ := GSl.cell hs h0
  have hg := g.size
  refine ⟨b, off, e, by omega, fun i hi j hj => ?_⟩
  have hl : 0 < l.length := by simpa using h0
  obtain ⟨b2, off2, e2, hb2, hc2⟩ := Rs.cell hs hl
  have hbb : some b ≠ v.ownBlock := fun e3 => by
    rw [e] at e2
    injection e2 with e2
    injection e2 with e4 e5 _
    subst e4; subst e5
    obtain ⟨x, hx⟩ := h.all b e3.symm _ _ (hc2 0 hl).1
    cases hx
  have hbk := g.block b (by omega) hbb
  have hcell := hc i hi j hj
  unfold World.cell? at hcell ⊢
  simp only [hbk]
  exact hcell
end Go.Proofs.Ytlbhfgcpflhccaa
