/- Heaps drawn for the law on cleaning; what both sides answer. -/
import Derived.Test.YtohkhcjdjjlfbaaHDw
import Derived.Test.YtohkhcjdjjlfbaaHPc
import Derived.Test.YtohkhcjdjjlfbaaICl
import Derived.Test.YtohkhcjdjjlfbaaHA
import Derived.Test.YtohkhcjdjjlfbaaHFree
import Derived.Deep.DeepCutAuto
import Derived.Deep.RegionHeldLaw
namespace Go.Proofs.Ytohkhcjdjjlfbaa
set_option maxRecDepth 100000
open Go Go.ChangeShapes Go.WideShapes Go.ChangeAt Go.RowKit G00541
set_option maxHeartbeats 1000000 in
theorem drawWriteR_any (len cap : Nat) (a : Option Addr) (w : World) (hK : Code w.heap.size len cap a w) :
    Calls Try.prog 24 #[.slice a len cap] w fun e w' => ∃ aS kS aL kL S L, ∃ x : Int, e = .returned (.tuple #[.agg #[.slice aS S.length kS, .slice aL L.length kL], .int .i64 x]) ∧ S.length ≤ 6 ∧ HR (w.heap.size + 2) (.slice aS S.length kS) (.slice aL L.length kL) S L w' ∧ Below w.heap.size w w' := by
  have HH := hid (heap_dh len cap a w hK)
  clear hK
  go_enter Try.func24, Try.ntmps24
  go_wp2_with fail
  refine HH.out.mono ?_
  rintro e w2 ⟨vS, vL, S, L, rfl, h2, h6, hd⟩
  have HD := hid hd
  clear hd HH
  go_wp2_with fail
  refine (pick_any _ _ _ len cap a _ (by omega) (by omega) (by omega) HD.out.cur HD.out.code).mono ?_
  rintro e w3 ⟨x, rfl, x0, x1, hC3, hB3⟩
  have hd := HD.out.step hC3 hB3
  obtain ⟨aS, kS, aL, kL, e1, e2, _, _⟩ := hd.hr.read
  subst e1; subst e2
  have r0 := box_cell hd.res 0
  have r1 := box_cell hd.res 1
  have f0 := box_free hd.res 0
  have f1 := box_free hd.res 1
  have HF := hid hd.fin
  clear hd HD hC3 hB3
  go_wp2_with fail
  refine bodyPost_ret (v := .tuple #[.agg #[.slice aS S.length kS, .slice aL L.length kL], .int .i64 (x - 1)]) (by simp [results, Try.results24, go_sem, r0, r1]) rfl ⟨aS, kS, aL, kL, S, L, x - 1, rfl, h6, HF.out.1, HF.out.2⟩
set_option maxHeartbeats 1000000 in
theorem drawWhere_any (len cap : Nat) (a : Option Addr) (w : World) (hK : Code w.heap.size len cap a w) :
    Calls Try.prog 16 #[.slice a len cap] w fun e w' => ∃ aS kS aL kL S L, ∃ x : Int, e = .returned (.tuple #[.agg #[.slice aS S.length kS, .slice aL L.length kL], .int .i64 x]) ∧ S.length ≤ 6 ∧ HG aS aL S L w' ∧ Below w.heap.size w w' := by
  have k1 : Code (oneH w).heap.size len cap a (oneH w) := (hK.start _).mono (by rw [oneH_size]; omega)
  have HH := hid (drawWriteR_any len cap a (oneH w) k1)
  clear hK k1
  go_enter Try.func16, Try.ntmps16
  go_wp2_with fail
  refine HH.out.mono ?_
  rintro e w2 ⟨aS, kS, aL, kL, S, L, x, rfl, h6, hr, hb⟩
  have hs := oneH_size w
  have hres : w2.heap[w.heap.size]? = some (.cells #[.slice none 0 0, .slice none 0 0] 26) := (hb.block _ (by omega)).trans (heap_last w _)
  have r0 := box_cell hres 0
  have r1 := box_cell hres 1
  have f0 := box_free hres 0
  have f1 := box_free hres 1
  have HR2 := hid ((hr.box hres 0 (.slice aS S.length kS)).box (box_set hres 0 (.slice aS S.length kS)) 1 (.slice aL L.length kL)).hg
  have hb0 : Below w.heap.size w w2 := ((Below.refl _ w).alloc (Nat.le_refl _) _).trans (hb.mono (by omega))
  have HBB := hid (setB (setB hb0 w.heap.size 0 (Nat.le_refl _) (.slice aS S.length kS)) w.heap.size 1 (Nat.le_refl _) (.slice aL L.length kL))
  clear hr hb hb0 hres HH hs
  go_wp2_with fail
  refine bodyPost_ret (v := .tuple #[.agg #[.slice aS S.length kS, .slice aL L.length kL], .int .i64 x]) (by simp [results, Try.results16, go_sem, r0, r1]) rfl ⟨aS, kS, aL, kL, S, L, x, rfl, h6, HR2.out, HBB.out⟩
set_option maxHeartbeats 1000000 in
theorem drawFree_any (len cap : Nat) (a : Option Addr) (w : World) (hK : Code w.heap.size len cap a w) :
    Calls Try.prog 18 #[.slice a len cap] w fun e w' => ∃ aS kS aL kL S L, e = .returned (.agg #[.slice aS S.length kS, .slice aL L.length kL]) ∧ S.length ≤ 6 ∧ HG aS aL S L w' ∧ Below w.heap.size w w' := by
  have k1 : Code (oneH w).heap.size len cap a (oneH w) := (hK.start _).mono (by rw [oneH_size]; omega)
  have HH := hid (drawHeap_any len cap a (oneH w) k1)
  clear hK k1
  go_enter Try.func18, Try.ntmps18
  go_wp2_with fail
  refine HH.out.mono ?_
  rintro e w2 ⟨aS, kS, aL, kL, S, L, rfl, h6, hr, hb⟩
  have hs := oneH_size w
  have hres : w2.heap[w.heap.size]? = some (.cells #[.slice none 0 0, .slice none 0 0] 26) := (hb.block _ (by omega)).trans (heap_last w _)
  have r0 := box_cell hres 0
  have r1 := box_cell hres 1
  have f0 := box_free hres 0
  have f1 := box_free hres 1
  have HR2 := hid ((hr.box hres 0 (.slice aS S.length kS)).box (box_set hres 0 (.slice aS S.length kS)) 1 (.slice aL L.length kL)).hg
  have hb0 : Below w.heap.size w w2 := ((Below.refl _ w).alloc (Nat.le_refl _) _).trans (hb.mono (by omega))
  have HBB := hid (setB (setB hb0 w.heap.size 0 (Nat.le_refl _) (.slice aS S.length kS)) w.heap.size 1 (Nat.le_refl _) (.slice aL L.length kL))
  clear hr hb hb0 hres HH hs
  go_wp2_with fail
  refine bodyPost_ret (v := .agg #[.slice aS S.length kS, .slice aL L.length kL]) (by simp [results, Try.results18, go_sem, r0, r1]) rfl ⟨aS, kS, aL, kL, S, L, rfl, h6, HR2.out, HBB.out⟩
theorem where_tells (S : List Sg) (L : List (List Bool)) (x : Int) : ∃ (s i : Int) (ok : Bool),
    (∀ aS kS aL kL v, HG aS aL S L v → Calls Try.prog 15 #[.agg #[.slice aS S.length kS, .slice aL L.length kL], .int .i64 x] v fun e w' => e = .returned (.tuple #[.int .i64 s, .int .i64 i, .bool ok]) ∧ Below v.heap.size v w') ∧
    (∀ aS kS aL kL v, HG aS aL S L v → Calls Try.prog 17 #[.agg #[.slice aS S.length kS, .slice aL L.length kL], .int .i64 x] v fun e w' => e = .returned (.tuple #[.int .i64 s, .int .i64 i, .bool ok]) ∧ Below v.heap.size v w') := by
  by_cases hg : goodH S L = true
  · have hi := fun aS kS aL kL v (hv : HG aS aL S L v) => iWhere_yes aS aL kS kL S L x v hv.1 hg hv.2.1 hv.2.2
    have hs := fun aS kS aL kL v (hv : HG aS aL S L v) => sWhere_yes aS aL kS kL S L x v hv.1 hg hv.2.1 hv.2.2
    cases hw : whereH S L x with
    | none => rw [hw] at hi hs; exact ⟨_, _, _, hi, hs⟩
    | some q => rw [hw] at hi hs; exact ⟨_, _, _, hi, hs⟩
  · have hg : goodH S L = false := by simpa using hg
    exact ⟨_, _, _, fun aS kS aL kL v hv => iWhere_no aS aL kS kL S L x v hg hv.2.1 hv.2.2, fun aS kS aL kL v hv => sWhere_no aS aL kS kL S L x v hg hv.2.1 hv.2.2⟩
theorem free_tells (S : List Sg) (L : List (List Bool)) (hm : S.length ≤ 6) : ∃ (n : Int) (ok : Bool),
    (∀ aS kS aL kL v, HG aS aL S L v → Calls Try.prog 19 #[.agg #[.slice aS S.length kS, .slice aL L.length kL]] v fun e w' => e = .returned (.tuple #[.int .i64 n, .bool ok]) ∧ Below v.heap.size v w') ∧
    (∀ aS kS aL kL v, HG aS aL S L v → Calls Try.prog 20 #[.agg #[.slice aS S.length kS, .slice aL L.length kL]] v fun e w' => e = .returned (.tuple #[.int .i64 n, .bool ok]) ∧ Below v.heap.size v w') :=
  ⟨_, _, fun aS kS aL kL v hv => iFree_any aS aL kS kL S L v (by omega) hv.2.1 hv.2.2, fun aS kS aL kL v hv => sFree_any aS aL kS kL S L v (by omega) hv.2.1 hv.2.2⟩
theorem live_tells (S : List Sg) (L : List (List Bool)) (k : Int) (hl : L.length = S.length) : ∃ (n : Int) (ok : Bool),
    (∀ aS kS aL kL v, HG aS aL S L v → Calls Try.prog 8 #[.agg #[.slice aS S.length kS, .slice aL L.length kL], .int .i64 k] v fun e w' => e = .returned (.tuple #[.int .i64 n, .bool ok]) ∧ Below v.heap.size v w') ∧
    (∀ aS kS aL kL v, HG aS aL S L v → Calls Try.prog 9 #[.agg #[.slice aS S.length kS, .slice aL L.length kL], .int .i64 k] v fun e w' => e = .returned (.tuple #[.int .i64 n, .bool ok]) ∧ Below v.heap.size v w') ∧
    (goodH S L = true → ∀ b : Nat, k = (b : Int) → b < S.length → ok = true ∧ n = (cntAt L b : Int)) := by
  by_cases h : goodH S L = true ∧ 0 ≤ k ∧ k < S.length
  · obtain ⟨hg, k0, k1⟩ := h
    obtain ⟨b, rfl⟩ : ∃ b : Nat, k = (b : Int) := ⟨k.toNat, by omega⟩
    have hb : b < S.length := by omega
    have sm := good_small5 hl hg
    refine ⟨_, _, fun aS kS aL kL v hv => iLiveIn_yes aS aL kS kL S L b v hv.2.1 hv.2.2 hg hb hl, fun aS kS aL kL v hv => sLiveIn_yes aS aL kS kL S L b v hv.2.1 hv.2.2 hg hb hl (sm.2.2 b (by omega)) sm.1, fun _ b2 e _ => ?_⟩
    obtain rfl : b = b2 := by omega
    exact ⟨rfl, by rw [cntAt_eq L b (by omega)]⟩
  · refine ⟨0, false, fun aS kS aL kL v hv => iLiveIn_no aS aL kS kL S L k v hv.2.1 hv.2.2 h, fun aS kS aL kL v hv => sLiveIn_no aS aL kS kL S L k v hv.2.1 hv.2.2 h, fun hg b e hb => absurd ⟨hg, by omega, by omega⟩ h⟩
theorem clean_tells (S : List Sg) (L : List (List Bool)) (k : Int) (hl : L.length = S.length) : ∃ (S' : List Sg) (L' : List (List Bool)) (n : Int) (ok : Bool),
    (∀ aS kS aL kL v, HG aS aL S L v → Calls Try.prog 6 #[.agg #[.slice aS S.length kS, .slice aL L.length kL], .int .i64 k] v fun e w' => ∃ bS jS bL jL, e = .returned (.tuple #[.agg #[.slice bS S'.length jS, .slice bL L'.length jL], .int .i64 n, .bool ok]) ∧ HG bS bL S' L' w' ∧ Below v.heap.size v w') ∧
    (∀ aS kS aL kL v, HG aS aL S L v → Calls Try.prog 7 #[.agg #[.slice aS S.length kS, .slice aL L.length kL], .int .i64 k] v fun e w' => ∃ bS jS bL jL, e = .returned (.tuple #[.agg #[.slice bS S'.length jS, .slice bL L'.length jL], .int .i64 n, .bool ok]) ∧ HG bS bL S' L' w' ∧ Below v.heap.size v w') ∧
    small5 S' L' ∧ (ok = true → goodH S L = true ∧ goodH S' L' = true ∧ ∃ b : Nat, k = (b : Int) ∧ b < S.length ∧ S'.length = S.length ∧ sortN (Q.flatB S' L') = sortN (Q.flatB S L) ∧ blAt S' b = [] ∧ n = (cntAt L b : Int)) := by
  have hnil : small5 [] [] := ⟨by simp, fun k h => by simp at h, fun k h => by simp at h⟩
  have none_hg : ∀ v : World, HG none none [] [] v := fun v => ⟨rfl, fun h => by simp at h, fun h => by simp at h⟩
  by_cases h : goodH S L = true ∧ 0 ≤ k ∧ k < S.length ∧ lenAt S k.toNat ≠ 0
  · obtain ⟨hg, k0, k1, kl⟩ := h
    obtain ⟨b, rfl⟩ : ∃ b : Nat, k = (b : Int) := ⟨k.toNat, by omega⟩
    have hb : b < S.length := by omega
    rw [Int.toNat_natCast] at kl
    have hi := fun aS kS aL kL v (hv : HG aS aL S L v) => iClean_go aS aL kS kL S L b v hv.1 hg hb kl hv.2.1 hv.2.2
    have hs := fun aS kS aL kL v (hv : HG aS aL S L v) => sClean_go aS aL kS kL S L b v hv.1 hg hb kl hv.2.1 hv.2.2
    cases hw : wrs b (livB (blAt S b) (lvAt L b)) (S, L) with
    | none =>
      rw [hw] at hi hs
      exact ⟨[], [], 0, false, fun aS kS aL kL v hv => (hi aS kS aL kL v hv).mono fun e w' h => ⟨none, 0, none, 0, h.1, none_hg _, h.2⟩, fun aS kS aL kL v hv => (hs aS kS aL kL v hv).mono fun e w' h => ⟨none, 0, none, 0, h.1, none_hg _, h.2⟩, hnil, fun h => by cases h⟩
    | some t =>
      rw [hw] at hi hs
      have hc := clean_told hl hg hb hw
      have conv : ∀ {v : World} {e : Ending} {w' : World}, COut (some t) b (livB (blAt S b) (lvAt L b)).length v e w' → ∃ bS jS bL jL, e = .returned (.tuple #[.agg #[.slice bS (clS t.1 b).length jS, .slice bL (clL t.2 b).length jL], .int .i64 (cntAt L b : Int), .bool true]) ∧ HG bS bL (clS t.1 b) (clL t.2 b) w' ∧ Below v.heap.size v w' := by
        rintro v e w' ⟨vS, vL, h1, h2, h3⟩
        obtain ⟨bS, jS, bL, jL, e1, e2, hG, hV⟩ := h2.read
        subst e1; subst e2
        rw [hc.2.2.2.2.2] at h1
        exact ⟨bS, jS, bL, jL, h1, ⟨h2.1, hG, hV⟩, h3⟩
      exact ⟨clS t.1 b, clL t.2 b, cntAt L b, true, fun aS kS aL kL v hv => (hi aS kS aL kL v hv).mono fun e w' h => conv h, fun aS kS aL kL v hv => (hs aS kS aL kL v hv).mono fun e w' h => conv h, good_small5 hc.2.1 hc.1, fun _ => ⟨hg, hc.1, b, rfl, hb, hc.2.2.1, hc.2.2.2.1, hc.2.2.2.2.1, rfl⟩⟩
  · exact ⟨[], [], 0, false, fun aS kS aL kL v hv => (iClean_no aS aL kS kL S L k v h hv.2.1 hv.2.2).mono fun e w' h => ⟨none, 0, none, 0, h.1, none_hg _, h.2⟩, fun aS kS aL kL v hv => (sClean_no aS aL kS kL S L k v h hv.2.1 hv.2.2).mono fun e w' h => ⟨none, 0, none, 0, h.1, none_hg _, h.2⟩, hnil, fun h => by cases h⟩
end Go.Proofs.Ytohkhcjdjjlfbaa
