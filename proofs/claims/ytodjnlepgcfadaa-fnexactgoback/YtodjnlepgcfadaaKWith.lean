/- Walk of the program's withLayer. -/
import Derived.Test.YtodjnlepgcfadaaKGrow
import Derived.Test.YtodjnlepgcfadaaKGoodJ
namespace Go.Proofs.Ytodjnlepgcfadaa
set_option maxRecDepth 100000
open Go Go.ChangeShapes Go.WideShapes Go.ChangeAt Go.RowKit
/-- what a copy of layers leaves -/
def CpK (S : List Ly) (w : World) (e : Ending) (w' : World) : Prop := ∃ v L, e = .returned v ∧ L.map (·.1) = S ∧ KG w.heap.size v L w' ∧ Below w.heap.size w w'
/-- marks and true, in memory of their own, or nothing and false -/
def MOut (o : Option (List Ly)) (w : World) (e : Ending) (w' : World) : Prop := match o with
  | some V => ∃ b c, e = .returned (.tuple #[.agg #[.slice b V.length c], .bool true]) ∧ OwnK w.heap.size w'.heap.size b V w' ∧ Below w.heap.size w w' ∧ V.length ≤ c
  | none => e = .returned (.tuple #[.agg #[.slice none 0 0], .bool false]) ∧ Below w.heap.size w w'
def withK (S : List Ly) (m : Int) : Option (List Ly) := if goodK (S ++ [⟨m, [], []⟩]) = true then some (S ++ [⟨m, [], []⟩]) else none
theorem OwnK.low {lo lo' hi : Nat} {a : Option Addr} {S : List Ly} {w : World} (h : OwnK lo hi a S w) (hl : lo' ≤ lo) : OwnK lo' hi a S w := by
  rcases h with h | ⟨R, A, e, h⟩
  · exact Or.inl h
  · exact Or.inr ⟨R, A, e, by have := h.r0; omega, h.r1, h.r2, h.cell, h.free, fun i hi => (h.ownB i hi).imp id (fun ⟨a1, a2⟩ => ⟨by omega, a2⟩), fun i hi => (h.ownD i hi).imp id (fun ⟨a1, a2⟩ => ⟨by omega, a2⟩), h.bb, h.dd, h.bd⟩
theorem OwnK.high {lo hi hi' : Nat} {a : Option Addr} {S : List Ly} {w : World} (h : OwnK lo hi a S w) (hl : hi ≤ hi') (hs : hi' ≤ w.heap.size) : OwnK lo hi' a S w := by
  rcases h with h | ⟨R, A, e, h⟩
  · exact Or.inl h
  · exact Or.inr ⟨R, A, e, h.r0, by have := h.r1; omega, hs, h.cell, h.free, fun i hi => (h.ownB i hi).imp id (fun ⟨a1, a2, a3⟩ => ⟨a1, by omega, a3⟩), fun i hi => (h.ownD i hi).imp id (fun ⟨a1, a2, a3⟩ => ⟨a1, by omega, a3⟩), h.bb, h.dd, h.bd⟩
theorem OwnK.set {lo hi : Nat} {a : Option Addr} {S : List Ly} {w : World} (h : OwnK lo hi a S w) (X i : Nat) (u : Value) (hX : X < lo ∨ hi ≤ X) : OwnK lo hi a S (w.setCell ⟨X, i, none⟩ u) := by
  rcases h with h | ⟨R, A, e, h⟩
  · exact Or.inl h
  · exact Or.inr ⟨R, A, e, h.keep (by simp [World.setCell]) (fun Y h1 h2 => keepB _ _ _ _ _ (by omega))⟩
set_option maxHeartbeats 4000000 in
theorem withLayer_any (a : Option Addr) (cap : Nat) (S : List Ly) (m : Int) (w : World) (hn : S.length ≤ 9000) (hf : ∀ k (h : k < S.length), S[k].bl.length ≤ 1048576)
    (hC : ∀ v, Below w.heap.size w v → Calls Try.prog 32 #[.slice a S.length cap] v fun e w' => CpK S v e w') :
    Calls Try.prog 18 #[.slice a S.length cap, .int .i64 m] w fun e w' => MOut (withK S m) w e w' := by
  have HB0 := hid (Bx.start w (.cells #[.slice none 0 0] 28))
  have hz0 : (w.alloc (.cells #[.slice none 0 0] 28)).heap.size = w.heap.size + 1 := heap_size _ _
  have HC := hid (hC _ HB0.out.below)
  have HFT : Hid (∀ k (h : k < (S ++ [(⟨m, [], []⟩ : Ly)]).length), (S ++ [(⟨m, [], []⟩ : Ly)])[k].bl.length ≤ 1048576) := fun k hk => by
    rcases snoc_at S ⟨m, [], []⟩ k hk with ⟨h', e⟩ | ⟨_, e⟩
    · rw [e]; exact hf k h'
    · rw [e]; exact Nat.zero_le _
  clear hC hf
  generalize hW : w.alloc (.cells #[.slice none 0 0] 28) = W at *
  go_enter Try.func18, Try.ntmps18
  go_wp2_with fail
  clear hW
  refine HC.out.mono ?_
  rintro e w2 ⟨v, L, rfl, hL, hG, b2⟩
  subst hL
  rw [List.length_map] at hn
  have b3 := boxB w2 (.cells #[.int .i64 m, .slice none 0 0, .slice none 0 0] 41)
  have hz3 : (w2.alloc (.cells #[.int .i64 m, .slice none 0 0, .slice none 0 0] 41)).heap.size = w2.heap.size + 1 := heap_size _ _
  have hs2 := b2.size
  obtain ⟨v', w4, z, r4, hG4, gr4, b4⟩ := hG.grow hs2 b3 w2.heap.size 1 m none none [] [] 0 0 (heap_last _ _) ⟨w2.heap.size, Nat.le_refl _, by omega, Or.inl rfl, Or.inl rfl⟩ (by omega)
  obtain ⟨b, c, rfl, hO4, hc4⟩ := hG4.own
  have hlen : (L ++ [((⟨m, [], []⟩ : Ly), z)]).length = L.length + 1 := by simp
  have hmap : (L ++ [((⟨m, [], []⟩ : Ly), z)]).map (·.1) = L.map (·.1) ++ [⟨m, [], []⟩] := by simp
  rw [hlen] at r4 hc4
  rw [hmap] at hO4
  have hs4 := b4.size
  have HB4 : Hid (Bx w (.cells #[.slice none 0 0] 28) w4) := by
    refine ⟨HB0.out.below.trans ((b2.trans ((b3.mono (by omega)).trans b4)).mono (by omega)), ?_⟩
    exact (b4.block _ (by omega)).trans ((b3.block _ (by omega)).trans ((b2.block _ (by omega)).trans HB0.out.box))
  have b5 := boxB w4 (.cells #[.slice b (L.length + 1) c] 28)
  have HB5 := hid (HB4.out.on b5)
  have HX5 : Hid ((w4.alloc (.cells #[.slice b (L.length + 1) c] 28)).heap[w4.heap.size]? = some (.cells #[.slice b (L.length + 1) c] 28)) := heap_last _ _
  have HO5 := hid (hO4.on b5)
  have hz5 : (w4.alloc (.cells #[.slice b (L.length + 1) c] 28)).heap.size = w4.heap.size + 1 := heap_size _ _
  have x5 : (w4.alloc (.cells #[.slice b (L.length + 1) c] 28)).cell? ⟨w4.heap.size, 0, none⟩ = some (.slice b (L.length + 1) c) := box_cell HX5.out 0
  have hll : (L.map (·.1) ++ [(⟨m, [], []⟩ : Ly)]).length = L.length + 1 := by simp
  have HCG : Hid (Calls Try.prog 16 #[.agg #[.slice b (L.length + 1) c]] (w4.alloc (.cells #[.slice b (L.length + 1) c] 28)) fun e w' => e = .returned (.bool (goodK (L.map (·.1) ++ [⟨m, [], []⟩]))) ∧ Below (w4.alloc (.cells #[.slice b (L.length + 1) c] 28)).heap.size (w4.alloc (.cells #[.slice b (L.length + 1) c] 28)) w') := by
    have := igoodK_any b c (L.map (·.1) ++ [⟨m, [], []⟩]) (w4.alloc (.cells #[.slice b (L.length + 1) c] 28)) HFT.out HO5.out.ys
    rw [hll] at this
    exact this
  have HLL := hid hll
  have HC4 := hid hc4
  have HW4 : Hid (w.heap.size + 1 ≤ w4.heap.size) := by show w.heap.size + 1 ≤ w4.heap.size; omega
  clear hG hG4 gr4 b4 b3 hO4 hc4 HB4 hs4 hz3 hlen hmap b5 hll HC b2 hs2
  generalize hgk : goodK (L.map (·.1) ++ [⟨m, [], []⟩]) = gk at *
  have HGK := hid hgk
  clear hgk
  go_wp2_with (at_builtin; refine wpList_append_run rfl (.tmp 8) (.tmp 11) 26 rfl _ _ rfl rfl _ _ r4 ?_)
  generalize w4.alloc (.cells #[.slice b (L.length + 1) c] 28) = W5 at *
  refine HCG.out.mono ?_
  rintro e w6 ⟨rfl, b6⟩
  have HB6 := hid (HB5.out.on b6)
  have HO6 := hid (HO5.out.on b6)
  have hx6 := (b6.block w4.heap.size (by omega)).trans HX5.out
  have hs6 := b6.size
  have y0 : w6.cell? ⟨w4.heap.size, 0, none⟩ = some (.slice b (L.length + 1) c) := box_cell hx6 0
  have z0 : w6.cell? ⟨w.heap.size, 0, none⟩ = some (.slice none 0 0) := box_cell HB6.out.box 0
  have f0 : w6.frozen? ⟨w.heap.size, 0, none⟩ = false := box_free HB6.out.box 0
  clear b6 hx6 HB5 HO5 HX5 x5 HCG r4
  cases gk
  · have e0 : (w6.setCell ⟨w.heap.size, 0, none⟩ (.slice none 0 0)).cell? ⟨w.heap.size, 0, none⟩ = some (.slice none 0 0) := World.cell?_setCell_same _ _ _ z0
    have HB7 := hid (setB HB6.out.below w.heap.size 0 (Nat.le_refl _) (.slice none 0 0))
    go_wp2_with fail
    generalize w6.setCell ⟨w.heap.size, 0, none⟩ (.slice none 0 0) = XX at *
    refine bodyPost_ret (v := .tuple #[.agg #[.slice none 0 0], .bool false]) (by simp [results, Try.results18, go_sem, e0]) rfl ?_
    unfold withK
    rw [if_neg (by rw [HGK.out]; decide)]
    exact ⟨rfl, HB7.out⟩
  · have e0 : (w6.setCell ⟨w.heap.size, 0, none⟩ (.slice b (L.length + 1) c)).cell? ⟨w.heap.size, 0, none⟩ = some (.slice b (L.length + 1) c) := World.cell?_setCell_same _ _ _ z0
    have HB7 := hid (setB HB6.out.below w.heap.size 0 (Nat.le_refl _) (.slice b (L.length + 1) c))
    have HO7 := hid (HO6.out.set w.heap.size 0 (.slice b (L.length + 1) c) (Or.inl (by omega)))
    have HZ7 : Hid ((w6.setCell ⟨w.heap.size, 0, none⟩ (.slice b (L.length + 1) c)).heap.size = w6.heap.size) := by show (w6.setCell ⟨w.heap.size, 0, none⟩ (.slice b (L.length + 1) c)).heap.size = w6.heap.size; simp [World.setCell]
    go_wp2_with fail
    generalize w6.setCell ⟨w.heap.size, 0, none⟩ (.slice b (L.length + 1) c) = XX at *
    refine bodyPost_ret (v := .tuple #[.agg #[.slice b (L.length + 1) c], .bool true]) (by simp [results, Try.results18, go_sem, e0]) rfl ?_
    unfold withK
    rw [if_pos HGK.out]
    refine ⟨b, c, by rw [HLL.out], ?_, HB7.out, by rw [HLL.out]; exact HC4.out⟩
    exact (HO7.out.low (by omega)).high (by rw [HZ7.out]; omega) (Nat.le_refl _)
end Go.Proofs.Ytodjnlepgcfadaa
