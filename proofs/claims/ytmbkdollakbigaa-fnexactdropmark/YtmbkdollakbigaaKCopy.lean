/- Walk of the program's copyLayers. -/
import Derived.Test.YtmbkdollakbigaaKNew
import Derived.Test.YtmbkdollakbigaaKTxt
import Derived.Deep.RegionHeldLaw
namespace Go.Proofs.Ytmbkdollakbigaa
set_option maxRecDepth 100000
open Go Go.ChangeShapes Go.WideShapes Go.ChangeAt Go.RowKit
/-- layers of a size that copies can make -/
structure SmallK (S : List Ly) : Prop where
  n : S.length ≤ 9000
  bl : ∀ k (h : k < S.length), S[k].bl.length ≤ 9000
  dt : ∀ k (h : k < S.length), S[k].dt.length ≤ 9000
  sz : ∀ k (h : k < S.length) j (g : j < S[k].dt.length), S[k].dt[j].size ≤ 1048576
theorem own_int_nil (W : World) (p : Option Addr) (c : Nat) (bl : List Int) (hI : Is W.heap.size p bl W) (hn : bl.length ≤ 9000) :
    ∃ a1 c1 w', (∀ ty, (Builtin.append_ #[26, 26] ty #[.slice none 0 0, .slice p bl.length c]).run Try.prog W = .ok (.slice a1 bl.length c1) w') ∧ OwnI W.heap.size w'.heap.size a1 bl w' ∧ Below W.heap.size W w' := by
  obtain ⟨v', w', r, o, g, _⟩ := app_int W W.heap.size (.slice none 0 0) 0 [] (World.ownsRow_nil _ _ _ _) p c bl hI (by omega) (Nat.le_refl _)
  rw [Nat.zero_add, List.nil_append] at o
  obtain ⟨a1, c1, rfl, hO⟩ := own_ints o
  exact ⟨a1, c1, w', r, hO, below_of_grown g (Nat.le_refl _) (fun k e => by cases e)⟩
set_option maxHeartbeats 4000000 in
theorem copyLayers_any (a : Option Addr) (cap : Nat) (S : List Ly) (w : World) (hs : SmallK S) (hG : Ys w.heap.size a S w) :
    Calls Try.prog 37 #[.slice a S.length cap] w fun e w' => CpK S w e w' := by
  have HS := hid hs
  have HG := hid hG
  have hn := hs.n
  clear hs hG
  go_enter Try.func37, Try.ntmps37
  go_wp2_with fail
  go_loopw [3, 8] (fun t i wr => ∃ (k : Nat) (v : Value) (L : List (Ly × LA)), k ≤ S.length ∧ i = .int .i64 k ∧ t = v ∧ L.map (·.1) = S.take k ∧ KG w.heap.size v L wr ∧ Below w.heap.size w wr) (fun _ i _ => S.length - (intOf i).toNat)
  case atStart => exact ⟨0, _, [], Nat.zero_le _, rfl, rfl, rfl, KG.nil _ _, Below.refl _ _⟩
  case round =>
    obtain ⟨k, _, L, hk, rfl, rfl, hL, hK, hbel⟩ := hrel
    have HK := hid hK
    have HL := hid hL
    have HBEL := hid hbel
    have hszr := hbel.size
    clear hK hL
    by_cases hlt : k < S.length
    · obtain ⟨b, off, rfl, hb, hcl⟩ := HG.out (by omega)
      obtain ⟨p, c, q, d, c0, c1, c2, hI, hS⟩ := hcl k hlt
      have kc : ∀ o, wr.cell? ⟨b, o, none⟩ = w.cell? ⟨b, o, none⟩ := fun o => hbel.cell (p := ⟨b, o, none⟩) hb
      rw [← kc] at c0 c1 c2
      have hm1 := HS.out.bl k hlt
      have hm2 := HS.out.dt k hlt
      have hm3 := HS.out.sz k hlt
      have HTK := hid (take_snoc S k hlt)
      have hI' := (hI.below hbel).mono hszr
      have hS' := (hS.below hbel).mono hszr
      have hlenL : L.length = k := by have := congrArg List.length HL.out; rw [List.length_map, List.length_take] at this; omega
      clear hcl kc hI hS hbel
      generalize hs : S[k] = s at *
      obtain ⟨m, bl, dt⟩ := s
      simp only at c0 c1 c2 hm1 hm2 hm3 hI' hS'
      have b1 := boxB wr (.cells #[.int .i64 m, .slice p bl.length c, .slice q dt.length d] 64)
      have hx1 : (wr.alloc (.cells #[.int .i64 m, .slice p bl.length c, .slice q dt.length d] 64)).heap[wr.heap.size]? = some (.cells #[.int .i64 m, .slice p bl.length c, .slice q dt.length d] 64) := heap_last _ _
      have hz1 : wr.heap.size < (wr.alloc (.cells #[.int .i64 m, .slice p bl.length c, .slice q dt.length d] 64)).heap.size := by simp
      generalize hW1 : wr.alloc (.cells #[.int .i64 m, .slice p bl.length c, .slice q dt.length d] 64) = W1 at *
      have b1d : Below wr.heap.size wr W1.drew := b1.drew
      obtain ⟨a1, c1', W2, r1, o1, b2⟩ := own_int_nil W1.drew p c bl ((hI'.below b1d).mono b1d.size) hm1
      have b2' : Below wr.heap.size wr W2 := b1d.trans (b2.mono b1d.size)
      have HXC : Hid (∀ v, Below W1.heap.size W1 v → v.cell? ⟨wr.heap.size, 0, none⟩ = some (.int .i64 m) ∧ v.cell? ⟨wr.heap.size, 1, none⟩ = some (.slice p bl.length c) ∧ v.cell? ⟨wr.heap.size, 2, none⟩ = some (.slice q dt.length d)) := fun v g => by
        have := (g.block _ hz1).trans hx1
        exact ⟨box_cell this 0, box_cell this 1, box_cell this 2⟩
      have HB2 : Hid (Below W1.heap.size W1 W2) := ⟨b2.os, b2.tape, b2.output, b2.size, b2.block⟩
      obtain ⟨x0, x1, x2⟩ := HXC.out W1 (Below.refl _ _)
      have x0d : W1.drew.cell? ⟨wr.heap.size, 0, none⟩ = some (.int .i64 m) := x0
      have x1d : W1.drew.cell? ⟨wr.heap.size, 1, none⟩ = some (.slice p bl.length c) := x1
      have x2d : W1.drew.cell? ⟨wr.heap.size, 2, none⟩ = some (.slice q dt.length d) := x2
      obtain ⟨y0, y1, y2⟩ := HXC.out W2 HB2.out
      have HO1 := hid o1
      have HBW2 := hid b2'
      have HCT := hid (copyTexts_any q d dt W2 (by omega) hm3 ((hS'.below b2').mono b2'.size))
      have hzd : W1.drew.heap.size = W1.heap.size := rfl
      have hs2 := b2.size
      rw [hzd] at hs2
      have HO1' : Hid (OwnI W1.heap.size W2.heap.size a1 bl W2) := o1
      clear b1 b1d b2 b2' hx1 hI' hS' hm3 o1 HO1 hzd
      go_wp2_with fail
      clear hW1
      go_region_held_law (fun v => v.cell? ⟨wr.heap.size, 0, none⟩ = some (.int .i64 m) ∧ v.cell? ⟨wr.heap.size, 1, none⟩ = some (.slice p bl.length c) ∧ v.cell? ⟨wr.heap.size, 2, none⟩ = some (.slice q dt.length d)) (first | exact ⟨by with_reducible assumption, by with_reducible assumption, by with_reducible assumption⟩) (first | (refine step_append_run rfl _ _ 26 rfl _ _ rfl rfl _ _ r1 ?_) | (go_at_call 55; refine HCT.out.mono ?_; rintro e W3 ⟨v3, rfl, o3, b3⟩; obtain ⟨a2, c2', rfl, hS3⟩ := own_strs o3; have HB3 : Hid (Below W1.heap.size W1 W3) := HB2.out.trans (b3.mono (by omega)); obtain ⟨t0, t1, t2⟩ := HXC.out W3 HB3.out; have b4 := boxB W3 (.cells #[.int .i64 m, .slice a1 bl.length c1', .slice a2 dt.length c2'] 64); have HB4 : Hid (Below W1.heap.size W1 (W3.alloc (.cells #[.int .i64 m, .slice a1 bl.length c1', .slice a2 dt.length c2'] 64))) := HB3.out.trans (b4.mono HB3.out.size); obtain ⟨u0, u1, u2⟩ := HXC.out _ HB4.out; have hs3 := b3.size; have hs4 := b4.size; obtain ⟨v5, W5, z5, r5, G5, gr5, b5⟩ := HK.out.grow (w1 := W3.alloc (.cells #[.int .i64 m, .slice a1 bl.length c1', .slice a2 dt.length c2'] 64)) hszr (HBW2.out.trans ((b3.trans (b4.mono b3.size)).mono HBW2.out.size)) W3.heap.size 1 m a1 a2 bl dt c1' c2' (heap_last _ _) ⟨W2.heap.size, by omega, by omega, (own_wideI HO1'.out (by omega) (Nat.le_refl _)).below (b3.trans (b4.mono b3.size)), own_wideS (hS3.below b4) (Nat.le_refl _) hs4⟩ (by omega); have hx5 := (gr5.block wr.heap.size (by omega) (fun e => by have := (HK.out.row.lt _ e.symm).2; omega)).trans ((HB4.out.block _ hz1).trans ((Below.refl W1.heap.size W1).block _ hz1)); have hc5 : ∀ i, W5.cell? ⟨wr.heap.size, i, none⟩ = W1.cell? ⟨wr.heap.size, i, none⟩ := (fun i => by unfold World.cell?; simp only [hx5]); have n0 := (hc5 0).trans x0; have n1 := (hc5 1).trans x1; have n2 := (hc5 2).trans x2) | (refine step_append_run rfl _ _ 29 rfl _ _ rfl rfl _ _ r5 ?_))
      all_goals
        have HG5 := hid G5
        have HB5 : Hid (Below w.heap.size w W5) := HBEL.out.trans (((HBW2.out.trans ((b3.trans (b4.mono b3.size)).mono HBW2.out.size)).mono hszr).trans b5)
        have HM5 : Hid ((L ++ [((⟨m, bl, dt⟩ : Ly), z5)]).map (·.1) = S.take (k + 1)) := by
          show (L ++ [((⟨m, bl, dt⟩ : Ly), z5)]).map (·.1) = S.take (k + 1)
          rw [List.map_append, HL.out, HTK.out]
          rfl
        clear x0 x1 x2 x0d x1d x2d y0 y1 y2 t0 t1 t2 u0 u1 u2 n0 n1 n2 hc5 hx5 G5 gr5 b5 b4 b3 o3 hS3 r1 r5 HCT HXC
        go_wp2_with fail
        go_roundw
        · exact ⟨k + 1, _, _, by omega, by go_num, rfl, HM5.out, HG5.out, HB5.out⟩
        · simp [intOf]; omega
    · obtain rfl : k = S.length := by omega
      rw [List.take_length] at HL
      clear hbel
      go_wp2_with fail
      go_ret
      exact ⟨_, L, rfl, HL.out, HK.out, HBEL.out⟩
theorem good_small {S : List Ly} (h : GoodK S) : SmallK S := by
  have hf := good_wt h
  refine ⟨by have := h.2.1; omega, fun k hk => ?_, fun k hk => ?_, fun k hk j hj => ?_⟩
  · have h1 := wtK_snoc S k hk
    have h2 := wtK_le S (k + 1)
    unfold wtY at h1
    omega
  · have h1 := wtK_snoc S k hk
    have h2 := wtK_le S (k + 1)
    unfold wtY at h1
    omega
  · have := (h.2.2 k hk).2.2.2.2.2 j hj
    omega
end Go.Proofs.Ytmbkdollakbigaa
