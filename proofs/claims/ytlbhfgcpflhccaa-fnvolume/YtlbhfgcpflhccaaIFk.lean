/- Walk of the program's foldSure: with what the log's row has room for. -/
import Derived.Test.YtlbhfgcpflhccaaIFold
namespace Go.Proofs.Ytlbhfgcpflhccaa
set_option maxRecDepth 100000
open Go.ChangeShapes Go.WideShapes Go.ChangeAt Go.RowKit G00541
theorem rw_capV {w : World} {base : Nat} {e : TypeId} {size : Nat} {a : Option Addr} {m n c : Nat} {xs : List Value} (h : w.ownsRow base e size (.slice a m c) n xs) : n ≤ c := by
  rcases h.2 with ⟨h1, rfl⟩ | ⟨g', cap, cur, h1, _, _, h2, _⟩
  · injection h1 with _ h2 h3; omega
  · injection h1 with _ h3 h4; omega
def FdOutK (B : List ByteArray) (F : Int) (L : List Rc) (n : Nat) (w : World) (e : Ending) (w' : World) : Prop :=
  ∃ aB kB aL kL, (L.drop n).length ≤ kL ∧ e = .returned (.agg #[.slice aB (doL B (L.take n)).length kB, .int .i64 (markF F (L.take n)), .slice aL (L.drop n).length kL, .int .i64 0]) ∧ OwnV w.heap.size w'.heap.size aB (doL B (L.take n)) aL (L.drop n) w' ∧ Below w.heap.size w w'
set_option maxHeartbeats 1000000 in
theorem foldSure_k (aB aL : Option Addr) (kB kL : Nat) (B : List ByteArray) (F : Int) (L : List Rc) (s : Int) (n : Nat) (w : World) (hs : s = n) (hg : GoodV B F L s) (hk : L.length ≤ kL) (hB : Ss w.heap.size aB B w) (hL : Rs w.heap.size aL L w) :
    Calls Try.prog 46 #[.agg #[.slice aB B.length kB, .int .i64 F, .slice aL L.length kL, .int .i64 s]] w fun e w' => FdOutK B F L n w e w' := by
  have hn : n ≤ L.length := by have := hg.s1; omega
  have HK := hid (LV.start w #[.slice aB B.length kB, .int .i64 F, .slice aL L.length kL, .int .i64 s] #[.slice none 0 0, .int .i64 0, .slice none 0 0, .int .i64 0])
  have hz0 : ((w.alloc (.cells #[.slice aB B.length kB, .int .i64 F, .slice aL L.length kL, .int .i64 s] 28)).alloc (.cells #[.slice none 0 0, .int .i64 0, .slice none 0 0, .int .i64 0] 28)).heap.size = w.heap.size + 2 := by simp
  obtain ⟨k1, hs1⟩ := cut_low aL kL L n s hs hn hk
  obtain ⟨a2, k2, hs2, hR2⟩ := cut_high aL kL L n s hs hn hk hL
  have hl40 := hg.len
  have h16 := goodBs_len hg.bs
  have HC1 : Hid (∀ v, Below w.heap.size w v → Calls Try.prog 37 #[.slice aB B.length kB, .slice aL (L.take n).length k1] v fun e w' => ∃ R c, e = .returned (.slice (some ⟨R, 0, none⟩) 16 c) ∧ v.heap.size ≤ R ∧ SRow R (doL B (L.take n)) w' ∧ Below v.heap.size v w' ∧ 16 ≤ c) := fun v g => blocksBehind_any aB aL kB k1 B (L.take n) v hg.bs (by rw [List.length_take]; omega) (goodL_take hg.recs n) ((hB.below g).mono g.size) (((hL.take n).below g).mono g.size)
  have HC2 : Hid (∀ v, Below w.heap.size w v → Calls Try.prog 44 #[.int .i64 F, .slice aL (L.take n).length k1] v fun e w' => e = .returned (.int .i64 (markF F (L.take n))) ∧ Below v.heap.size v w') := fun v g => markBehind_any aL k1 F (L.take n) v (by rw [List.length_take]; omega) (((hL.take n).below g).mono g.size)
  have HC3 : Hid (∀ v, Below w.heap.size w v → Calls Try.prog 45 #[.slice a2 (L.drop n).length k2] v fun e w' => ∃ b c, e = .returned (.slice b (L.drop n).length c) ∧ w'.ownsRow v.heap.size 37 4 (.slice b (L.drop n).length c) (L.drop n).length (rvals (L.drop n)) ∧ Below v.heap.size v w') := fun v g => copyRecords_any a2 k2 (L.drop n) v (by rw [List.length_drop]; omega) (fun k h => by have := good_small (good_at (goodL_drop hg.recs n) k h); omega) ((hR2.below g).mono g.size)
  have HX : Hid (∀ v, LV w #[.slice aB B.length kB, .int .i64 F, .slice aL L.length kL, .int .i64 s] #[.slice none 0 0, .int .i64 0, .slice none 0 0, .int .i64 0] v → (v.cell? ⟨w.heap.size, 0, none⟩ = some (.slice aB B.length kB) ∧ v.cell? ⟨w.heap.size, 1, none⟩ = some (.int .i64 F) ∧ v.cell? ⟨w.heap.size, 2, none⟩ = some (.slice aL L.length kL) ∧ v.cell? ⟨w.heap.size, 3, none⟩ = some (.int .i64 s)) ∧ v.cell? ⟨w.heap.size + 1, 0, none⟩ = some (.slice none 0 0) ∧ v.cell? ⟨w.heap.size + 1, 1, none⟩ = some (.int .i64 0) ∧ v.cell? ⟨w.heap.size + 1, 2, none⟩ = some (.slice none 0 0) ∧ v.cell? ⟨w.heap.size + 1, 3, none⟩ = some (.int .i64 0) ∧ v.frozen? ⟨w.heap.size + 1, 0, none⟩ = false ∧ v.frozen? ⟨w.heap.size + 1, 1, none⟩ = false ∧ v.frozen? ⟨w.heap.size + 1, 2, none⟩ = false ∧ v.frozen? ⟨w.heap.size + 1, 3, none⟩ = false) := fun v h => ⟨⟨box_cell h.x 0, box_cell h.x 1, box_cell h.x 2, box_cell h.x 3⟩, box_cell h.z 0, box_cell h.z 1, box_cell h.z 2, box_cell h.z 3, box_free h.z 0, box_free h.z 1, box_free h.z 2, box_free h.z 3⟩
  have HDL : Hid ((doL B (L.take n)).length = 16) := by show (doL B (L.take n)).length = 16; rw [doL_len]; exact h16
  clear hB hL hg hR2 hk hl40 h16 hs
  generalize hW : ((w.alloc (.cells #[.slice aB B.length kB, .int .i64 F, .slice aL L.length kL, .int .i64 s] 28)).alloc (.cells #[.slice none 0 0, .int .i64 0, .slice none 0 0, .int .i64 0] 28)) = W at *
  obtain ⟨⟨px0, px1, px2, px3⟩, -⟩ := HX.out _ HK.out
  have HKd := hid (HK.out.on (Below.refl _ _).drew)
  obtain ⟨⟨qx0, qx1, qx2, qx3⟩, -⟩ := HX.out _ HKd.out
  have HKe := hid (HKd.out.on (Below.refl _ _).drew)
  obtain ⟨⟨ox0, ox1, ox2, ox3⟩, -⟩ := HX.out _ HKe.out
  have HC1d := hid (HC1.out W.drew.drew HKe.out.below)
  have hzd : W.drew.drew.heap.size = w.heap.size + 2 := hz0
  generalize (L.take n).length = n1 at *
  generalize hn2 : (L.drop n).length = n2 at *
  have HN2 := hid hn2
  clear hn2
  have HFD : Hid (∀ e w', (∃ aB' kB' aL' kL', n2 ≤ kL' ∧ e = .returned (.agg #[.slice aB' 16 kB', .int .i64 (markF F (L.take n)), .slice aL' n2 kL', .int .i64 0]) ∧ OwnV w.heap.size w'.heap.size aB' (doL B (L.take n)) aL' (L.drop n) w' ∧ Below w.heap.size w w') → FdOutK B F L n w e w') := fun e w' h => by
    unfold FdOutK
    rw [HDL.out, HN2.out]
    exact h
  go_enter Try.func46, Try.ntmps46
  go_wp2_with fail
  clear hW
  go_big_region
  go_wp2_with fail
  go_region_held (fun v => v.cell? ⟨w.heap.size, 0, none⟩ = some (.slice aB B.length kB) ∧ v.cell? ⟨w.heap.size, 1, none⟩ = some (.int .i64 F) ∧ v.cell? ⟨w.heap.size, 2, none⟩ = some (.slice aL L.length kL) ∧ v.cell? ⟨w.heap.size, 3, none⟩ = some (.int .i64 s)) (first | exact ⟨by with_reducible assumption, by with_reducible assumption, by with_reducible assumption, by with_reducible assumption⟩) (first | (go_at_call 37; refine HC1d.out.mono ?_; rintro e w3 ⟨R, c1, rfl, hR, o1, b1, -⟩; have hK3 := HKe.out.on b1; obtain ⟨⟨rx0, rx1, rx2, rx3⟩, -⟩ := HX.out _ hK3) | (go_at_call 44; refine (HC2.out w3 hK3.below).mono ?_; rintro e w4 ⟨rfl, b2⟩; have hK4 := hK3.on b2; obtain ⟨⟨sx0, sx1, sx2, sx3⟩, -⟩ := HX.out _ hK4) | (go_at_call 45; refine (HC3.out w4 hK4.below).mono ?_; rintro e w5 ⟨b2', c2, rfl, o2, b3⟩; have hK5 := hK4.on b3; obtain ⟨⟨tx0, tx1, tx2, tx3⟩, tz0, tz1, tz2, tz3, tf0, tf1, tf2, tf3⟩ := HX.out _ hK5; have hK6 := hK5.fillZ (.slice (some ⟨R, 0, none⟩) 16 c1) (.int .i64 (markF F (L.take n))) (.slice b2' n2 c2) (.int .i64 0); have ux0 : ((((w5.setCell ⟨w.heap.size + 1, 0, none⟩ (.slice (some ⟨R, 0, none⟩) 16 c1)).setCell ⟨w.heap.size + 1, 1, none⟩ (.int .i64 (markF F (L.take n)))).setCell ⟨w.heap.size + 1, 2, none⟩ (.slice b2' n2 c2)).setCell ⟨w.heap.size + 1, 3, none⟩ (.int .i64 0)).cell? ⟨w.heap.size, 0, none⟩ = some (.slice aB B.length kB) := box_cell hK6.x 0; have ux1 : ((((w5.setCell ⟨w.heap.size + 1, 0, none⟩ (.slice (some ⟨R, 0, none⟩) 16 c1)).setCell ⟨w.heap.size + 1, 1, none⟩ (.int .i64 (markF F (L.take n)))).setCell ⟨w.heap.size + 1, 2, none⟩ (.slice b2' n2 c2)).setCell ⟨w.heap.size + 1, 3, none⟩ (.int .i64 0)).cell? ⟨w.heap.size, 1, none⟩ = some (.int .i64 F) := box_cell hK6.x 1; have ux2 : ((((w5.setCell ⟨w.heap.size + 1, 0, none⟩ (.slice (some ⟨R, 0, none⟩) 16 c1)).setCell ⟨w.heap.size + 1, 1, none⟩ (.int .i64 (markF F (L.take n)))).setCell ⟨w.heap.size + 1, 2, none⟩ (.slice b2' n2 c2)).setCell ⟨w.heap.size + 1, 3, none⟩ (.int .i64 0)).cell? ⟨w.heap.size, 2, none⟩ = some (.slice aL L.length kL) := box_cell hK6.x 2; have ux3 : ((((w5.setCell ⟨w.heap.size + 1, 0, none⟩ (.slice (some ⟨R, 0, none⟩) 16 c1)).setCell ⟨w.heap.size + 1, 1, none⟩ (.int .i64 (markF F (L.take n)))).setCell ⟨w.heap.size + 1, 2, none⟩ (.slice b2' n2 c2)).setCell ⟨w.heap.size + 1, 3, none⟩ (.int .i64 0)).cell? ⟨w.heap.size, 3, none⟩ = some (.int .i64 s) := box_cell hK6.x 3))
  all_goals
    have hs3 := b1.size
    have hs4 := b2.size
    have hs5 := b3.size
    have hRl := o1.lt
    rw [hzd] at hR b1 hs3
    have hOWN : OwnV w.heap.size ((((w5.setCell ⟨w.heap.size + 1, 0, none⟩ (.slice (some ⟨R, 0, none⟩) 16 c1)).setCell ⟨w.heap.size + 1, 1, none⟩ (.int .i64 (markF F (L.take n)))).setCell ⟨w.heap.size + 1, 2, none⟩ (.slice b2' n2 c2)).setCell ⟨w.heap.size + 1, 3, none⟩ (.int .i64 0)).heap.size (some ⟨R, 0, none⟩) (doL B (L.take n)) b2' (L.drop n) ((((w5.setCell ⟨w.heap.size + 1, 0, none⟩ (.slice (some ⟨R, 0, none⟩) 16 c1)).setCell ⟨w.heap.size + 1, 1, none⟩ (.int .i64 (markF F (L.take n)))).setCell ⟨w.heap.size + 1, 2, none⟩ (.slice b2' n2 c2)).setCell ⟨w.heap.size + 1, 3, none⟩ (.int .i64 0)) := by
      have hz5 : ((((w5.setCell ⟨w.heap.size + 1, 0, none⟩ (.slice (some ⟨R, 0, none⟩) 16 c1)).setCell ⟨w.heap.size + 1, 1, none⟩ (.int .i64 (markF F (L.take n)))).setCell ⟨w.heap.size + 1, 2, none⟩ (.slice b2' n2 c2)).setCell ⟨w.heap.size + 1, 3, none⟩ (.int .i64 0)).heap.size = w5.heap.size := by simp [World.setCell]
      rw [hz5]
      have o1' := (o1.below b2).below b3
      refine ⟨w4.heap.size, by omega, by omega, Or.inr ⟨R, by omega, by omega, rfl, ?_⟩, ?_⟩
      · refine o1'.same (by rw [hz5]; exact Nat.le_refl _) ?_
        rw [keepB _ _ _ _ _ (by omega), keepB _ _ _ _ _ (by omega), keepB _ _ _ _ _ (by omega), keepB _ _ _ _ _ (by omega)]
      · have hn2 := HN2.out
        rw [← hn2] at o2
        have o2' : ((((w5.setCell ⟨w.heap.size + 1, 0, none⟩ (.slice (some ⟨R, 0, none⟩) 16 c1)).setCell ⟨w.heap.size + 1, 1, none⟩ (.int .i64 (markF F (L.take n)))).setCell ⟨w.heap.size + 1, 2, none⟩ (.slice b2' n2 c2)).setCell ⟨w.heap.size + 1, 3, none⟩ (.int .i64 0)).ownsRow w4.heap.size 37 4 (.slice b2' (L.drop n).length c2) (L.drop n).length (rvals (L.drop n)) := rw_keep o2 (fun k hk => by
          have := (o2.lt k hk).1
          rw [keepB _ _ _ _ _ (by omega), keepB _ _ _ _ _ (by omega), keepB _ _ _ _ _ (by omega), keepB _ _ _ _ _ (by omega)])
        obtain ⟨b9, c9, e9, ho⟩ := own_recs o2'
        injection e9 with e1 e2 e3
        subst e1
        rw [hz5] at ho
        exact ho
    have HCP := hid (rw_capV o2)
    have HOWN := hid hOWN
    have HB6 := hid hK6.below
    have e0 : ((((w5.setCell ⟨w.heap.size + 1, 0, none⟩ (.slice (some ⟨R, 0, none⟩) 16 c1)).setCell ⟨w.heap.size + 1, 1, none⟩ (.int .i64 (markF F (L.take n)))).setCell ⟨w.heap.size + 1, 2, none⟩ (.slice b2' n2 c2)).setCell ⟨w.heap.size + 1, 3, none⟩ (.int .i64 0)).cell? ⟨w.heap.size + 1, 0, none⟩ = some (.slice (some ⟨R, 0, none⟩) 16 c1) := box_cell hK6.z 0
    have e1 : ((((w5.setCell ⟨w.heap.size + 1, 0, none⟩ (.slice (some ⟨R, 0, none⟩) 16 c1)).setCell ⟨w.heap.size + 1, 1, none⟩ (.int .i64 (markF F (L.take n)))).setCell ⟨w.heap.size + 1, 2, none⟩ (.slice b2' n2 c2)).setCell ⟨w.heap.size + 1, 3, none⟩ (.int .i64 0)).cell? ⟨w.heap.size + 1, 1, none⟩ = some (.int .i64 (markF F (L.take n))) := box_cell hK6.z 1
    have e2 : ((((w5.setCell ⟨w.heap.size + 1, 0, none⟩ (.slice (some ⟨R, 0, none⟩) 16 c1)).setCell ⟨w.heap.size + 1, 1, none⟩ (.int .i64 (markF F (L.take n)))).setCell ⟨w.heap.size + 1, 2, none⟩ (.slice b2' n2 c2)).setCell ⟨w.heap.size + 1, 3, none⟩ (.int .i64 0)).cell? ⟨w.heap.size + 1, 2, none⟩ = some (.slice b2' n2 c2) := box_cell hK6.z 2
    have e3 : ((((w5.setCell ⟨w.heap.size + 1, 0, none⟩ (.slice (some ⟨R, 0, none⟩) 16 c1)).setCell ⟨w.heap.size + 1, 1, none⟩ (.int .i64 (markF F (L.take n)))).setCell ⟨w.heap.size + 1, 2, none⟩ (.slice b2' n2 c2)).setCell ⟨w.heap.size + 1, 3, none⟩ (.int .i64 0)).cell? ⟨w.heap.size + 1, 3, none⟩ = some (.int .i64 0) := box_cell hK6.z 3
    clear hOWN hK6 hK5 hK4 hK3 o1 o2 b1 b2 b3 hs3 hs4 hs5 hRl hR px0 px1 px2 px3 qx0 qx1 qx2 qx3 ox0 ox1 ox2 ox3 rx0 rx1 rx2 rx3 sx0 sx1 sx2 sx3 tx0 tx1 tx2 tx3 ux0 ux1 ux2 ux3 tz0 tz1 tz2 tz3 tf0 tf1 tf2 tf3 hzd hz0 hs1 hs2
    generalize ((((w5.setCell ⟨w.heap.size + 1, 0, none⟩ (.slice (some ⟨R, 0, none⟩) 16 c1)).setCell ⟨w.heap.size + 1, 1, none⟩ (.int .i64 (markF F (L.take n)))).setCell ⟨w.heap.size + 1, 2, none⟩ (.slice b2' n2 c2)).setCell ⟨w.heap.size + 1, 3, none⟩ (.int .i64 0)) = XX at *
    go_wp2_with fail
    refine bodyPost_ret (v := .agg #[.slice (some ⟨R, 0, none⟩) 16 c1, .int .i64 (markF F (L.take n)), .slice b2' n2 c2, .int .i64 0]) (by simp [results, Try.results46, go_sem, e0, e1, e2, e3]) rfl ?_
    exact HFD.out _ _ ⟨_, _, _, _, HCP.out, rfl, HOWN.out, HB6.out⟩
end Go.Proofs.Ytlbhfgcpflhccaa
