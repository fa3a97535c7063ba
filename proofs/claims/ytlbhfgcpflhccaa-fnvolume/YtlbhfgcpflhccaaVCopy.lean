/- Walk of the program's copyVolume. -/
import Derived.Test.YtlbhfgcpflhccaaVOwn
namespace Go.Proofs.Ytlbhfgcpflhccaa
set_option maxRecDepth 100000
open Go.ChangeShapes Go.WideShapes Go.ChangeAt Go.RowKit G00541
theorem LV.fillZ {w : World} {X : Array Value} {z0 z1 z2 z3 : Value} {wr : World} (h : LV w X #[z0, z1, z2, z3] wr) (a b c d : Value) : LV w X #[a, b, c, d] ((((wr.setCell ⟨w.heap.size + 1, 0, none⟩ a).setCell ⟨w.heap.size + 1, 1, none⟩ b).setCell ⟨w.heap.size + 1, 2, none⟩ c).setCell ⟨w.heap.size + 1, 3, none⟩ d) := by
  have := (((h.setZ 0 a).setZ 1 b).setZ 2 c).setZ 3 d
  simpa using this
set_option maxHeartbeats 1000000 in
theorem copyVolume_any (aB aL : Option Addr) (kB kL : Nat) (B : List ByteArray) (F : Int) (L : List Rc) (s : Int) (w : World) (hg : GoodV B F L s) (hB : Ss w.heap.size aB B w) (hL : Rs w.heap.size aL L w) :
    Calls Try.prog 43 #[.agg #[.slice aB B.length kB, .int .i64 F, .slice aL L.length kL, .int .i64 s]] w fun e w' => CpOut B F L s w e w' := by
  have HK := hid (LV.start w #[.slice aB B.length kB, .int .i64 F, .slice aL L.length kL, .int .i64 s] #[.slice none 0 0, .int .i64 0, .slice none 0 0, .int .i64 0])
  have hz0 : ((w.alloc (.cells #[.slice aB B.length kB, .int .i64 F, .slice aL L.length kL, .int .i64 s] 28)).alloc (.cells #[.slice none 0 0, .int .i64 0, .slice none 0 0, .int .i64 0] 28)).heap.size = w.heap.size + 2 := by simp
  have HC1 : Hid (∀ v, Below w.heap.size w v → Calls Try.prog 62 #[.slice aB B.length kB] v fun e w' => ∃ b c, e = .returned (.slice b B.length c) ∧ w'.ownsRow v.heap.size 9 1 (.slice b B.length c) B.length (svals B) ∧ Below v.heap.size v w') := fun v g => (copyTexts_any aB kB B v (by have := goodBs_len hg.bs; omega) (fun k h => by have := goodBs_two hg.bs k h; omega) ((hB.below g).mono g.size)).mono fun _ _ ⟨u, he, ho, hb⟩ => by
    obtain ⟨b, c, rfl⟩ := rw_form ho
    exact ⟨b, c, he, ho, hb⟩
  have HC2 : Hid (∀ v, Below w.heap.size w v → Calls Try.prog 45 #[.slice aL L.length kL] v fun e w' => ∃ b c, e = .returned (.slice b L.length c) ∧ w'.ownsRow v.heap.size 37 4 (.slice b L.length c) L.length (rvals L) ∧ Below v.heap.size v w') := fun v g => copyRecords_any aL kL L v (by have := hg.len; omega) (fun k h => by have := good_small (good_at hg.recs k h); omega) ((hL.below g).mono g.size)
  have HX : Hid (∀ v, LV w #[.slice aB B.length kB, .int .i64 F, .slice aL L.length kL, .int .i64 s] #[.slice none 0 0, .int .i64 0, .slice none 0 0, .int .i64 0] v → (v.cell? ⟨w.heap.size, 0, none⟩ = some (.slice aB B.length kB) ∧ v.cell? ⟨w.heap.size, 1, none⟩ = some (.int .i64 F) ∧ v.cell? ⟨w.heap.size, 2, none⟩ = some (.slice aL L.length kL) ∧ v.cell? ⟨w.heap.size, 3, none⟩ = some (.int .i64 s)) ∧ v.cell? ⟨w.heap.size + 1, 0, none⟩ = some (.slice none 0 0) ∧ v.cell? ⟨w.heap.size + 1, 1, none⟩ = some (.int .i64 0) ∧ v.cell? ⟨w.heap.size + 1, 2, none⟩ = some (.slice none 0 0) ∧ v.cell? ⟨w.heap.size + 1, 3, none⟩ = some (.int .i64 0) ∧ v.frozen? ⟨w.heap.size + 1, 0, none⟩ = false ∧ v.frozen? ⟨w.heap.size + 1, 1, none⟩ = false ∧ v.frozen? ⟨w.heap.size + 1, 2, none⟩ = false ∧ v.frozen? ⟨w.heap.size + 1, 3, none⟩ = false) := fun v h => ⟨⟨box_cell h.x 0, box_cell h.x 1, box_cell h.x 2, box_cell h.x 3⟩, box_cell h.z 0, box_cell h.z 1, box_cell h.z 2, box_cell h.z 3, box_free h.z 0, box_free h.z 1, box_free h.z 2, box_free h.z 3⟩
  clear hB hL hg
  generalize hW : ((w.alloc (.cells #[.slice aB B.length kB, .int .i64 F, .slice aL L.length kL, .int .i64 s] 28)).alloc (.cells #[.slice none 0 0, .int .i64 0, .slice none 0 0, .int .i64 0] 28)) = W at *
  obtain ⟨⟨px0, px1, px2, px3⟩, -⟩ := HX.out _ HK.out
  have HKd := hid (HK.out.on (Below.refl _ _).drew)
  obtain ⟨⟨qx0, qx1, qx2, qx3⟩, -⟩ := HX.out _ HKd.out
  have hzd : W.drew.heap.size = w.heap.size + 2 := hz0
  have HC1d := hid (HC1.out W.drew HKd.out.below)
  go_enter Try.func43, Try.ntmps43
  go_wp2_with fail
  clear hW
  go_region_held (fun v => v.cell? ⟨w.heap.size, 0, none⟩ = some (.slice aB B.length kB) ∧ v.cell? ⟨w.heap.size, 1, none⟩ = some (.int .i64 F) ∧ v.cell? ⟨w.heap.size, 2, none⟩ = some (.slice aL L.length kL) ∧ v.cell? ⟨w.heap.size, 3, none⟩ = some (.int .i64 s)) (first | exact ⟨by with_reducible assumption, by with_reducible assumption, by with_reducible assumption, by with_reducible assumption⟩) (first | (go_at_call 62; refine HC1d.out.mono ?_; rintro e w3 ⟨a1, c1, rfl, o1, b1⟩; have hK3 := HKd.out.on b1; obtain ⟨⟨rx0, rx1, rx2, rx3⟩, -⟩ := HX.out _ hK3) | (go_at_call 45; refine (HC2.out w3 hK3.below).mono ?_; rintro e w4 ⟨a2, c2, rfl, o2, b2⟩; have hK4 := hK3.on b2; obtain ⟨⟨sx0, sx1, sx2, sx3⟩, sz0, sz1, sz2, sz3, sf0, sf1, sf2, sf3⟩ := HX.out _ hK4; have hK5 := hK4.fillZ (.slice a1 B.length c1) (.int .i64 F) (.slice a2 L.length c2) (.int .i64 s); have tx0 : ((((w4.setCell ⟨w.heap.size + 1, 0, none⟩ (.slice a1 B.length c1)).setCell ⟨w.heap.size + 1, 1, none⟩ (.int .i64 F)).setCell ⟨w.heap.size + 1, 2, none⟩ (.slice a2 L.length c2)).setCell ⟨w.heap.size + 1, 3, none⟩ (.int .i64 s)).cell? ⟨w.heap.size, 0, none⟩ = some (.slice aB B.length kB) := box_cell hK5.x 0; have tx1 : ((((w4.setCell ⟨w.heap.size + 1, 0, none⟩ (.slice a1 B.length c1)).setCell ⟨w.heap.size + 1, 1, none⟩ (.int .i64 F)).setCell ⟨w.heap.size + 1, 2, none⟩ (.slice a2 L.length c2)).setCell ⟨w.heap.size + 1, 3, none⟩ (.int .i64 s)).cell? ⟨w.heap.size, 1, none⟩ = some (.int .i64 F) := box_cell hK5.x 1; have tx2 : ((((w4.setCell ⟨w.heap.size + 1, 0, none⟩ (.slice a1 B.length c1)).setCell ⟨w.heap.size + 1, 1, none⟩ (.int .i64 F)).setCell ⟨w.heap.size + 1, 2, none⟩ (.slice a2 L.length c2)).setCell ⟨w.heap.size + 1, 3, none⟩ (.int .i64 s)).cell? ⟨w.heap.size, 2, none⟩ = some (.slice aL L.length kL) := box_cell hK5.x 2; have tx3 : ((((w4.setCell ⟨w.heap.size + 1, 0, none⟩ (.slice a1 B.length c1)).setCell ⟨w.heap.size + 1, 1, none⟩ (.int .i64 F)).setCell ⟨w.heap.size + 1, 2, none⟩ (.slice a2 L.length c2)).setCell ⟨w.heap.size + 1, 3, none⟩ (.int .i64 s)).cell? ⟨w.heap.size, 3, none⟩ = some (.int .i64 s) := box_cell hK5.x 3))
  all_goals
    have hs3 := b1.size
    rw [hzd] at o1 b1 hs3
    have hOV4 : OV (w.heap.size + 2) w3.heap.size a1 c1 B a2 c2 L w4 := ⟨hs3, b2.size, rw_below o1 b2, fun g hg => (o1.lt g hg).2, o2⟩
    have hOV6 := (((hOV4.set (w.heap.size + 1) 0 (.slice a1 B.length c1) (by omega)).set (w.heap.size + 1) 1 (.int .i64 F) (by omega)).set (w.heap.size + 1) 2 (.slice a2 L.length c2) (by omega)).set (w.heap.size + 1) 3 (.int .i64 s) (by omega)
    have HOV : Hid (OV w.heap.size w3.heap.size a1 c1 B a2 c2 L ((((w4.setCell ⟨w.heap.size + 1, 0, none⟩ (.slice a1 B.length c1)).setCell ⟨w.heap.size + 1, 1, none⟩ (.int .i64 F)).setCell ⟨w.heap.size + 1, 2, none⟩ (.slice a2 L.length c2)).setCell ⟨w.heap.size + 1, 3, none⟩ (.int .i64 s))) := ⟨by omega, hOV6.mh, rw_mono hOV6.base (by omega), hOV6.low, hOV6.log⟩
    have HB5 := hid hK5.below
    have e0 : ((((w4.setCell ⟨w.heap.size + 1, 0, none⟩ (.slice a1 B.length c1)).setCell ⟨w.heap.size + 1, 1, none⟩ (.int .i64 F)).setCell ⟨w.heap.size + 1, 2, none⟩ (.slice a2 L.length c2)).setCell ⟨w.heap.size + 1, 3, none⟩ (.int .i64 s)).cell? ⟨w.heap.size + 1, 0, none⟩ = some (.slice a1 B.length c1) := box_cell hK5.z 0
    have e1 : ((((w4.setCell ⟨w.heap.size + 1, 0, none⟩ (.slice a1 B.length c1)).setCell ⟨w.heap.size + 1, 1, none⟩ (.int .i64 F)).setCell ⟨w.heap.size + 1, 2, none⟩ (.slice a2 L.length c2)).setCell ⟨w.heap.size + 1, 3, none⟩ (.int .i64 s)).cell? ⟨w.heap.size + 1, 1, none⟩ = some (.int .i64 F) := box_cell hK5.z 1
    have e2 : ((((w4.setCell ⟨w.heap.size + 1, 0, none⟩ (.slice a1 B.length c1)).setCell ⟨w.heap.size + 1, 1, none⟩ (.int .i64 F)).setCell ⟨w.heap.size + 1, 2, none⟩ (.slice a2 L.length c2)).setCell ⟨w.heap.size + 1, 3, none⟩ (.int .i64 s)).cell? ⟨w.heap.size + 1, 2, none⟩ = some (.slice a2 L.length c2) := box_cell hK5.z 2
    have e3 : ((((w4.setCell ⟨w.heap.size + 1, 0, none⟩ (.slice a1 B.length c1)).setCell ⟨w.heap.size + 1, 1, none⟩ (.int .i64 F)).setCell ⟨w.heap.size + 1, 2, none⟩ (.slice a2 L.length c2)).setCell ⟨w.heap.size + 1, 3, none⟩ (.int .i64 s)).cell? ⟨w.heap.size + 1, 3, none⟩ = some (.int .i64 s) := box_cell hK5.z 3
    clear hK5 hK4 hK3 hOV4 hOV6 o1 o2 b1 b2 hs3 px0 px1 px2 px3 qx0 qx1 qx2 qx3 rx0 rx1 rx2 rx3 sx0 sx1 sx2 sx3 sz0 sz1 sz2 sz3 sf0 sf1 sf2 sf3 tx0 tx1 tx2 tx3 hzd hz0
    generalize ((((w4.setCell ⟨w.heap.size + 1, 0, none⟩ (.slice a1 B.length c1)).setCell ⟨w.heap.size + 1, 1, none⟩ (.int .i64 F)).setCell ⟨w.heap.size + 1, 2, none⟩ (.slice a2 L.length c2)).setCell ⟨w.heap.size + 1, 3, none⟩ (.int .i64 s)) = XX at *
    go_wp2_with fail
    refine bodyPost_ret (v := .agg #[.slice a1 B.length c1, .int .i64 F, .slice a2 L.length c2, .int .i64 s]) (by simp [results, Try.results43, go_sem, e0, e1, e2, e3]) rfl ?_
    exact ⟨w3.heap.size, a1, c1, a2, c2, rfl, HOV.out, HB5.out⟩
end Go.Proofs.Ytlbhfgcpflhccaa
