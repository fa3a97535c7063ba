/- Walks of the model's AppendZone. -/
import Derived.Test.YteofdaecknlkdaaThere
namespace Go.Proofs.Yteofdaecknlkdaa
set_option maxRecDepth 100000
open Go.ChangeShapes Go.WideShapes Go.ChangeAt Go.RowKit
def appZ (z : Zn) (s : ByteArray) : Zn := ⟨z.data ++ s, z.sure, (z.data.size : Int) + (s.size : Int) == 60⟩
theorem app_room {zs : List Zn} {k : Nat} (hk : k < zs.length) (s : ByteArray) (h : 60 < zs[k].data.size + s.size) : goodD (zs.set k (appZ zs[k] s)) = false := by
  refine goodD_bad _ k (by simpa using hk) ?_
  rw [List.getElem_set_self]
  refine decide_eq_false fun h' => ?_
  have h1 : (zs[k].data ++ s).size ≤ 60 := h'.1
  rw [ByteArray.size_append] at h1
  omega
set_option maxHeartbeats 1000000 in
theorem append_none (a : Option Addr) (cap : Nat) (zs : List Zn) (k : Int) (s : ByteArray) (w : World) (hn : zs.length ≤ 1048576) (hZ : Zs w.heap.size a zs w) (h : ¬ there zs k) :
    Calls Try.prog 7 #[.agg #[.slice a zs.length cap], .int .i64 k, .string s] w fun e w' => e = .returned (.tuple #[.agg #[.slice none 0 0], .int .i64 0, .bool false]) ∧ Below w.heap.size w w' := by
  have HZ : Hid (∀ w', Below w.heap.size w w' → Zs w'.heap.size a zs w') := fun w' g => (hZ.below g).mono g.size
  have HT : Hid (¬ there zs k) := h
  clear hZ h
  go_enter Try.func7, Try.ntmps7
  go_wp2_with fail
  refine (there_no a cap zs k _ hn (HZ.out _ (((Below.refl _ _).alloc (Nat.le_refl _) _).alloc (by simp) _)) HT.out).mono ?_
  rintro e w1 ⟨rfl, b1⟩
  have hk2 : w1.heap[w.heap.size + 1]? = some (.cells #[.slice none 0 0] 25) := by
    rw [b1.block (w.heap.size + 1) (by simp)]; exact heap_last2 _ _ _
  have HB2 : Hid (Below w.heap.size w w1) := (((Below.refl _ _).alloc (Nat.le_refl _) _).alloc (by simp) _).trans (b1.mono (by simp; omega))
  have hq : w1.cell? ⟨w.heap.size + 1, 0, none⟩ = some (.slice none 0 0) := by unfold World.cell?; rw [hk2]; rfl
  have hf : w1.frozen? ⟨w.heap.size + 1, 0, none⟩ = false := by unfold World.frozen?; rw [hk2]; rfl
  clear b1 hk2
  go_wp2
  refine bodyPost_ret (v := .tuple #[.agg #[.slice none 0 0], .int .i64 0, .bool false]) (by simp [results, Try.results7, go_sem, hq]) rfl ⟨rfl, ?_⟩
  exact HB2.out.setCell (by show w.heap.size ≤ w.heap.size + 1; omega) _
set_option maxHeartbeats 1000000 in
theorem append_bad (a : Option Addr) (cap : Nat) (zs : List Zn) (k : Nat) (s : ByteArray) (w : World) (hZ : Zs w.heap.size a zs w) (h : there zs k) (hk : k < zs.length) (hs : s.size ≤ 1048576)
    (hbad : zs[k].full = true ∨ s.size < 1 ∨ 20 < s.size ∨ 60 < zs[k].data.size + s.size) :
    Calls Try.prog 7 #[.agg #[.slice a zs.length cap], .int .i64 k, .string s] w fun e w' => e = .returned (.tuple #[.agg #[.slice none 0 0], .int .i64 0, .bool false]) ∧ Below w.heap.size w w' := by
  have hl := goodD_len h.1
  have hn : zs.length ≤ 1048576 := by omega
  have hsm := goodD_small h.1 _ (List.getElem_mem hk)
  obtain ⟨b, off, rfl, hb, hc⟩ := hZ.cell (by omega)
  obtain ⟨c0, c1, c2⟩ := hc k hk
  have HZ : Hid (∀ w', Below w.heap.size w w' → Zs w'.heap.size (some ⟨b, off, none⟩) zs w') := fun w' g => (hZ.below g).mono g.size
  have HT : Hid (there zs k) := h
  clear hZ h hc
  go_enter Try.func7, Try.ntmps7
  go_wp2_with fail
  refine (there_yes (some ⟨b, off, none⟩) cap zs k _ hn (HZ.out _ (((Below.refl _ _).alloc (Nat.le_refl _) _).alloc (by simp) _)) HT.out).mono ?_
  rintro e w1 ⟨rfl, b1⟩
  have hbel1 : Below w.heap.size w w1 := (((Below.refl _ _).alloc (Nat.le_refl _) _).alloc (by simp) _).trans (b1.mono (by simp; omega))
  have hk2 : w1.heap[w.heap.size + 1]? = some (.cells #[.slice none 0 0] 25) := by
    rw [b1.block (w.heap.size + 1) (by simp)]; exact heap_last2 _ _ _
  have hd : w1.cell? ⟨w.heap.size, 0, none⟩ = some (.slice (some ⟨b, off, none⟩) zs.length cap) := by
    rw [b1.cell (p := ⟨w.heap.size, 0, none⟩) (by simp; omega)]; go_simp
  have x0 := (hbel1.cell (p := ⟨b, off + k * 3, none⟩) hb).trans c0
  have x1 := (hbel1.cell (p := ⟨b, off + k * 3 + 1, none⟩) hb).trans c1
  have x2 := (hbel1.cell (p := ⟨b, off + k * 3 + 2, none⟩) hb).trans c2
  have hq : w1.cell? ⟨w.heap.size + 1, 0, none⟩ = some (.slice none 0 0) := by unfold World.cell?; rw [hk2]; rfl
  have hf : w1.frozen? ⟨w.heap.size + 1, 0, none⟩ = false := by unfold World.frozen?; rw [hk2]; rfl
  have HB1 : Hid (Below w.heap.size w w1) := hbel1
  clear b1 hbel1 c0 c1 c2 hk2
  generalize zs[k].data = dd at *
  generalize zs[k].sure = ss at *
  generalize zs[k].full = ff at *
  cases ff
  case true =>
    clear hbad
    go_wp2
    refine bodyPost_ret (v := .tuple #[.agg #[.slice none 0 0], .int .i64 0, .bool false]) (by simp [results, Try.results7, go_sem, hq]) rfl ⟨rfl, ?_⟩
    exact HB1.out.setCell (by show w.heap.size ≤ w.heap.size + 1; omega) _
  case false =>
    by_cases g1 : 1 ≤ s.size ∧ s.size ≤ 20
    · have hroom : decide ((60 : Int) < (dd.size : Int) + (s.size : Int)) = true := by
        rcases hbad with h | h | h | h
        · cases h
        · omega
        · omega
        · simp; omega
      clear hbad
      go_wp2_with fail
      refine (l1In_yes _ _ _ _ (by omega) (by omega)).mono ?_
      rintro e w2 ⟨rfl, rfl⟩
      go_wp2
      refine bodyPost_ret (v := .tuple #[.agg #[.slice none 0 0], .int .i64 0, .bool false]) (by simp [results, Try.results7, go_sem, hq]) rfl ⟨rfl, ?_⟩
      exact HB1.out.setCell (by show w.heap.size ≤ w.heap.size + 1; omega) _
    · have hout : (s.size : Int) < 1 ∨ 20 < (s.size : Int) := by omega
      clear hbad
      go_wp2_with fail
      refine (l1In_no _ _ _ _ hout).mono ?_
      rintro e w2 ⟨rfl, rfl⟩
      go_wp2
      refine bodyPost_ret (v := .tuple #[.agg #[.slice none 0 0], .int .i64 0, .bool false]) (by simp [results, Try.results7, go_sem, hq]) rfl ⟨rfl, ?_⟩
      exact HB1.out.setCell (by show w.heap.size ≤ w.heap.size + 1; omega) _
set_option maxHeartbeats 2000000 in
theorem append_go (a : Option Addr) (cap : Nat) (zs V : List Zn) (gd : Bool) (k : Nat) (s : ByteArray) (w : World) (hZ : Zs w.heap.size a zs w) (h : there zs k) (hk : k < zs.length) (hs0 : 1 ≤ s.size) (hs1 : s.size ≤ 20)
    (hfull : zs[k].full = false) (hroom : zs[k].data.size + s.size ≤ 60) (hV : V = zs.set k (appZ zs[k] s)) (hG : goodD V = gd) :
    Calls Try.prog 7 #[.agg #[.slice a zs.length cap], .int .i64 k, .string s] w fun e w' => (∃ b c, if gd = true then e = .returned (.tuple #[.agg #[.slice b zs.length c], .int .i64 zs[k].data.size, .bool true]) ∧ Own w.heap.size w'.heap.size b V w' else e = .returned (.tuple #[.agg #[.slice none 0 0], .int .i64 0, .bool false])) ∧ Below w.heap.size w w' := by
  have hl := goodD_len h.1
  have hn : zs.length ≤ 1048576 := by omega
  have hsm := goodD_small h.1 _ (List.getElem_mem hk)
  obtain ⟨b, off, rfl, hb, hc⟩ := hZ.cell (by omega)
  obtain ⟨c0, c1, c2⟩ := hc k hk
  have HZ : Hid (∀ w', Below w.heap.size w w' → Zs w'.heap.size (some ⟨b, off, none⟩) zs w') := fun w' g => (hZ.below g).mono g.size
  have HT : Hid (there zs k) := h
  have HSM : Hid (∀ z ∈ zs, z.data.size ≤ 1048576) := goodD_small h.1
  have hVl : V.length = zs.length := by rw [hV, List.length_set]
  have HC : Hid (∀ (R c : Nat) (v : World), ZRow R V v → Calls Try.prog 10 #[.agg #[.slice (some ⟨R, 0, none⟩) zs.length c]] v fun e w' => e = .returned (.bool gd) ∧ ZRow R V w' ∧ Below v.heap.size v w') := fun R c v hv => by
    have := good_any (some ⟨R, 0, none⟩) c V v (by omega) (hv.sl hv.lt)
    rw [hVl, hG] at this
    exact this.mono fun e w' ⟨he, hb⟩ => ⟨he, hv.below hb, hb⟩
  have HV : Hid (V = zs.set k (appZ zs[k] s)) := hV
  clear hZ h hc hV hG hVl
  go_enter Try.func7, Try.ntmps7
  go_wp2_with fail
  refine (there_yes (some ⟨b, off, none⟩) cap zs k _ hn (HZ.out _ (((Below.refl _ _).alloc (Nat.le_refl _) _).alloc (by simp) _)) HT.out).mono ?_
  rintro e w1 ⟨rfl, b1⟩
  have hbel1 : Below w.heap.size w w1 := (((Below.refl _ _).alloc (Nat.le_refl _) _).alloc (by simp) _).trans (b1.mono (by simp; omega))
  have HK1 : Hid (w1.heap[w.heap.size + 1]? = some (.cells #[.slice none 0 0] 25)) := by
    show w1.heap[w.heap.size + 1]? = _
    rw [b1.block (w.heap.size + 1) (by simp)]; exact heap_last2 _ _ _
  have hd : w1.cell? ⟨w.heap.size, 0, none⟩ = some (.slice (some ⟨b, off, none⟩) zs.length cap) := by
    rw [b1.cell (p := ⟨w.heap.size, 0, none⟩) (by simp; omega)]; go_simp
  have x0 := (hbel1.cell (p := ⟨b, off + k * 3, none⟩) hb).trans c0
  have x2 := (hbel1.cell (p := ⟨b, off + k * 3 + 2, none⟩) hb).trans c2
  rw [hfull] at x2
  have HB1 : Hid (Below w.heap.size w w1) := hbel1
  have hs1b := b1.size
  rw [heap_size, heap_size] at hs1b
  clear b1 hbel1 c0 c1 c2
  have hd5 : decide ((60 : Int) < (zs[k].data.size : Int) + (s.size : Int)) = false := by simp; omega
  go_wp2_with fail
  refine (l1In_yes _ _ _ _ (by omega) (by omega)).mono ?_
  rintro e w2 ⟨rfl, rfl⟩
  go_wp2_with fail
  refine (own_any (some ⟨b, off, none⟩) cap zs _ (by omega) hn (HZ.out _ HB1.out)).mono ?_
  rintro e w3 ⟨R, c, hR, rfl, hrow, b3⟩
  obtain ⟨y0, y1, y2⟩ := hrow.cell k hk
  have f0 := hrow.free (k * 3) (by omega)
  have f1 := hrow.free (k * 3 + 1) (by omega)
  have f2 := hrow.free (k * 3 + 2) (by omega)
  have hltR := hrow.lt
  have hs3 := b3.size
  have HROW : Hid (ZRow R zs w3) := hrow
  have HB3 : Hid (Below w.heap.size w w3) := HB1.out.trans (b3.mono HB1.out.size)
  have HK3 : Hid (w3.heap[w.heap.size + 1]? = some (.cells #[.slice none 0 0] 25)) := by
    show w3.heap[w.heap.size + 1]? = _
    rw [b3.block _ (by omega)]; exact HK1.out
  clear hrow b3 HB1 HK1 hd x0 x2
  have happ : (zs[k].data ++ s).size = zs[k].data.size + s.size := ByteArray.size_append
  have hnR : w.heap.size + 1 ≠ R := by omega
  have hnR3 : w3.heap.size ≠ R := by omega
  go_wp2_with fail
  refine (HC.out R c _ ?zrow).mono ?_
  case zrow =>
    rw [HV.out]
    exact ((HROW.out.set k hk (appZ zs[k] s)).below ((Below.refl _ _).alloc (Nat.le_refl _) _)).below ((Below.refl _ _).alloc (Nat.le_refl _) _)
  rintro e w5 ⟨rfl, hzr5, b5⟩
  have HZR : Hid (ZRow R V w5) := hzr5
  clear hzr5
  have hs5 := b5.size
  rw [heap_size, heap_size] at hs5 b5
  simp only [World.setCell, Array.size_modify] at hs5
  have hk5 : w5.heap[w.heap.size + 1]? = some (.cells #[.slice none 0 0] 25) := by
    rw [b5.block _ (by simp [World.setCell]; omega), Below.heap_alloc _ _ _ (by rw [heap_size]; simp [World.setCell]; omega), Below.heap_alloc _ _ _ (by simp [World.setCell]; omega), Below.heap_setCell _ _ _ _ hnR, Below.heap_setCell _ _ _ _ hnR, Below.heap_setCell _ _ _ _ hnR]
    exact HK3.out
  have ho5 : w5.heap[w3.heap.size]? = some (.cells #[.slice (some ⟨R, 0, none⟩) zs.length c] 25) := by
    rw [b5.block _ (by simp [World.setCell]; omega), Below.heap_alloc _ _ _ (by rw [heap_size]; simp [World.setCell])]
    have := heap_last (((w3.setCell ⟨R, k * 3, none⟩ (.string (zs[k].data ++ s))).setCell ⟨R, k * 3 + 1, none⟩ (.int .i64 zs[k].sure)).setCell ⟨R, k * 3 + 2, none⟩ (.bool ((zs[k].data.size : Int) + (s.size : Int) == 60))) (.cells #[.slice (some ⟨R, 0, none⟩) zs.length c] 25)
    simpa [World.setCell] using this
  have HB5 : Hid (Below w.heap.size w w5) := (((((HB3.out.setCell (by show w.heap.size ≤ R; omega) _).setCell (by show w.heap.size ≤ R; omega) _).setCell (by show w.heap.size ≤ R; omega) _).alloc (by simp [World.setCell]; omega) _).alloc (by simp [World.setCell]; omega) _).trans (b5.mono (by simp [World.setCell]; omega))
  have hq : w5.cell? ⟨w.heap.size + 1, 0, none⟩ = some (.slice none 0 0) := by unfold World.cell?; rw [hk5]; rfl
  have hf : w5.frozen? ⟨w.heap.size + 1, 0, none⟩ = false := by unfold World.frozen?; rw [hk5]; rfl
  have ho : w5.cell? ⟨w3.heap.size, 0, none⟩ = some (.slice (some ⟨R, 0, none⟩) zs.length c) := by unfold World.cell?; rw [ho5]; rfl
  clear b5 hk5 ho5
  cases gd
  · go_wp2
    refine bodyPost_ret (v := .tuple #[.agg #[.slice none 0 0], .int .i64 0, .bool false]) (by simp [results, Try.results7, go_sem, hq]) rfl ?_
    have hB : Below w.heap.size w (w5.setCell ⟨w.heap.size + 1, 0, none⟩ (.slice none 0 0)) := HB5.out.setCell (by show w.heap.size ≤ w.heap.size + 1; omega) _
    first
      | exact ⟨⟨none, 0, rfl⟩, hB⟩
      | simpa using hB
  · go_wp2
    refine bodyPost_ret (v := .tuple #[.agg #[.slice (some ⟨R, 0, none⟩) zs.length c], .int .i64 zs[k].data.size, .bool true]) (by simp [results, Try.results7, go_sem, hq]) rfl ?_
    have hB : Below w.heap.size w (w5.setCell ⟨w.heap.size + 1, 0, none⟩ (.slice (some ⟨R, 0, none⟩) zs.length c)) := HB5.out.setCell (by show w.heap.size ≤ w.heap.size + 1; omega) _
    have hA : ZRow R V (w5.setCell ⟨w.heap.size + 1, 0, none⟩ (.slice (some ⟨R, 0, none⟩) zs.length c)) := HZR.out.same (by simp [World.setCell]) (Below.heap_setCell _ _ _ _ (by show R ≠ w.heap.size + 1; omega))
    have hO : Own w.heap.size (w5.setCell ⟨w.heap.size + 1, 0, none⟩ (.slice (some ⟨R, 0, none⟩) zs.length c)).heap.size (some ⟨R, 0, none⟩) V (w5.setCell ⟨w.heap.size + 1, 0, none⟩ (.slice (some ⟨R, 0, none⟩) zs.length c)) := Or.inr ⟨R, by omega, hA.lt, rfl, hA⟩
    first
      | exact ⟨⟨some ⟨R, 0, none⟩, c, rfl, hO⟩, hB⟩
      | exact ⟨⟨some ⟨R, 0, none⟩, ⟨c, rfl⟩, hO⟩, hB⟩
      | exact ⟨⟨some ⟨R, 0, none⟩, c, by rw [if_pos rfl]; exact ⟨rfl, hO⟩⟩, hB⟩
end Go.Proofs.Yteofdaecknlkdaa
