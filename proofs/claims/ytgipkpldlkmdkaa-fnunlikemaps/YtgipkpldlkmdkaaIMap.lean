/- Walks of the program's GoodMap, PutStretch, TrimMap, PlaceOf. -/
import Derived.Test.YtgipkpldlkmdkaaXIn
namespace Go.Proofs.Ytgipkpldlkmdkaa
set_option maxRecDepth 100000
open Go.ChangeShapes Go.WideShapes Go.ChangeAt Go.RowKit G00541
theorem hid {p : Prop} (h : p) : Hid p := h
theorem placesIn_yes (a : Option Addr) (cap : Nat) (l : List Sx) (w : World) (hfit : FitM l) (hZ : Xs w.heap.size a l w) (hg : goodM l = true) :
    Calls Try.prog 38 #[.slice a l.length cap] w fun e w' => e = .returned (.tuple #[.agg (arr (plN l)), .bool true]) ∧ Below w.heap.size w w' := by
  refine (placesIn_short a cap l w ((good_iff l).1 hg).1 hfit hZ).mono ?_
  rintro e w' ⟨⟨F, rfl, hF⟩, hb⟩
  rw [hF hg, hg]
  exact ⟨rfl, hb⟩
theorem placesIn_no (a : Option Addr) (cap : Nat) (l : List Sx) (w : World) (hn : l.length ≤ 1048576) (hfit : FitM l) (hZ : Xs w.heap.size a l w) (hg : goodM l = false) :
    Calls Try.prog 38 #[.slice a l.length cap] w fun e w' => (∃ F, e = .returned (.tuple #[.agg (arr F), .bool false])) ∧ Below w.heap.size w w' := by
  by_cases h6 : l.length ≤ 16
  · refine (placesIn_short a cap l w h6 hfit hZ).mono ?_
    rintro e w' ⟨⟨F, rfl, _⟩, hb⟩
    rw [hg]
    exact ⟨⟨F, rfl⟩, hb⟩
  · exact placesIn_long a cap l w hn (by omega)
theorem putF_range (F : Nat → Int) (x : Sx) (n : Nat) (hF : ∀ b, b < 16 → -1 ≤ F b ∧ F b ≤ 10000) (h0 : 0 ≤ x.place) (h1 : x.place + n ≤ 10001) : ∀ b, b < 16 → -1 ≤ putF F x n b ∧ putF F x n b ≤ 10000 := fun b hb => by
  unfold putF
  split
  · omega
  · exact hF b hb
theorem cutF_range (F : Nat → Int) (p n : Nat) (hF : ∀ b, b < 16 → -1 ≤ F b ∧ F b ≤ 10000) : ∀ b, b < 16 → -1 ≤ cutF F p n b ∧ cutF F p n b ≤ 10000 := fun b hb => by
  unfold cutF
  split
  · omega
  · exact hF b hb
theorem plN_range (l : List Sx) (hg : goodM l = true) : ∀ b, b < 16 → -1 ≤ plN l b ∧ plN l b ≤ 10000 := fun b _ => pl_range l (chain_all none l hg) b
set_option maxHeartbeats 1000000 in
theorem igood_any (a : Option Addr) (cap : Nat) (l : List Sx) (w : World) (hn : l.length ≤ 1048576) (hfit : FitM l) (hZ : Xs w.heap.size a l w) :
    Calls Try.prog 10 #[.slice a l.length cap] w fun e w' => e = .returned (.bool (goodM l)) ∧ Below w.heap.size w w' := by
  have HP : Hid (Calls Try.prog 38 #[.slice a l.length cap] w fun e w' => (∃ F, e = .returned (.tuple #[.agg (arr F), .bool (goodM l)])) ∧ Below w.heap.size w w') := by
    cases hg : goodM l
    · exact placesIn_no a cap l w hn hfit hZ hg
    · exact (placesIn_yes a cap l w hfit hZ hg).mono fun _ _ ⟨he, hb⟩ => ⟨⟨_, he⟩, hb⟩
  clear hfit hZ
  generalize goodM l = v at *
  go_enter Try.func10, Try.ntmps10
  go_wp2_with fail
  refine (HP.out).mono ?_
  rintro e w1 ⟨⟨F, rfl⟩, b1⟩
  have HA : Hid (Ar w1.heap.size (fun _ => 0) (w1.alloc (.cells (arr fun _ => 0) 61))) := Ar.new w1 _ 61
  have HB1 : Hid (Below w.heap.size w w1) := b1
  clear b1 HP
  go_wp2_with (refine wpList_store_ar HA.out rfl _ _ rfl rfl rfl ?_; intro w2 ha2 hb2)
  have HB2 : Hid (Below w.heap.size w w2) := (HB1.out.alloc HB1.out.size _).trans (hb2.out.below HB1.out.size (by have := HB1.out.size; simp; omega))
  clear ha2 hb2
  go_ret
  exact ⟨rfl, HB2.out⟩
/-- what a function that tells a map tells: in memory of its own -/
def MapOut (V : List Sx) (ok : Bool) (w : World) (e : Ending) (w' : World) : Prop := ∃ b c, e = .returned (.tuple #[.slice b V.length c, .bool ok]) ∧ OwnX w.heap.size w'.heap.size b V w' ∧ Below w.heap.size w w'
theorem MapOut.of {V : List Sx} {w w' : World} {v : Value} (h : w'.ownsRow w.heap.size 36 3 v V.length (xflat V)) (hb : Below w.heap.size w w') : MapOut V true w (.returned (.tuple #[v, .bool true])) w' := by
  obtain ⟨b, c, rfl, ho⟩ := own_xs h rfl
  exact ⟨b, c, rfl, ho, hb⟩
theorem MapOut.no {w w' : World} (hb : Below w.heap.size w w') : MapOut [] false w (.returned (.tuple #[.slice none 0 0, .bool false])) w' := ⟨none, 0, rfl, Or.inl rfl, hb⟩
theorem own_le {w : World} {B B' : Nat} {e : TypeId} {s : Nat} {v : Value} {n : Nat} {l : List Value} (h : w.ownsRow B e s v n l) (hB : B' ≤ B) : w.ownsRow B' e s v n l := by
  refine ⟨h.1, ?_⟩
  rcases h.2 with h | ⟨g, cap, cur, e1, e2, r⟩
  · exact Or.inl h
  · exact Or.inr ⟨g, cap, cur, e1, by omega, r⟩
set_option maxHeartbeats 2000000 in
theorem iput_no (a : Option Addr) (cap : Nat) (l : List Sx) (p n c : Int) (w : World) (hn : l.length ≤ 1048576) (hfit : FitM l) (hp : fit p) (hq : fit n) (hZ : Xs w.heap.size a l w) (hg : ¬ (goodM l = true ∧ goodX ⟨p, n, c⟩ = true)) :
    Calls Try.prog 14 #[.slice a l.length cap, .agg #[.int .i64 p, .int .i64 n, .int .i64 c]] w fun e w' => MapOut [] false w e w' := by
  have HZ : Hid (Xs (w.alloc (.cells #[.int .i64 p, .int .i64 n, .int .i64 c] 36)).heap.size a l (w.alloc (.cells #[.int .i64 p, .int .i64 n, .int .i64 c] 36))) := hZ.go ((Below.refl _ _).alloc (Nat.le_refl _) _)
  cases hgm : goodM l
  · have HP := placesIn_no a cap l _ hn hfit HZ.out hgm
    have HP' := hid HP
    clear HP hZ hg hgm
    go_enter Try.func14, Try.ntmps14
    go_wp2_with fail
    refine (HP'.out).mono ?_
    rintro e w1 ⟨⟨F, rfl⟩, b1⟩
    have HA : Hid (Ar w1.heap.size (fun _ => 0) (w1.alloc (.cells (arr fun _ => 0) 61))) := Ar.new w1 _ 61
    have HB1 : Hid (Below w.heap.size w w1) := ((Below.refl _ _).alloc (Nat.le_refl _) _).trans (b1.mono (by simp))
    clear b1 HP'
    go_wp2_with (refine wpList_store_ar HA.out rfl _ _ rfl rfl rfl ?_; intro w2 ha2 hb2)
    have HB2 : Hid (Below w.heap.size w w2) := (HB1.out.alloc HB1.out.size _).trans (hb2.out.below HB1.out.size (by have := HB1.out.size; simp; omega))
    clear ha2 hb2
    go_ret2
    exact MapOut.no HB2.out
  · have hgx : goodX ⟨p, n, c⟩ = false := by
      cases h : goodX ⟨p, n, c⟩
      · rfl
      · exact absurd ⟨hgm, h⟩ hg
    have HP := placesIn_yes a cap l _ hfit HZ.out hgm
    have HP' := hid HP
    have HG : Hid (∀ v, Calls Try.prog 42 #[.agg #[.int .i64 p, .int .i64 n, .int .i64 c]] v fun e w' => e = .returned (.bool false) ∧ Below v.heap.size v w') := fun v => by
      have := goodStretch_any p n c v hp hq
      rw [hgx] at this
      exact this
    clear HP hZ hg hgm hgx
    go_enter Try.func14, Try.ntmps14
    go_wp2_with fail
    refine (HP'.out).mono ?_
    rintro e w1 ⟨rfl, b1⟩
    have hx : w.heap.size < w1.heap.size := by have := b1.size; simp at this; omega
    have hxa : ∀ i, w1.cell? ⟨w.heap.size, i, none⟩ = (w.alloc (.cells #[.int .i64 p, .int .i64 n, .int .i64 c] 36)).cell? ⟨w.heap.size, i, none⟩ := fun i => b1.cell (p := ⟨w.heap.size, i, none⟩) (by simp)
    have HA : Hid (Ar w1.heap.size (fun _ => 0) (w1.alloc (.cells (arr fun _ => 0) 61))) := Ar.new w1 _ 61
    have HB1 : Hid (Below w.heap.size w w1) := ((Below.refl _ _).alloc (Nat.le_refl _) _).trans (b1.mono (by simp))
    have HX : Hid (∀ w2, But w1.heap.size (w1.alloc (.cells (arr fun _ => 0) 61)) w2 → w2.cell? ⟨w.heap.size, 0, none⟩ = some (.int .i64 p) ∧ w2.cell? ⟨w.heap.size, 1, none⟩ = some (.int .i64 n) ∧ w2.cell? ⟨w.heap.size, 2, none⟩ = some (.int .i64 c)) := fun w2 g => by
      have hc : ∀ i, w2.cell? ⟨w.heap.size, i, none⟩ = (w.alloc (.cells #[.int .i64 p, .int .i64 n, .int .i64 c] 36)).cell? ⟨w.heap.size, i, none⟩ := fun i => by
        rw [g.cell w.heap.size i (by simp; omega) (by omega), World.cell?_alloc_lt _ _ _ hx]; exact hxa i
      exact ⟨by rw [hc]; go_simp, by rw [hc]; go_simp, by rw [hc]; go_simp⟩
    clear b1 HP' hxa
    go_wp2_with (first | (refine wpList_store_ar HA.out rfl _ _ rfl rfl rfl ?_; intro w2 ha2 hb2; obtain ⟨x0, x1, x2⟩ := HX.out w2 hb2.out) | fail)
    refine (HG.out _).mono ?_
    rintro e w3 ⟨rfl, b3⟩
    have HB2 : Hid (Below w.heap.size w w2) := (HB1.out.alloc HB1.out.size _).trans (hb2.out.below HB1.out.size (by have := HB1.out.size; simp; omega))
    have HB3 : Hid (Below w.heap.size w w3) := HB2.out.trans (b3.mono HB2.out.size)
    clear ha2 hb2 b3 HX
    go_wp2
    go_ret2
    exact MapOut.no HB3.out
set_option maxHeartbeats 2000000 in
theorem iput_yes (a : Option Addr) (cap : Nat) (l : List Sx) (p n : Nat) (c : Int) (w : World) (hfit : FitM l) (hZ : Xs w.heap.size a l w) (hgm : goodM l = true) (hgx : goodX ⟨p, n, c⟩ = true) :
    Calls Try.prog 14 #[.slice a l.length cap, .agg #[.int .i64 p, .int .i64 n, .int .i64 c]] w fun e w' => MapOut (mapF (putF (plN l) ⟨p, n, c⟩ n) 16) true w e w' := by
  have HZ : Hid (Xs (w.alloc (.cells #[.int .i64 p, .int .i64 n, .int .i64 c] 36)).heap.size a l (w.alloc (.cells #[.int .i64 p, .int .i64 n, .int .i64 c] 36))) := hZ.go ((Below.refl _ _).alloc (Nat.le_refl _) _)
  have HP := placesIn_yes a cap l _ hfit HZ.out hgm
  have HP' := hid HP
  have gx := (goodX_iff _).1 hgx
  simp only at gx
  have HG : Hid (∀ v, Calls Try.prog 42 #[.agg #[.int .i64 p, .int .i64 n, .int .i64 c]] v fun e w' => e = .returned (.bool true) ∧ Below v.heap.size v w') := fun v => by
    have := goodStretch_any p n c v ⟨by omega, by omega⟩ ⟨by omega, by omega⟩
    rw [hgx] at this
    exact this
  have HW : Hid (∀ v, Calls Try.prog 43 #[.agg (arr (plN l)), .agg #[.int .i64 p, .int .i64 n, .int .i64 c]] v fun e w' => e = .returned (.agg (arr (putF (plN l) ⟨p, n, c⟩ n))) ∧ Below v.heap.size v w') := fun v => with_any (plN l) p n c v (by omega) (by omega) (by omega) (by omega)
  have HS : Hid (∀ v, Calls Try.prog 35 #[.agg (arr (putF (plN l) ⟨p, n, c⟩ n))] v fun e w' => ∃ u, e = .returned u ∧ w'.ownsRow v.heap.size 36 3 u (mapF (putF (plN l) ⟨p, n, c⟩ n) 16).length (xflat (mapF (putF (plN l) ⟨p, n, c⟩ n) 16)) ∧ Below v.heap.size v w') := fun v => stretchesOf_any _ (putF_range _ _ _ (plN_range l hgm) (by simp only; omega) (by simp only; omega)) v
  clear HP hZ hgm hgx gx
  generalize mapF (putF (plN l) ⟨p, n, c⟩ n) 16 = V at *
  generalize putF (plN l) ⟨p, n, c⟩ n = G at *
  generalize plN l = F at *
  go_enter Try.func14, Try.ntmps14
  go_wp2_with fail
  refine (HP'.out).mono ?_
  rintro e w1 ⟨rfl, b1⟩
  have hx : w.heap.size < w1.heap.size := by have := b1.size; simp at this; omega
  have hxa : ∀ i, w1.cell? ⟨w.heap.size, i, none⟩ = (w.alloc (.cells #[.int .i64 p, .int .i64 n, .int .i64 c] 36)).cell? ⟨w.heap.size, i, none⟩ := fun i => b1.cell (p := ⟨w.heap.size, i, none⟩) (by simp)
  have HA : Hid (Ar w1.heap.size (fun _ => 0) (w1.alloc (.cells (arr fun _ => 0) 61))) := Ar.new w1 _ 61
  have HB1 : Hid (Below w.heap.size w w1) := ((Below.refl _ _).alloc (Nat.le_refl _) _).trans (b1.mono (by simp))
  have HX : Hid (∀ w2, But w1.heap.size (w1.alloc (.cells (arr fun _ => 0) 61)) w2 → w2.cell? ⟨w.heap.size, 0, none⟩ = some (.int .i64 p) ∧ w2.cell? ⟨w.heap.size, 1, none⟩ = some (.int .i64 n) ∧ w2.cell? ⟨w.heap.size, 2, none⟩ = some (.int .i64 c)) := fun w2 g => by
    have hc : ∀ i, w2.cell? ⟨w.heap.size, i, none⟩ = (w.alloc (.cells #[.int .i64 p, .int .i64 n, .int .i64 c] 36)).cell? ⟨w.heap.size, i, none⟩ := fun i => by
      rw [g.cell w.heap.size i (by simp; omega) (by omega), World.cell?_alloc_lt _ _ _ hx]; exact hxa i
    exact ⟨by rw [hc]; go_simp, by rw [hc]; go_simp, by rw [hc]; go_simp⟩
  clear b1 HP' hxa
  go_wp2_with (first | (refine wpList_store_ar HA.out rfl _ _ rfl rfl rfl ?_; intro w2 ha2 hb2; obtain ⟨x0, x1, x2⟩ := HX.out w2 hb2.out) | fail)
  have hs2 : w.heap.size < w2.heap.size := by have := hb2.out.size; simp at this; omega
  have HB2 : Hid (Below w.heap.size w w2) := (HB1.out.alloc HB1.out.size _).trans (hb2.out.below HB1.out.size (by have := HB1.out.size; simp; omega))
  refine (HG.out _).mono ?_
  rintro e w3 ⟨rfl, b3⟩
  have HB3 : Hid (Below w.heap.size w w3) := HB2.out.trans (b3.mono HB2.out.size)
  have HA3 : Hid (Ar w1.heap.size F w3) := ha2.out.below b3
  have hc3 : ∀ i, w3.cell? ⟨w.heap.size, i, none⟩ = w2.cell? ⟨w.heap.size, i, none⟩ := fun i => b3.cell (p := ⟨w.heap.size, i, none⟩) hs2
  rw [← hc3] at x0 x1 x2
  clear ha2 hb2 b3 HX hc3
  go_wp2_with (first | refine wpList_load_ar HA3.out rfl _ rfl rfl ?_ | fail)
  refine (HW.out _).mono ?_
  rintro e w4 ⟨rfl, b4⟩
  have HB4 : Hid (Below w.heap.size w w4) := HB3.out.trans (b4.mono HB3.out.size)
  clear b4 x0 x1 x2
  go_wp2_with fail
  refine (HS.out _).mono ?_
  rintro e w5 ⟨u, rfl, hown, b5⟩
  have HB5 : Hid (Below w.heap.size w w5) := HB4.out.trans (b5.mono HB4.out.size)
  have HO : Hid (w5.ownsRow w.heap.size 36 3 u V.length (xflat V)) := own_le hown HB4.out.size
  clear hown b5
  go_wp2
  go_ret2
  exact MapOut.of HO.out HB5.out
end Go.Proofs.Ytgipkpldlkmdkaa
