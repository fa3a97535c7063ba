/- The model's WriteMark: its walk. -/
import Derived.Test.YtddkfaoopejjiaaKSetS
import Derived.Test.YtddkfaoopejjiaaKPt
import Derived.Test.YtddkfaoopejjiaaKRw
import Derived.Test.YtddkfaoopejjiaaKOwnC
import Derived.Deep.DeepCutAuto
namespace Go.Proofs.Ytddkfaoopejjiaa
set_option maxRecDepth 100000
open Go Go.ChangeShapes Go.WideShapes Go.ChangeAt Go.RowKit
/-- what the model's WriteMark answers -/
def SwOut (o : Option (List Ly)) (w : World) (e : Ending) (w' : World) : Prop := ∃ b' c, e = .returned (.tuple #[.agg #[.slice b' (o.getD []).length c], .bool o.isSome]) ∧ Ys w'.heap.size b' (o.getD []) w' ∧ Below w.heap.size w w'
theorem lyk_last {S0 : List Ly} {z : Ly} (h : GoodK (S0 ++ [z])) : lyOk z := by
  have h1 := (h.2.2 S0.length (by simp)).2.2.2
  have e : (S0 ++ [z])[S0.length]'(by simp) = z := by simp
  rwa [e] at h1
set_option maxHeartbeats 8000000 in
theorem swrite_any (a : Option Addr) (cap : Nat) (S : List Ly) (b : Int) (s : ByteArray) (w : World) (hn : S.length ≤ 1048576) (hf : ∀ k (h : k < S.length), S[k].bl.length ≤ 1048576) (hG : Ys w.heap.size a S w) :
    Calls Try.prog 7 #[.agg #[.slice a S.length cap], .int .i64 b, .string s] w fun e w' => SwOut (wrK S b s) w e w' := by
  have HB := hid (B2.start w (.slice a S.length cap))
  have HCG : Hid (∀ v, Below w.heap.size w v → Calls Try.prog 21 #[.agg #[.slice a S.length cap]] v fun e w' => e = .returned (.bool (goodK S)) ∧ Below v.heap.size v w') := fun v g => sgoodK_any a cap S v hn hf ((hG.below g).mono g.size)
  have HCO : Hid (GoodK S → ∀ v, Below w.heap.size w v → Calls Try.prog 24 #[.agg #[.slice a S.length cap]] v fun e w' => CpMC S v e w') := fun hg v g => l7OwnC_any a cap S v (good_small hg) ((hG.below g).mono g.size)
  have HIB := hid (fun u => l7Block_any b u)
  have HID := hid (fun u => l7Data_any s u)
  clear hG hf hn
  obtain ⟨o, ho⟩ : ∃ o, wrK S b s = o := ⟨_, rfl⟩
  rw [ho]
  have HO := hid ho
  clear ho
  generalize hW : (w.alloc (.cells #[.slice a S.length cap] 28)).alloc (.cells #[.slice none 0 0] 28) = W at *
  obtain ⟨x0, -, -⟩ := HB.out.cells
  go_enter Try.func7, Try.ntmps7
  go_wp2_with fail
  clear hW
  refine (HCG.out _ HB.out.below).mono ?_
  rintro e w2 ⟨rfl, b2⟩
  have HB2 := hid (HB.out.on b2)
  clear b2 x0 HCG HB
  obtain ⟨x0, z0, f0⟩ := HB2.out.cells
  have HNO : Hid (∀ v, B2 w (.slice a S.length cap) v → ¬ WrOk S b s → ∀ V, V = v.setCell ⟨w.heap.size + 1, 0, none⟩ (.slice none 0 0) → V.cell? ⟨w.heap.size + 1, 0, none⟩ = some (.slice none 0 0) ∧ SwOut o w (.returned (.tuple #[.agg #[.slice none 0 0], .bool false])) V) := fun v hv hn V hV => by
    obtain ⟨x1, z1, f1⟩ := hv.cells
    rw [hV, ← HO.out, wrK_no hn]
    exact ⟨World.cell?_setCell_same _ _ _ z1, none, 0, rfl, fun h => absurd h (by simp), setB hv.below (w.heap.size + 1) 0 (by omega) (.slice none 0 0)⟩
  by_cases hg : GoodK S
  case neg =>
    have hg' := goodK_no hg
    obtain ⟨e0, hM⟩ := HNO.out w2 HB2.out (fun h => hg h.1) _ rfl
    have HM := hid hM
    rw [hg']
    clear hg hg' HIB HID HCO hM HNO HO
    go_wp2_with fail
    generalize w2.setCell ⟨w.heap.size + 1, 0, none⟩ (.slice none 0 0) = XX at *
    exact bodyPost_ret (v := .tuple #[.agg #[.slice none 0 0], .bool false]) (by simp [results, Try.results7, go_sem, e0]) rfl HM.out
  have HGK := hid hg
  rw [goodK_iff.2 hg]
  clear hg
  go_wp2_with fail
  refine (HIB.out _).mono ?_
  rintro e w3 ⟨rfl, hw3⟩
  rw [hw3]
  clear hw3 HIB
  by_cases hb : 0 ≤ b ∧ b ≤ 15
  case neg =>
    obtain ⟨e0, hM⟩ := HNO.out w2 HB2.out (fun h => hb h.2.1) _ rfl
    have HM := hid hM
    rw [decide_eq_false hb]
    clear hb HID HCO hM HNO HO
    go_wp2_with fail
    generalize w2.setCell ⟨w.heap.size + 1, 0, none⟩ (.slice none 0 0) = XX at *
    exact bodyPost_ret (v := .tuple #[.agg #[.slice none 0 0], .bool false]) (by simp [results, Try.results7, go_sem, e0]) rfl HM.out
  have HBK := hid hb
  rw [decide_eq_true hb]
  clear hb
  go_wp2_with fail
  refine (HID.out _).mono ?_
  rintro e w3 ⟨rfl, hw3⟩
  rw [hw3]
  clear hw3 HID
  by_cases hs : s.size = 2
  case neg =>
    obtain ⟨e0, hM⟩ := HNO.out w2 HB2.out (fun h => hs h.2.2) _ rfl
    have HM := hid hM
    rw [decide_eq_false hs]
    clear hs HCO hM HNO HO
    go_wp2_with fail
    generalize w2.setCell ⟨w.heap.size + 1, 0, none⟩ (.slice none 0 0) = XX at *
    exact bodyPost_ret (v := .tuple #[.agg #[.slice none 0 0], .bool false]) (by simp [results, Try.results7, go_sem, e0]) rfl HM.out
  have HS2 := hid hs
  rw [decide_eq_true hs]
  clear hs HNO
  have HC1 := hid (HCO.out HGK.out)
  clear HCO
  obtain ⟨S0, z, rfl⟩ : ∃ S0 z, S = S0 ++ [z] := by
    rcases List.eq_nil_or_concat S with h | ⟨S0, z, h⟩
    · subst h; have := HGK.out.1; exact absurd this (by simp)
    · exact ⟨S0, z, by simpa using h⟩
  have hlen : (S0 ++ [z]).length = S0.length + 1 := by simp
  have hn7 : S0.length ≤ 7 := by have := HGK.out.2.1; omega
  have HOY : Hid (o = some (S0 ++ [putLy z b s])) := by
    show o = _
    rw [← HO.out]
    exact wrK_yes ⟨HGK.out, HBK.out, HS2.out⟩
  have HZK := hid (lyk_last HGK.out)
  rw [hlen] at x0 HB2 HC1
  obtain ⟨n, hnn⟩ : ∃ n, S0.length = n := ⟨_, rfl⟩
  have HNN := hid hnn
  rw [hnn] at x0 HB2 HC1 hn7
  clear hlen hnn HGK HBK HS2 HO
  go_wp2_with fail
  refine (HC1.out _ HB2.out.below).mono ?_
  rintro e w3 ⟨v, L, rfl, hL, ⟨hK, hCL⟩, b3⟩
  clear x0 z0 f0 HC1
  have hLn : L.length = n + 1 := by have := congrArg List.length hL; rw [List.length_map, List.length_append, HNN.out] at this; exact this
  obtain ⟨R, cv, hRv⟩ : ∃ R cv, v = .slice (some ⟨R, 0, none⟩) (n + 1) cv := by
    obtain ⟨_, ⟨_, h1⟩ | ⟨g, cp, cur, h1, _⟩⟩ := hK.row
    · omega
    · exact ⟨g, cp, by rw [h1, hLn]⟩
  subst hRv
  have hR3 := hK.row.lt R rfl
  have hKR := hK.rowK hCL
  have hB3 := HB2.out.on b3
  have hs2 := HB2.out.size
  have hs3 := b3.size
  have b4 := boxB w3 (.cells #[.slice (some ⟨R, 0, none⟩) (n + 1) cv] 28)
  have hB4 := hB3.on b4
  have hK4 := hKR.on b4
  have hX4 : (w3.alloc (.cells #[.slice (some ⟨R, 0, none⟩) (n + 1) cv] 28)).heap[w3.heap.size]? = some (.cells #[.slice (some ⟨R, 0, none⟩) (n + 1) cv] 28) := heap_last _ _
  have hz4 : (w3.alloc (.cells #[.slice (some ⟨R, 0, none⟩) (n + 1) cv] 28)).heap.size = w3.heap.size + 1 := heap_size _ _
  generalize hW4 : w3.alloc (.cells #[.slice (some ⟨R, 0, none⟩) (n + 1) cv] 28) = W4 at *
  have hzz : L[n].1 = z := by
    have e1 : (L.map (·.1))[n]'(by rw [List.length_map]; omega) = z := by
      simp only [hL]
      rw [List.getElem_append_right (by have := HNN.out; omega)]
      simp [HNN.out]
    rw [List.getElem_map] at e1
    exact e1
  obtain ⟨⟨p, c, fx, q, d, gx⟩, hla⟩ : ∃ la : LA, L[n] = (z, la) := ⟨L[n].2, by rw [← hzz]⟩
  obtain ⟨y, hy⟩ : ∃ y, putLy z b s = y := ⟨_, rfl⟩
  have hymk : y.mark = z.mark := by rw [← hy]; rfl
  rw [hy] at HOY
  have HMAP : Hid (∀ la : LA, (L.set n (y, la)).map (·.1) = S0 ++ [y]) := fun la => by
    rw [List.map_set, hL]
    rw [List.set_append_right _ _ (by have := HNN.out; omega)]
    simp [HNN.out]
  have hfz := hK4.fit n (by omega)
  rw [hla] at hfz
  have HPUT : Hid (∀ v, RowK w2.heap.size R L v → Calls Try.prog 25 #[.agg #[.int .i64 z.mark, .slice p z.bl.length c, .slice q z.dt.length d], .int .i64 b, .string s] v fun e w' => PutOut y z.bl p v e w') := fun v hv => by
    have hfv := hv.fit n (by omega)
    rw [hla] at hfv
    have := l7Put_any p q c d z b s v HZK.out hfv.cb hfv.cd hfv.bl hfv.dt
    rw [hy] at this
    exact this
  have HFIT : Hid (∀ (u v : World) p1 c1 p2 c2, R < u.heap.size → Is v.heap.size p1 y.bl v → Ss v.heap.size p2 y.dt v → ((p1 = p ∧ 0 < z.bl.length) ∨ ∃ R', p1 = some ⟨R', 0, none⟩ ∧ u.heap.size ≤ R') → (∃ R', p2 = some ⟨R', 0, none⟩ ∧ u.heap.size ≤ R') → y.bl.length ≤ c1 → y.dt.length ≤ c2 → LyFit R (y, ⟨p1, c1, 0, p2, c2, 0⟩) v) := fun u v p1 c1 p2 c2 hu h1 h2 h3 h4 h5 h6 => by
    refine ⟨h1, h2, fun _ o f e => ?_, fun _ o f e => ?_, h5, h6⟩
    · rcases h3 with ⟨e3, h0⟩ | ⟨R', e3, h0⟩
      · exact hfz.ob h0 o f (by rw [← e3]; exact e)
      · have e' : p1 = some ⟨R, o, f⟩ := e
        rw [e3] at e'
        injection e' with e'
        injection e' with e' _ _
        omega
    · obtain ⟨R', e3, h0⟩ := h4
      have e' : p2 = some ⟨R, o, f⟩ := e
      rw [e3] at e'
      injection e' with e'
      injection e' with e' _ _
      omega
  have HCELL : Hid (∀ v, RowK w2.heap.size R L v → (v.cell? ⟨R, n * 3, none⟩ = some (.int .i64 z.mark) ∧ v.cell? ⟨R, n * 3 + 1, none⟩ = some (.slice p z.bl.length c) ∧ v.cell? ⟨R, n * 3 + 2, none⟩ = some (.slice q z.dt.length d)) ∧ (v.frozen? ⟨R, n * 3, none⟩ = false ∧ v.frozen? ⟨R, n * 3 + 1, none⟩ = false ∧ v.frozen? ⟨R, n * 3 + 2, none⟩ = false) ∧ ∀ x : Ly × LA, LyFit R x v → RowK w2.heap.size R (L.set n x) (((v.setCell ⟨R, n * 3, none⟩ (.int .i64 x.1.mark)).setCell ⟨R, n * 3 + 1, none⟩ (.slice x.2.p x.1.bl.length x.2.c)).setCell ⟨R, n * 3 + 2, none⟩ (.slice x.2.q x.1.dt.length x.2.d))) := fun v hv => by
    have h1 := hv.cell n (by omega)
    simp only [hla] at h1
    exact ⟨h1, hv.free n (by omega), fun x hx => hv.put n (by omega) x hx⟩
  have HRK : Hid (∀ v, Below W4.heap.size W4 v → RowK w2.heap.size R L v) := fun v g => hK4.on g
  have x4 : W4.cell? ⟨w3.heap.size, 0, none⟩ = some (.slice (some ⟨R, 0, none⟩) (n + 1) cv) := box_cell hX4 0
  have HB4 := hid hB4
  have HX4 := hid hX4
  have HSZ : Hid (w3.heap.size < W4.heap.size ∧ w2.heap.size ≤ R ∧ R < w3.heap.size ∧ w.heap.size + 2 ≤ w2.heap.size) := ⟨by omega, hR3.1, hR3.2, by omega⟩
  have hpw := pred_wrap n (by omega)
  have HMK := hid hymk
  obtain ⟨mk, bl, dt⟩ := z
  simp only at HPUT HFIT HCELL HMK
  clear hymk hy hla hzz hfz hK4 hKR hK hCL hB4 hB3 hX4 b4 b3 hL hR3 HB2 hz4 hs2 hs3 HZK
  go_upto_region 5 with fail
  clear hW4 x4 hpw
  go_cut [] (fun wc => ∃ X : List (Ly × LA), X.map (·.1) = S0 ++ [y] ∧ RowK w2.heap.size R X wc ∧ wc.heap[w3.heap.size]? = some (.cells #[.slice (some ⟨R, 0, none⟩) (n + 1) cv] 28) ∧ B2 w (.slice a (n + 1) cap) wc)
  case first =>
    have HT : Hid (∀ v : World, v.heap[w3.heap.size]? = some (.cells #[.slice (some ⟨R, 0, none⟩) (n + 1) cv] 28) → (v.cell? ⟨R, n * 3, none⟩ = some (.int .i64 mk) ∧ v.cell? ⟨R, n * 3 + 1, none⟩ = some (.slice p bl.length c) ∧ v.cell? ⟨R, n * 3 + 2, none⟩ = some (.slice q dt.length d)) → v.cell? ⟨w3.heap.size, 0, none⟩ = some (.slice (some ⟨R, 0, none⟩) (n + 1) cv) ∧ v.cell? ⟨R, n * 3, none⟩ = some (.int .i64 mk) ∧ v.cell? ⟨R, n * 3 + 1, none⟩ = some (.slice p bl.length c) ∧ v.cell? ⟨R, n * 3 + 2, none⟩ = some (.slice q dt.length d)) := fun v h1 h2 => ⟨box_cell h1 0, h2.1, h2.2.1, h2.2.2⟩
    obtain ⟨hs40, hs41, hs42, hs43⟩ := HSZ.out
    have g0 : Below W4.heap.size W4 W4.drew := (Below.refl _ _).drew
    have HDZ : Hid (W4.drew.heap.size = W4.heap.size) := rfl
    have B5 := HB4.out.on g0
    have X5 := (g0.block _ hs40).trans HX4.out
    have hT0 := HT.out _ X5 (HCELL.out _ (HRK.out _ g0)).1
    refine wp_region_L (fun v : World => v.cell? ⟨w3.heap.size, 0, none⟩ = some (.slice (some ⟨R, 0, none⟩) (n + 1) cv) ∧ v.cell? ⟨R, n * 3, none⟩ = some (.int .i64 mk) ∧ v.cell? ⟨R, n * 3 + 1, none⟩ = some (.slice p bl.length c) ∧ v.cell? ⟨R, n * 3 + 2, none⟩ = some (.slice q dt.length d)) 12 (by kernel_rfl) ?_
    generalize W4.drew = Wd at *
    have hHeld := hT0
    refine wpAnyL_take (i := 0) (v := .pointer (some ⟨w3.heap.size, 0, none⟩)) (C := [0, 1, 11, 12]) rfl (by kernel_rfl) (fun _ _ _ h => h) (Or.inl ⟨by rfl, fun _ _ => by go_simp⟩) hHeld ?_
    dsimp only [Act.put]
    refine wpAnyL_take (i := 1) (v := .slice (some ⟨R, 0, none⟩) (n + 1) cv) (C := [1, 11, 12]) rfl (by kernel_rfl) (fun _ _ _ h => h) (Or.inl ⟨by rfl, fun u hu => by obtain ⟨h1, h2, h3, h4⟩ := hu; go_simp⟩) hHeld ?_
    dsimp only [Act.put]
    refine wpAnyL_take (i := 2) (v := .int .i64 (n : Int)) (C := [2, 11, 12]) rfl (by kernel_rfl) (fun _ _ _ h => h) (Or.inl ⟨by rfl, fun _ _ => by go_simp⟩) hHeld ?_
    dsimp only [Act.put]
    refine wpAnyL_take (i := 3) (v := .pointer (some ⟨w3.heap.size, 0, none⟩)) (C := [3, 4, 6, 7, 10, 11, 12]) rfl (by kernel_rfl) (fun _ _ _ h => h) (Or.inl ⟨by rfl, fun _ _ => by go_simp⟩) hHeld ?_
    dsimp only [Act.put]
    refine wpAnyL_take (i := 4) (v := .slice (some ⟨R, 0, none⟩) (n + 1) cv) (C := [4, 6, 7, 10, 11, 12]) rfl (by kernel_rfl) (fun _ _ _ h => h) (Or.inl ⟨by rfl, fun u hu => by obtain ⟨h1, h2, h3, h4⟩ := hu; go_simp⟩) hHeld ?_
    dsimp only [Act.put]
    refine wpAnyL_take (i := 5) (v := .int .i64 (n : Int)) (C := [5, 6, 7, 10, 11, 12]) rfl (by kernel_rfl) (fun _ _ _ h => h) (Or.inl ⟨by rfl, fun _ _ => by go_simp⟩) hHeld ?_
    dsimp only [Act.put]
    refine wpAnyL_take (i := 6) (v := .pointer (some ⟨R, n * 3, none⟩)) (C := [6, 7, 10, 11, 12]) rfl (by kernel_rfl) (fun _ _ _ h => h) (Or.inl ⟨by rfl, fun _ _ => by go_simp; intro hq; exact absurd hq (by omega)⟩) hHeld ?_
    dsimp only [Act.put]
    refine wpAnyL_take (i := 7) (v := .agg #[.int .i64 mk, .slice p bl.length c, .slice q dt.length d]) (C := [7, 10, 11, 12]) rfl (by kernel_rfl) (fun _ _ _ h => h) (Or.inl ⟨by rfl, fun u hu => by obtain ⟨h1, h2, h3, h4⟩ := hu; go_simp⟩) hHeld ?_
    dsimp only [Act.put]
    refine wpAnyL_take (i := 8) (v := .int .i64 b) (C := [8, 10, 11, 12]) rfl (by kernel_rfl) (fun _ _ _ h => h) (Or.inl ⟨by rfl, fun _ _ => by go_simp⟩) hHeld ?_
    dsimp only [Act.put]
    refine wpAnyL_take (i := 9) (v := .string s) (C := [9, 10, 11, 12]) rfl (by kernel_rfl) (fun _ _ _ h => h) (Or.inl ⟨by rfl, fun _ _ => by go_simp⟩) hHeld ?_
    dsimp only [Act.put]
    refine wpAnyL_one (i := 10) (by kernel_rfl) rfl (fun K hK => ?_)
    rw [if_pos (by rfl)]
    go_simp
    go_wp2_with (go_at_call 25; refine (HPUT.out _ (HRK.out _ g0)).mono ?_; rintro e w5 ⟨p1, c1, p2, c2, rfl, oI, oS, g5, oP, oQ, k1, k2⟩)
    have hszw := g5.size
    have B6 := B5.on g5
    have X6 : w5.heap[w3.heap.size]? = some (.cells #[.slice (some ⟨R, 0, none⟩) (n + 1) cv] 28) := (g5.block _ (by have := HDZ.out; omega)).trans X5
    have g6 := g0.trans (g5.mono (by have := HDZ.out; omega))
    have K6 := HRK.out _ g6
    have hF : LyFit R (y, ⟨p1, c1, 0, p2, c2, 0⟩) w5 := HFIT.out Wd w5 p1 c1 p2 c2 (by have := HDZ.out; omega) oI oS oP oQ k1 k2
    obtain ⟨r6, rf6, rx6⟩ := HCELL.out _ K6
    have hT5 := HT.out _ X6 r6
    refine hK.out _ _ (fun _ => hT5) ?_
    clear hK K hHeld
    have hHeld := hT5
    try dsimp only [Act.put]
    refine wpAnyL_take (i := 11) (v := .pointer (some ⟨R, n * 3, none⟩)) (C := [11, 12]) rfl (by kernel_rfl) (fun _ _ _ h => h) (Or.inl ⟨by rfl, fun _ _ => by go_simp; intro hq; exact absurd hq (by omega)⟩) hHeld ?_
    dsimp only [Act.put]
    obtain ⟨q1, q2, q3, q4⟩ := hT5
    obtain ⟨f1, f2, f3⟩ := rf6
    have HP := hid (rx6 _ hF)
    have hX8 : (((w5.setCell ⟨R, n * 3, none⟩ (.int .i64 y.mark)).setCell ⟨R, n * 3 + 1, none⟩ (.slice p1 y.bl.length c1)).setCell ⟨R, n * 3 + 2, none⟩ (.slice p2 y.dt.length c2)).heap[w3.heap.size]? = some (.cells #[.slice (some ⟨R, 0, none⟩) (n + 1) cv] 28) := (keepB _ _ _ _ _ (by omega)).trans ((keepB _ _ _ _ _ (by omega)).trans ((keepB _ _ _ _ _ (by omega)).trans X6))
    have HB8 : Hid (B2 w (.slice a (n + 1) cap) (((w5.setCell ⟨R, n * 3, none⟩ (.int .i64 y.mark)).setCell ⟨R, n * 3 + 1, none⟩ (.slice p1 y.bl.length c1)).setCell ⟨R, n * 3 + 2, none⟩ (.slice p2 y.dt.length c2))) := ⟨setB (setB (setB B6.below R _ (by omega) _) R _ (by omega) _) R _ (by omega) _, (keepB _ _ _ _ _ (by omega)).trans ((keepB _ _ _ _ _ (by omega)).trans ((keepB _ _ _ _ _ (by omega)).trans B6.x)), (keepB _ _ _ _ _ (by omega)).trans ((keepB _ _ _ _ _ (by omega)).trans ((keepB _ _ _ _ _ (by omega)).trans B6.z))⟩
    have HX8 := hid hX8
    clear hX8 oI oS oP oQ k1 k2 hF rx6 K6 X6 B6 g5 g6
    generalize y.mark = ym at *
    generalize y.bl.length = yb at *
    generalize y.dt.length = yd at *
    refine wpAnyL_one (i := 12) (by kernel_rfl) rfl (fun K hK => ?_)
    rw [if_pos (by rfl)]
    go_simp
    refine hK.out _ _ (fun h => absurd rfl h) ?_
    clear hK K hHeld
    refine wpAnyL_done (by kernel_rfl) ?_
    generalize ((w5.setCell ⟨R, n * 3, none⟩ (.int .i64 ym)).setCell ⟨R, n * 3 + 1, none⟩ (.slice p1 yb c1)).setCell ⟨R, n * 3 + 2, none⟩ (.slice p2 yd c2) = W7 at *
    go_wp2_with fail
    go_meet
    case rel => exact ⟨_, HMAP.out _, HP.out, HX8.out, HB8.out⟩
  case rest =>
    obtain ⟨X, hXm, hXr, hq, hb⟩ := hcut
    obtain ⟨hs40, hs41, hs42, hs43⟩ := HSZ.out
    have hXl : X.length = n + 1 := by have := congrArg List.length hXm; rw [List.length_map, List.length_append, HNN.out] at this; exact this
    have hy1 := hXr.ys
    rw [hXm] at hy1
    have HY9 := hid (ys_set hy1 hb.z (.slice (some ⟨R, 0, none⟩) (n + 1) cv))
    have HB9 := hid (setB hb.below (w.heap.size + 1) 0 (by omega) (.slice (some ⟨R, 0, none⟩) (n + 1) cv))
    obtain ⟨-, z0, f0⟩ := hb.cells
    have x8 : wc.cell? ⟨w3.heap.size, 0, none⟩ = some (.slice (some ⟨R, 0, none⟩) (n + 1) cv) := box_cell hq 0
    have e0 : (wc.setCell ⟨w.heap.size + 1, 0, none⟩ (.slice (some ⟨R, 0, none⟩) (n + 1) cv)).cell? ⟨w.heap.size + 1, 0, none⟩ = some (.slice (some ⟨R, 0, none⟩) (n + 1) cv) := World.cell?_setCell_same _ _ _ z0
    clear hXm hXr hq hb hy1 HPUT HFIT HCELL HRK HB4 HX4 HMAP
    go_wp2_with fail
    generalize wc.setCell ⟨w.heap.size + 1, 0, none⟩ (.slice (some ⟨R, 0, none⟩) (n + 1) cv) = ZZ at *
    refine bodyPost_ret (v := .tuple #[.agg #[.slice (some ⟨R, 0, none⟩) (n + 1) cv], .bool true]) (by simp [results, Try.results7, go_sem, e0]) rfl ?_
    rw [HOY.out]
    refine ⟨some ⟨R, 0, none⟩, cv, ?_, HY9.out, HB9.out⟩
    have : ((some (S0 ++ [y])).getD []).length = n + 1 := by rw [Option.getD_some, List.length_append, HNN.out]; rfl
    rw [this]
    rfl
end Go.Proofs.Ytddkfaoopejjiaa
