/- The program's WriteMark: its walk. -/
import Derived.Test.YtlifhakgboekfabKWrP
import Derived.Test.YtlifhakgboekfabKOvV
import Derived.Test.YtlifhakgboekfabKLow
import Derived.Test.YtlifhakgboekfabKSet
namespace Go.Proofs.Ytlifhakgboekfab
set_option maxRecDepth 100000
open Go Go.ChangeShapes Go.WideShapes Go.ChangeAt Go.RowKit Go.Shelf
theorem lyk_of {S0 : List Ly} {z : Ly} (h : GoodK (S0 ++ [z])) : lyOk z := by
  have h1 := (h.2.2 S0.length (by simp)).2.2.2
  have e : (S0 ++ [z])[S0.length]'(by simp) = z := by simp
  rwa [e] at h1
/-- the map of the last layer, a block written: the layer that comes of it -/
theorem layer_wr (z : Ly) (hz : lyOk z) (b : Int) (s : ByteArray) (hs : s.size = 2) (M N : Nat) (D : DataW Unit) (V : World) (hown : V.ownsMap Try.prog 3 keptE M N (D.put (.int .i64 b) (.lit (.string s.data.toList)))) (hT : TellsK D (fun y => atL [z] y 1) (KP [z] (upT [z] 1))) :
    Calls Try.prog 54 #[.int .i64 z.mark, .map (some M)] V fun e w' => ∃ vb vd, e = .returned (.agg #[.int .i64 z.mark, vb, vd]) ∧ w'.ownsRow V.heap.size 3 1 vb (putLy z b s).bl.length (ivals (putLy z b s).bl) ∧ w'.ownsRow V.heap.size 9 1 vd (putLy z b s).dt.length (svals (putLy z b s).dt) ∧ (∀ g, vb.ownBlock = some g → vd.ownBlock ≠ some g) ∧ Below V.heap.size V w' := by
  have hT' : TellsK (D.put (.int .i64 b) (.lit (.string s.data.toList))) (putT z b s) (fun y => y ∈ insU b z.bl) := by
    have hT2 := hT
    rw [atL_one] at hT2
    have h1 := tellsK_put hT2 b s
    have e1 : (fun y => b = y ∨ KP [z] (upT [z] 1) y) = fun y => y ∈ insU b z.bl := by
      funext y
      apply propext
      rw [insU_mem, kp_one]
      exact ⟨fun h => h.imp Eq.symm id, fun h => h.imp Eq.symm id⟩
    rw [e1] at h1
    exact h1
  obtain ⟨k1, k2⟩ := keysK hT' hown (insU b z.bl) (insU_strict b z.bl (rise_pw hz.1)) (fun _ => Iff.rfl)
  have hl := insU_len b z.bl
  have h16 := rise_few hz.1
  have h2 := layerOf_any M N 8000 _ (putT z b s) z.mark V hown hT'.1 (by rw [k2]; omega) (Nat.le_refl _) (fun y => by rw [putT_size hz b hs y]; decide)
  rw [k1] at h2
  have e2 : (putLy z b s).dt.length = (insU b z.bl).length := by simp [putLy]
  rw [e2]
  exact h2
set_option maxHeartbeats 8000000 in
theorem iwrite_any (a : Option Addr) (cap : Nat) (S : List Ly) (b : Int) (s : ByteArray) (w : World) (hcap : S.length ≤ cap) (hf : ∀ k (h : k < S.length), S[k].bl.length ≤ 1048576) (hG : Ys w.heap.size a S w) :
    Calls Try.prog 46 #[.agg #[.slice a S.length cap], .int .i64 b, .string s] w fun e w' => MOut (wrK S b s) w e w' := by
  have HB := hid (B2.start w (.slice a S.length cap))
  have HCG : Hid (∀ v, Below w.heap.size w v → Calls Try.prog 32 #[.agg #[.slice a S.length cap]] v fun e w' => e = .returned (.bool (goodK S)) ∧ Below v.heap.size v w') := fun v g => igoodK_any a cap S v hf ((hG.below g).mono g.size)
  have HY : Hid (Ys w.heap.size a S w) := hG
  have HIB := hid (fun u => isBlock_any b u)
  have HCAP := hid hcap
  have HF := hid hf
  have HMO : Hid (∀ o e w', MOut o w e w' → MOut o w e w') := fun _ _ _ h => h
  clear hG hf hcap
  obtain ⟨o, ho⟩ : ∃ o, wrK S b s = o := ⟨_, rfl⟩
  rw [ho]
  have HO := hid ho
  clear ho
  generalize hW : (w.alloc (.cells #[.slice a S.length cap] 29)).alloc (.cells #[.slice none 0 0] 29) = W at *
  obtain ⟨x0, -, -⟩ := HB.out.cells
  go_enter Try.func46, Try.ntmps46
  go_wp2_with fail
  clear hW
  refine (HCG.out _ HB.out.below).mono ?_
  rintro e w2 ⟨rfl, b2⟩
  have HB2 := hid (HB.out.on b2)
  clear b2 x0 HCG HB
  obtain ⟨x0, z0, f0⟩ := HB2.out.cells
  have HNO : Hid (∀ v, B2 w (.slice a S.length cap) v → ¬ WrOk S b s → ∀ V, V = v.setCell ⟨w.heap.size + 1, 0, none⟩ (.slice none 0 0) → V.cell? ⟨w.heap.size + 1, 0, none⟩ = some (.slice none 0 0) ∧ MOut o w (.returned (.tuple #[.agg #[.slice none 0 0], .bool false])) V) := fun v hv hn V hV => by
    obtain ⟨x1, z1, f1⟩ := hv.cells
    rw [hV, ← HO.out, wrK_no hn]
    exact ⟨World.cell?_setCell_same _ _ _ z1, rfl, setB hv.below (w.heap.size + 1) 0 (by omega) (.slice none 0 0)⟩
  by_cases hg : GoodK S
  case neg =>
    have hg' := goodK_no hg
    obtain ⟨e0, hM⟩ := HNO.out w2 HB2.out (fun h => hg h.1) _ rfl
    have HM := hid hM
    rw [hg']
    clear hg hg' HIB hM
    go_wp2_with fail
    generalize w2.setCell ⟨w.heap.size + 1, 0, none⟩ (.slice none 0 0) = XX at *
    exact bodyPost_ret (v := .tuple #[.agg #[.slice none 0 0], .bool false]) (by simp [results, Try.results46, go_sem, e0]) rfl HM.out
  have HGK := hid hg
  rw [goodK_iff.2 hg]
  clear hg
  go_wp2_with fail
  refine (HIB.out _).mono ?_
  rintro e w3 ⟨rfl, hw3⟩
  rw [hw3]
  clear hw3 HIB
  by_cases hb : 0 ≤ b ∧ b ≤ 15
  case neg =>
    obtain ⟨e0, hM⟩ := HNO.out w2 HB2.out (fun h => hb h.2.1) _ rfl
    have HM := hid hM
    rw [decide_eq_false hb]
    clear hb hM
    go_wp2_with fail
    generalize w2.setCell ⟨w.heap.size + 1, 0, none⟩ (.slice none 0 0) = XX at *
    exact bodyPost_ret (v := .tuple #[.agg #[.slice none 0 0], .bool false]) (by simp [results, Try.results46, go_sem, e0]) rfl HM.out
  have HBK := hid hb
  rw [decide_eq_true hb]
  clear hb
  by_cases hs : s.size = 2
  case neg =>
    obtain ⟨e0, hM⟩ := HNO.out w2 HB2.out (fun h => hs h.2.2) _ rfl
    have HM := hid hM
    have hs' : ¬ (s.size : Int) = 2 := by omega
    clear hM
    go_wp2_with fail
    generalize w2.setCell ⟨w.heap.size + 1, 0, none⟩ (.slice none 0 0) = XX at *
    exact bodyPost_ret (v := .tuple #[.agg #[.slice none 0 0], .bool false]) (by simp [results, Try.results46, go_sem, e0]) rfl HM.out
  have HS2 := hid hs
  clear HNO
  obtain ⟨S0, z, rfl⟩ : ∃ S0 z, S = S0 ++ [z] := by
    rcases List.eq_nil_or_concat S with h | ⟨S0, z, h⟩
    · subst h; have := HGK.out.1; exact absurd this (by simp)
    · exact ⟨S0, z, by simpa using h⟩
  have hlen : (S0 ++ [z]).length = S0.length + 1 := by simp
  have HY2 := hid ((HY.out.below HB2.out.below))
  obtain ⟨B, off, rfl, hB, hmk, hz, hS⟩ := HY2.out.ends
  have HZ := hid hz
  have HS0 := hid hS
  have HSM := hid (good_small HGK.out).ends
  have HLZ := hid (lyk_of HGK.out)
  have HNL : Hid (S0.length ≤ 7) := by show S0.length ≤ 7; have := HGK.out.2.1; omega
  have hw64 : wrap64 (S0.length : Int) = S0.length := by
    have := HNL.out
    unfold wrap64
    omega
  have HYES := hid (wrK_yes (S0 := S0) (z := z) (b := b) (s := s) ⟨HGK.out, HBK.out, HS2.out⟩)
  have hcp : S0.length ≤ cap := by have := HCAP.out; omega
  have hcp1 : S0.length + 1 ≤ cap := by have := HCAP.out; omega
  have hne : ¬ cap = S0.length := by omega
  rw [hlen] at x0
  clear hz hS HY HY2 HF
  go_wp2_with fail
  refine (values_any (some ⟨B, off + S0.length * 3, none⟩) (cap - S0.length) 1 w2).mono ?_
  rintro e w4 ⟨rfl, hw4⟩
  have b4 : Below w2.heap.size w2 w4 := by rw [hw4]; exact boxB _ _
  have hx4 : w4.cell? ⟨w2.heap.size, 0, none⟩ = some (.slice (some ⟨B, off + S0.length * 3, none⟩) 1 (cap - S0.length)) := by rw [hw4]; exact box_cell (heap_last _ _) 0
  have hz4 : w4.heap.size = w2.heap.size + 1 := by rw [hw4]; exact heap_size _ _
  have hbw := HB2.out.size
  have hzz : Ys w4.heap.size (some ⟨B, off + S0.length * 3, none⟩) [z] w4 := (HZ.out.below (b4.mono (by omega))).mono (by omega)
  have HOV := hid (overVK_any w2.heap.size _ (cap - S0.length) [z] w4 (by simp) (by simp) (fun k hk => by
    obtain rfl : k = 0 := by simpa using hk
    exact ⟨by have := rise_few HLZ.out.1; show z.bl.length ≤ _; omega, HLZ.out⟩) (by omega) hx4 hzz)
  have HB4 := hid b4
  have HZ4 := hid hz4
  clear hw4 b4 hx4 hz4 hzz hmk
  go_wp2_with fail
  refine HOV.out.mono ?_
  rintro e w5 ⟨rfl, ⟨D, N, o5, hN, hT⟩, b5⟩
  have hN1 : N < maxLen := by have : [z].length = 1 := rfl; rw [this] at hN; unfold maxLen; omega
  have hwf : (Lit.int .i64 b).wf = true := by have := HBK.out; have h63 : IntKind.i64.min = -9223372036854775808 := rfl; have h64 : IntKind.i64.max = 9223372036854775807 := rfl; simp only [Lit.wf, h63, h64, Bool.and_eq_true, decide_eq_true_eq]; omega
  obtain ⟨w6, hrun, o6, g6⟩ := World.ownsMap.update (w := w5) o5 (Maps.int_keyed Try.underlying3) Try.underlying80 hN1 (Maps.keyOf_int_mk Try.underlying3 hwf) (keptE_mk s)
  have h45 := b5.size
  have B25 : Below w2.heap.size w2 w5 := HB4.out.trans (b5.mono (by have := HZ4.out; omega))
  have B26 : Below w2.heap.size w2 w6 := B25.trans (below_of_grown g6 B25.size (fun k e => by cases e; have := HZ4.out; omega))
  have HB6 := hid (HB2.out.on B26)
  have HBB := hid B26
  have HO6 := hid o6
  have HT6 := hid hT
  have HS6 : Hid (Ys w6.heap.size (some ⟨B, off, none⟩) S0 w6) := (HS0.out.below (B26.mono (by omega))).mono (by have := B26.size; omega)
  have HC6 := hid (copyLayers_any (some ⟨B, off, none⟩) cap S0 w6 HSM.out HS6.out)
  have HM6 : Hid (w4.heap.size < w6.heap.size) := o6.lt
  obtain ⟨x6, z6, f6⟩ := HB6.out.cells
  rw [hlen] at x6
  clear b5 o5 hN hT hN1 hwf o6 g6 h45 B25 B26 HOV HB4 x0 z0 f0 z6 f6
  go_wp2_with fail
  clear hrun
  refine HC6.out.mono ?_
  rintro e w7 ⟨v, L, rfl, hL, hG7, b7⟩
  have HB7 := hid (HB6.out.on b7)
  obtain ⟨x7, -, -⟩ := HB7.out.cells
  rw [hlen] at x7
  have h67 := b7.size
  have hmk7 : w7.cell? ⟨B, off + S0.length * 3, none⟩ = some (.int .i64 z.mark) := by
    obtain ⟨b', off', hbo, _, hc'⟩ := HZ.out (by simp)
    cases hbo
    obtain ⟨p, c, q, d, c0, _⟩ := hc' 0 (by simp)
    have c1 : w2.cell? ⟨B, off + S0.length * 3, none⟩ = some (.int .i64 z.mark) := by simpa using c0
    have h26 := HBB.out.size
    exact (b7.cell (p := ⟨B, off + S0.length * 3, none⟩) (by show B < _; omega)).trans ((HBB.out.cell (p := ⟨B, off + S0.length * 3, none⟩) (by show B < _; omega)).trans c1)
  have HLO := hid (layer_wr z HLZ.out b s HS2.out w4.heap.size (N + 1) D w7 (ownsMap_sameK HO6.out (b7.block _ HM6.out)) HT6.out)
  have HL7 : Hid (L.length = S0.length) := by show _ = _; rw [← hL]; simp
  have HLM := hid hL
  have HG7 := hid hG7
  have HB67 := hid b7
  clear hL hG7 b7 x6 HC6
  go_wp2_with fail
  refine HLO.out.mono ?_
  rintro e w8 ⟨vb, vd, rfl, o8, q8, n8, b8⟩
  obtain ⟨p1, c1, e1⟩ := rw_form o8
  obtain ⟨p2, c2, e2⟩ := rw_form q8
  subst e1 e2
  have b9 := boxB w8 (.cells #[.int .i64 z.mark, .slice p1 (putLy z b s).bl.length c1, .slice p2 (putLy z b s).dt.length c2] 58)
  have hz9 : (w8.alloc (.cells #[.int .i64 z.mark, .slice p1 (putLy z b s).bl.length c1, .slice p2 (putLy z b s).dt.length c2] 58)).heap.size = w8.heap.size + 1 := heap_size _ _
  have hz8 := b8.size
  have hO9 := (ownZ_of o8 q8 n8).on b9 (Nat.le_refl _)
  obtain ⟨v', w10, aa, r10, hG10, gr10, b10⟩ := HG7.out.growZ h67 (b8.trans (b9.mono hz8)) w8.heap.size 1 z.mark p1 p2 (putLy z b s).bl (putLy z b s).dt c1 c2 (heap_last _ _) hO9 (by rw [HL7.out]; have := HNL.out; omega)
  obtain ⟨p, c, rfl, hO10, hc10⟩ := hG10.own
  have hlen10 : (L ++ [((⟨z.mark, (putLy z b s).bl, (putLy z b s).dt⟩ : Ly), aa)]).length = S0.length + 1 := by rw [List.length_append, HL7.out]; rfl
  have hmap : (L ++ [((⟨z.mark, (putLy z b s).bl, (putLy z b s).dt⟩ : Ly), aa)]).map (·.1) = S0 ++ [putLy z b s] := by rw [List.map_append, HLM.out]; rfl
  rw [hlen10] at r10 hc10
  rw [hmap] at hO10
  have HB10 : Hid (B2 w (.slice (some ⟨B, off, none⟩) (S0 ++ [z]).length cap) w10) := by
    have h7 := HB7.out
    have h26 := HBB.out.size
    exact ((h7.on b8).on b9).below.size |> fun _ => ⟨((h7.on b8).on b9).below.trans (b10.mono (by omega)), (b10.block _ (by omega)).trans ((h7.on b8).on b9).x, (b10.block _ (by omega)).trans ((h7.on b8).on b9).z⟩
  have HO10 := hid hO10
  have HC10 := hid hc10
  have hs10 := b10.size
  have H610 : Hid (w.heap.size + 2 ≤ w6.heap.size ∧ w6.heap.size ≤ w10.heap.size) := ⟨by have := HBB.out.size; omega, by omega⟩
  obtain ⟨-, z10, f10⟩ := HB10.out.cells
  have e10 : (w10.setCell ⟨w.heap.size + 1, 0, none⟩ (.slice p (S0.length + 1) c)).cell? ⟨w.heap.size + 1, 0, none⟩ = some (.slice p (S0.length + 1) c) := World.cell?_setCell_same _ _ _ z10
  have HE : Hid (MOut o w (.returned (.tuple #[.agg #[.slice p (S0.length + 1) c], .bool true])) (w10.setCell ⟨w.heap.size + 1, 0, none⟩ (.slice p (S0.length + 1) c))) := by
    show MOut o w _ _
    rw [← HO.out, HYES.out]
    have hl : (S0 ++ [putLy z b s]).length = S0.length + 1 := by simp
    have hz : (w10.setCell ⟨w.heap.size + 1, 0, none⟩ (.slice p (S0.length + 1) c)).heap.size = w10.heap.size := by simp [World.setCell]
    refine ⟨p, c, by rw [hl], ?_, setB HB10.out.below (w.heap.size + 1) 0 (by omega) _, by rw [hl]; exact HC10.out⟩
    exact ((HO10.out.set (w.heap.size + 1) 0 (.slice p (S0.length + 1) c) (Or.inl (by have := H610.out.1; omega))).low (by have := H610.out.1; omega)).high (by omega) (Nat.le_refl _)
  clear o8 q8 n8 b8 b9 hz9 hz8 hO9 hG10 gr10 b10 hO10 hc10 hlen10 hmap hs10 h67 hmk7 x7 hbw
  go_wp2_with (at_builtin; refine wpList_append_run rfl (.tmp 44) (.tmp 53) 27 rfl _ _ rfl rfl _ _ r10 ?_)
  generalize w10.setCell ⟨w.heap.size + 1, 0, none⟩ (.slice p (S0.length + 1) c) = XX at *
  exact bodyPost_ret (v := .tuple #[.agg #[.slice p (S0.length + 1) c], .bool true]) (by simp [results, Try.results46, go_sem, e10]) rfl HE.out
end Go.Proofs.Ytlifhakgboekfab
