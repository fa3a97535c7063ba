/- Walks of the model's CrashDevice. -/
import Derived.Test.YteofdaecknlkdaaCrash0
import Derived.Deep.RegionHeld
namespace Go.Proofs.Yteofdaecknlkdaa
set_option maxRecDepth 100000
open Go.ChangeShapes Go.WideShapes Go.ChangeAt Go.RowKit
set_option maxHeartbeats 1000000 in
theorem crash_no (a ka : Option Addr) (cap kc : Nat) (zs : List Zn) (ks : List Int) (w : World) (hn : zs.length ≤ 1048576) (hZ : Zs w.heap.size a zs w) (h : ¬ (goodD zs = true ∧ ks.length = zs.length)) :
    Calls Try.prog 28 #[.agg #[.slice a zs.length cap], .slice ka ks.length kc] w fun e w' => e = .returned (.tuple #[.agg #[.slice none 0 0], .bool false]) ∧ Below w.heap.size w w' := by
  have HZ : Hid (∀ w', Below w.heap.size w w' → Zs w'.heap.size a zs w') := fun w' g => (hZ.below g).mono g.size
  clear hZ
  go_enter Try.func28, Try.ntmps28
  go_wp2_with fail
  refine (good_any a cap zs _ hn (HZ.out _ (((Below.refl _ _).alloc (Nat.le_refl _) _).alloc (by simp) _))).mono ?_
  rintro e w1 ⟨rfl, b1⟩
  have hk2 : w1.heap[w.heap.size + 1]? = some (.cells #[.slice none 0 0] 25) := by
    rw [b1.block (w.heap.size + 1) (by simp)]; exact heap_last2 _ _ _
  have hd : w1.cell? ⟨w.heap.size, 0, none⟩ = some (.slice a zs.length cap) := by
    rw [b1.cell (p := ⟨w.heap.size, 0, none⟩) (by simp; omega)]; go_simp
  have HB2 : Hid (Below w.heap.size w w1) := (((Below.refl _ _).alloc (Nat.le_refl _) _).alloc (by simp) _).trans (b1.mono (by simp; omega))
  have hq : w1.cell? ⟨w.heap.size + 1, 0, none⟩ = some (.slice none 0 0) := by unfold World.cell?; rw [hk2]; rfl
  have hf : w1.frozen? ⟨w.heap.size + 1, 0, none⟩ = false := by unfold World.frozen?; rw [hk2]; rfl
  clear b1 hk2
  cases hg : goodD zs
  · clear h hg
    go_wp2
    refine bodyPost_ret (v := .tuple #[.agg #[.slice none 0 0], .bool false]) (by simp [results, Try.results28, go_sem, hq]) rfl ⟨rfl, ?_⟩
    exact HB2.out.setCell (by show w.heap.size ≤ w.heap.size + 1; omega) _
  · have hne : ks.length ≠ zs.length := fun e => h ⟨hg, e⟩
    have hb : ((ks.length : Int) != (zs.length : Int)) = true := by rw [bne_iff_ne]; omega
    clear h hg
    go_wp2
    all_goals
      first
        | exact absurd ‹_› hne
        | (refine bodyPost_ret (v := .tuple #[.agg #[.slice none 0 0], .bool false]) (by simp [results, Try.results28, go_sem, hq]) rfl ⟨rfl, ?_⟩; exact HB2.out.setCell (by show w.heap.size ≤ w.heap.size + 1; omega) _)
set_option maxHeartbeats 40000000 in
theorem crash_go (a ka : Option Addr) (cap kc : Nat) (zs : List Zn) (ks : List Int) (gd : Bool) (w : World) (hZ : Zs w.heap.size a zs w) (hI : Is w.heap.size ka ks w) (hg : goodD zs = true) (hlen : ks.length = zs.length) (hgd : (okL zs ks && goodD (crashV zs ks)) = gd) :
    Calls Try.prog 28 #[.agg #[.slice a zs.length cap], .slice ka ks.length kc] w fun e w' => (∃ b c, if gd = true then e = .returned (.tuple #[.agg #[.slice b zs.length c], .bool true]) ∧ Own w.heap.size w'.heap.size b (crashV zs ks) w' else e = .returned (.tuple #[.agg #[.slice none 0 0], .bool false])) ∧ Below w.heap.size w w' := by
  have hl := goodD_len hg
  have hn : zs.length ≤ 1048576 := by omega
  have hVl := crashV_len zs ks
  obtain ⟨V, hV⟩ : ∃ V, V = crashV zs ks := ⟨_, rfl⟩
  rw [← hV] at hgd hVl ⊢
  have HVA : Hid (∀ i (h : i < zs.length) (h2 : i < ks.length) (h3 : i < V.length), V[i] = crashZ zs[i] ks[i]) := fun i h h2 h3 => by subst hV; exact crashV_at zs ks i h h2 h3
  have HZ : Hid (∀ w', Below w.heap.size w w' → Zs w'.heap.size a zs w') := fun w' g => (hZ.below g).mono g.size
  have HI : Hid (Is w.heap.size ka ks w) := hI
  have HT : Hid (goodD zs = true) := hg
  have HGD : Hid ((okL zs ks && goodD V) = gd) := hgd
  clear hZ hI hg hV hgd
  go_enter Try.func28, Try.ntmps28
  go_wp2_with fail
  refine (good_any a cap zs _ hn (HZ.out _ (((Below.refl _ _).alloc (Nat.le_refl _) _).alloc (by simp) _))).mono ?_
  rintro e w1 ⟨rfl, b1⟩
  rw [HT.out]
  have HB1 : Hid (Below w.heap.size w w1) := (((Below.refl _ _).alloc (Nat.le_refl _) _).alloc (by simp) _).trans (b1.mono (by simp; omega))
  have HK1 : Hid (w1.heap[w.heap.size + 1]? = some (.cells #[.slice none 0 0] 25)) := by
    show w1.heap[w.heap.size + 1]? = _
    rw [b1.block (w.heap.size + 1) (by simp)]; exact heap_last2 _ _ _
  have hd : w1.cell? ⟨w.heap.size, 0, none⟩ = some (.slice a zs.length cap) := by
    rw [b1.cell (p := ⟨w.heap.size, 0, none⟩) (by simp; omega)]; go_simp
  have hs1 := b1.size
  rw [heap_size, heap_size] at hs1
  clear b1
  rw [hlen]
  go_wp2_with fail
  refine (own_any a cap zs _ (by omega) hn (HZ.out _ HB1.out)).mono ?_
  rintro e w3 ⟨R, c, hR, rfl, hrow, b3⟩
  have hs3 := b3.size
  have HROW : Hid (ZRow R zs w3) := hrow
  have HB3 : Hid (Below w.heap.size w w3) := HB1.out.trans (b3.mono HB1.out.size)
  have HK3 : Hid (w3.heap[w.heap.size + 1]? = some (.cells #[.slice none 0 0] 25)) := by
    show w3.heap[w.heap.size + 1]? = _
    rw [b3.block _ (by omega)]; exact HK1.out
  have hltR := hrow.lt
  clear hrow b3 HB1 HK1 hd
  have HL3 : Hid (Loc [(w3.heap.size, .slice (some ⟨R, 0, none⟩) zs.length c, 25), (w.heap.size + 1, .slice none 0 0, 25)] (w3.alloc (.cells #[.slice (some ⟨R, 0, none⟩) zs.length c] 25))) := (Loc.cons HK3.out (Loc.nil w3)).alloc _ _
  clear HK3
  go_wp2
  go_loopw [26] (fun i wr => ∃ k : Nat, k ≤ zs.length ∧ i = .int .i64 k ∧ (∀ j (hj : j < zs.length) (hj2 : j < ks.length), j < k → okZ zs[j] ks[j] = true) ∧ ZRow R (mixl V zs k) wr ∧ Below w.heap.size w wr ∧ Loc [(w3.heap.size, .slice (some ⟨R, 0, none⟩) zs.length c, 25), (w.heap.size + 1, .slice none 0 0, 25)] wr) (fun i _ => zs.length - (intOf i).toNat)
  case atStart => exact ⟨0, Nat.zero_le _, rfl, fun _ _ _ h => absurd h (Nat.not_lt_zero _), by rw [mixl_zero]; exact HROW.out.below ((Below.refl _ _).alloc (Nat.le_refl _) _), HB3.out.alloc HB3.out.size _, HL3.out⟩
  case round =>
    obtain ⟨k, hk, rfl, hoks, hrow, hbel, hloc⟩ := hrel
    have HOKS : Hid (∀ j (hj : j < zs.length) (hj2 : j < ks.length), j < k → okZ zs[j] ks[j] = true) := hoks
    have HROWr : Hid (ZRow R (mixl V zs k) wr) := hrow
    have HBEL : Hid (Below w.heap.size w wr) := hbel
    have HLOC : Hid (Loc [(w3.heap.size, .slice (some ⟨R, 0, none⟩) zs.length c, 25), (w.heap.size + 1, .slice none 0 0, 25)] wr) := hloc
    have q1 := hloc.cell w3.heap.size _ 25 (List.mem_cons_self)
    have l1 := hloc.lt _ (List.mem_cons_self)
    have hltr := hrow.lt
    have hszr := hbel.size
    have hml := mixl_len V zs k hVl
    by_cases hlt : k < zs.length
    · obtain ⟨y0, y1, y2⟩ := hrow.cell k (by omega)
      rw [mixl_at V zs k hVl hlt] at y0 y1 y2
      have f0 := hrow.free (k * 3) (by omega)
      have f1 := hrow.free (k * 3 + 1) (by omega)
      have f2 := hrow.free (k * 3 + 2) (by omega)
      obtain ⟨b2, o2, rfl, hb2, hc2⟩ := HI.out.cell (by omega)
      have hk2 : k < ks.length := by omega
      have x0 := (hbel.cell (p := ⟨b2, o2 + k, none⟩) hb2).trans (hc2 k hk2)
      have hb2r : b2 < wr.heap.size := by omega
      have x1 : ∀ o : Obj, (wr.alloc o).cell? ⟨b2, o2 + k, none⟩ = some (.int .i64 ks[k]) := fun o => (World.cell?_alloc_lt _ _ _ hb2r).trans x0
      have hgz : goodZ zs[k] = true := goodD_at HT.out k hlt
      have hgz' : zs[k].data.size ≤ 60 ∧ 0 ≤ zs[k].sure ∧ zs[k].sure ≤ zs[k].data.size ∧ (zs[k].data.size = 60 → zs[k].full = true) := of_decide_eq_true hgz
      have HSET : Hid (∀ v, ZRow R (mixl V zs k) v → ZRow R (mixl V zs (k + 1)) (((v.setCell ⟨R, k * 3, none⟩ (.string (zs[k].data.extract 0 ks[k].toNat))).setCell ⟨R, k * 3 + 1, none⟩ (.int .i64 ks[k])).setCell ⟨R, k * 3 + 2, none⟩ (.bool (zs[k].full && (ks[k] == (zs[k].data.size : Int)))))) := fun v hv => by
        have := hv.set k (by omega) (crashZ zs[k] ks[k])
        rw [← HVA.out k hlt hk2 (by omega), mixl_set V zs k hVl hlt (by omega), HVA.out k hlt hk2 (by omega)] at this
        exact this
      have HBAD : Hid (okZ zs[k] ks[k] = false → gd = false) := fun hb => by
        rw [← HGD.out, okL_bad hlt hk2 hb]; rfl
      have HOK1 : Hid (okZ zs[k] ks[k] = true → ∀ j (hj : j < zs.length) (hj2 : j < ks.length), j < k + 1 → okZ zs[j] ks[j] = true) := fun h j hj hj2 hjk => by
        by_cases e : j = k
        · subst e; exact h
        · exact HOKS.out j hj hj2 (by omega)
      have hov : okZ zs[k] ks[k] = (decide (zs[k].sure ≤ ks[k]) && decide (ks[k] ≤ (zs[k].data.size : Int))) := rfl
      clear hrow hbel hloc hc2 hoks hgz HOKS
      generalize okZ zs[k] ks[k] = okk at *
      generalize zs[k].data = dd at *
      generalize zs[k].sure = ss at *
      generalize zs[k].full = ff at *
      generalize ks[k] = n at *
      by_cases g : ss ≤ n ∧ n ≤ (dd.size : Int)
      · have HOK2 : Hid (∀ j (hj : j < zs.length) (hj2 : j < ks.length), j < k + 1 → okZ zs[j] ks[j] = true) := HOK1.out (by rw [hov]; simp [g.1, g.2])
        obtain ⟨g1, g2⟩ := g
        have hcut := fun v => cut_to dd n v (by omega) g2
        clear hov HOK1 HBAD
        have n1 : b2 ≠ R := by omega
        have n2 : wr.heap.size ≠ R := by omega
        have n3 : w3.heap.size ≠ R := by omega
        have hsz4 : ∀ v0 v1 v2 : Value, (((wr.setCell ⟨R, k * 3, none⟩ v0).setCell ⟨R, k * 3 + 1, none⟩ v1).setCell ⟨R, k * 3 + 2, none⟩ v2).heap.size = wr.heap.size := fun v0 v1 v2 => by simp [World.setCell]
        have k1 : ∀ (v0 v1 v2 : Value) (o : Obj), ((((wr.setCell ⟨R, k * 3, none⟩ v0).setCell ⟨R, k * 3 + 1, none⟩ v1).setCell ⟨R, k * 3 + 2, none⟩ v2).alloc o).cell? ⟨b2, o2 + k, none⟩ = some (.int .i64 n) := fun v0 v1 v2 o => by
          rw [World.cell?_alloc_lt _ _ _ (by rw [hsz4]; exact hb2r)]
          exact ((Below.refl R wr).setCell (Nat.le_refl _) _ |>.setCell (Nat.le_refl _) _ |>.setCell (Nat.le_refl _) _ |>.cell (p := ⟨b2, o2 + k, none⟩) (by show b2 < R; omega)).trans x0
        have k3 : ∀ (v0 v1 v2 : Value) (o : Obj), ((((wr.setCell ⟨R, k * 3, none⟩ v0).setCell ⟨R, k * 3 + 1, none⟩ v1).setCell ⟨R, k * 3 + 2, none⟩ v2).alloc o).cell? ⟨w3.heap.size, 0, none⟩ = some (.slice (some ⟨R, 0, none⟩) zs.length c) := fun v0 v1 v2 o => by
          rw [World.cell?_alloc_lt _ _ _ (by rw [hsz4]; exact l1)]
          unfold World.cell?
          rw [Below.heap_setCell _ _ _ _ n3, Below.heap_setCell _ _ _ _ n3, Below.heap_setCell _ _ _ _ n3]
          have := q1
          unfold World.cell? at this
          exact this
        have k2 : ∀ (v0 v1 v2 z0 z1 z2 : Value) (T : TypeId) (i : Nat), ((((wr.setCell ⟨R, k * 3, none⟩ v0).setCell ⟨R, k * 3 + 1, none⟩ v1).setCell ⟨R, k * 3 + 2, none⟩ v2).alloc (.cells #[z0, z1, z2] T)).cell? ⟨wr.heap.size, i, none⟩ = #[z0, z1, z2][i]? := fun v0 v1 v2 z0 z1 z2 T i => by
          have := World.cell?_alloc_new (((wr.setCell ⟨R, k * 3, none⟩ v0).setCell ⟨R, k * 3 + 1, none⟩ v1).setCell ⟨R, k * 3 + 2, none⟩ v2) #[z0, z1, z2] T i
          rw [hsz4] at this
          exact this
        go_wp2_with fail
        go_region_held (fun v => v.cell? ⟨b2, o2 + k, none⟩ = some (.int .i64 n) ∧ v.cell? ⟨wr.heap.size, 0, none⟩ = some (.string dd) ∧ v.cell? ⟨wr.heap.size, 1, none⟩ = some (.int .i64 ss)) (go_keep) (first | (go_at_call 39; refine (l1In_yes _ _ _ _ g1 g2).mono ?_; rintro e w9 ⟨rfl, rfl⟩))
        all_goals
          cases ff
          · go_wp2_with fail
            go_region
            all_goals
              go_wp2
              go_roundw
              · refine ⟨k + 1, by omega, by go_num, HOK2.out, ?_, ?_, ?_⟩
                · exact ((HSET.out _ HROWr.out).below ((Below.refl _ _).alloc (Nat.le_refl _) _)).drew.drew
                · exact (((((HBEL.out.setCell (by show w.heap.size ≤ R; omega) _).setCell (by show w.heap.size ≤ R; omega) _).setCell (by show w.heap.size ≤ R; omega) _).alloc (by rw [hsz4]; omega) _).drew).drew
                · exact (((HLOC.out.set R _ _ (by simp; omega)).set R _ _ (by simp; omega)).set R _ _ (by simp; omega)).below (((Below.refl _ _).alloc (Nat.le_refl _) _).drew).drew
              · simp [intOf]; omega
          · go_wp2_with fail
            go_region_held (fun v => v.cell? ⟨b2, o2 + k, none⟩ = some (.int .i64 n) ∧ v.cell? ⟨wr.heap.size, 0, none⟩ = some (.string dd) ∧ v.cell? ⟨wr.heap.size, 2, none⟩ = some (.bool true) ∧ v.cell? ⟨w3.heap.size, 0, none⟩ = some (.slice (some ⟨R, 0, none⟩) zs.length c)) (first | go_keep | (simp [k1, k2, k3])) (fail)
            all_goals
              go_wp2
              go_roundw
              · refine ⟨k + 1, by omega, by go_num, HOK2.out, ?_, ?_, ?_⟩
                · exact ((HSET.out _ HROWr.out).below ((Below.refl _ _).alloc (Nat.le_refl _) _)).drew.drew
                · exact (((((HBEL.out.setCell (by show w.heap.size ≤ R; omega) _).setCell (by show w.heap.size ≤ R; omega) _).setCell (by show w.heap.size ≤ R; omega) _).alloc (by rw [hsz4]; omega) _).drew).drew
                · exact (((HLOC.out.set R _ _ (by simp; omega)).set R _ _ (by simp; omega)).set R _ _ (by simp; omega)).below (((Below.refl _ _).alloc (Nat.le_refl _) _).drew).drew
              · simp [intOf]; omega
      · have hgf : gd = false := HBAD.out (by rw [hov]; rw [Bool.and_eq_false_iff]; by_cases h1 : ss ≤ n
                                              · exact Or.inr (decide_eq_false (fun h2 => g ⟨h1, h2⟩))
                                              · exact Or.inl (decide_eq_false h1))
        subst hgf
        have hout : n < ss ∨ (dd.size : Int) < n := by omega
        have hk5 := HLOC.out (w.heap.size + 1, .slice none 0 0, 25) (by simp)
        have hq : ∀ o : Obj, (wr.alloc o).cell? ⟨w.heap.size + 1, 0, none⟩ = some (.slice none 0 0) := fun o => by
          unfold World.cell?
          rw [Below.heap_alloc _ _ _ (by show w.heap.size + 1 < _; omega), hk5]; rfl
        have hf : ∀ o : Obj, (wr.alloc o).frozen? ⟨w.heap.size + 1, 0, none⟩ = false := fun o => by
          unfold World.frozen?
          rw [Below.heap_alloc _ _ _ (by show w.heap.size + 1 < _; omega), hk5]; rfl
        clear hov HOK1 HBAD hk5 HSET
        go_wp2_with fail
        go_region_held (fun v => v.cell? ⟨b2, o2 + k, none⟩ = some (.int .i64 n) ∧ v.cell? ⟨wr.heap.size, 0, none⟩ = some (.string dd) ∧ v.cell? ⟨wr.heap.size, 1, none⟩ = some (.int .i64 ss)) (go_keep) (first | (go_at_call 39; refine (l1In_no _ _ _ _ hout).mono ?_; rintro e w9 ⟨rfl, rfl⟩))
        all_goals
          go_wp2
          refine bodyPost_ret (v := .tuple #[.agg #[.slice none 0 0], .bool false]) (by simp [results, Try.results28, go_sem, hq]) rfl ?_
          have hB : ∀ (o : Obj) (v : Value), Below w.heap.size w ((wr.alloc o).setCell ⟨w.heap.size + 1, 0, none⟩ v).drew := fun o v => ((HBEL.out.alloc hszr o).setCell (by show w.heap.size ≤ w.heap.size + 1; omega) v).drew
          first
            | exact ⟨⟨none, 0, rfl⟩, hB _ _⟩
            | exact ⟨⟨none, rfl⟩, hB _ _⟩
            | exact ⟨rfl, hB _ _⟩
            | exact hB _ _
            | simpa using hB _ _
    · obtain rfl : k = zs.length := by omega
      have hall : okL zs ks = true := okL_all hlen (fun i hi hk' => hoks i hi hk' hi)
      have hg2 : goodD V = gd := by rw [← HGD.out, hall, Bool.true_and]
      have HG2 : Hid (goodD V = gd) := hg2
      rw [mixl_end V zs _ hVl (Nat.le_refl _)] at HROWr
      have HCALL : Hid (∀ v, ZRow R V v → Calls Try.prog 48 #[.agg #[.slice (some ⟨R, 0, none⟩) zs.length c]] v fun e w' => (e = if gd = true then .returned (.tuple #[.agg #[.slice (some ⟨R, 0, none⟩) zs.length c], .bool true]) else .returned (.tuple #[.agg #[.slice none 0 0], .bool false])) ∧ ZRow R V w' ∧ Below v.heap.size v w') := fun v hv => by
        have := tell_any R c V gd v (by omega) hv hg2
        rw [hVl] at this
        exact this
      clear hrow hbel hoks hall hg2
      have hk5 := hloc (w.heap.size + 1, .slice none 0 0, 25) (by simp)
      have l2 := hloc.lt (w.heap.size + 1, .slice none 0 0, 25) (by simp)
      clear hloc
      go_wp2_with fail
      refine (HCALL.out _ HROWr.out).mono ?_
      rintro e w6 ⟨rfl, hzr, b6⟩
      have hk6 : w6.heap[w.heap.size + 1]? = some (.cells #[.slice none 0 0] 25) := (b6.block _ l2).trans hk5
      have hq : w6.cell? ⟨w.heap.size + 1, 0, none⟩ = some (.slice none 0 0) := by unfold World.cell?; rw [hk6]; rfl
      have hf : w6.frozen? ⟨w.heap.size + 1, 0, none⟩ = false := by unfold World.frozen?; rw [hk6]; rfl
      have HZR : Hid (ZRow R V w6) := hzr
      have HB6 : Hid (Below w.heap.size w w6) := HBEL.out.trans (b6.mono HBEL.out.size)
      clear hzr b6 hk5 hk6
      cases gd
      · rw [if_neg (by decide)]
        go_wp2
        refine bodyPost_ret (v := .tuple #[.agg #[.slice none 0 0], .bool false]) (by simp [results, Try.results28, go_sem, hq]) rfl ?_
        have hB : Below w.heap.size w (w6.setCell ⟨w.heap.size + 1, 0, none⟩ (.slice none 0 0)) := HB6.out.setCell (by show w.heap.size ≤ w.heap.size + 1; omega) _
        first
          | exact ⟨⟨none, 0, rfl⟩, hB⟩
          | exact hB
          | simpa using hB
      · rw [if_pos rfl]
        go_wp2
        refine bodyPost_ret (v := .tuple #[.agg #[.slice (some ⟨R, 0, none⟩) zs.length c], .bool true]) (by simp [results, Try.results28, go_sem, hq]) rfl ?_
        have hB : Below w.heap.size w (w6.setCell ⟨w.heap.size + 1, 0, none⟩ (.slice (some ⟨R, 0, none⟩) zs.length c)) := HB6.out.setCell (by show w.heap.size ≤ w.heap.size + 1; omega) _
        have hA : ZRow R V (w6.setCell ⟨w.heap.size + 1, 0, none⟩ (.slice (some ⟨R, 0, none⟩) zs.length c)) := HZR.out.same (by simp [World.setCell]) (Below.heap_setCell _ _ _ _ (by show R ≠ w.heap.size + 1; omega))
        have hO : Own w.heap.size (w6.setCell ⟨w.heap.size + 1, 0, none⟩ (.slice (some ⟨R, 0, none⟩) zs.length c)).heap.size (some ⟨R, 0, none⟩) V (w6.setCell ⟨w.heap.size + 1, 0, none⟩ (.slice (some ⟨R, 0, none⟩) zs.length c)) := Or.inr ⟨R, by omega, hA.lt, rfl, hA⟩
        first
          | exact ⟨⟨some ⟨R, 0, none⟩, c, rfl, hO⟩, hB⟩
          | exact ⟨⟨some ⟨R, 0, none⟩, ⟨c, rfl⟩, hO⟩, hB⟩
          | exact ⟨⟨some ⟨R, 0, none⟩, c, by rw [if_pos rfl]; exact ⟨rfl, hO⟩⟩, hB⟩
end Go.Proofs.Yteofdaecknlkdaa
