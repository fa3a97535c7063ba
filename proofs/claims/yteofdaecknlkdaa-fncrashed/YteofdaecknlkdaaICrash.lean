/- Walks of the program's CrashDevice. -/
import Derived.Test.YteofdaecknlkdaaICrashZ
import Derived.Deep.RegionHeld
namespace Go.Proofs.Yteofdaecknlkdaa
set_option maxRecDepth 100000
open Go.ChangeShapes Go.WideShapes Go.ChangeAt Go.RowKit
set_option maxHeartbeats 1000000 in
theorem icrash_no (a ka : Option Addr) (cap kc : Nat) (zs : List Zn) (ks : List Int) (w : World) (hn : zs.length ≤ 1048576) (hZ : Zs w.heap.size a zs w) (h : ¬ (goodD zs = true ∧ ks.length = zs.length)) :
    Calls Try.prog 27 #[.agg #[.slice a zs.length cap], .slice ka ks.length kc] w fun e w' => e = .returned (.tuple #[.agg #[.slice none 0 0], .bool false]) ∧ Below w.heap.size w w' := by
  have HZ : Hid (∀ w', Below w.heap.size w w' → Zs w'.heap.size a zs w') := fun w' g => (hZ.below g).mono g.size
  clear hZ
  go_enter Try.func27, Try.ntmps27
  go_wp2_with fail
  refine (igood_any a cap zs _ hn (HZ.out _ (((Below.refl _ _).alloc (Nat.le_refl _) _).alloc (by simp) _))).mono ?_
  rintro e w1 ⟨rfl, b1⟩
  have hk2 : w1.heap[w.heap.size + 1]? = some (.cells #[.slice none 0 0] 25) := by
    rw [b1.block (w.heap.size + 1) (by simp)]; exact heap_last2 _ _ _
  have hd : w1.cell? ⟨w.heap.size, 0, none⟩ = some (.slice a zs.length cap) := by
    rw [b1.cell (p := ⟨w.heap.size, 0, none⟩) (by simp; omega)]; go_simp
  have HB2 : Hid (Below w.heap.size w w1) := (((Below.refl _ _).alloc (Nat.le_refl _) _).alloc (by simp) _).trans (b1.mono (by simp; omega))
  have hq : w1.cell? ⟨w.heap.size + 1, 0, none⟩ = some (.slice none 0 0) := by unfold World.cell?; rw [hk2]; rfl
  have hf : w1.frozen? ⟨w.heap.size + 1, 0, none⟩ = false := by unfold World.frozen?; rw [hk2]; rfl
  clear b1 hk2
  cases hg : goodD zs
  · clear h hg
    go_wp2
    refine bodyPost_ret (v := .tuple #[.agg #[.slice none 0 0], .bool false]) (by simp [results, Try.results27, go_sem, hq]) rfl ⟨rfl, ?_⟩
    exact HB2.out.setCell (by show w.heap.size ≤ w.heap.size + 1; omega) _
  · have hne : ks.length ≠ zs.length := fun e => h ⟨hg, e⟩
    have hb : ((ks.length : Int) != (zs.length : Int)) = true := by rw [bne_iff_ne]; omega
    clear h hg
    go_wp2
    all_goals
      first
        | exact absurd ‹_› hne
        | (refine bodyPost_ret (v := .tuple #[.agg #[.slice none 0 0], .bool false]) (by simp [results, Try.results27, go_sem, hq]) rfl ⟨rfl, ?_⟩; exact HB2.out.setCell (by show w.heap.size ≤ w.heap.size + 1; omega) _)
set_option maxHeartbeats 40000000 in
theorem icrash_go (a ka : Option Addr) (cap kc : Nat) (zs : List Zn) (ks : List Int) (gd : Bool) (w : World) (hZ : Zs w.heap.size a zs w) (hI : Is w.heap.size ka ks w) (hg : goodD zs = true) (hlen : ks.length = zs.length) (hgd : (okL zs ks && goodD (crashV zs ks)) = gd) :
    Calls Try.prog 27 #[.agg #[.slice a zs.length cap], .slice ka ks.length kc] w fun e w' => (∃ b c, if gd = true then e = .returned (.tuple #[.agg #[.slice b zs.length c], .bool true]) ∧ Own w.heap.size w'.heap.size b (crashV zs ks) w' else e = .returned (.tuple #[.agg #[.slice none 0 0], .bool false])) ∧ Below w.heap.size w w' := by
  have hl := goodD_len hg
  have hn : zs.length ≤ 1048576 := by omega
  have hVl := crashV_len zs ks
  obtain ⟨V, hV⟩ : ∃ V, V = crashV zs ks := ⟨_, rfl⟩
  rw [← hV] at hgd hVl ⊢
  have HVA : Hid (∀ i (h : i < zs.length) (h2 : i < ks.length) (h3 : i < V.length), V[i] = crashZ zs[i] ks[i]) := fun i h h2 h3 => by subst hV; exact crashV_at zs ks i h h2 h3
  have HZ : Hid (∀ w', Below w.heap.size w w' → Zs w'.heap.size a zs w') := fun w' g => (hZ.below g).mono g.size
  have HI : Hid (Is w.heap.size ka ks w) := hI
  have HT : Hid (goodD zs = true) := hg
  have HGD : Hid ((okL zs ks && goodD V) = gd) := hgd
  clear hZ hI hg hV hgd
  go_enter Try.func27, Try.ntmps27
  go_wp2_with fail
  refine (igood_any a cap zs _ hn (HZ.out _ (((Below.refl _ _).alloc (Nat.le_refl _) _).alloc (by simp) _))).mono ?_
  rintro e w1 ⟨rfl, b1⟩
  rw [HT.out]
  have HB1 : Hid (Below w.heap.size w w1) := (((Below.refl _ _).alloc (Nat.le_refl _) _).alloc (by simp) _).trans (b1.mono (by simp; omega))
  have HK1 : Hid (w1.heap[w.heap.size + 1]? = some (.cells #[.slice none 0 0] 25)) := by
    show w1.heap[w.heap.size + 1]? = _
    rw [b1.block (w.heap.size + 1) (by simp)]; exact heap_last2 _ _ _
  have hd : w1.cell? ⟨w.heap.size, 0, none⟩ = some (.slice a zs.length cap) := by
    rw [b1.cell (p := ⟨w.heap.size, 0, none⟩) (by simp; omega)]; go_simp
  have hs1 := b1.size
  rw [heap_size, heap_size] at hs1
  clear b1
  rw [hlen]
  have hmk := make_zones zs.length hn
  have hr0 := fun v => ZRow.made v zs.length
  generalize madeCells (Value.agg #[.string ⟨#[]⟩, .int .i64 0, .bool false]).cells (zs.length * 3) = M at *
  have HRM : Hid (∀ v : World, ZRow v.heap.size (List.replicate zs.length zeroZ) (v.alloc (.cells M 52))) := hr0
  clear hr0
  have hd2 : ∀ o1 o2 : Obj, ((w1.alloc o1).alloc o2).cell? ⟨w.heap.size, 0, none⟩ = some (.slice a zs.length cap) := fun o1 o2 => by
    rw [World.cell?_alloc_lt _ _ _ (by rw [heap_size]; show w.heap.size < _; omega), World.cell?_alloc_lt _ _ _ (by show w.heap.size < _; omega)]; exact hd
  have HL3 : Hid (Loc [(w1.heap.size + 1, .slice (some ⟨w1.heap.size, 0, none⟩) zs.length zs.length, 25), (w.heap.size + 1, .slice none 0 0, 25)] ((w1.alloc (.cells M 52)).alloc (.cells #[.slice (some ⟨w1.heap.size, 0, none⟩) zs.length zs.length] 25))) := by
    have h0 : Loc [(w.heap.size + 1, .slice none 0 0, 25)] w1 := Loc.cons HK1.out (Loc.nil w1)
    have := (h0.below ((Below.refl _ _).alloc (Nat.le_refl _) (.cells M 52))).alloc (.slice (some ⟨w1.heap.size, 0, none⟩) zs.length zs.length) 25
    rw [heap_size] at this
    exact this
  clear HK1
  go_wp2
  go_loopw [29] (fun i wr => ∃ k : Nat, k ≤ zs.length ∧ i = .int .i64 k ∧ (∀ j (hj : j < zs.length) (hj2 : j < ks.length), j < k → okZ zs[j] ks[j] = true) ∧ ZRow w1.heap.size (mixl V (List.replicate zs.length zeroZ) k) wr ∧ Below w.heap.size w wr ∧ Loc [(w1.heap.size + 1, .slice (some ⟨w1.heap.size, 0, none⟩) zs.length zs.length, 25), (w.heap.size + 1, .slice none 0 0, 25)] wr) (fun i _ => zs.length - (intOf i).toNat)
  case atStart => exact ⟨0, Nat.zero_le _, rfl, fun _ _ _ h => absurd h (Nat.not_lt_zero _), by rw [mixl_zero]; exact (HRM.out w1).below ((Below.refl _ _).alloc (Nat.le_refl _) _), (HB1.out.alloc HB1.out.size _).alloc (by have := HB1.out.size; simp; omega) _, HL3.out⟩
  case round =>
    clear hmk HRM hd2 hd
    obtain ⟨k, hk, rfl, hoks, hrow, hbel, hloc⟩ := hrel
    have HOKS : Hid (∀ j (hj : j < zs.length) (hj2 : j < ks.length), j < k → okZ zs[j] ks[j] = true) := hoks
    have HROWr : Hid (ZRow w1.heap.size (mixl V (List.replicate zs.length zeroZ) k) wr) := hrow
    have HBEL : Hid (Below w.heap.size w wr) := hbel
    have HLOC : Hid (Loc [(w1.heap.size + 1, .slice (some ⟨w1.heap.size, 0, none⟩) zs.length zs.length, 25), (w.heap.size + 1, .slice none 0 0, 25)] wr) := hloc
    have q1 := hloc.cell (w1.heap.size + 1) _ 25 (List.mem_cons_self)
    have l1 : w1.heap.size + 1 < wr.heap.size := hloc.lt _ (List.mem_cons_self)
    have hltr := hrow.lt
    have hszr := hbel.size
    have hrl : (List.replicate zs.length zeroZ).length = zs.length := List.length_replicate
    have hml := mixl_len V (List.replicate zs.length zeroZ) k (by omega)
    rw [hrl] at hml
    by_cases hlt : k < zs.length
    · obtain ⟨b, off, rfl, hb, hcells⟩ := (HZ.out w (Below.refl _ _)).cell (by omega)
      obtain ⟨c0, c1, c2⟩ := hcells k hlt
      have hb' : ∀ o, wr.cell? ⟨b, o, none⟩ = w.cell? ⟨b, o, none⟩ := fun o => hbel.cell (p := ⟨b, o, none⟩) hb
      rw [← hb'] at c0 c1 c2
      obtain ⟨y0, y1, y2⟩ := hrow.cell k (by omega)
      have f0 := hrow.free (k * 3) (by omega)
      have f1 := hrow.free (k * 3 + 1) (by omega)
      have f2 := hrow.free (k * 3 + 2) (by omega)
      obtain ⟨b2, o2, rfl, hb2, hc2⟩ := HI.out.cell (by omega)
      have hk2 : k < ks.length := by omega
      have x0 := (hbel.cell (p := ⟨b2, o2 + k, none⟩) hb2).trans (hc2 k hk2)
      have hb2r : b2 < wr.heap.size := by omega
      have x1 : ∀ o : Obj, (wr.alloc o).cell? ⟨b2, o2 + k, none⟩ = some (.int .i64 ks[k]) := fun o => (World.cell?_alloc_lt _ _ _ hb2r).trans x0
      have hgz : goodZ zs[k] = true := goodD_at HT.out k hlt
      have hgz' : zs[k].data.size ≤ 60 ∧ 0 ≤ zs[k].sure ∧ zs[k].sure ≤ zs[k].data.size ∧ (zs[k].data.size = 60 → zs[k].full = true) := of_decide_eq_true hgz
      have HSET : Hid (∀ v, ZRow w1.heap.size (mixl V (List.replicate zs.length zeroZ) k) v → ZRow w1.heap.size (mixl V (List.replicate zs.length zeroZ) (k + 1)) (((v.setCell ⟨w1.heap.size, k * 3, none⟩ (.string (zs[k].data.extract 0 ks[k].toNat))).setCell ⟨w1.heap.size, k * 3 + 1, none⟩ (.int .i64 ks[k])).setCell ⟨w1.heap.size, k * 3 + 2, none⟩ (.bool (zs[k].full && (ks[k] == (zs[k].data.size : Int)))))) := fun v hv => by
        have := hv.set k (by omega) (crashZ zs[k] ks[k])
        rw [← HVA.out k hlt hk2 (by omega), mixl_set V (List.replicate zs.length zeroZ) k (by omega) (by omega) (by omega), HVA.out k hlt hk2 (by omega)] at this
        exact this
      have HBAD : Hid (okZ zs[k] ks[k] = false → gd = false) := fun hb => by
        rw [← HGD.out, okL_bad hlt hk2 hb]; rfl
      have HOK1 : Hid (okZ zs[k] ks[k] = true → ∀ j (hj : j < zs.length) (hj2 : j < ks.length), j < k + 1 → okZ zs[j] ks[j] = true) := fun h j hj hj2 hjk => by
        by_cases e : j = k
        · subst e; exact h
        · exact HOKS.out j hj hj2 (by omega)
      have hov : okZ zs[k] ks[k] = (decide (zs[k].sure ≤ ks[k]) && decide (ks[k] ≤ (zs[k].data.size : Int))) := rfl
      clear hrow hbel hloc hc2 hoks hgz HOKS hcells hb'
      generalize (mixl V (List.replicate zs.length zeroZ) k)[k].data = md at *
      generalize (mixl V (List.replicate zs.length zeroZ) k)[k].sure = ms at *
      generalize (mixl V (List.replicate zs.length zeroZ) k)[k].full = mf at *
      generalize okZ zs[k] ks[k] = okk at *
      generalize zs[k].data = dd at *
      generalize zs[k].sure = ss at *
      generalize zs[k].full = ff at *
      generalize ks[k] = n at *
      by_cases g1 : ss ≤ n
      · have hd1 : decide (n < ss) = false := by simp; omega
        by_cases g2 : n ≤ (dd.size : Int)
        · have hd2 : decide ((dd.size : Int) < n) = false := by simp; omega
          have HOK2 : Hid (∀ j (hj : j < zs.length) (hj2 : j < ks.length), j < k + 1 → okZ zs[j] ks[j] = true) := HOK1.out (by rw [hov]; simp [g1, g2])
          clear hov HOK1 HBAD
          go_wp2_with fail
          first
            | go_region
            | fail
          all_goals
            go_wp2_with fail
            first
              | go_region_with (first | (go_at_call 47; refine (crashZone_any dd ss ff n _ (by omega) g2 (by omega)).mono ?_; rintro e w9 ⟨rfl, b9⟩; have e9 : Below wr.heap.size wr w9 := ⟨b9.os, b9.tape, b9.output, Nat.le_trans (by simp) b9.size, fun j hj => (b9.block j (by simp; omega)).trans (Below.heap_alloc _ _ _ hj)⟩; have t0 := (e9.cell (p := ⟨w1.heap.size, k * 3, none⟩) hltr).trans y0; have t1 := (e9.cell (p := ⟨w1.heap.size, k * 3 + 1, none⟩) hltr).trans y1; have t2 := (e9.cell (p := ⟨w1.heap.size, k * 3 + 2, none⟩) hltr).trans y2; have u0 := (e9.frozen (p := ⟨w1.heap.size, k * 3, none⟩) hltr).trans f0; have u1 := (e9.frozen (p := ⟨w1.heap.size, k * 3 + 1, none⟩) hltr).trans f1; have u2 := (e9.frozen (p := ⟨w1.heap.size, k * 3 + 2, none⟩) hltr).trans f2; have q9 := (e9.cell (p := ⟨w1.heap.size + 1, 0, none⟩) l1).trans q1))
              | fail
            all_goals
              have E9 : Hid (Below wr.heap.size wr w9) := e9
              clear b9 e9
              go_wp2
              go_roundw
              · exact ⟨k + 1, by omega, by go_num, HOK2.out, HSET.out _ (HROWr.out.below E9.out), (((HBEL.out.trans (E9.out.mono hszr)).setCell (by show w.heap.size ≤ w1.heap.size; omega) _).setCell (by show w.heap.size ≤ w1.heap.size; omega) _).setCell (by show w.heap.size ≤ w1.heap.size; omega) _, (((HLOC.out.below E9.out).set w1.heap.size _ _ (by simp; omega)).set w1.heap.size _ _ (by simp; omega)).set w1.heap.size _ _ (by simp; omega)⟩
              · simp [intOf]; omega
        · have hgf : gd = false := HBAD.out (by rw [hov, decide_eq_false g2, Bool.and_false])
          have hd2 : decide ((dd.size : Int) < n) = true := by simp; omega
          subst hgf
          have hk5 := HLOC.out (w.heap.size + 1, .slice none 0 0, 25) (by simp)
          have hq : ∀ o : Obj, (wr.alloc o).cell? ⟨w.heap.size + 1, 0, none⟩ = some (.slice none 0 0) := fun o => by
            unfold World.cell?
            rw [Below.heap_alloc _ _ _ (by show w.heap.size + 1 < _; omega), hk5]; rfl
          have hf : ∀ o : Obj, (wr.alloc o).frozen? ⟨w.heap.size + 1, 0, none⟩ = false := fun o => by
            unfold World.frozen?
            rw [Below.heap_alloc _ _ _ (by show w.heap.size + 1 < _; omega), hk5]; rfl
          clear hov HOK1 HBAD hk5 HSET
          go_wp2_with fail
          first
            | go_region
            | fail
          all_goals
            go_wp2
            refine bodyPost_ret (v := .tuple #[.agg #[.slice none 0 0], .bool false]) (by simp [results, Try.results27, go_sem, hq]) rfl ?_
            have hB : ∀ (o : Obj) (v : Value), Below w.heap.size w ((wr.alloc o).setCell ⟨w.heap.size + 1, 0, none⟩ v).drew := fun o v => ((HBEL.out.alloc hszr o).setCell (by show w.heap.size ≤ w.heap.size + 1; omega) v).drew
            first
              | exact ⟨⟨none, 0, rfl⟩, hB _ _⟩
              | exact ⟨⟨none, rfl⟩, hB _ _⟩
              | exact ⟨rfl, hB _ _⟩
              | exact hB _ _
              | simpa using hB _ _
      · have hgf : gd = false := HBAD.out (by rw [hov, decide_eq_false g1, Bool.false_and])
        have hd1 : decide (n < ss) = true := by simp; omega
        subst hgf
        have hk5 := HLOC.out (w.heap.size + 1, .slice none 0 0, 25) (by simp)
        have hq : ∀ o : Obj, (wr.alloc o).cell? ⟨w.heap.size + 1, 0, none⟩ = some (.slice none 0 0) := fun o => by
          unfold World.cell?
          rw [Below.heap_alloc _ _ _ (by show w.heap.size + 1 < _; omega), hk5]; rfl
        have hf : ∀ o : Obj, (wr.alloc o).frozen? ⟨w.heap.size + 1, 0, none⟩ = false := fun o => by
          unfold World.frozen?
          rw [Below.heap_alloc _ _ _ (by show w.heap.size + 1 < _; omega), hk5]; rfl
        clear hov HOK1 HBAD hk5 HSET
        go_wp2_with fail
        first
          | go_region
          | fail
        all_goals
          go_wp2
          refine bodyPost_ret (v := .tuple #[.agg #[.slice none 0 0], .bool false]) (by simp [results, Try.results27, go_sem, hq]) rfl ?_
          have hB : ∀ (o : Obj) (v : Value), Below w.heap.size w ((wr.alloc o).setCell ⟨w.heap.size + 1, 0, none⟩ v).drew := fun o v => ((HBEL.out.alloc hszr o).setCell (by show w.heap.size ≤ w.heap.size + 1; omega) v).drew
          first
            | exact ⟨⟨none, 0, rfl⟩, hB _ _⟩
            | exact ⟨⟨none, rfl⟩, hB _ _⟩
            | exact ⟨rfl, hB _ _⟩
            | exact hB _ _
            | simpa using hB _ _
    · obtain rfl : k = zs.length := by omega
      have hall : okL zs ks = true := okL_all hlen (fun i hi hk' => hoks i hi hk' hi)
      have hg2 : goodD V = gd := by rw [← HGD.out, hall, Bool.true_and]
      rw [mixl_end V (List.replicate zs.length zeroZ) _ (by omega) (by omega)] at HROWr
      have HCG : Hid (∀ v, ZRow w1.heap.size V v → Calls Try.prog 9 #[.agg #[.slice (some ⟨w1.heap.size, 0, none⟩) zs.length zs.length]] v fun e w' => e = .returned (.bool gd) ∧ ZRow w1.heap.size V w' ∧ Below v.heap.size v w') := fun v hv => by
        have := igood_any (some ⟨w1.heap.size, 0, none⟩) zs.length V v (by omega) (hv.sl hv.lt)
        rw [hVl, hg2] at this
        exact this.mono fun e w' ⟨he, hb⟩ => ⟨he, hv.below hb, hb⟩
      clear hrow hbel hoks hall hg2 hloc
      go_wp2_with fail
      refine (HCG.out _ HROWr.out).mono ?_
      rintro e w5 ⟨rfl, hzr, b5⟩
      have HL5 : Hid (Loc [(w1.heap.size + 1, .slice (some ⟨w1.heap.size, 0, none⟩) zs.length zs.length, 25), (w.heap.size + 1, .slice none 0 0, 25)] w5) := HLOC.out.below b5
      have HZR : Hid (ZRow w1.heap.size V w5) := hzr
      have HB5 : Hid (Below w.heap.size w w5) := HBEL.out.trans (b5.mono HBEL.out.size)
      have hq := HL5.out.cell (w.heap.size + 1) (.slice none 0 0) 25 (by simp)
      have hf := HL5.out.free (w.heap.size + 1) (.slice none 0 0) 25 (by simp)
      have ho := HL5.out.cell (w1.heap.size + 1) (.slice (some ⟨w1.heap.size, 0, none⟩) zs.length zs.length) 25 (by simp)
      clear b5 hzr
      cases gd
      · go_wp2
        refine bodyPost_ret (v := .tuple #[.agg #[.slice none 0 0], .bool false]) (by simp [results, Try.results27, go_sem, hq]) rfl ?_
        have hB : Below w.heap.size w (w5.setCell ⟨w.heap.size + 1, 0, none⟩ (.slice none 0 0)) := HB5.out.setCell (by show w.heap.size ≤ w.heap.size + 1; omega) _
        first
          | exact ⟨⟨none, 0, rfl⟩, hB⟩
          | exact hB
          | simpa using hB
      · go_wp2
        refine bodyPost_ret (v := .tuple #[.agg #[.slice (some ⟨w1.heap.size, 0, none⟩) zs.length zs.length], .bool true]) (by simp [results, Try.results27, go_sem, hq]) rfl ?_
        have hB : Below w.heap.size w (w5.setCell ⟨w.heap.size + 1, 0, none⟩ (.slice (some ⟨w1.heap.size, 0, none⟩) zs.length zs.length)) := HB5.out.setCell (by show w.heap.size ≤ w.heap.size + 1; omega) _
        have hA : ZRow w1.heap.size V (w5.setCell ⟨w.heap.size + 1, 0, none⟩ (.slice (some ⟨w1.heap.size, 0, none⟩) zs.length zs.length)) := HZR.out.same (by simp [World.setCell]) (Below.heap_setCell _ _ _ _ (by show w1.heap.size ≠ w.heap.size + 1; omega))
        have hO : Own w.heap.size (w5.setCell ⟨w.heap.size + 1, 0, none⟩ (.slice (some ⟨w1.heap.size, 0, none⟩) zs.length zs.length)).heap.size (some ⟨w1.heap.size, 0, none⟩) V (w5.setCell ⟨w.heap.size + 1, 0, none⟩ (.slice (some ⟨w1.heap.size, 0, none⟩) zs.length zs.length)) := Or.inr ⟨w1.heap.size, by omega, hA.lt, rfl, hA⟩
        first
          | exact ⟨⟨some ⟨w1.heap.size, 0, none⟩, zs.length, rfl, hO⟩, hB⟩
          | exact ⟨⟨some ⟨w1.heap.size, 0, none⟩, ⟨zs.length, rfl⟩, hO⟩, hB⟩
          | exact ⟨⟨some ⟨w1.heap.size, 0, none⟩, zs.length, by rw [if_pos rfl]; exact ⟨rfl, hO⟩⟩, hB⟩
end Go.Proofs.Yteofdaecknlkdaa
