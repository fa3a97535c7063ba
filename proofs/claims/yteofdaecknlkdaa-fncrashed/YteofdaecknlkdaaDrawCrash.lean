/- Walk of what is drawn for the law on crashes. -/
import Derived.Test.YteofdaecknlkdaaDraws
import Derived.Test.YteofdaecknlkdaaTells2
namespace Go.Proofs.Yteofdaecknlkdaa
set_option maxRecDepth 100000
open Go.ChangeShapes Go.WideShapes Go.ChangeAt Go.RowKit
theorem Dd.far {D R c N len cap base : Nat} {a : Option Addr} {w0 w w' : World} {zs : List Zn} (h : Dd D R c N len cap a w0 zs w) (g : Below base w w') (hD : D < base) (hR : R < base) : Dd D R c N len cap a w0 zs w' := by
  have h1 := h.ordD
  have h2 := block_lt h.dev
  have hb0 : Below w0.heap.size w w' := g.mono (by omega)
  have hc : ∀ i, w'.cell? ⟨w0.heap.size + 1, i, none⟩ = w.cell? ⟨w0.heap.size + 1, i, none⟩ := fun i => g.cell (p := ⟨_, i, none⟩) (by show w0.heap.size + 1 < base; omega)
  have hf : ∀ i, w'.frozen? ⟨w0.heap.size + 1, i, none⟩ = w.frozen? ⟨w0.heap.size + 1, i, none⟩ := fun i => g.frozen (p := ⟨_, i, none⟩) (by show w0.heap.size + 1 < base; omega)
  obtain ⟨p, p0, p1, hp⟩ := h.cur.place
  obtain ⟨s, s0, s1, hs⟩ := h.cur.seed
  exact ⟨⟨Nat.lt_of_lt_of_le h.cur.lt g.size, (hc 0).trans h.cur.code, ⟨p, p0, p1, (hc 1).trans hp⟩, ⟨s, s0, s1, (hc 2).trans hs⟩, (hf 1).trans h.cur.free1, (hf 2).trans h.cur.free2⟩,
    h.code.below (g.mono (by omega)), h.below.trans hb0, h.ordD, h.ordR, (g.block _ (by omega)).trans h.res, (g.block _ hD).trans h.dev, h.row.same g.size (g.block _ hR)⟩
theorem Dd.on {D R c N len cap : Nat} {a : Option Addr} {w0 w w' : World} {zs : List Zn} (h : Dd D R c N len cap a w0 zs w) (g : Below w.heap.size w w') : Dd D R c N len cap a w0 zs w' := h.far g (block_lt h.dev) h.row.lt
theorem Dd.mono {D R c N M len cap : Nat} {a : Option Addr} {w0 w : World} {zs : List Zn} (h : Dd D R c N len cap a w0 zs w) (hN : N ≤ M) : Dd D R c M len cap a w0 zs w := ⟨h.cur.mono hN, h.code, h.below, h.ordD, h.ordR, h.res, h.dev, h.row⟩
theorem own_but {w w' : World} {base B n s : Nat} {e : TypeId} {v : Value} {xs : List Value} (h : w.ownsRow base e s v n xs) (g : But B w w') (hB : B < base) : w'.ownsRow base e s v n xs :=
  h.kept (row := some B) ⟨g.os, g.tape, g.output, g.size, fun k hk hne => g.block k hk (fun e => hne (by rw [e]))⟩ (by
    cases ho : v.ownBlock with
    | none => exact Or.inl rfl
    | some k =>
      have := (h.lt k ho).1
      exact Or.inr (fun e => by cases e; omega))
set_option maxHeartbeats 4000000 in
theorem drawCrash_any (len cap : Nat) (a : Option Addr) (w : World) (hK : Code w.heap.size len cap a w) :
    Calls Try.prog 26 #[.slice a len cap] w fun e w' => ∃ (zs : List Zn) (R c : Nat) (ks : List Int) (kb : Option Addr) (kc : Nat), e = .returned (.tuple #[.agg #[.slice (some ⟨R, 0, none⟩) zs.length c], .slice kb ks.length kc]) ∧ ks.length = zs.length ∧ ZRow R zs w' ∧ Is w'.heap.size kb ks w' ∧ small 61 zs ∧ Below w.heap.size w w' := by
  obtain ⟨i0, hi, hz0, hz1i, hz2i⟩ := info_parts infoInt
  have HS : Hid (∀ T o, Cur (w.heap.size + 1) 0 (.slice a len cap) ((w.alloc o).alloc (.cells #[.slice a len cap, .int .i64 0, .int .u64 0] T)) ∧ Code (w.heap.size + 1) len cap a ((w.alloc o).alloc (.cells #[.slice a len cap, .int .i64 0, .int .u64 0] T))) := fun T o => start_cur len cap a w T o hK
  have HK : Hid (Code w.heap.size len cap a w) := hK
  clear hK
  go_enter Try.func26, Try.ntmps26
  go_wp2_with fail
  refine (device_any (w.heap.size + 1) 0 len cap a _ (by omega) (HS.out _ _).1 (HS.out _ _).2).mono ?_
  rintro e w1 ⟨zs, R, c, rfl, hR, hrow, hsm, hC, hB⟩
  have hD := start_dd (c := c) HK.out hR hrow hC hB
  have HD : Hid (Dd w1.heap.size R c 200 len cap a w zs (w1.alloc (.cells #[.slice (some ⟨R, 0, none⟩) zs.length c] 25))) := hD
  have HSM : Hid (small 61 zs) := hsm
  have hz1 := hsm.1
  have hz2 := hsm.2.1
  have hcD := (block_cell hD.dev).1
  have HRL : Hid (R < w1.heap.size + 1) := by have := hrow.lt; show R < w1.heap.size + 1; omega
  clear hsm hB hC hrow hR HS HK
  generalize hW2 : w1.alloc (.cells #[.slice (some ⟨R, 0, none⟩) zs.length c] 25) = w2 at HD hcD hD
  generalize hDD : w1.heap.size = D at *
  go_wp2_with fail
  clear hW2 hDD
  go_loopw [6, 18] (fun o i wr => ∃ (k : Nat) (o1 : Value) (ks : List Int), k ≤ zs.length ∧ i = .int .i64 k ∧ o = o1 ∧ ks.length = k ∧ wr.ownsRow (D + 1) 3 1 o1 ks.length (ivals ks) ∧ Dd D R c (200 + 2 * k) len cap a w zs wr) (fun _ i _ => zs.length - (intOf i).toNat)
  case atStart => exact ⟨0, _, [], Nat.zero_le _, rfl, rfl, rfl, World.ownsRow_nil _ _ _ _, HD.out⟩
  case round =>
    obtain ⟨k, o1, ks, hk, rfl, rfl, hks, hown, hD⟩ := hrel
    have HOWN : Hid (wr.ownsRow (D + 1) 3 1 u6 ks.length (ivals ks)) := hown
    have HDr : Hid (Dd D R c (200 + 2 * k) len cap a w zs wr) := hD
    have HKS : Hid (ks.length = k) := hks
    have hkl : ks.length ≤ 6 := by omega
    have hDr : D < wr.heap.size := block_lt hD.dev
    clear hks
    by_cases hlt : k < zs.length
    · obtain ⟨x0, x1, x2⟩ := hD.row.cell k hlt
      obtain ⟨s1, s2, s3⟩ := small_at HSM.out k hlt
      clear hown hD
      generalize zs[k].data = dd at *
      generalize zs[k].sure = ss at *
      generalize zs[k].full = ff at *
      have HDZ : Hid (Dd D R c (200 + 2 * k) len cap a w zs (wr.alloc (.cells #[.string dd, .int .i64 ss, .bool ff] 52))) := HDr.out.on ((Below.refl _ _).alloc (Nat.le_refl _) _)
      have HOWNZ : Hid ((wr.alloc (.cells #[.string dd, .int .i64 ss, .bool ff] 52)).ownsRow (D + 1) 3 1 u6 ks.length (ivals ks)) := HOWN.out.alloc _
      by_cases hle : ss ≤ (dd.size : Int)
      · have hd1 : decide (ss ≤ (dd.size : Int)) = true := by simpa using hle
        have hnB : w.heap.size + 1 < D := HDr.out.ordD
        have HP : Hid (∀ n : Int, 1 ≤ n → n ≤ 100000 → Calls Try.prog 33 #[.pointer (some ⟨w.heap.size + 1, 0, none⟩), .int .i64 n] (wr.alloc (.cells #[.string dd, .int .i64 ss, .bool ff] 52)).drew fun e w5 => ∃ q : Int, e = .returned (.int .i64 q) ∧ 0 ≤ q ∧ q < n ∧ Dd D R c (200 + 2 * (k + 1)) len cap a w zs w5 ∧ w5.ownsRow (D + 1) 3 1 u6 ks.length (ivals ks) ∧ w5.cell? ⟨wr.heap.size, 1, none⟩ = some (.int .i64 ss)) := fun n n1 n2 => by
          refine (pick_any n _ _ len cap a _ n1 n2 (by omega) HDZ.out.drew.cur HDZ.out.drew.code).mono ?_
          rintro e w5 ⟨q, rfl, q0, q1, hC, hB⟩
          refine ⟨q, rfl, q0, q1, HDZ.out.drew.step hC hB, own_but (HOWNZ.out.kept (row := none) ⟨rfl, rfl, rfl, Nat.le_refl _, fun _ _ _ => rfl⟩ (by cases u6.ownBlock <;> simp) : (wr.alloc (.cells #[.string dd, .int .i64 ss, .bool ff] 52)).drew.ownsRow _ _ _ _ _ _) hB (by omega), ?_⟩
          rw [hB.cell wr.heap.size 1 (by show wr.heap.size < (wr.heap.push _).size; simp) (by omega)]
          go_simp
        have hw1 : IntKind.i64.wrap ((dd.size : Int) - ss) = (dd.size : Int) - ss := by rw [IntKind.wrap_i64]; omega
        have hw2 : IntKind.i64.wrap ((dd.size : Int) - ss + 1) = (dd.size : Int) - ss + 1 := by rw [IntKind.wrap_i64]; omega
        go_wp2_with fail
        go_region_held (fun v => v.cell? ⟨wr.heap.size, 1, none⟩ = some (.int .i64 ss)) (go_keep) (first
          | (go_at_call 33
             refine (HP.out _ ?_ ?_).mono ?_
             · omega
             · omega
             rintro e w5 ⟨q, rfl, q0, q1, hD5, hown5, hz5⟩
             have HD5 : Hid (Dd D R c (200 + 2 * (k + 1)) len cap a w zs w5) := hD5
             have hl5 : D < w5.heap.size := block_lt hD5.dev
             have HOWN5 : Hid (w5.ownsRow (D + 1) 3 1 u6 ks.length (ivals ks)) := hown5
             clear hD5 hown5))
        have hw3 : IntKind.i64.wrap (ss + q) = ss + q := by rw [IntKind.wrap_i64]; omega
        rw [hw3]
        clear HP HDZ HOWNZ HDr HOWN hw1 hw2 hw3
        go_wp2_with (at_builtin; refine wpList_append_own _ rfl (.tmp 39) (.tmp 41) 34 rfl (D + 1) 3 i0 _ 1 8 Try.underlying34 hi hz0 hz1i hz2i rfl (by decide) u6 ks.length (ivals ks) rfl ?own ⟨w5.heap.size, 0, none⟩ 1 1 [.int .i64 (ss + q)] rfl rfl ?news ?one ?c3 ?c4 ?c5 ?_)
        case own => exact HOWN5.out.alloc _
        case news =>
          intro j u hj
          match j, hj with
          | 0, hj => simp at hj; subst hj; go_simp
        case one => intro u hu; simp at hu; subst hu; rfl
        case c3 => unfold maxLen; omega
        case c4 => omega
        case c5 => simp; omega
        intro v' w9 hown9 hgrow hnil
        have HOWN9 : Hid (w9.ownsRow (D + 1) 3 1 v' (ks ++ [(ss + q)]).length (ivals (ks ++ [(ss + q)]))) := by
          show w9.ownsRow (D + 1) 3 1 v' (ks ++ [(ss + q)]).length (ivals (ks ++ [(ss + q)]))
          rw [List.length_append]
          have e : ivals (ks ++ [(ss + q)]) = ivals ks ++ [.int .i64 (ss + q)] := by simp [ivals]
          rw [e]
          exact hown9
        have HD9 : Hid (Dd D R c (200 + 2 * (k + 1)) len cap a w zs w9) := (HD5.out).far (((Below.refl (D + 1) _).alloc (by have := block_lt HD5.out.dev; omega) _).grown hgrow (by have := block_lt HD5.out.dev; simp; omega) (fun j hj => (HOWN5.out.lt j hj).1)) (by omega) HRL.out
        clear hown9 hgrow hnil
        go_wp2
        go_roundw
        case rel => exact ⟨k + 1, _, ks ++ [(ss + q)], by omega, by go_num, rfl, by rw [List.length_append, HKS.out]; rfl, HOWN9.out, HD9.out⟩
        case measure => simp [intOf]; omega
      · have hd1 : decide (ss ≤ (dd.size : Int)) = false := by simpa using hle
        go_wp2_with (at_builtin; refine wpList_append_own _ rfl (.tmp 39) (.tmp 41) 34 rfl (D + 1) 3 i0 _ 1 8 Try.underlying34 hi hz0 hz1i hz2i rfl (by decide) u6 ks.length (ivals ks) rfl ?own ⟨(wr.heap.size + 1), 0, none⟩ 1 1 [.int .i64 (dd.size : Int)] rfl rfl ?news ?one ?c3 ?c4 ?c5 ?_)
        case own => exact HOWNZ.out.alloc _
        case one => rfl
        case c3 => unfold maxLen; omega
        case c4 => omega
        case c5 => omega
        intro v' w9 hown9 hgrow hnil
        have HOWN9 : Hid (w9.ownsRow (D + 1) 3 1 v' (ks ++ [(dd.size : Int)]).length (ivals (ks ++ [(dd.size : Int)]))) := by
          show w9.ownsRow (D + 1) 3 1 v' (ks ++ [(dd.size : Int)]).length (ivals (ks ++ [(dd.size : Int)]))
          rw [List.length_append]
          have e : ivals (ks ++ [(dd.size : Int)]) = ivals ks ++ [.int .i64 (dd.size : Int)] := by simp [ivals]
          rw [e]
          exact hown9
        have HD9 : Hid (Dd D R c (200 + 2 * (k + 1)) len cap a w zs w9) := (HDZ.out.mono (by omega)).far (((Below.refl (D + 1) _).alloc (by have := block_lt HDZ.out.dev; omega) _).grown hgrow (by have := block_lt HDZ.out.dev; simp; omega) (fun j hj => (HOWNZ.out.lt j hj).1)) (by omega) HRL.out
        clear hown9 hgrow hnil
        go_wp2
        go_roundw
        case rel => exact ⟨k + 1, _, ks ++ [(dd.size : Int)], by omega, by go_num, rfl, by rw [List.length_append, HKS.out]; rfl, HOWN9.out, HD9.out⟩
        case measure => simp [intOf]; omega
    · obtain rfl : k = zs.length := by omega
      clear hown hD
      obtain ⟨kb, kc, rfl, hko⟩ : ∃ kb kc, u6 = .slice kb ks.length kc ∧ (∃ K, D + 1 ≤ K ∧ K < wr.heap.size ∧ kb = some ⟨K, 0, none⟩ ∧ IRow K ks wr) := by
        have h := HOWN.out
        have hv : u6 ≠ .slice none 0 0 := by
          rintro rfl
          have h0 := h.1
          rcases h.2 with ⟨_, h1⟩ | ⟨g, cap, cur, e, _⟩
          · have := HKS.out; omega
          · cases e
        rw [← ivals_flat] at h
        obtain ⟨K, cap, e, hK, hrow⟩ := GRow.ofOwns (rows := ks.map icell) (fun i hi => by rw [List.getElem_map]; rfl) h (by simp) hv
        exact ⟨some ⟨K, 0, none⟩, cap, e, K, hK, GRow.lt hrow, rfl, hrow⟩
      obtain ⟨K, hK1, hK2, rfl, hkrow⟩ := hko
      have HKR : Hid (IRow K ks wr) := hkrow
      have hnB : w.heap.size + 1 < D := HDr.out.ordD
      clear hkrow HOWN hD
      go_wp2_with fail
      refine (one_any _ _ _ len cap a _ (by omega) (by omega) (by omega) HDr.out.cur HDr.out.code).mono ?_
      rintro e w5 ⟨b5, rfl, hC, hB⟩
      have HD5 : Hid (Dd D R c (200 + 2 * zs.length + 2) len cap a w zs w5) := HDr.out.step hC hB
      have HK5 : Hid (IRow K ks w5) := HKR.out.same hB.size (hB.block K hK2 (by omega))
      have hl5 : D < w5.heap.size := block_lt HD5.out.dev
      have hk5 : K < w5.heap.size := HK5.out.lt
      clear hC hB HDr HKR
      cases b5
      · have hcD5 := (block_cell HD5.out.dev).1
        have hcR5 := (block_cell HD5.out.res).1
        have hfR5 := (block_cell HD5.out.res).2
        go_wp2_with fail
        obtain ⟨g1, g2⟩ := HD5.out.done (.slice (some ⟨R, 0, none⟩) zs.length c)
        refine bodyPost_ret (v := .tuple #[.agg #[.slice (some ⟨R, 0, none⟩) zs.length c], .slice (some ⟨K, 0, none⟩) ks.length kc]) (by simp [results, Try.results26, go_sem, hcR5]) rfl ⟨zs, R, c, ks, _, kc, rfl, HKS.out, g1, ?_, HSM.out, g2⟩
        exact (HK5.out.same (by simp [World.setCell]) (Below.heap_setCell _ _ _ _ (by show K ≠ w.heap.size; omega))).sl (by simpa [World.setCell] using hk5)
      · go_wp2_with fail
        refine (among_any [-1, 61] 2 w5.heap.size (w.heap.size + 1) _ len cap 2 a _ rfl (by decide) (by decide) (by simp) (by omega) (fun i hi => lits_at [-1, 61] w5 i hi) (by omega) (HD5.out.on ((Below.refl _ _).alloc (Nat.le_refl _) _)).cur (HD5.out.on ((Below.refl _ _).alloc (Nat.le_refl _) _)).code).mono ?_
        rintro e w6 ⟨i, hi, rfl, hC, hB⟩
        generalize ([-1, 61] : List Int).getD i 0 = m at *
        have HD6 : Hid (Dd D R c (200 + 2 * zs.length + 2 + 2) len cap a w zs w6) := (HD5.out.on ((Below.refl _ _).alloc (Nat.le_refl _) _)).step hC hB
        have HK6 : Hid (IRow K ks w6) := (HK5.out.below ((Below.refl _ _).alloc (Nat.le_refl _) _)).same hB.size (hB.block K (by rw [heap_size]; omega) (by omega))
        have hk6 : K < w6.heap.size := HK6.out.lt
        have hk0 : 0 < ks.length := by rw [HKS.out]; omega
        have x0 := HK6.out.cell 0 hk0
        have f0 := HK6.out.free 0 hk0
        have hcD6 := (block_cell HD6.out.dev).1
        have hcR6 := (block_cell HD6.out.res).1
        have hfR6 := (block_cell HD6.out.res).2
        clear hC hB hi
        go_wp2_with fail
        have hD7 := HD6.out.far ((Below.refl (D + 1) w6).setCell (p := ⟨K, 0, none⟩) hK1 (.int .i64 m)) (by omega) HRL.out
        have hK7 := HK6.out.set 0 hk0 m
        obtain ⟨g1, g2⟩ := hD7.done (.slice (some ⟨R, 0, none⟩) zs.length c)
        refine bodyPost_ret (v := .tuple #[.agg #[.slice (some ⟨R, 0, none⟩) zs.length c], .slice (some ⟨K, 0, none⟩) ks.length kc]) (by simp [results, Try.results26, go_sem, hcR6]) rfl ⟨zs, R, c, ks.set 0 m, _, kc, by rw [List.length_set], by rw [List.length_set]; exact HKS.out, g1, ?_, HSM.out, g2⟩
        exact (hK7.same (by simp [World.setCell]) (Below.heap_setCell _ _ _ _ (by show K ≠ w.heap.size; omega))).sl (by simpa [World.setCell] using hk6)
end Go.Proofs.Yteofdaecknlkdaa
