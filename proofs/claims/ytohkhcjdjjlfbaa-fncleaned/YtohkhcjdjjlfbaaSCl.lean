/- Walk of the model's CleanSeg. -/
import Derived.Test.YtohkhcjdjjlfbaaHCl
import Derived.Test.YtohkhcjdjjlfbaaSWn
import Derived.Test.YtohkhcjdjjlfbaaSOwn
import Derived.Test.YtohkhcjdjjlfbaaILb
namespace Go.Proofs.Ytohkhcjdjjlfbaa
set_option maxRecDepth 100000
open Go.ChangeShapes Go.WideShapes Go.ChangeAt Go.RowKit G00541
theorem wrs_app (no : Int) : ∀ (a b : List Int) (t : List Sg × List (List Bool)), wrs no (a ++ b) t = match wrs no a t with
    | some u => wrs no b u
    | none => none
  | [], _, _ => rfl
  | x :: r, b, t => by
    show (match wrH t.1 t.2 x no with | some u => wrs no (r ++ b) u | none => none) = match (match wrH t.1 t.2 x no with | some u => wrs no r u | none => none) with | some u => wrs no b u | none => none
    cases wrH t.1 t.2 x no with
    | none => rfl
    | some u => exact wrs_app no r b u
theorem wrs_one (no x : Int) (u : List Sg × List (List Bool)) : wrs no [x] u = wrH u.1 u.2 x no := by
  show (match wrH u.1 u.2 x no with | some v => some v | none => none) = _
  cases wrH u.1 u.2 x no <;> rfl
theorem livB_split (l : List Int) (v : List Bool) (n : Nat) : livB l v = livB (l.take n) (v.take n) ++ livB (l.drop n) (v.drop n) := by
  unfold livB
  rw [← List.map_append, ← List.filter_append]
  congr 2
  have h := List.take_append_drop n (List.zipWith Prod.mk l v)
  rw [List.take_zipWith, List.drop_zipWith] at h
  exact h.symm
theorem wrs_cut (no : Int) (l : List Int) (v : List Bool) (n : Nat) (t : List Sg × List (List Bool)) (h : wrs no (livB (l.take n) (v.take n)) t = none) : wrs no (livB l v) t = none := by
  rw [livB_split l v n, wrs_app, h]
theorem livB_all (l : List Int) (v : List Bool) (h : v.length = l.length) : livB (l.take l.length) (v.take l.length) = livB l v := by
  rw [List.take_length, List.take_of_length_le (by omega)]
theorem WK.big {lo : Nat} {w : World} {o : Obj} {wr w' : World} (h : WK w.heap.size w o wr) (g : Below lo wr w') (hlo : w.heap.size + 2 ≤ lo) : WK w.heap.size w o w' :=
  h.step (g.mono (by omega)) (g.block _ (by omega)) (g.block _ (by omega))
theorem HR.box {lo : Nat} {vS vL : Value} {S : List Sg} {L : List (List Bool)} {w : World} (h : HR lo vS vL S L w) {X : Nat} {cs : Array Value} (hX : w.heap[X]? = some (.cells cs 26)) (j : Nat) (u : Value) : HR lo vS vL S L (w.setCell ⟨X, j, none⟩ u) := by
  obtain ⟨hl, q, p, hF⟩ := h
  exact ⟨hl, q, p, hF.box hX j u⟩
theorem least_any (a : Int) (w : World) : Calls Try.prog 38 #[.int .i64 1000, .int .i64 (a + 1)] w fun e w' => e = .returned (.int .i64 (aged a)) ∧ w' = w := by
  by_cases h : 1000 < a + 1
  · have hd : decide (1000 < a + 1) = true := decide_eq_true h
    have e : aged a = 1000 := by unfold aged; rw [if_pos h]
    rw [e]
    go_enter Try.func38, Try.ntmps38
    go_wp2
    go_ret
    exact ⟨rfl, rfl⟩
  · have hd : decide (1000 < a + 1) = false := decide_eq_false h
    have e : aged a = a + 1 := by unfold aged; rw [if_neg h]
    rw [e]
    go_enter Try.func38, Try.ntmps38
    go_wp2
    go_ret
    exact ⟨rfl, rfl⟩
theorem wk_cells {w : World} {x y : Value} {wr : World} (h : WK w.heap.size w (.cells #[x, y] 26) wr) : wr.cell? ⟨w.heap.size, 0, none⟩ = some x ∧ wr.cell? ⟨w.heap.size, 1, none⟩ = some y ∧ wr.cell? ⟨w.heap.size + 1, 0, none⟩ = some (.slice none 0 0) ∧ wr.cell? ⟨w.heap.size + 1, 1, none⟩ = some (.slice none 0 0) ∧ wr.frozen? ⟨w.heap.size + 1, 0, none⟩ = false ∧ wr.frozen? ⟨w.heap.size + 1, 1, none⟩ = false :=
  ⟨box_cell h.box 0, box_cell h.box 1, box_cell h.res 0, box_cell h.res 1, box_free h.res 0, box_free h.res 1⟩
set_option maxHeartbeats 4000000 in
theorem sClean_no (aS aL : Option Addr) (kS kL : Nat) (S : List Sg) (L : List (List Bool)) (k : Int) (w : World) (hno : ¬ (goodH S L = true ∧ 0 ≤ k ∧ k < S.length ∧ lenAt S k.toNat ≠ 0)) (hG : Gs w.heap.size aS S w) (hV : Vs w.heap.size aL L w) :
    Calls Try.prog 7 #[.agg #[.slice aS S.length kS, .slice aL L.length kL], .int .i64 k] w fun e w' => e = .returned (.tuple #[.agg #[.slice none 0 0, .slice none 0 0], .int .i64 0, .bool false]) ∧ Below w.heap.size w w' := by
  have HK := hid (WK.start w.heap.size w (.cells #[.slice aS S.length kS, .slice aL L.length kL] 26) (Nat.le_refl _))
  have HC := hid (l5There_any aS aL kS kL S L k _ ((hG.below HK.out.below).mono HK.out.below.size) ((hV.below HK.out.below).mono HK.out.below.size))
  have HG := hid hG
  have HNO := hid hno
  clear hG hV hno
  obtain ⟨y0, y1, -⟩ := wk_cells HK.out
  generalize hW : (w.alloc (.cells #[.slice aS S.length kS, .slice aL L.length kL] 26)).alloc (.cells #[.slice none 0 0, .slice none 0 0] 26) = W at *
  go_enter Try.func7, Try.ntmps7
  go_wp2_with fail
  clear hW
  refine HC.out.mono ?_
  rintro e w2 ⟨rfl, b2⟩
  have HK2 := hid (HK.out.on b2 (Nat.le_refl _))
  clear b2 y0 y1 HK HC
  obtain ⟨y0, y1, z0, z1, z0f, z1f⟩ := wk_cells HK2.out
  obtain ⟨b10, x0, x1⟩ := HK2.out.fill (Nat.le_refl _) (.slice none 0 0) (.slice none 0 0)
  have HB10 := hid b10
  clear b10
  by_cases hk : goodH S L = true ∧ 0 ≤ k ∧ k < S.length
  case neg =>
    have hd : (goodH S L && decide (0 ≤ k ∧ k < S.length)) = false := by
      cases h : (goodH S L && decide (0 ≤ k ∧ k < S.length))
      · rfl
      · rw [Bool.and_eq_true, decide_eq_true_iff] at h
        exact absurd ⟨h.1, h.2.1, h.2.2⟩ hk
    rw [hd]
    clear hd hk HNO
    go_wp2_with fail
    generalize (w2.setCell ⟨w.heap.size + 1, 0, none⟩ (.slice none 0 0)).setCell ⟨w.heap.size + 1, 1, none⟩ (.slice none 0 0) = X at *
    exact bodyPost_ret (v := .tuple #[.agg #[.slice none 0 0, .slice none 0 0], .int .i64 0, .bool false]) (by simp [results, Try.results7, go_sem, x0, x1]) rfl ⟨rfl, HB10.out⟩
  have hd : (goodH S L && decide (0 ≤ k ∧ k < S.length)) = true := by rw [hk.1, decide_eq_true hk.2]; rfl
  rw [hd]
  obtain ⟨n, rfl⟩ : ∃ n : Nat, k = n := ⟨k.toNat, by omega⟩
  have hn : n < S.length := by omega
  have h0 : lenAt S n = 0 := by
    rcases Nat.eq_zero_or_pos (lenAt S n) with h | h
    · exact h
    · exact absurd ⟨hk.1, hk.2.1, hk.2.2, by rw [Int.toNat_natCast]; omega⟩ HNO.out
  rw [lenAt_eq S n hn] at h0
  obtain ⟨b, off, rfl, hb, hcl⟩ := HG.out (by omega)
  obtain ⟨p, c, c0, _, _⟩ := hcl n hn
  rw [h0] at c0
  have c0' := (HK2.out.below.cell (p := ⟨b, off + n * 2, none⟩) hb).trans c0
  clear HNO hd hk hcl HG c0 h0
  go_wp2_with fail
  generalize (w2.setCell ⟨w.heap.size + 1, 0, none⟩ (.slice none 0 0)).setCell ⟨w.heap.size + 1, 1, none⟩ (.slice none 0 0) = X at *
  exact bodyPost_ret (v := .tuple #[.agg #[.slice none 0 0, .slice none 0 0], .int .i64 0, .bool false]) (by simp [results, Try.results7, go_sem, x0, x1]) rfl ⟨rfl, HB10.out⟩
/-- what the model's CleanSeg keeps at each block -/
structure SK (w : World) (o : Obj) (lo X7 : Nat) (vS vL : Value) (S : List Sg) (L : List (List Bool)) (N : Nat) (wr : World) : Prop where
  wk : WK w.heap.size w o wr
  bx : wr.heap[X7]? = some (.cells #[vS, vL] 26)
  hr : HR lo vS vL S L wr
  lens : Lens S L 6
  len : S.length = N
theorem SK.on {w : World} {o : Obj} {lo X7 : Nat} {vS vL : Value} {S : List Sg} {L : List (List Bool)} {N : Nat} {wr w' : World} (h : SK w o lo X7 vS vL S L N wr) (g : Below wr.heap.size wr w') : SK w o lo X7 vS vL S L N w' := by
  refine ⟨h.wk.on g (Nat.le_refl _), (g.block X7 ?_).trans h.bx, h.hr.on g, h.lens, h.len⟩
  rcases Nat.lt_or_ge X7 wr.heap.size with h' | h'
  · exact h'
  · have := h.bx
    rw [Array.getElem?_eq_none h'] at this; cases this
set_option maxHeartbeats 8000000 in
theorem sClean_go (aS aL : Option Addr) (kS kL : Nat) (S : List Sg) (L : List (List Bool)) (k : Nat) (w : World) (hl : L.length = S.length) (hg : goodH S L = true) (hk : k < S.length) (h0 : lenAt S k ≠ 0) (hG : Gs w.heap.size aS S w) (hV : Vs w.heap.size aL L w) :
    Calls Try.prog 7 #[.agg #[.slice aS S.length kS, .slice aL L.length kL], .int .i64 k] w fun e w' => COut (wrs k (livB (blAt S k) (lvAt L k)) (S, L)) k (livB (blAt S k) (lvAt L k)).length w e w' := by
  have hle := Lens.good hl hg
  obtain ⟨hn, hgs, -⟩ := (goodH_iff S L hl).1 hg
  obtain ⟨c1, c2, c3⟩ := hle.at (by decide)
  have h6 := hle.2.2 k hk
  have HAGE : Hid (∀ i, i < S.length → 0 ≤ ageAt S i ∧ ageAt S i ≤ 1000) := fun i hi => by
    have := (goodS_iff _ _).1 (hgs i hi)
    rw [ageAt_eq S i hi]; exact ⟨this.2.2.1, this.2.2.2.1⟩
  have HK := hid (WK.start w.heap.size w (.cells #[.slice aS S.length kS, .slice aL L.length kL] 26) (Nat.le_refl _))
  have HC : Hid (∀ v, Below w.heap.size w v → Calls Try.prog 35 #[.agg #[.slice aS S.length kS, .slice aL L.length kL], .int .i64 k] v fun e w' => e = .returned (.bool true) ∧ Below v.heap.size v w') := fun v hb => by
    have := l5There_any aS aL kS kL S L k v ((hG.below hb).mono hb.size) ((hV.below hb).mono hb.size)
    rw [hg, decide_eq_true (show 0 ≤ (k : Int) ∧ (k : Int) < (S.length : Int) by omega)] at this; exact this
  have HOWN : Hid (∀ v, Below w.heap.size w v → Calls Try.prog 36 #[.agg #[.slice aS S.length kS, .slice aL L.length kL]] v fun e w' => ∃ vS vL, e = .returned (.agg #[vS, vL]) ∧ HR v.heap.size vS vL S L w' ∧ Below v.heap.size v w') := fun v hb => l5Own_any aS aL kS kL S L v c1 hl c2 c3 ((hG.below hb).mono hb.size) ((hV.below hb).mono hb.size)
  have hlen : S[k].bl.length ≠ 0 := by rw [lenAt_eq S k hk] at h0; exact h0
  obtain ⟨b, off, rfl, hb, hcl⟩ := hG (by omega)
  obtain ⟨p0, c0, hc0, -, hI⟩ := hcl k hk
  obtain ⟨b', off', rfl, hb', hcv⟩ := hV (by omega)
  obtain ⟨p1, k1, hc1, hBs⟩ := hcv k (by omega)
  have e1 := blAt_eq S k hk
  have e2 := lvAt_eq L k (by omega)
  rw [← e1] at hc0 hI hlen
  rw [← e2] at hc1 hBs
  have HC0 := hid hc0
  have HC1 := hid hc1
  have HI := hid hI
  have HBs := hid hBs
  have HN8 : Hid (S.length ≤ 8 ∧ 0 < S.length) := ⟨by omega, by omega⟩
  have HLE := hid hle
  have HLV := hid h6
  have HL := hid hl
  have h66 := h6.2
  clear hG hV hgs hle hcl hcv hc0 hc1 hI hBs h0 e1 e2 c1 c2 c3 hg hn h6
  generalize hbl : blAt S k = bl at *
  generalize hlv : lvAt L k = lv at *
  clear hbl hlv
  have hq0 : ((bl.length : Int) == 0) = false := beq_eq_false_iff_ne.2 (by omega)
  have hq1 : decide ((bl.length : Int) = 0) = false := decide_eq_false (by omega)
  obtain ⟨y0, y1, -⟩ := wk_cells HK.out
  have HC2 := hid (HC.out _ HK.out.below)
  clear HC
  generalize hW : (w.alloc (.cells #[.slice (some ⟨b, off, none⟩) S.length kS, .slice (some ⟨b', off', none⟩) L.length kL] 26)).alloc (.cells #[.slice none 0 0, .slice none 0 0] 26) = W at *
  clear hl
  generalize hNL : L.length = nl at *
  have HNL := hid hNL
  have hknl : k < nl := by rw [HL.out]; exact hk
  clear hNL
  go_enter Try.func7, Try.ntmps7
  go_wp2_with fail
  clear hW
  refine HC2.out.mono ?_
  rintro e w2 ⟨rfl, b2⟩
  have HK2 := hid (HK.out.on b2 (Nat.le_refl _))
  clear b2 y0 y1 HK HC2
  obtain ⟨y0, y1, -⟩ := wk_cells HK2.out
  have d0 := (HK2.out.below.cell (p := ⟨b, off + k * 2, none⟩) hb).trans HC0.out
  have HC3 := hid (HOWN.out w2 HK2.out.below)
  clear HOWN
  go_wp2_with fail
  refine HC3.out.mono ?_
  rintro e w3 ⟨vS, vL, rfl, h3, b3⟩
  obtain ⟨gs, ks, gl, kl, q, p, rfl, rfl, hgs, hgl, -, -, -⟩ := h3.open HN8.out.2
  have hlo : w.heap.size + 2 ≤ w2.heap.size := HK2.out.size
  have bx := boxB w3 (.cells #[.slice (some ⟨gs, 0, none⟩) S.length ks, .slice (some ⟨gl, 0, none⟩) L.length kl] 26)
  rw [HNL.out] at bx
  have HS4 : Hid (SK w (.cells #[.slice (some ⟨b, off, none⟩) S.length kS, .slice (some ⟨b', off', none⟩) nl kL] 26) w2.heap.size w3.heap.size (.slice (some ⟨gs, 0, none⟩) S.length ks) (.slice (some ⟨gl, 0, none⟩) nl kl) S L S.length (w3.alloc (.cells #[.slice (some ⟨gs, 0, none⟩) S.length ks, .slice (some ⟨gl, 0, none⟩) nl kl] 26))) := by
    refine ⟨(HK2.out.on b3 (Nat.le_refl _)).on bx (Nat.le_refl _), heap_last _ _, ?_, HLE.out, rfl⟩
    rw [HNL.out] at h3
    exact h3.on bx
  have hgs7 : gs < w3.heap.size := hgs.2
  have hgl7 : gl < w3.heap.size := hgl.2
  have hgs2 : w2.heap.size ≤ gs := hgs.1
  have hgl2 : w2.heap.size ≤ gl := hgl.1
  rw [HNL.out]
  clear b3 h3 bx HC3 y0 y1 d0 hgs hgl HK2
  obtain ⟨y0, y1, -⟩ := wk_cells HS4.out.wk
  have d0 := (HS4.out.wk.below.cell (p := ⟨b, off + k * 2, none⟩) hb).trans HC0.out
  go_wp2_with fail
  generalize w3.alloc (.cells #[.slice (some ⟨gs, 0, none⟩) S.length ks, .slice (some ⟨gl, 0, none⟩) nl kl] 26) = W4 at *
  generalize w3.heap.size = X7 at *
  generalize w2.heap.size = lo at *
  clear y0 y1 d0
  go_loopw [8, 39] (fun t i wr => ∃ (n : Nat) (Sn : List Sg) (Ln : List (List Bool)), n ≤ bl.length ∧ i = .int .i64 n ∧ t = .int .i64 (livB (bl.take n) (lv.take n)).length ∧ wrs k (livB (bl.take n) (lv.take n)) (S, L) = some (Sn, Ln) ∧ SK w (.cells #[.slice (some ⟨b, off, none⟩) S.length kS, .slice (some ⟨b', off', none⟩) nl kL] 26) lo X7 (.slice (some ⟨gs, 0, none⟩) S.length ks) (.slice (some ⟨gl, 0, none⟩) nl kl) Sn Ln S.length wr) (fun _ i _ => bl.length - (intOf i).toNat)
  case atStart => exact ⟨0, S, L, Nat.zero_le _, rfl, rfl, rfl, HS4.out⟩
  case round =>
    obtain ⟨n, Sn, Ln, hnb, rfl, rfl, hws, hSK⟩ := hrel
    have HW := hid hws
    have HSK := hid hSK
    clear hws hSK HS4
    obtain ⟨y0, y1, z0, z1, z0f, z1f⟩ := wk_cells HSK.out.wk
    have u0 : wr.cell? ⟨X7, 0, none⟩ = some (.slice (some ⟨gs, 0, none⟩) S.length ks) := box_cell HSK.out.bx 0
    have u1 : wr.cell? ⟨X7, 1, none⟩ = some (.slice (some ⟨gl, 0, none⟩) nl kl) := box_cell HSK.out.bx 1
    have e3 : Sn.length = S.length := HSK.out.len
    have e4 : Ln.length = nl := by rw [HSK.out.lens.2.1, e3]; exact HL.out.symm
    have HE3 := hid e3
    have HE4 := hid e4
    by_cases hlt : n < bl.length
    · obtain ⟨bb, ob, rfl, hbb, hcb⟩ := HI.out.cell (by omega)
      have hlv : lv.length = bl.length := HLV.out.1
      obtain ⟨bv, ov, rfl, hbv, hcv⟩ := HBs.out.cell (by omega)
      have x0 := (HSK.out.wk.below.cell (p := ⟨bb, ob + n, none⟩) hbb).trans (hcb n hlt)
      have x1 := (HSK.out.wk.below.cell (p := ⟨b', off' + k, none⟩) hb').trans HC1.out
      have x2 := (HSK.out.wk.below.cell (p := ⟨bv, ov + n, none⟩) hbv).trans (hcv n (by omega))
      have HST := hid (livB_step bl lv n hlt (by omega))
      have hLB : (livB (bl.take n) (lv.take n)).length ≤ 6 := Nat.le_trans (livB_len _ _) (by simp; omega)
      clear hcb hcv e3 e4
      cases hv : lv[n]'(by omega)
      · rw [hv] at x2 HST
        have HS2 : Hid (livB (bl.take (n + 1)) (lv.take (n + 1)) = livB (bl.take n) (lv.take n)) := by
          show livB (bl.take (n + 1)) (lv.take (n + 1)) = _
          rw [HST.out]; simp
        clear hv HST
        generalize bl[n] = x at *
        go_wp2_with fail
        go_roundw
        case rel => exact ⟨n + 1, Sn, Ln, by omega, by go_num, by rw [HS2.out], by rw [HS2.out]; exact HW.out, HSK.out⟩
        case measure => simp [intOf]; omega
      · rw [hv] at x2 HST
        have HS2 : Hid (livB (bl.take (n + 1)) (lv.take (n + 1)) = livB (bl.take n) (lv.take n) ++ [bl[n]]) := by
          show livB (bl.take (n + 1)) (lv.take (n + 1)) = _
          rw [HST.out]; simp
        clear hv HST
        generalize bl[n] = x at *
        have HWN : Hid (wrs k (livB (bl.take (n + 1)) (lv.take (n + 1))) (S, L) = wrH Sn Ln x k) := by
          show wrs k (livB (bl.take (n + 1)) (lv.take (n + 1))) (S, L) = wrH Sn Ln x k
          rw [HS2.out, wrs_app, HW.out]
          exact wrs_one _ _ _
        cases hr : roomH Sn k with
        | none =>
          obtain ⟨aS9, kS9, aL9, kL9, f1, f2, hG9, -⟩ := HSK.out.hr.read
          injection f1 with i1 i2 i3
          subst i1
          have HC9 := hid (l5Write_none (some ⟨gs, 0, none⟩) (some ⟨gl, 0, none⟩) ks kl Sn Ln x k wr HSK.out.lens.1 hr hG9)
          rw [HE3.out, HE4.out] at HC9
          have HNO : Hid (wrs k (livB bl lv) (S, L) = none) := wrs_cut _ _ _ (n + 1) _ (by rw [HWN.out]; unfold wrH; rw [hr]; rfl)
          clear hr f2 i2 i3 hG9
          go_wp2_with fail
          refine HC9.out.mono ?_
          rintro e w9 ⟨rfl, b9⟩
          have HK9 := hid ((HSK.out.wk.on b9 (Nat.le_refl _)).on (boxB w9 (.cells #[(.slice (some ⟨gs, 0, none⟩) S.length ks), (.slice (some ⟨gl, 0, none⟩) nl kl)] 26)) (Nat.le_refl _))
          clear b9 HC9 HSK y0 y1 z0 z1 z0f z1f u0 u1 x0 x1 x2
          obtain ⟨y0, y1, z0, z1, z0f, z1f⟩ := wk_cells HK9.out
          obtain ⟨b10, q0, q1⟩ := HK9.out.fill (Nat.le_refl _) (.slice none 0 0) (.slice none 0 0)
          have HB10 := hid b10
          clear b10
          go_wp2_with fail
          generalize ((w9.alloc (.cells #[(.slice (some ⟨gs, 0, none⟩) S.length ks), (.slice (some ⟨gl, 0, none⟩) nl kl)] 26)).setCell ⟨w.heap.size + 1, 0, none⟩ (.slice none 0 0)).setCell ⟨w.heap.size + 1, 1, none⟩ (.slice none 0 0) = X at *
          refine bodyPost_ret (v := .tuple #[.agg #[.slice none 0 0, .slice none 0 0], .int .i64 0, .bool false]) (by simp [results, Try.results7, go_sem, q0, q1]) rfl ?_
          rw [HNO.out]
          exact ⟨rfl, HB10.out⟩
        | some to =>
          obtain ⟨hto, hto5⟩ := roomH_lt Sn k to hr
          have hbl6 := HSK.out.lens.2.2 to hto
          have hsz := HSK.out.wk.size
          obtain ⟨gs', ks', gl', kl', q, p, f1, f2, hgs', hgl', hF, hG9, hV9⟩ := HSK.out.hr.open (by rw [HE3.out]; exact HN8.out.2)
          obtain ⟨rfl, rfl⟩ : gs = gs' ∧ ks = ks' := by
            injection f1 with i1 i2 i3
            injection i1 with i1
            injection i1 with i1
            exact ⟨i1, i3⟩
          obtain ⟨rfl, rfl⟩ : gl = gl' ∧ kl = kl' := by
            injection f2 with i1 i2 i3
            injection i1 with i1
            injection i1 with i1
            exact ⟨i1, i3⟩
          rw [f1, f2] at hF
          have HC9 := hid (l5Write_keep lo gs gl ks kl to Sn Ln q p x k wr (by omega) HSK.out.lens.1 HSK.out.lens.2.1 (fun j hj => by
            have := HSK.out.lens.2.2 j hj
            rw [blAt_eq Sn j hj, lvAt_eq Ln j (by have := HSK.out.lens.2.1; omega)] at this
            exact ⟨this.1, by omega⟩) hr (by omega) (by omega) hF hgs' hgl' hG9 hV9)
          rw [HE3.out, HE4.out] at HC9
          have HWS : Hid (wrs k (livB (bl.take (n + 1)) (lv.take (n + 1))) (S, L) = some (putS Sn to x, putL (offL Ln (whereH Sn Ln x)) to)) := by
            show wrs k (livB (bl.take (n + 1)) (lv.take (n + 1))) (S, L) = _
            rw [HWN.out]; unfold wrH; rw [hr]; rfl
          have HLP := hid (HSK.out.lens.put6 (whereH Sn Ln x) to hto hto5 x)
          have HLP2 : Hid ((putS Sn to x).length = S.length) := by show (putS Sn to x).length = S.length; unfold putS; rw [List.length_set]; exact HE3.out
          have hX7 : X7 < wr.heap.size := by
            rcases Nat.lt_or_ge X7 wr.heap.size with h' | h'
            · exact h'
            · have := HSK.out.bx
              rw [Array.getElem?_eq_none h'] at this; cases this
          have HSL : Hid ((livB (bl.take (n + 1)) (lv.take (n + 1))).length = (livB (bl.take n) (lv.take n)).length + 1) := by
            show (livB (bl.take (n + 1)) (lv.take (n + 1))).length = _
            rw [HS2.out, List.length_append]; rfl
          clear hr f1 f2 hF hG9 hV9 hbl6 hgs' hgl' hto5 HWN HS2
          generalize putS Sn to x = S9 at *
          generalize putL (offL Ln (whereH Sn Ln x)) to = L9 at *
          go_wp2_with fail
          refine HC9.out.mono ?_
          rintro e w9 ⟨rfl, h9, b9, k9⟩
          have hbx9 := (k9 X7 _ hX7 HSK.out.bx).trans HSK.out.bx
          have hX9 : X7 < w9.heap.size := Nat.lt_of_lt_of_le hX7 b9.size
          have v0 : w9.cell? ⟨X7, 0, none⟩ = some (.slice (some ⟨gs, 0, none⟩) S.length ks) := box_cell hbx9 0
          have v1 : w9.cell? ⟨X7, 1, none⟩ = some (.slice (some ⟨gl, 0, none⟩) nl kl) := box_cell hbx9 1
          have v0f : w9.frozen? ⟨X7, 0, none⟩ = false := box_free hbx9 0
          have v1f : w9.frozen? ⟨X7, 1, none⟩ = false := box_free hbx9 1
          have hSK9 : SK w (.cells #[.slice (some ⟨b, off, none⟩) S.length kS, .slice (some ⟨b', off', none⟩) nl kL] 26) lo X7 (.slice (some ⟨gs, 0, none⟩) S.length ks) (.slice (some ⟨gl, 0, none⟩) nl kl) S9 L9 S.length ((w9.setCell ⟨X7, 0, none⟩ (.slice (some ⟨gs, 0, none⟩) S.length ks)).setCell ⟨X7, 1, none⟩ (.slice (some ⟨gl, 0, none⟩) nl kl)) := by
            refine ⟨((HSK.out.wk.big b9 hlo).big (setB (Below.refl lo _) X7 0 (by omega) _) hlo).big (setB (Below.refl lo _) X7 1 (by omega) _) hlo, ?_, (h9.box hbx9 0 _).box (box_set hbx9 0 _) 1 _, HLP.out, HLP2.out⟩
            have := box_set (box_set hbx9 0 (.slice (some ⟨gs, 0, none⟩) S.length ks)) 1 (.slice (some ⟨gl, 0, none⟩) nl kl)
            simpa using this
          have HSK2 := hid (hSK9.on (boxB _ (.cells #[(.slice (some ⟨gs, 0, none⟩) S.length ks), (.slice (some ⟨gl, 0, none⟩) nl kl)] 26)))
          clear h9 b9 k9 hbx9 hSK9 HC9 HSK y0 y1 z0 z1 z0f z1f u0 u1 x0 x1 x2
          go_wp2_with fail
          go_roundw
          case rel => exact ⟨n + 1, S9, L9, by omega, by go_num, by rw [HSL.out]; go_num, HWS.out, HSK2.out⟩
          case measure => simp [intOf]; omega
    · obtain rfl : n = bl.length := by omega
      have hlv : lv.length = bl.length := HLV.out.1
      have HALL := hid (livB_all bl lv hlv)
      rw [HALL.out] at HW
      rw [HALL.out]
      clear HALL hlv
      have HAG : Hid (∀ i, i < Sn.length → 0 ≤ ageAt Sn i ∧ ageAt Sn i ≤ 1000) := fun i hi => by
        obtain ⟨f1, f2⟩ := wrs_age _ _ S L (Sn, Ln) HW.out
        have hi' : i < S.length := by rw [← e3]; exact hi
        rw [show ageAt Sn i = ageAt S i from f2 i hi']
        exact HAGE.out i hi'
      generalize hbs : livB bl lv = bs at *
      have HBS := hid hbs
      clear hbs
      obtain ⟨gs', ks', gl', kl', q, p, f1, f2, -, -, hF, -, -⟩ := HSK.out.hr.open (by rw [HE3.out]; exact HN8.out.2)
      have HF0 : Hid (Fam lo (hd2 Sn.length Ln.length) (hf (.slice (some ⟨gs, 0, none⟩) S.length ks) (.slice (some ⟨gl, 0, none⟩) nl kl) q p Sn Ln) wr) := hF
      have HX0 := hid HSK.out.bx
      have HK0 := hid HSK.out.wk
      have HLN := hid HSK.out.lens
      have HLL : Hid (Ln.length = Sn.length) := HSK.out.lens.2.1
      have hX7 : X7 < wr.heap.size := by
        rcases Nat.lt_or_ge X7 wr.heap.size with h' | h'
        · exact h'
        · have := HSK.out.bx
          rw [Array.getElem?_eq_none h'] at this; cases this
      have HHN : Hid (S.length ≤ 8) := HN8.out.1
      have hSN : k < Sn.length := by rw [e3]; exact hk
      clear hF f1 f2 HSK e3 e4 HLV hq0 hq1 hlen h66 HI HBs HC0 HC1
      go_wp2_with fail
      go_loopw [70] (fun i wr => ∃ n : Nat, n ≤ S.length ∧ i = .int .i64 n ∧ Fam lo (hd2 (agesN Sn n).length Ln.length) (hf (.slice (some ⟨gs, 0, none⟩) S.length ks) (.slice (some ⟨gl, 0, none⟩) nl kl) q p (agesN Sn n) Ln) wr ∧ wr.heap[X7]? = some (.cells #[.slice (some ⟨gs, 0, none⟩) S.length ks, .slice (some ⟨gl, 0, none⟩) nl kl] 26) ∧ WK w.heap.size w (.cells #[.slice (some ⟨b, off, none⟩) S.length kS, .slice (some ⟨b', off', none⟩) nl kL] 26) wr) (fun i _ => S.length - (intOf i).toNat)
      case atStart => exact ⟨0, Nat.zero_le _, rfl, HF0.out, HX0.out, HK0.out⟩
      case round =>
        obtain ⟨n, hnN, rfl, hF, hX, hK⟩ := hrel
        have HF := hid hF
        have HX := hid hX
        have HKn := hid hK
        have hX7r : X7 < wr.heap.size := by
          rcases Nat.lt_or_ge X7 wr.heap.size with h' | h'
          · exact h'
          · rw [Array.getElem?_eq_none h'] at hX; cases hX
        have u0 : wr.cell? ⟨X7, 0, none⟩ = some (.slice (some ⟨gs, 0, none⟩) S.length ks) := box_cell hX 0
        have u1 : wr.cell? ⟨X7, 1, none⟩ = some (.slice (some ⟨gl, 0, none⟩) nl kl) := box_cell hX 1
        clear hF hX hK
        by_cases hlt : n < S.length
        · have hns : n < Sn.length := by rw [HE3.out]; exact hlt
          have hn8 : n ≤ 8 := by have := HHN.out; omega
          have hnl : n < (agesN Sn n).length := by rw [agesN_len]; exact hns
          have hseg : wr.ownsRow lo 40 2 (.slice (some ⟨gs, 0, none⟩) S.length ks) (agesN Sn n).length (segXs q (agesN Sn n)) := HF.out.own .s trivial
          have v1 : wr.cell? ⟨gs, n * 2 + 1, none⟩ = some (.int .i64 (ageAt Sn n)) := by
            rw [rw_cell hseg rfl (n * 2 + 1) (by rw [segXs_len]; omega), segXs_age, agesN_age Sn n n (Nat.le_refl _) hns]
          have v0 : wr.cell? ⟨gs, n * 2, none⟩ = some (q n) := by rw [rw_cell hseg rfl (n * 2) (by rw [segXs_len]; omega), segXs_q]
          have v1f : wr.frozen? ⟨gs, n * 2 + 1, none⟩ = false := rw_free hseg rfl _
          obtain ⟨a0, a1⟩ := HAG.out n hns
          obtain ⟨aq, cq, hq⟩ := rw_form (HF.out.own (.b n) (show n < (agesN Sn n).length by rw [agesN_len]; exact hns))
          have hq' : q n = .slice aq (blAt (agesN Sn n) n).length cq := hq
          generalize (blAt (agesN Sn n) n).length = lq at hq'
          rw [hq'] at v0
          have bs9 := boxB wr (.cells #[.slice aq lq cq, .int .i64 (ageAt Sn n)] 40)
          have hNF : Fam lo (hd2 (agesN Sn (n + 1)).length Ln.length) (hf (.slice (some ⟨gs, 0, none⟩) S.length ks) (.slice (some ⟨gl, 0, none⟩) nl kl) q p (agesN Sn (n + 1)) Ln) (wr.setCell ⟨gs, n * 2 + 1, none⟩ (.int .i64 (aged (ageAt Sn n)))) := by
            have := fam_age HF.out n gs rfl (aged (ageAt (agesN Sn n) n))
            rw [agesN_age Sn n n (Nat.le_refl _) hns] at this
            have e : agesN Sn (n + 1) = (agesN Sn n).set n ⟨blAt (agesN Sn n) n, aged (ageAt Sn n)⟩ := by rw [agesN, agesN_age Sn n n (Nat.le_refl _) hns]
            rw [e]
            exact this
          have bw9 := boxB (wr.setCell ⟨gs, n * 2 + 1, none⟩ (.int .i64 (aged (ageAt Sn n)))) (.cells #[.slice aq lq cq, .int .i64 (ageAt Sn n)] 40)
          have hwsz : (wr.setCell ⟨gs, n * 2 + 1, none⟩ (.int .i64 (aged (ageAt Sn n)))).heap.size = wr.heap.size := by simp [World.setCell]
          have HNF := hid (hNF.below bw9)
          have hNX : (wr.setCell ⟨gs, n * 2 + 1, none⟩ (.int .i64 (aged (ageAt Sn n)))).heap[X7]? = some (.cells #[(.slice (some ⟨gs, 0, none⟩) S.length ks), (.slice (some ⟨gl, 0, none⟩) nl kl)] 26) := (keepB _ _ _ _ _ (by omega)).trans HX.out
          have hNX2 := (bw9.block X7 (by rw [hwsz]; exact hX7r)).trans hNX
          have HNX := hid hNX2
          have HNK := hid ((HKn.out.big (setB (Below.refl lo _) gs (n * 2 + 1) hgs2 (.int .i64 (aged (ageAt Sn n)))) hlo).on bw9 (Nat.le_refl _))
          have hbx1 := (bs9.block X7 hX7r).trans HX.out
          have r0 : (((wr.setCell ⟨gs, n * 2 + 1, none⟩ (.int .i64 (aged (ageAt Sn n)))).alloc (.cells #[.slice aq lq cq, .int .i64 (ageAt Sn n)] 40)).drew).cell? ⟨X7, 0, none⟩ = some (.slice (some ⟨gs, 0, none⟩) S.length ks) := box_cell hNX2 0
          have r2 : (((wr.setCell ⟨gs, n * 2 + 1, none⟩ (.int .i64 (aged (ageAt Sn n)))).alloc (.cells #[.slice aq lq cq, .int .i64 (ageAt Sn n)] 40)).drew).cell? ⟨wr.heap.size, 1, none⟩ = some (.int .i64 (ageAt Sn n)) := by
            have := box_cell (heap_last (wr.setCell ⟨gs, n * 2 + 1, none⟩ (.int .i64 (aged (ageAt Sn n)))) (.cells #[.slice aq lq cq, .int .i64 (ageAt Sn n)] 40)) 1
            rw [hwsz] at this
            exact this
          have t0 : (wr.alloc (.cells #[.slice aq lq cq, .int .i64 (ageAt Sn n)] 40)).cell? ⟨X7, 0, none⟩ = some (.slice (some ⟨gs, 0, none⟩) S.length ks) := box_cell hbx1 0
          have hgsr : gs < wr.heap.size := by omega
          have t1 := (bs9.cell (p := ⟨gs, n * 2 + 1, none⟩) hgsr).trans v1
          have t1f := (bs9.frozen (p := ⟨gs, n * 2 + 1, none⟩) hgsr).trans v1f
          have t2 : (wr.alloc (.cells #[.slice aq lq cq, .int .i64 (ageAt Sn n)] 40)).cell? ⟨wr.heap.size, 1, none⟩ = some (.int .i64 (ageAt Sn n)) := box_cell (heap_last _ _) 1
          have t0d : (wr.alloc (.cells #[.slice aq lq cq, .int .i64 (ageAt Sn n)] 40)).drew.cell? ⟨X7, 0, none⟩ = some (.slice (some ⟨gs, 0, none⟩) S.length ks) := t0
          have t1d : (wr.alloc (.cells #[.slice aq lq cq, .int .i64 (ageAt Sn n)] 40)).drew.cell? ⟨gs, n * 2 + 1, none⟩ = some (.int .i64 (ageAt Sn n)) := t1
          have t1fd : (wr.alloc (.cells #[.slice aq lq cq, .int .i64 (ageAt Sn n)] 40)).drew.frozen? ⟨gs, n * 2 + 1, none⟩ = false := t1f
          have t2d : (wr.alloc (.cells #[.slice aq lq cq, .int .i64 (ageAt Sn n)] 40)).drew.cell? ⟨wr.heap.size, 1, none⟩ = some (.int .i64 (ageAt Sn n)) := t2
          have HLS := hid (fun v => least_any (ageAt Sn n) v)
          clear hseg HF HX HKn bs9 hbx1 u0 u1 hNF hNX hNX2 bw9 hwsz
          generalize ageAt Sn n = a at *
          clear hq hq'
          have hwr : IntKind.i64.wrap (a + 1) = a + 1 := by rw [IntKind.wrap_i64]; omega
          generalize hag : aged a = ag at *
          clear hag
          go_wp2_with fail
          go_region_held (fun v => v.cell? ⟨X7, 0, none⟩ = some (.slice (some ⟨gs, 0, none⟩) S.length ks) ∧ v.cell? ⟨wr.heap.size, 1, none⟩ = some (.int .i64 a)) (first | exact ⟨by assumption, by assumption⟩) (first | (go_at_call 38; refine (HLS.out _).mono ?_; rintro e w9 ⟨rfl, rfl⟩))
          all_goals
            go_wp2_with fail
            go_roundw
            case rel => exact ⟨n + 1, by omega, by go_num, HNF.out.below (Below.refl _ _).drew, HNX.out, HNK.out.on (Below.refl _ _).drew (Nat.le_refl _)⟩
            case measure => simp [intOf]; omega
        · obtain rfl : n = S.length := by omega
          have hkl : k < (agesN Sn S.length).length := by rw [agesN_len]; exact hSN
          have hseg : wr.ownsRow lo 40 2 (.slice (some ⟨gs, 0, none⟩) S.length ks) (agesN Sn S.length).length (segXs q (agesN Sn S.length)) := HF.out.own .s trivial
          have hkL : k < Ln.length := by rw [HLL.out]; exact hSN
          have hne : gl ≠ gs := fun e => HF.out.apart .s .l trivial trivial (by intro e; cases e) gs rfl (by rw [← e]; rfl)
          have s0 : wr.cell? ⟨gs, k * 2, none⟩ = some (q k) := by rw [rw_cell hseg rfl (k * 2) (by rw [segXs_len]; omega), segXs_q]
          have s1 : wr.cell? ⟨gs, k * 2 + 1, none⟩ = some (.int .i64 (ageAt (agesN Sn S.length) k)) := by rw [rw_cell hseg rfl (k * 2 + 1) (by rw [segXs_len]; omega), segXs_age]
          have s0f : wr.frozen? ⟨gs, k * 2, none⟩ = false := rw_free hseg rfl _
          have s1f : wr.frozen? ⟨gs, k * 2 + 1, none⟩ = false := rw_free hseg rfl _
          have hFa := fam_clear HF.out k gs rfl
          have hrowl : ((wr.setCell ⟨gs, k * 2, none⟩ (.slice none 0 0)).setCell ⟨gs, k * 2 + 1, none⟩ (.int .i64 0)).ownsRow lo 53 1 (.slice (some ⟨gl, 0, none⟩) nl kl) Ln.length (livXs p Ln.length) := hFa.own .l trivial
          have l0 : ((wr.setCell ⟨gs, k * 2, none⟩ (.slice none 0 0)).setCell ⟨gs, k * 2 + 1, none⟩ (.int .i64 0)).cell? ⟨gl, k, none⟩ = some (p k) := by rw [rw_cell hrowl rfl k (by rw [livXs_len]; exact hkL), livXs_at]
          have l0f : ((wr.setCell ⟨gs, k * 2, none⟩ (.slice none 0 0)).setCell ⟨gs, k * 2 + 1, none⟩ (.int .i64 0)).frozen? ⟨gl, k, none⟩ = false := rw_free hrowl rfl _
          have hXa : ((wr.setCell ⟨gs, k * 2, none⟩ (.slice none 0 0)).setCell ⟨gs, k * 2 + 1, none⟩ (.int .i64 0)).heap[X7]? = some (.cells #[(.slice (some ⟨gs, 0, none⟩) S.length ks), (.slice (some ⟨gl, 0, none⟩) nl kl)] 26) := (keepB _ _ _ _ _ (by omega)).trans ((keepB _ _ _ _ _ (by omega)).trans HX.out)
          have t1 : ((wr.setCell ⟨gs, k * 2, none⟩ (.slice none 0 0)).setCell ⟨gs, k * 2 + 1, none⟩ (.int .i64 0)).cell? ⟨X7, 1, none⟩ = some (.slice (some ⟨gl, 0, none⟩) nl kl) := box_cell hXa 1
          have hKa := (HKn.out.big (setB (Below.refl lo _) gs (k * 2) hgs2 (.slice none 0 0)) hlo).big (setB (Below.refl lo _) gs (k * 2 + 1) hgs2 (.int .i64 0)) hlo
          have hFb := fam_none hFa k gl rfl
          have hXb : (((wr.setCell ⟨gs, k * 2, none⟩ (.slice none 0 0)).setCell ⟨gs, k * 2 + 1, none⟩ (.int .i64 0)).setCell ⟨gl, k, none⟩ (.slice none 0 0)).heap[X7]? = some (.cells #[(.slice (some ⟨gs, 0, none⟩) S.length ks), (.slice (some ⟨gl, 0, none⟩) nl kl)] 26) := (keepB _ _ _ _ _ (by omega)).trans hXa
          have r0 : (((wr.setCell ⟨gs, k * 2, none⟩ (.slice none 0 0)).setCell ⟨gs, k * 2 + 1, none⟩ (.int .i64 0)).setCell ⟨gl, k, none⟩ (.slice none 0 0)).cell? ⟨X7, 0, none⟩ = some (.slice (some ⟨gs, 0, none⟩) S.length ks) := box_cell hXb 0
          have r1 : (((wr.setCell ⟨gs, k * 2, none⟩ (.slice none 0 0)).setCell ⟨gs, k * 2 + 1, none⟩ (.int .i64 0)).setCell ⟨gl, k, none⟩ (.slice none 0 0)).cell? ⟨X7, 1, none⟩ = some (.slice (some ⟨gl, 0, none⟩) nl kl) := box_cell hXb 1
          have HKb := hid (hKa.big (setB (Below.refl lo _) gl k hgl2 (.slice none 0 0)) hlo)
          have hHR : HR w.heap.size (.slice (some ⟨gs, 0, none⟩) S.length ks) (.slice (some ⟨gl, 0, none⟩) nl kl) (clS Sn k) (clL Ln k) (((wr.setCell ⟨gs, k * 2, none⟩ (.slice none 0 0)).setCell ⟨gs, k * 2 + 1, none⟩ (.int .i64 0)).setCell ⟨gl, k, none⟩ (.slice none 0 0)) := clean_hr HE3.out HLL.out (show w.heap.size ≤ lo by omega) hFb
          obtain ⟨aS9, kS9, aL9, kL9, f1, f2, hG9, hV9⟩ := hHR.read
          injection f1 with i1 i2 i3
          injection f2 with j1 j2 j3
          subst i1 j1
          have HC9 : Hid (Calls Try.prog 36 #[.agg #[(.slice (some ⟨gs, 0, none⟩) S.length ks), (.slice (some ⟨gl, 0, none⟩) nl kl)]] (((wr.setCell ⟨gs, k * 2, none⟩ (.slice none 0 0)).setCell ⟨gs, k * 2 + 1, none⟩ (.int .i64 0)).setCell ⟨gl, k, none⟩ (.slice none 0 0)) fun e w' => ∃ vS vL, e = .returned (.agg #[vS, vL]) ∧ HR (((wr.setCell ⟨gs, k * 2, none⟩ (.slice none 0 0)).setCell ⟨gs, k * 2 + 1, none⟩ (.int .i64 0)).setCell ⟨gl, k, none⟩ (.slice none 0 0)).heap.size vS vL (clS Sn k) (clL Ln k) w' ∧ Below (((wr.setCell ⟨gs, k * 2, none⟩ (.slice none 0 0)).setCell ⟨gs, k * 2 + 1, none⟩ (.int .i64 0)).setCell ⟨gl, k, none⟩ (.slice none 0 0)).heap.size (((wr.setCell ⟨gs, k * 2, none⟩ (.slice none 0 0)).setCell ⟨gs, k * 2 + 1, none⟩ (.int .i64 0)).setCell ⟨gl, k, none⟩ (.slice none 0 0)) w') := by
            have hcl := clS_len Sn k
            have hcl2 := clL_len Ln k
            have hll := HLL.out
            have hb6 : ∀ j, j < (clS Sn k).length → (blAt (clS Sn k) j).length ≤ 6 := fun j hj => by
              unfold clS at hj ⊢
              rw [List.length_set, agesN_len] at hj
              rw [blAt_set _ _ _ _ (by rw [agesN_len]; exact hj)]
              by_cases e : j = k
              · rw [if_pos e]; decide
              · rw [if_neg e, agesN_bl Sn _ j hj]; exact (HLN.out.2.2 j hj).2
            have hv6 : ∀ j, j < (clL Ln k).length → (lvAt (clL Ln k) j).length ≤ 6 := fun j hj => by
              unfold clL at hj ⊢
              rw [List.length_set] at hj
              rw [lvAt_set _ _ _ _ hj]
              by_cases e : j = k
              · rw [if_pos e]; decide
              · have h9 := HLN.out.2.2 j (by omega)
                rw [if_neg e, h9.1]; exact h9.2
            have hS8 := HLN.out.1
            have := l5Own_any (some ⟨gs, 0, none⟩) (some ⟨gl, 0, none⟩) ks kl (clS Sn k) (clL Ln k) (((wr.setCell ⟨gs, k * 2, none⟩ (.slice none 0 0)).setCell ⟨gs, k * 2 + 1, none⟩ (.int .i64 0)).setCell ⟨gl, k, none⟩ (.slice none 0 0)) (by omega) (by omega) (fun j hj => by have := hb6 j hj; rw [blAt_eq _ _ hj] at this; omega) (fun j hj => by have := hv6 j hj; rw [lvAt_eq _ _ hj] at this; omega) hG9 hV9
            rw [hcl, hcl2, HE3.out, HE4.out] at this
            exact this
          have hsz2 : (((wr.setCell ⟨gs, k * 2, none⟩ (.slice none 0 0)).setCell ⟨gs, k * 2 + 1, none⟩ (.int .i64 0)).setCell ⟨gl, k, none⟩ (.slice none 0 0)).heap.size = wr.heap.size := by simp [World.setCell]
          clear hHR hG9 hV9 hFb hXb hKa hXa hrowl hFa hseg HF HX HKn i2 i3 j2 j3 y0 y1 z0 z1 z0f z1f HX0 HF0 HK0
          obtain ⟨y0, y1, z0, z1, z0f, z1f⟩ := wk_cells HKb.out
          generalize ageAt (agesN Sn S.length) k = ag at *
          go_wp2_with fail
          generalize (((wr.setCell ⟨gs, k * 2, none⟩ (.slice none 0 0)).setCell ⟨gs, k * 2 + 1, none⟩ (.int .i64 0)).setCell ⟨gl, k, none⟩ (.slice none 0 0)) = W9 at *
          refine HC9.out.mono ?_
          rintro e w9 ⟨vS, vL, rfl, h9, b9⟩
          obtain ⟨as9, ks9, al9, kl9, rfl, rfl, -, -⟩ := h9.read
          have HK9 := hid (HKb.out.on b9 (Nat.le_refl _))
          have HR9 := hid ((h9.low (show w.heap.size ≤ W9.heap.size by have := HKb.out.size; omega)).fill HK9.out (.slice as9 (clS Sn k).length ks9) (.slice al9 (clL Ln k).length kl9))
          clear y0 y1 z0 z1 z0f z1f h9 b9 HC9
          obtain ⟨y0, y1, z0, z1, z0f, z1f⟩ := wk_cells HK9.out
          obtain ⟨b10, q0, q1⟩ := HK9.out.fill (Nat.le_refl _) (.slice as9 (clS Sn k).length ks9) (.slice al9 (clL Ln k).length kl9)
          have HB10 := hid b10
          clear b10 HK9 HKb
          go_wp2_with fail
          generalize (w9.setCell ⟨w.heap.size + 1, 0, none⟩ (.slice as9 (clS Sn k).length ks9)).setCell ⟨w.heap.size + 1, 1, none⟩ (.slice al9 (clL Ln k).length kl9) = X at *
          refine bodyPost_ret (v := .tuple #[.agg #[.slice as9 (clS Sn k).length ks9, .slice al9 (clL Ln k).length kl9], .int .i64 bs.length, .bool true]) (by simp [results, Try.results7, go_sem, q0, q1]) rfl ?_
          rw [HBS.out, HW.out]
          exact ⟨_, _, rfl, HR9.out, HB10.out⟩
end Go.Proofs.Ytohkhcjdjjlfbaa
