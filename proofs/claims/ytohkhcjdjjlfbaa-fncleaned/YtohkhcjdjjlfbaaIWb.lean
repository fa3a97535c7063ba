/- Walk of the program's WriteBlock. -/
import Derived.Test.YtohkhcjdjjlfbaaIAn
import Derived.Test.YtohkhcjdjjlfbaaIGh
namespace Go.Proofs.Ytohkhcjdjjlfbaa
set_option maxRecDepth 100000
open Go.ChangeShapes Go.WideShapes Go.ChangeAt Go.RowKit G00541
theorem irow_one (w : World) (x : Int) : IRow w.heap.size [x] (w.alloc (.cells #[.int .i64 x] 3)) := by
  refine ⟨by rw [heap_size]; omega, fun i hi => ?_, fun i hi j hj => ?_, fun j hj => ?_⟩
  · rw [List.getElem_map]; rfl
  · have hi' : i = 0 := by simp at hi; omega
    have hj' : j = 0 := by omega
    subst hi' hj'
    exact box_cell (heap_last _ _) 0
  · exact box_free (heap_last _ _) j
set_option maxHeartbeats 2000000 in
theorem iWrite_bad (aS aL : Option Addr) (kS kL : Nat) (S : List Sg) (L : List (List Bool)) (x : Int) (w : World) (hno : ¬ (goodH S L = true ∧ 0 ≤ x ∧ x ≤ 15)) (hG : Gs w.heap.size aS S w) (hV : Vs w.heap.size aL L w) :
    Calls Try.prog 25 #[.agg #[.slice aS S.length kS, .slice aL L.length kL], .int .i64 x] w fun e w' => HOut [] [] false w e w' := by
  have HK := hid (WK.start w.heap.size w (.cells #[.slice aS S.length kS, .slice aL L.length kL] 26) (Nat.le_refl _))
  have HC : Hid (∀ v, Below w.heap.size w v → Calls Try.prog 11 #[.agg #[.slice aS S.length kS, .slice aL L.length kL]] v fun e w' => e = .returned (.bool (goodH S L)) ∧ Below v.heap.size v w') := fun v hb => igoodH_any aS aL kS kL S L v ((hG.below hb).mono hb.size) ((hV.below hb).mono hb.size)
  have HN : Hid (goodH S L = true → ¬ (0 ≤ x ∧ x ≤ 15)) := fun h h2 => hno ⟨h, h2⟩
  have y0 := box_cell HK.out.box 0
  have y1 := box_cell HK.out.box 1
  clear hG hV hno
  generalize L.length = nl at *
  generalize hW : (w.alloc (.cells #[.slice aS S.length kS, .slice aL nl kL] 26)).alloc (.cells #[.slice none 0 0, .slice none 0 0] 26) = W at *
  generalize goodH S L = g at *
  have HC2 := hid (HC.out _ HK.out.below)
  have HFILL : Hid (∀ v, WK w.heap.size w (.cells #[.slice aS S.length kS, .slice aL nl kL] 26) v → v.cell? ⟨w.heap.size + 1, 0, none⟩ = some (.slice none 0 0) ∧ v.cell? ⟨w.heap.size + 1, 1, none⟩ = some (.slice none 0 0) ∧ v.frozen? ⟨w.heap.size + 1, 0, none⟩ = false ∧ v.frozen? ⟨w.heap.size + 1, 1, none⟩ = false) := fun v h => ⟨box_cell h.res 0, box_cell h.res 1, box_free h.res 0, box_free h.res 1⟩
  cases g
  · go_enter Try.func25, Try.ntmps25
    go_wp2_with fail
    refine HC2.out.mono ?_
    rintro e w2 ⟨rfl, b2⟩
    have HK2 := hid (HK.out.on b2 (Nat.le_refl _))
    clear b2 hW y0 y1 HK HC HC2
    obtain ⟨z0, z1, z0f, z1f⟩ := HFILL.out _ HK2.out
    obtain ⟨b10, x0, x1⟩ := HK2.out.fill (Nat.le_refl _) (.slice none 0 0) (.slice none 0 0)
    have HB10 := hid b10
    clear b10 HK2
    go_wp2_with fail
    generalize (w2.setCell ⟨w.heap.size + 1, 0, none⟩ (.slice none 0 0)).setCell ⟨w.heap.size + 1, 1, none⟩ (.slice none 0 0) = X at *
    exact bodyPost_ret (v := .tuple #[.agg #[.slice none 0 0, .slice none 0 0], .bool false]) (by simp [results, Try.results25, go_sem, x0, x1]) rfl (HOut.no HB10.out)
  · have HD := hid (fun v => isBlock_no x v (HN.out rfl))
    go_enter Try.func25, Try.ntmps25
    go_wp2_with fail
    refine HC2.out.mono ?_
    rintro e w2 ⟨rfl, b2⟩
    have HK2 := hid (HK.out.on b2 (Nat.le_refl _))
    clear b2 hW y0 y1 HK HC HC2
    go_wp2_with fail
    refine (HD.out _).mono ?_
    rintro e w3 ⟨rfl, hw3⟩
    rw [hw3]
    clear hw3 HD
    obtain ⟨z0, z1, z0f, z1f⟩ := HFILL.out _ HK2.out
    obtain ⟨b10, x0, x1⟩ := HK2.out.fill (Nat.le_refl _) (.slice none 0 0) (.slice none 0 0)
    have HB10 := hid b10
    clear b10 HK2
    go_wp2_with fail
    generalize (w2.setCell ⟨w.heap.size + 1, 0, none⟩ (.slice none 0 0)).setCell ⟨w.heap.size + 1, 1, none⟩ (.slice none 0 0) = X at *
    exact bodyPost_ret (v := .tuple #[.agg #[.slice none 0 0, .slice none 0 0], .bool false]) (by simp [results, Try.results25, go_sem, x0, x1]) rfl (HOut.no HB10.out)
set_option maxHeartbeats 4000000 in
theorem iWrite_good (aS aL : Option Addr) (kS kL : Nat) (S : List Sg) (L : List (List Bool)) (x : Int) (w : World) (hl : L.length = S.length) (hg : goodH S L = true) (hx : 0 ≤ x ∧ x ≤ 15) (hG : Gs w.heap.size aS S w) (hV : Vs w.heap.size aL L w) :
    Calls Try.prog 25 #[.agg #[.slice aS S.length kS, .slice aL L.length kL], .int .i64 x] w fun e w' => WOut (wrH S L x (-1)) w e w' := by
  have hle := Lens.good hl hg
  obtain ⟨hn, -, -⟩ := (goodH_iff S L hl).1 hg
  have HK := hid (WK.start w.heap.size w (.cells #[.slice aS S.length kS, .slice aL L.length kL] 26) (Nat.le_refl _))
  have HC : Hid (∀ v, Below w.heap.size w v → Calls Try.prog 11 #[.agg #[.slice aS S.length kS, .slice aL L.length kL]] v fun e w' => e = .returned (.bool true) ∧ Below v.heap.size v w') := fun v hb => by
    have := igoodH_any aS aL kS kL S L v ((hG.below hb).mono hb.size) ((hV.below hb).mono hb.size)
    rw [hg] at this; exact this
  have HAN : Hid (∀ v, Below w.heap.size w v → Calls Try.prog 34 #[.agg #[.slice aS S.length kS, .slice aL L.length kL], .func (.func 57) #[] #[], .slice (some ⟨v.heap.size, 0, none⟩) 1 1] (v.alloc (.cells #[.int .i64 x] 3)) fun e w' => WOut (wrH S L x (-1)) (v.alloc (.cells #[.int .i64 x] 3)) e w') := fun v hb => by
    have hb1 := boxB v (.cells #[.int .i64 x] 3)
    have hb2 := hb.trans (hb1.mono hb.size)
    have hI : Is (v.alloc (.cells #[.int .i64 x] 3)).heap.size (some ⟨v.heap.size, 0, none⟩) [x] (v.alloc (.cells #[.int .i64 x] 3)) := by
      have hrow : IRow v.heap.size [x] (v.alloc (.cells #[.int .i64 x] 3)) := irow_one v x
      exact hrow.sl hrow.lt
    have := writeAnew_w aS aL (some ⟨v.heap.size, 0, none⟩) kS kL 1 S L [x] (v.alloc (.cells #[.int .i64 x] 3)) hle (by omega) (by simp) ((hG.below hb2).mono hb2.size) ((hV.below hb2).mono hb2.size) hI
    have e1 : wrs (-1) [x] (S, L) = wrH S L x (-1) := by
      show (match wrH S L x (-1) with | some u => some u | none => none) = wrH S L x (-1)
      cases wrH S L x (-1) <;> rfl
    rw [e1] at this
    exact this
  have HD := hid (fun v => isBlock_yes x v hx)
  have y0 := box_cell HK.out.box 0
  have y1 := box_cell HK.out.box 1
  have HFILL : Hid (∀ v, WK w.heap.size w (.cells #[.slice aS S.length kS, .slice aL L.length kL] 26) v → v.cell? ⟨w.heap.size + 1, 0, none⟩ = some (.slice none 0 0) ∧ v.cell? ⟨w.heap.size + 1, 1, none⟩ = some (.slice none 0 0) ∧ v.frozen? ⟨w.heap.size + 1, 0, none⟩ = false ∧ v.frozen? ⟨w.heap.size + 1, 1, none⟩ = false) := fun v h => ⟨box_cell h.res 0, box_cell h.res 1, box_free h.res 0, box_free h.res 1⟩
  clear hG hV hg hle hl hn
  generalize wrH S L x (-1) = o at *
  generalize L.length = nl at *
  have HC2 := hid (HC.out _ HK.out.below)
  generalize hW : (w.alloc (.cells #[.slice aS S.length kS, .slice aL nl kL] 26)).alloc (.cells #[.slice none 0 0, .slice none 0 0] 26) = W at *
  go_enter Try.func25, Try.ntmps25
  go_wp2_with fail
  refine HC2.out.mono ?_
  rintro e w2 ⟨rfl, b2⟩
  have HK2 := hid (HK.out.on b2 (Nat.le_refl _))
  clear b2 hW y0 y1 HK HC HC2
  have y0 := box_cell HK2.out.box 0
  have y1 := box_cell HK2.out.box 1
  go_wp2_with fail
  refine (HD.out _).mono ?_
  rintro e w2' ⟨rfl, hw3⟩
  rw [hw3]
  clear hw3 HD w2'
  have HC3 := hid (HAN.out w2 HK2.out.below)
  have HK3 := hid (HK2.out.on (boxB w2 (.cells #[.int .i64 x] 3)) (Nat.le_refl _))
  clear HAN
  cases o with
  | none =>
    go_wp2_with fail
    refine HC3.out.mono ?_
    rintro e w4 ⟨vS, vL, rfl, h4, b4⟩
    obtain ⟨as4, ks4, al4, kl4, rfl, rfl, -, -⟩ := h4.read
    have HK4 := hid (HK3.out.on b4 (Nat.le_refl _))
    obtain ⟨z0, z1, z0f, z1f⟩ := HFILL.out _ HK4.out
    obtain ⟨b10, x0, x1⟩ := HK4.out.fill (Nat.le_refl _) (.slice as4 0 ks4) (.slice al4 0 kl4)
    have HR4 := hid ((h4.low (show w.heap.size ≤ (w2.alloc (.cells #[.int .i64 x] 3)).heap.size by have := HK3.out.size; omega)).fill HK4.out (.slice as4 0 ks4) (.slice al4 0 kl4))
    have HB10 := hid b10
    clear b10 HK4 HK3 HK2 HC3 h4 b4 y0 y1 HFILL
    go_wp2_with fail
    generalize (w4.setCell ⟨w.heap.size + 1, 0, none⟩ (.slice as4 0 ks4)).setCell ⟨w.heap.size + 1, 1, none⟩ (.slice al4 0 kl4) = X at *
    exact bodyPost_ret (v := .tuple #[.agg #[.slice as4 0 ks4, .slice al4 0 kl4], .bool false]) (by simp [results, Try.results25, go_sem, x0, x1]) rfl ⟨_, _, rfl, HR4.out, HB10.out⟩
  | some t =>
    obtain ⟨S', L'⟩ := t
    go_wp2_with fail
    refine HC3.out.mono ?_
    rintro e w4 ⟨vS, vL, rfl, h4, b4⟩
    obtain ⟨as4, ks4, al4, kl4, rfl, rfl, -, -⟩ := h4.read
    have HK4 := hid (HK3.out.on b4 (Nat.le_refl _))
    obtain ⟨z0, z1, z0f, z1f⟩ := HFILL.out _ HK4.out
    obtain ⟨b10, x0, x1⟩ := HK4.out.fill (Nat.le_refl _) (.slice as4 S'.length ks4) (.slice al4 L'.length kl4)
    have HR4 := hid ((h4.low (show w.heap.size ≤ (w2.alloc (.cells #[.int .i64 x] 3)).heap.size by have := HK3.out.size; omega)).fill HK4.out (.slice as4 S'.length ks4) (.slice al4 L'.length kl4))
    have HB10 := hid b10
    clear b10 HK4 HK3 HK2 HC3 h4 b4 y0 y1 HFILL
    simp only at x0 x1 HR4 HB10 z0 z1
    go_wp2_with fail
    generalize (w4.setCell ⟨w.heap.size + 1, 0, none⟩ (.slice as4 S'.length ks4)).setCell ⟨w.heap.size + 1, 1, none⟩ (.slice al4 L'.length kl4) = X at *
    exact bodyPost_ret (v := .tuple #[.agg #[.slice as4 S'.length ks4, .slice al4 L'.length kl4], .bool true]) (by simp [results, Try.results25, go_sem, x0, x1]) rfl ⟨_, _, rfl, HR4.out, HB10.out⟩
end Go.Proofs.Ytohkhcjdjjlfbaa
