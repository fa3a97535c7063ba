/- The exact law of DoVolume: its walk. At every volume and op impl.DoVolume answers as the model of chapter 6, in memory of its own, and the argument reads afterwards as it read before: laws.FnExactDoVolume, at every input. -/
import Derived.Test.YtbipbihjaeobkaaDoA
import Derived.Test.YtbipbihjaeobkaaVMark
import Derived.Test.YtbipbihjaeobkaaVOpen
import Derived.Deep.RegionHeld
import Derived.Test.YtbipbihjaeobkaaRows
import Derived.Test.YtbipbihjaeobkaaFrame
namespace Go.Proofs.Ytbipbihjaeobkaa
set_option maxRecDepth 100000
open Go.ChangeShapes Go.WideShapes Go.ChangeAt Go.RowKit G00541
theorem kbox {w : World} {X : Nat} {o : Obj} (h : w.heap[X]? = some o) : X < w.heap.size := by
  rcases Nat.lt_or_ge X w.heap.size with h' | h'
  · exact h'
  · rw [Array.getElem?_eq_none h'] at h; cases h
/-- function f answers the volume V1 .. V4 and ok, in memory of its own -/
def TellsDo (f : Nat) (B : List ByteArray) (F : Int) (L : List Rc) (s : Int) (o : Op) (V1 : List ByteArray) (V2 : Int) (V3 : List Rc) (V4 : Int) (ok : Bool) : Prop := ∀ (aB aL : Option Addr) (kB kL : Nat) (v : World), Ss v.heap.size aB B v → Rs v.heap.size aL L v → L.length ≤ kL →
  Calls Try.prog f #[.agg #[.slice aB B.length kB, .int .i64 F, .slice aL L.length kL, .int .i64 s], .agg #[.int .i64 o.kind, .int .i64 o.place, .int .i64 o.long, .string o.data, .int .i64 o.keep]] v fun e w' => ∃ b c d f, e = .returned (.tuple #[.agg #[.slice b V1.length c, .int .i64 V2, .slice d V3.length f, .int .i64 V4], .bool ok]) ∧ OwnV v.heap.size w'.heap.size b V1 d V3 w' ∧ Below v.heap.size v w'
theorem fillB {w v : World} {N Q : Nat} (h : Below N w v) (hQ : N ≤ Q) (a b c d : Value) : Below N w ((((v.setCell ⟨Q, 0, none⟩ a).setCell ⟨Q, 1, none⟩ b).setCell ⟨Q, 2, none⟩ c).setCell ⟨Q, 3, none⟩ d) := setB (setB (setB (setB h _ _ hQ _) _ _ hQ _) _ _ hQ _) _ _ hQ _
theorem ownV_fill {lo hi Q : Nat} {b : Option Addr} {l : List ByteArray} {d : Option Addr} {r : List Rc} {v : World} (h : OwnV lo hi b l d r v) (hQ : Q < lo ∨ hi ≤ Q) (x y z u : Value) : OwnV lo hi b l d r ((((v.setCell ⟨Q, 0, none⟩ x).setCell ⟨Q, 1, none⟩ y).setCell ⟨Q, 2, none⟩ z).setCell ⟨Q, 3, none⟩ u) := by
  have ht : Out Q (Q + 1) v ((((v.setCell ⟨Q, 0, none⟩ x).setCell ⟨Q, 1, none⟩ y).setCell ⟨Q, 2, none⟩ z).setCell ⟨Q, 3, none⟩ u) := Out.ofBut (((((But.refl Q v).setCell _ _).setCell _ _).setCell _ _).setCell _ _) (Nat.le_refl _) (Nat.lt_succ_self _)
  exact h.out ht (by omega)
set_option maxHeartbeats 32000000 in
theorem law_DoVolume (aB aL : Option Addr) (kB kL : Nat) (B : List ByteArray) (F : Int) (L : List Rc) (s : Int) (k p n m : Int) (D : ByteArray) (w : World) (hzB : ∀ s ∈ B, s.size ≤ 9223372036854775807) (hnB : B.length ≤ 9223372036854775807) (hz : ∀ r ∈ L, r.data.length ≤ 9223372036854775807) (hn : L.length ≤ 9223372036854775807) (hD : D.size ≤ 9223372036854775807)
    (hB : Ss w.heap.size aB B w) (hL : Rs w.heap.size aL L w) (V1 : List ByteArray) (V2 : Int) (V3 : List Rc) (V4 : Int) (ok : Bool) (hV : FitV V1 V3)
    (H9 : FitV B L → TellsDo 19 B F L s ⟨k, p, n, D, m⟩ V1 V2 V3 V4 ok) (H11 : FitV B L → TellsDo 21 B F L s ⟨k, p, n, D, m⟩ V1 V2 V3 V4 ok) :
    Calls Try.prog 5 #[.agg #[.slice aB B.length kB, .int .i64 F, .slice aL L.length kL, .int .i64 s], .agg #[.int .i64 k, .int .i64 p, .int .i64 n, .string D, .int .i64 m]] w fun e w' => e = .returned (.bool true) ∧ Below w.heap.size w w' := by
  have HH9 := hid H9
  have HH11 := hid H11
  have HV := hid hV
  obtain ⟨w0, hw0⟩ : ∃ w0, w0 = ((w.alloc (.cells #[.slice aB B.length kB, .int .i64 F, .slice aL L.length kL, .int .i64 s] 32)).alloc (.cells #[.int .i64 k, .int .i64 p, .int .i64 n, .string D, .int .i64 m] 38)) := ⟨_, rfl⟩
  have HB0 : Hid (Below w.heap.size w w0) := by show Below w.heap.size w w0; rw [hw0]; exact (boxB w _).alloc (by simp) _
  have ss0 : w.heap.size + 1 < w0.heap.size := by rw [hw0]; simp
  have HZ : Hid (∀ v, Below w0.heap.size w0 v → Ss v.heap.size aB B v ∧ Rs v.heap.size aL L v) := fun v g => by
    have g' := HB0.out.trans (g.mono HB0.out.size)
    exact ⟨(hB.below g').mono g'.size, (hL.below g').mono g'.size⟩
  have HX : Hid (∀ v, Below w0.heap.size w0 v → (v.cell? ⟨w.heap.size, 0, none⟩ = some (.slice aB B.length kB) ∧ v.cell? ⟨w.heap.size, 1, none⟩ = some (.int .i64 F) ∧ v.cell? ⟨w.heap.size, 2, none⟩ = some (.slice aL L.length kL) ∧ v.cell? ⟨w.heap.size, 3, none⟩ = some (.int .i64 s)) ∧ v.cell? ⟨w.heap.size + 1, 0, none⟩ = some (.int .i64 k) ∧ v.cell? ⟨w.heap.size + 1, 1, none⟩ = some (.int .i64 p) ∧ v.cell? ⟨w.heap.size + 1, 2, none⟩ = some (.int .i64 n) ∧ v.cell? ⟨w.heap.size + 1, 3, none⟩ = some (.string D) ∧ v.cell? ⟨w.heap.size + 1, 4, none⟩ = some (.int .i64 m)) := fun v g => by
    have h1 : v.heap[w.heap.size]? = some (.cells #[.slice aB B.length kB, .int .i64 F, .slice aL L.length kL, .int .i64 s] 32) := (g.block _ (by omega)).trans (by rw [hw0]; exact heap_mid2 _ _ _)
    have h2 : v.heap[w.heap.size + 1]? = some (.cells #[.int .i64 k, .int .i64 p, .int .i64 n, .string D, .int .i64 m] 38) := (g.block _ (by omega)).trans (by rw [hw0]; exact heap_last2 _ _ _)
    exact ⟨⟨box_cell h1 0, box_cell h1 1, box_cell h1 2, box_cell h1 3⟩, box_cell h2 0, box_cell h2 1, box_cell h2 2, box_cell h2 3, box_cell h2 4⟩
  have HSZ : Hid (∀ v, Below w0.heap.size w0 v → Calls Try.prog 14 #[.agg #[.slice aB B.length kB, .int .i64 F, .slice aL L.length kL, .int .i64 s], .int .i64 1048576] v fun e w' => (∃ r : Int, e = .returned (.int .i64 r) ∧ r ≤ 1048576 ∧ (0 ≤ r → FitV B L)) ∧ Below v.heap.size v w') := fun v g => szVolume_any aB aL kB kL B F L s v hzB hnB hz hn (HZ.out v g).1 (HZ.out v g).2
  have HTO : Hid (FitV B L → ∀ v, Below w0.heap.size w0 v → Calls Try.prog 16 #[.agg #[.slice aB B.length kB, .int .i64 F, .slice aL L.length kL, .int .i64 s]] v fun e w' => ∃ bB cB bL cL, e = .returned (.agg #[.slice bB B.length cB, .int .i64 F, .slice bL L.length cL, .int .i64 s]) ∧ OwnV v.heap.size w'.heap.size bB B bL L w' ∧ Below v.heap.size v w' ∧ L.length ≤ cL) := fun f v g => toVolume_cap aB aL kB kL B F L s v f (HZ.out v g).1 (HZ.out v g).2
  have HOPT : Hid (∀ v, Calls Try.prog 20 #[.agg #[.int .i64 k, .int .i64 p, .int .i64 n, .string D, .int .i64 m]] v fun e w' => e = .returned (.agg #[.int .i64 k, .int .i64 p, .int .i64 n, .string D, .int .i64 m]) ∧ Below v.heap.size v w') := fun v => toOp_any k p n m D v
  have HDS := hid hD
  have W0 : Hid (w0 = ((w.alloc (.cells #[.slice aB B.length kB, .int .i64 F, .slice aL L.length kL, .int .i64 s] 32)).alloc (.cells #[.int .i64 k, .int .i64 p, .int .i64 n, .string D, .int .i64 m] 38))) := hw0
  clear hB hL H9 H11 hw0 hz hzB hn hnB hV hD
  have B_0 : Hid (Below w0.heap.size w0 w0) := Below.refl _ _
  go_enter Try.func5, Try.ntmps5
  go_wp2_with fail
  rw [← W0.out]
  refine (HSZ.out _ B_0.out).mono ?_
  rintro e w1 ⟨⟨r, rfl, hr1, hr⟩, g1⟩
  have HR := hid hr
  clear hr HSZ
  have s1 := g1.size
  have B_1 : Hid (Below w0.heap.size w0 w1) := B_0.out.trans (g1.mono B_0.out.size)
  clear B_0
  clear g1
  by_cases p0 : 0 ≤ r
  case neg =>
    have hd0 : decide (r < 0) = true := decide_eq_true (by omega)
    clear HR
    go_wp2_with fail
    go_ret
    exact ⟨rfl, HB0.out.trans (B_1.out.mono HB0.out.size)⟩
  have hd0 : decide (r < 0) = false := decide_eq_false (by omega)
  have HF := hid (HR.out p0)
  have HT := hid (HTO.out HF.out)
  have H9 := hid (HH9.out HF.out)
  have H11 := hid (HH11.out HF.out)
  clear HH9 HH11 HR HTO
  obtain ⟨⟨x0, x1, x2, x3⟩, o0, o1, o2, o3, o4⟩ := HX.out _ B_1.out
  go_wp2_with fail
  refine (szOp_any k p n m D r _ p0 hr1 HDS.out).mono ?_
  rintro e w2 ⟨⟨r2, rfl, -, -⟩, g2⟩
  clear x0 x1 x2 x3 o0 o1 o2 o3 o4
  have s2 := g2.size
  have B_2 : Hid (Below w0.heap.size w0 w2) := B_1.out.trans (g2.mono B_1.out.size)
  clear B_1
  clear g2
  by_cases p1 : 0 ≤ r2
  case neg =>
    have hd1 : decide (r2 < 0) = true := decide_eq_true (by omega)
    go_wp2_with fail
    go_ret
    exact ⟨rfl, HB0.out.trans (B_2.out.mono HB0.out.size)⟩
  have hd1 : decide (r2 < 0) = false := decide_eq_false (by omega)
  have hbk : (ok != ok) = false := by cases ok <;> rfl
  have hbl : (ok == ok) = true := by cases ok <;> rfl
  go_upto_region 8 with fail
  go_cut [6, 7] (fun s1 s2 wc => ∃ (Q : Nat) (bq : Option Addr) (cq : Nat) (dq : Option Addr) (eq : Nat) (lq hq : Nat), s1 = .pointer (some ⟨Q, 0, none⟩) ∧ s2 = .bool ok ∧ wc.heap[Q]? = some (.cells #[.slice bq V1.length cq, .int .i64 V2, .slice dq V3.length eq, .int .i64 V4] 25) ∧ OwnV lq hq bq V1 dq V3 wc ∧ Below w2.heap.size w2 wc ∧ w2.heap.size ≤ Q ∧ w2.heap.size ≤ lq ∧ hq ≤ wc.heap.size ∧ (Q < lq ∨ hq ≤ Q))
  case first =>
    have HS : Hid (∀ v, Below w2.heap.size w2 v → (v.cell? ⟨w.heap.size, 0, none⟩ = some (.slice aB B.length kB) ∧ v.cell? ⟨w.heap.size, 1, none⟩ = some (.int .i64 F) ∧ v.cell? ⟨w.heap.size, 2, none⟩ = some (.slice aL L.length kL) ∧ v.cell? ⟨w.heap.size, 3, none⟩ = some (.int .i64 s)) ∧ v.cell? ⟨w.heap.size + 1, 0, none⟩ = some (.int .i64 k) ∧ v.cell? ⟨w.heap.size + 1, 1, none⟩ = some (.int .i64 p) ∧ v.cell? ⟨w.heap.size + 1, 2, none⟩ = some (.int .i64 n) ∧ v.cell? ⟨w.heap.size + 1, 3, none⟩ = some (.string D) ∧ v.cell? ⟨w.heap.size + 1, 4, none⟩ = some (.int .i64 m)) := fun v h => HX.out v (B_2.out.trans (h.mono B_2.out.size))
    have hB0 : ∀ v, Below w2.heap.size w2 v → Below w0.heap.size w0 v := fun v h => B_2.out.trans (h.mono B_2.out.size)
    have HBB := hid hB0
    clear hB0
    have A0 : Below w2.heap.size w2 w2.drew := (Below.refl _ _).drew
    have A0a : Below w2.heap.size w2 (w2.alloc (.cells #[.slice none 0 0, .int .i64 0, .slice none 0 0, .int .i64 0] 25)).drew := (boxB w2 _).drew
    obtain ⟨⟨x0, x1, x2, x3⟩, o0, o1, o2, o3, o4⟩ := HS.out _ A0
    obtain ⟨⟨xa0, xa1, xa2, xa3⟩, oa0, oa1, oa2, oa3, oa4⟩ := HS.out _ A0a
    go_region_held (fun v => (v.cell? ⟨w.heap.size, 0, none⟩ = some (.slice aB B.length kB) ∧ v.cell? ⟨w.heap.size, 1, none⟩ = some (.int .i64 F) ∧ v.cell? ⟨w.heap.size, 2, none⟩ = some (.slice aL L.length kL) ∧ v.cell? ⟨w.heap.size, 3, none⟩ = some (.int .i64 s)) ∧ v.cell? ⟨w.heap.size + 1, 0, none⟩ = some (.int .i64 k) ∧ v.cell? ⟨w.heap.size + 1, 1, none⟩ = some (.int .i64 p) ∧ v.cell? ⟨w.heap.size + 1, 2, none⟩ = some (.int .i64 n) ∧ v.cell? ⟨w.heap.size + 1, 3, none⟩ = some (.string D) ∧ v.cell? ⟨w.heap.size + 1, 4, none⟩ = some (.int .i64 m)) (first | exact HS.out _ (by with_reducible assumption)) (first | (go_at_call 16; refine (HT.out _ (HBB.out _ (by first | with_reducible exact A0 | with_reducible exact A0a))).mono ?_; rintro e wt ⟨bt, ct, dt, et, rfl, ot, gt, kt⟩; have st := gt.size; have At : Below w2.heap.size w2 wt := (by first | with_reducible exact A0.trans (gt.mono A0.size) | with_reducible exact A0a.trans (gt.mono A0a.size)); have Ata : Below w2.heap.size w2 (wt.alloc (.cells #[.slice none 0 0, .int .i64 0, .slice none 0 0, .int .i64 0] 25)) := At.trans ((boxB wt _).mono At.size); (try (have qt : wt.heap[w2.heap.size]? = some (.cells #[.slice none 0 0, .int .i64 0, .slice none 0 0, .int .i64 0] 25) := (gt.block _ (show w2.heap.size < (w2.alloc (.cells #[.slice none 0 0, .int .i64 0, .slice none 0 0, .int .i64 0] 25)).heap.size by simp)).trans (heap_last w2 _)))) | (go_at_call 20; refine (HOPT.out _).mono ?_; rintro e wo ⟨rfl, go⟩; have so := go.size; have Ao : Below w2.heap.size w2 wo := (by first | with_reducible exact At.trans (go.mono At.size) | with_reducible exact Ata.trans (go.mono Ata.size)); have Aoa : Below w2.heap.size w2 (wo.alloc (.cells #[.slice none 0 0, .int .i64 0, .slice none 0 0, .int .i64 0] 25)) := Ao.trans ((boxB wo _).mono Ao.size); (try (have qo0 : wo.heap[w2.heap.size]? = some (.cells #[.slice none 0 0, .int .i64 0, .slice none 0 0, .int .i64 0] 25) := (go.block _ (by first | (exact kbox qt) | (have h9 := kbox qt; simp; omega))).trans (by first | exact qt | exact (Below.heap_alloc _ _ _ (kbox qt)).trans qt))); (try (have qo1 : wo.heap[wt.heap.size]? = some (.cells #[.slice none 0 0, .int .i64 0, .slice none 0 0, .int .i64 0] 25) := (go.block _ (show wt.heap.size < (wt.alloc (.cells #[.slice none 0 0, .int .i64 0, .slice none 0 0, .int .i64 0] 25)).heap.size by simp)).trans (heap_last wt _)))) | (go_at_call 19; have oo : OwnV _ _ bt B dt L wo := (by first | exact ot.below go | exact (ot.below (boxB wt _)).below go); have ooa := oo.below (boxB wo (.cells #[.slice none 0 0, .int .i64 0, .slice none 0 0, .int .i64 0] 25)); refine (H9.out bt dt ct et _ (by first | exact oo.read.1 | exact ooa.read.1) (by first | exact oo.read.2 | exact ooa.read.2) kt).mono ?_; rintro e wd ⟨bq, cq, dq, eq, rfl, od, gd⟩; have sd := gd.size; have Ad : Below w2.heap.size w2 wd := (by first | with_reducible exact Ao.trans (gd.mono Ao.size) | with_reducible exact Aoa.trans (gd.mono Aoa.size)); have Ada : Below w2.heap.size w2 (wd.alloc (.cells #[.slice none 0 0, .int .i64 0, .slice none 0 0, .int .i64 0] 25)) := Ad.trans ((boxB wd _).mono Ad.size); have Adb : Below w2.heap.size w2 (wd.alloc (.cells #[.slice bq V1.length cq, .int .i64 V2, .slice dq V3.length eq, .int .i64 V4] 25)) := Ad.trans ((boxB wd _).mono Ad.size); have Af0 := fillB (Q := w2.heap.size) Ad (Nat.le_refl _) (.slice bq V1.length cq) (.int .i64 V2) (.slice dq V3.length eq) (.int .i64 V4); have Af1 := fillB (Q := wt.heap.size) Ad At.size (.slice bq V1.length cq) (.int .i64 V2) (.slice dq V3.length eq) (.int .i64 V4); have Af2 := fillB (Q := wo.heap.size) Ad Ao.size (.slice bq V1.length cq) (.int .i64 V2) (.slice dq V3.length eq) (.int .i64 V4); (try (have qd0 : wd.heap[w2.heap.size]? = some (.cells #[.slice none 0 0, .int .i64 0, .slice none 0 0, .int .i64 0] 25) := (gd.block _ (by first | (exact kbox qo0) | (have h9 := kbox qo0; simp; omega))).trans (by first | exact qo0 | exact (Below.heap_alloc _ _ _ (kbox qo0)).trans qo0); obtain ⟨⟨ra0, ra1, ra2, ra3⟩, rb0, rb1, rb2, rb3⟩ := box4 qd0)); (try (have qd1 : wd.heap[wt.heap.size]? = some (.cells #[.slice none 0 0, .int .i64 0, .slice none 0 0, .int .i64 0] 25) := (gd.block _ (by first | (exact kbox qo1) | (have h9 := kbox qo1; simp; omega))).trans (by first | exact qo1 | exact (Below.heap_alloc _ _ _ (kbox qo1)).trans qo1); obtain ⟨⟨rc0, rc1, rc2, rc3⟩, rd0, rd1, rd2, rd3⟩ := box4 qd1)); (try (have qd2 : wd.heap[wo.heap.size]? = some (.cells #[.slice none 0 0, .int .i64 0, .slice none 0 0, .int .i64 0] 25) := (gd.block _ (show wo.heap.size < (wo.alloc (.cells #[.slice none 0 0, .int .i64 0, .slice none 0 0, .int .i64 0] 25)).heap.size by simp)).trans (heap_last wo _); obtain ⟨⟨re0, re1, re2, re3⟩, rf0, rf1, rf2, rf3⟩ := box4 qd2))))
    all_goals
      have ga := boxB wd (.cells #[.slice bq V1.length cq, .int .i64 V2, .slice dq V3.length eq, .int .i64 V4] 25)
      have oda := od.below ga
      have hl4 := heap_last wd (.cells #[.slice bq V1.length cq, .int .i64 V2, .slice dq V3.length eq, .int .i64 V4] 25)
      go_wp2_with fail
      go_meet
      case rel =>
        first
          | (have hh := qd0; refine ⟨w2.heap.size, bq, cq, dq, eq, wo.heap.size, wd.heap.size, rfl, rfl, ?_, ?_, ?_, (Nat.le_refl _), ?_, ?_, ?_⟩; (with_reducible exact fill4 hh (.slice bq V1.length cq) (.int .i64 V2) (.slice dq V3.length eq) (.int .i64 V4)); (exact ownV_fill (Q := w2.heap.size) od (Or.inl (kbox qo0)) (.slice bq V1.length cq) (.int .i64 V2) (.slice dq V3.length eq) (.int .i64 V4)); (with_reducible exact Af0); (exact Ao.size); (simp [World.setCell]); (exact Or.inl (kbox qo0)))
          | (have hh := qd1; refine ⟨wt.heap.size, bq, cq, dq, eq, wo.heap.size, wd.heap.size, rfl, rfl, ?_, ?_, ?_, At.size, ?_, ?_, ?_⟩; (with_reducible exact fill4 hh (.slice bq V1.length cq) (.int .i64 V2) (.slice dq V3.length eq) (.int .i64 V4)); (exact ownV_fill (Q := wt.heap.size) od (Or.inl (kbox qo1)) (.slice bq V1.length cq) (.int .i64 V2) (.slice dq V3.length eq) (.int .i64 V4)); (with_reducible exact Af1); (exact Ao.size); (simp [World.setCell]); (exact Or.inl (kbox qo1)))
          | (have hh := qd2; refine ⟨wo.heap.size, bq, cq, dq, eq, (wo.alloc (.cells #[.slice none 0 0, .int .i64 0, .slice none 0 0, .int .i64 0] 25)).heap.size, wd.heap.size, rfl, rfl, ?_, ?_, ?_, Ao.size, ?_, ?_, ?_⟩; (with_reducible exact fill4 hh (.slice bq V1.length cq) (.int .i64 V2) (.slice dq V3.length eq) (.int .i64 V4)); (exact ownV_fill (Q := wo.heap.size) od (Or.inl ((by simp))) (.slice bq V1.length cq) (.int .i64 V2) (.slice dq V3.length eq) (.int .i64 V4)); (with_reducible exact Af2); (exact Nat.le_trans Ao.size (by simp)); (simp [World.setCell]); (exact Or.inl ((by simp))))
          | (refine ⟨wd.heap.size, bq, cq, dq, eq, wo.heap.size, wd.heap.size, rfl, rfl, ?_, ?_, ?_, Ad.size, Ao.size, ?_, Or.inr (Nat.le_refl _)⟩; (with_reducible exact hl4); (exact oda); (with_reducible exact Adb); (simp))
  case rest =>
    obtain ⟨QW, bW, cW, dW, eW, lW, hW, rfl, rfl, hQ, hO, gB, q1, q2, q3, q4⟩ := hcut
    generalize hwc : wc = w3 at *
    clear hwc
    have s3 := gB.size
    have B_3 : Hid (Below w0.heap.size w0 w3) := B_2.out.trans (gB.mono B_2.out.size)
    clear B_2
    have Wk_3 : Hid (w3.heap[QW]? = some (.cells #[.slice bW V1.length cW, .int .i64 V2, .slice dW V3.length eW, .int .i64 V4] 25)) := hQ
    have Wo_3 : Hid (OwnV lW hW bW V1 dW V3 w3) := hO
    have q5_W := kbox hQ
    have q1_W := q1
    have q2_W := q2
    have q3_W := q3
    have q4_W := q4
    clear hQ hO gB q1 q2 q3 q4
    obtain ⟨⟨x0, x1, x2, x3⟩, o0, o1, o2, o3, o4⟩ := HX.out _ B_3.out
    go_wp2_with fail
    refine (HT.out _ B_3.out).mono ?_
    rintro e w4 ⟨b4, c4, d4, e4, rfl, oT, gT, kT⟩
    clear x0 x1 x2 x3 o0 o1 o2 o3 o4
    have s4 := gT.size
    have B_4 : Hid (Below w0.heap.size w0 w4) := B_3.out.trans (gT.mono B_3.out.size)
    have Wk_4 : Hid (w4.heap[QW]? = some (.cells #[.slice bW V1.length cW, .int .i64 V2, .slice dW V3.length eW, .int .i64 V4] 25)) := (gT.block _ (kbox Wk_3.out)).trans Wk_3.out
    have Wo_4 : Hid (OwnV lW hW bW V1 dW V3 w4) := Wo_3.out.below gT
    clear B_3 Wk_3 Wo_3
    have Xo_4 : Hid (OwnV w3.heap.size w4.heap.size b4 B d4 L w4) := oT
    have KT := hid kT
    clear oT gT kT
    have gA := boxB w4 (.cells #[.slice b4 B.length c4, .int .i64 F, .slice d4 L.length e4, .int .i64 s] 25)
    have hA : (w4.alloc (.cells #[.slice b4 B.length c4, .int .i64 F, .slice d4 L.length e4, .int .i64 s] 25)).heap[w4.heap.size]? = some (.cells #[.slice b4 B.length c4, .int .i64 F, .slice d4 L.length e4, .int .i64 s] 25) := heap_last _ _
    have zA : (w4.alloc (.cells #[.slice b4 B.length c4, .int .i64 F, .slice d4 L.length e4, .int .i64 s] 25)).heap.size ≤ w4.heap.size + 1 := Nat.le_of_eq (heap_size _ _)
    have yA : w4.heap.size < (w4.alloc (.cells #[.slice b4 B.length c4, .int .i64 F, .slice d4 L.length e4, .int .i64 s] 25)).heap.size := by simp
    generalize hW5 : w4.alloc (.cells #[.slice b4 B.length c4, .int .i64 F, .slice d4 L.length e4, .int .i64 s] 25) = w5 at *
    have s5 := gA.size
    have B_5 : Hid (Below w0.heap.size w0 w5) := B_4.out.trans (gA.mono B_4.out.size)
    have Wk_5 : Hid (w5.heap[QW]? = some (.cells #[.slice bW V1.length cW, .int .i64 V2, .slice dW V3.length eW, .int .i64 V4] 25)) := (gA.block _ (kbox Wk_4.out)).trans Wk_4.out
    have Wo_5 : Hid (OwnV lW hW bW V1 dW V3 w5) := Wo_4.out.below gA
    have Xo_5 : Hid (OwnV w3.heap.size w4.heap.size b4 B d4 L w5) := Xo_4.out.below gA
    clear B_4 Wk_4 Wo_4 Xo_4
    have Xk_5 : Hid (w5.heap[w4.heap.size]? = some (.cells #[.slice b4 B.length c4, .int .i64 F, .slice d4 L.length e4, .int .i64 s] 25)) := hA
    have zz5 := zA
    have yy5 := yA
    clear gA hA zA yA
    go_upto_region 10 with fail
    go_cut [9, 10] (fun s1 s2 wc => ∃ (Q : Nat) (bq : Option Addr) (cq : Nat) (dq : Option Addr) (eq : Nat) (lq hq : Nat), s1 = .pointer (some ⟨Q, 0, none⟩) ∧ s2 = .bool ok ∧ wc.heap[Q]? = some (.cells #[.slice bq V1.length cq, .int .i64 V2, .slice dq V3.length eq, .int .i64 V4] 25) ∧ OwnV lq hq bq V1 dq V3 wc ∧ Below w5.heap.size w5 wc ∧ w5.heap.size ≤ Q ∧ w5.heap.size ≤ lq ∧ hq ≤ wc.heap.size ∧ (Q < lq ∨ hq ≤ Q))
    case first =>
      have HS : Hid (∀ v, Below w5.heap.size w5 v → (v.cell? ⟨w4.heap.size, 0, none⟩ = some (.slice b4 B.length c4) ∧ v.cell? ⟨w4.heap.size, 1, none⟩ = some (.int .i64 F) ∧ v.cell? ⟨w4.heap.size, 2, none⟩ = some (.slice d4 L.length e4) ∧ v.cell? ⟨w4.heap.size, 3, none⟩ = some (.int .i64 s)) ∧ v.cell? ⟨w.heap.size + 1, 0, none⟩ = some (.int .i64 k) ∧ v.cell? ⟨w.heap.size + 1, 1, none⟩ = some (.int .i64 p) ∧ v.cell? ⟨w.heap.size + 1, 2, none⟩ = some (.int .i64 n) ∧ v.cell? ⟨w.heap.size + 1, 3, none⟩ = some (.string D) ∧ v.cell? ⟨w.heap.size + 1, 4, none⟩ = some (.int .i64 m)) := fun v h => ⟨(box4 ((h.block _ (kbox Xk_5.out)).trans Xk_5.out)).1, (HX.out v (B_5.out.trans (h.mono B_5.out.size))).2⟩
      have hB0 : ∀ v, Below w5.heap.size w5 v → Below w0.heap.size w0 v := fun v h => B_5.out.trans (h.mono B_5.out.size)
      have HBB := hid hB0
      clear hB0
      have A0 : Below w5.heap.size w5 w5.drew := (Below.refl _ _).drew
      have A0a : Below w5.heap.size w5 (w5.alloc (.cells #[.slice none 0 0, .int .i64 0, .slice none 0 0, .int .i64 0] 25)).drew := (boxB w5 _).drew
      obtain ⟨⟨x0, x1, x2, x3⟩, o0, o1, o2, o3, o4⟩ := HS.out _ A0
      obtain ⟨⟨xa0, xa1, xa2, xa3⟩, oa0, oa1, oa2, oa3, oa4⟩ := HS.out _ A0a
      go_region_held (fun v => (v.cell? ⟨w4.heap.size, 0, none⟩ = some (.slice b4 B.length c4) ∧ v.cell? ⟨w4.heap.size, 1, none⟩ = some (.int .i64 F) ∧ v.cell? ⟨w4.heap.size, 2, none⟩ = some (.slice d4 L.length e4) ∧ v.cell? ⟨w4.heap.size, 3, none⟩ = some (.int .i64 s)) ∧ v.cell? ⟨w.heap.size + 1, 0, none⟩ = some (.int .i64 k) ∧ v.cell? ⟨w.heap.size + 1, 1, none⟩ = some (.int .i64 p) ∧ v.cell? ⟨w.heap.size + 1, 2, none⟩ = some (.int .i64 n) ∧ v.cell? ⟨w.heap.size + 1, 3, none⟩ = some (.string D) ∧ v.cell? ⟨w.heap.size + 1, 4, none⟩ = some (.int .i64 m)) (first | exact HS.out _ (by with_reducible assumption)) (first | (go_at_call 20; refine (HOPT.out _).mono ?_; rintro e wo ⟨rfl, go⟩; have so := go.size; have Ao : Below w5.heap.size w5 wo := (by first | with_reducible exact A0.trans (go.mono A0.size) | with_reducible exact A0a.trans (go.mono A0a.size)); have Aoa : Below w5.heap.size w5 (wo.alloc (.cells #[.slice none 0 0, .int .i64 0, .slice none 0 0, .int .i64 0] 25)) := Ao.trans ((boxB wo _).mono Ao.size); (try (have qo0 : wo.heap[w5.heap.size]? = some (.cells #[.slice none 0 0, .int .i64 0, .slice none 0 0, .int .i64 0] 25) := (go.block _ (show w5.heap.size < (w5.alloc (.cells #[.slice none 0 0, .int .i64 0, .slice none 0 0, .int .i64 0] 25)).heap.size by simp)).trans (heap_last w5 _)))) | (go_at_call 21; have oo := Xo_5.out.below Ao; have ooa := oo.below (boxB wo (.cells #[.slice none 0 0, .int .i64 0, .slice none 0 0, .int .i64 0] 25)); refine (H11.out b4 d4 c4 e4 _ (by first | exact oo.read.1 | exact ooa.read.1) (by first | exact oo.read.2 | exact ooa.read.2) KT.out).mono ?_; rintro e wd ⟨bq, cq, dq, eq, rfl, od, gd⟩; have sd := gd.size; have Ad : Below w5.heap.size w5 wd := (by first | with_reducible exact Ao.trans (gd.mono Ao.size) | with_reducible exact Aoa.trans (gd.mono Aoa.size)); have Ada : Below w5.heap.size w5 (wd.alloc (.cells #[.slice none 0 0, .int .i64 0, .slice none 0 0, .int .i64 0] 25)) := Ad.trans ((boxB wd _).mono Ad.size); have Adb : Below w5.heap.size w5 (wd.alloc (.cells #[.slice bq V1.length cq, .int .i64 V2, .slice dq V3.length eq, .int .i64 V4] 25)) := Ad.trans ((boxB wd _).mono Ad.size); have Af0 := fillB (Q := w5.heap.size) Ad (Nat.le_refl _) (.slice bq V1.length cq) (.int .i64 V2) (.slice dq V3.length eq) (.int .i64 V4); have Af2 := fillB (Q := wo.heap.size) Ad Ao.size (.slice bq V1.length cq) (.int .i64 V2) (.slice dq V3.length eq) (.int .i64 V4); (try (have qd0 : wd.heap[w5.heap.size]? = some (.cells #[.slice none 0 0, .int .i64 0, .slice none 0 0, .int .i64 0] 25) := (gd.block _ (by first | (exact kbox qo0) | (have h9 := kbox qo0; simp; omega))).trans (by first | exact qo0 | exact (Below.heap_alloc _ _ _ (kbox qo0)).trans qo0); obtain ⟨⟨ra0, ra1, ra2, ra3⟩, rb0, rb1, rb2, rb3⟩ := box4 qd0)); (try (have qd2 : wd.heap[wo.heap.size]? = some (.cells #[.slice none 0 0, .int .i64 0, .slice none 0 0, .int .i64 0] 25) := (gd.block _ (show wo.heap.size < (wo.alloc (.cells #[.slice none 0 0, .int .i64 0, .slice none 0 0, .int .i64 0] 25)).heap.size by simp)).trans (heap_last wo _); obtain ⟨⟨re0, re1, re2, re3⟩, rf0, rf1, rf2, rf3⟩ := box4 qd2))))
      all_goals
        have ga := boxB wd (.cells #[.slice bq V1.length cq, .int .i64 V2, .slice dq V3.length eq, .int .i64 V4] 25)
        have oda := od.below ga
        have hl4 := heap_last wd (.cells #[.slice bq V1.length cq, .int .i64 V2, .slice dq V3.length eq, .int .i64 V4] 25)
        go_wp2_with fail
        go_meet
        case rel =>
          first
            | (have hh := qd0; refine ⟨w5.heap.size, bq, cq, dq, eq, wo.heap.size, wd.heap.size, rfl, rfl, ?_, ?_, ?_, (Nat.le_refl _), ?_, ?_, ?_⟩; (with_reducible exact fill4 hh (.slice bq V1.length cq) (.int .i64 V2) (.slice dq V3.length eq) (.int .i64 V4)); (exact ownV_fill (Q := w5.heap.size) od (Or.inl (kbox qo0)) (.slice bq V1.length cq) (.int .i64 V2) (.slice dq V3.length eq) (.int .i64 V4)); (with_reducible exact Af0); (exact Ao.size); (simp [World.setCell]); (exact Or.inl (kbox qo0)))
            | (have hh := qd2; refine ⟨wo.heap.size, bq, cq, dq, eq, (wo.alloc (.cells #[.slice none 0 0, .int .i64 0, .slice none 0 0, .int .i64 0] 25)).heap.size, wd.heap.size, rfl, rfl, ?_, ?_, ?_, Ao.size, ?_, ?_, ?_⟩; (with_reducible exact fill4 hh (.slice bq V1.length cq) (.int .i64 V2) (.slice dq V3.length eq) (.int .i64 V4)); (exact ownV_fill (Q := wo.heap.size) od (Or.inl ((by simp))) (.slice bq V1.length cq) (.int .i64 V2) (.slice dq V3.length eq) (.int .i64 V4)); (with_reducible exact Af2); (exact Nat.le_trans Ao.size (by simp)); (simp [World.setCell]); (exact Or.inl ((by simp))))
            | (refine ⟨wd.heap.size, bq, cq, dq, eq, wo.heap.size, wd.heap.size, rfl, rfl, ?_, ?_, ?_, Ad.size, Ao.size, ?_, Or.inr (Nat.le_refl _)⟩; (with_reducible exact hl4); (exact oda); (with_reducible exact Adb); (simp))
    case rest =>
      obtain ⟨QG, bG, cG, dG, eG, lG, hG, rfl, rfl, hQ, hO, gB, q1, q2, q3, q4⟩ := hcut
      generalize hwc : wc = w6 at *
      clear hwc
      have s6 := gB.size
      have B_6 : Hid (Below w0.heap.size w0 w6) := B_5.out.trans (gB.mono B_5.out.size)
      have Wk_6 : Hid (w6.heap[QW]? = some (.cells #[.slice bW V1.length cW, .int .i64 V2, .slice dW V3.length eW, .int .i64 V4] 25)) := (gB.block _ (kbox Wk_5.out)).trans Wk_5.out
      have Wo_6 : Hid (OwnV lW hW bW V1 dW V3 w6) := Wo_5.out.below gB
      have Xo_6 : Hid (OwnV w3.heap.size w4.heap.size b4 B d4 L w6) := Xo_5.out.below gB
      have Xk_6 : Hid (w6.heap[w4.heap.size]? = some (.cells #[.slice b4 B.length c4, .int .i64 F, .slice d4 L.length e4, .int .i64 s] 25)) := (gB.block _ (kbox Xk_5.out)).trans Xk_5.out
      clear B_5 Wk_5 Wo_5 Xo_5 Xk_5
      have Gk_6 : Hid (w6.heap[QG]? = some (.cells #[.slice bG V1.length cG, .int .i64 V2, .slice dG V3.length eG, .int .i64 V4] 25)) := hQ
      have Go_6 : Hid (OwnV lG hG bG V1 dG V3 w6) := hO
      have q5_G := kbox hQ
      have q1_G := q1
      have q2_G := q2
      have q3_G := q3
      have q4_G := q4
      clear hQ hO gB q1 q2 q3 q4
      obtain ⟨⟨y0, y1, y2, y3⟩, -⟩ := box4 Gk_6.out
      obtain ⟨⟨z0, z1, z2, z3⟩, -⟩ := box4 Wk_6.out
      go_wp2_with fail
      refine (eqVolume_same bG dG bW dW cG eG cW eW V1 V2 V3 V4 _ HV.out Go_6.out.read.1 Go_6.out.read.2 Wo_6.out.read.1 Wo_6.out.read.2).mono ?_
      rintro e w7 ⟨rfl, gE⟩
      clear y0 y1 y2 y3 z0 z1 z2 z3
      have s7 := gE.size
      have B_7 : Hid (Below w0.heap.size w0 w7) := B_6.out.trans (gE.mono B_6.out.size)
      have Wk_7 : Hid (w7.heap[QW]? = some (.cells #[.slice bW V1.length cW, .int .i64 V2, .slice dW V3.length eW, .int .i64 V4] 25)) := (gE.block _ (kbox Wk_6.out)).trans Wk_6.out
      have Wo_7 : Hid (OwnV lW hW bW V1 dW V3 w7) := Wo_6.out.below gE
      have Xo_7 : Hid (OwnV w3.heap.size w4.heap.size b4 B d4 L w7) := Xo_6.out.below gE
      have Xk_7 : Hid (w7.heap[w4.heap.size]? = some (.cells #[.slice b4 B.length c4, .int .i64 F, .slice d4 L.length e4, .int .i64 s] 25)) := (gE.block _ (kbox Xk_6.out)).trans Xk_6.out
      have Gk_7 : Hid (w7.heap[QG]? = some (.cells #[.slice bG V1.length cG, .int .i64 V2, .slice dG V3.length eG, .int .i64 V4] 25)) := (gE.block _ (kbox Gk_6.out)).trans Gk_6.out
      have Go_7 : Hid (OwnV lG hG bG V1 dG V3 w7) := Go_6.out.below gE
      clear B_6 Wk_6 Wo_6 Xo_6 Xk_6 Gk_6 Go_6
      clear gE
      have Bd : Hid (Below w0.heap.size w0 w7.drew) := B_7.out.drew
      obtain ⟨⟨x0, x1, x2, x3⟩, -⟩ := HX.out _ Bd.out
      obtain ⟨⟨y0, y1, y2, y3⟩, -⟩ := box4 Xk_7.out
      have y0d : w7.drew.cell? ⟨w4.heap.size, 0, none⟩ = some (.slice b4 B.length c4) := y0
      have y1d : w7.drew.cell? ⟨w4.heap.size, 1, none⟩ = some (.int .i64 F) := y1
      have y2d : w7.drew.cell? ⟨w4.heap.size, 2, none⟩ = some (.slice d4 L.length e4) := y2
      have y3d : w7.drew.cell? ⟨w4.heap.size, 3, none⟩ = some (.int .i64 s) := y3
      have HCd := hid (HT.out _ Bd.out)
      have hsX : w4.heap.size < w7.heap.size := kbox Xk_7.out
      have HEQ : Hid (∀ v (bB bL : Option Addr) (cB cL : Nat), Below w7.heap.size w7 v → Ss v.heap.size bB B v → Rs v.heap.size bL L v → Calls Try.prog 11 #[.agg #[.slice b4 B.length c4, .int .i64 F, .slice d4 L.length e4, .int .i64 s], .agg #[.slice bB B.length cB, .int .i64 F, .slice bL L.length cL, .int .i64 s]] v fun e w' => e = .returned (.bool true) ∧ Below v.heap.size v w') := fun v bB bL cB cL g h1 h2 => eqVolume_same b4 d4 bB bL c4 e4 cB cL B F L s v HF.out (Xo_7.out.below g).read.1 (Xo_7.out.below g).read.2 h1 h2
      go_wp2_with fail
      go_region_held (fun v => (v.cell? ⟨w4.heap.size, 0, none⟩ = some (.slice b4 B.length c4) ∧ v.cell? ⟨w4.heap.size, 1, none⟩ = some (.int .i64 F) ∧ v.cell? ⟨w4.heap.size, 2, none⟩ = some (.slice d4 L.length e4) ∧ v.cell? ⟨w4.heap.size, 3, none⟩ = some (.int .i64 s)) ∧ v.cell? ⟨w.heap.size, 0, none⟩ = some (.slice aB B.length kB) ∧ v.cell? ⟨w.heap.size, 1, none⟩ = some (.int .i64 F) ∧ v.cell? ⟨w.heap.size, 2, none⟩ = some (.slice aL L.length kL) ∧ v.cell? ⟨w.heap.size, 3, none⟩ = some (.int .i64 s)) (first | exact ⟨⟨by assumption, by assumption, by assumption, by assumption⟩, by assumption, by assumption, by assumption, by assumption⟩) (first | (go_at_call 16; refine HCd.out.mono ?_; rintro e wa ⟨b7, c7, d7, e7, rfl, o7, g7, -⟩; have s7 := g7.size; have z0 := (g7.cell (p := ⟨w4.heap.size, 0, none⟩) hsX).trans y0; have z1 := (g7.cell (p := ⟨w4.heap.size, 1, none⟩) hsX).trans y1; have z2 := (g7.cell (p := ⟨w4.heap.size, 2, none⟩) hsX).trans y2; have z3 := (g7.cell (p := ⟨w4.heap.size, 3, none⟩) hsX).trans y3; have Ba : Hid (Below w0.heap.size w0 wa) := Bd.out.trans (g7.mono Bd.out.size); obtain ⟨⟨z4, z5, z6, z7⟩, -⟩ := HX.out _ Ba.out) | (go_at_call 11; refine (HEQ.out wa _ _ _ _ ⟨g7.os, g7.tape, g7.output, g7.size, g7.block⟩ o7.read.1 o7.read.2).mono ?_; rintro e w8 ⟨rfl, g8⟩; have t0 := (g8.cell (p := ⟨w4.heap.size, 0, none⟩) (show w4.heap.size < wa.heap.size from Nat.lt_of_lt_of_le hsX s7)).trans z0; have t1 := (g8.cell (p := ⟨w4.heap.size, 1, none⟩) (show w4.heap.size < wa.heap.size from Nat.lt_of_lt_of_le hsX s7)).trans z1; have t2 := (g8.cell (p := ⟨w4.heap.size, 2, none⟩) (show w4.heap.size < wa.heap.size from Nat.lt_of_lt_of_le hsX s7)).trans z2; have t3 := (g8.cell (p := ⟨w4.heap.size, 3, none⟩) (show w4.heap.size < wa.heap.size from Nat.lt_of_lt_of_le hsX s7)).trans z3; have Bb : Hid (Below w0.heap.size w0 w8) := Ba.out.trans (g8.mono Ba.out.size); obtain ⟨⟨t4, t5, t6, t7⟩, -⟩ := HX.out _ Bb.out))
      all_goals
        have gR : Below w7.heap.size w7 w8 := (show Below w7.heap.size w7 wa from ⟨g7.os, g7.tape, g7.output, g7.size, g7.block⟩).trans (g8.mono s7)
        clear x0 x1 x2 x3 y0 y1 y2 y3 y0d y1d y2d y3d z0 z1 z2 z3 z4 z5 z6 z7 t0 t1 t2 t3 t4 t5 t6 t7 o7 g7 g8 HCd HEQ Bd Ba Bb s7 hsX
        have s8 := gR.size
        have B_8 : Hid (Below w0.heap.size w0 w8) := B_7.out.trans (gR.mono B_7.out.size)
        have Wk_8 : Hid (w8.heap[QW]? = some (.cells #[.slice bW V1.length cW, .int .i64 V2, .slice dW V3.length eW, .int .i64 V4] 25)) := (gR.block _ (kbox Wk_7.out)).trans Wk_7.out
        have Wo_8 : Hid (OwnV lW hW bW V1 dW V3 w8) := Wo_7.out.below gR
        have Xo_8 : Hid (OwnV w3.heap.size w4.heap.size b4 B d4 L w8) := Xo_7.out.below gR
        have Xk_8 : Hid (w8.heap[w4.heap.size]? = some (.cells #[.slice b4 B.length c4, .int .i64 F, .slice d4 L.length e4, .int .i64 s] 25)) := (gR.block _ (kbox Xk_7.out)).trans Xk_7.out
        have Gk_8 : Hid (w8.heap[QG]? = some (.cells #[.slice bG V1.length cG, .int .i64 V2, .slice dG V3.length eG, .int .i64 V4] 25)) := (gR.block _ (kbox Gk_7.out)).trans Gk_7.out
        have Go_8 : Hid (OwnV lG hG bG V1 dG V3 w8) := Go_7.out.below gR
        clear B_7 Wk_7 Wo_7 Xo_7 Xk_7 Gk_7 Go_7
        clear gR
        obtain ⟨⟨y0, y1, y2, y3⟩, -⟩ := box4 Xk_8.out
        go_wp2_with fail
        refine (markVolume_any _ _ b4 d4 c4 e4 B F L s _ HF.out (by omega) Xo_8.out).mono ?_
        rintro e w9 ⟨rfl, oM, tM⟩
        clear y0 y1 y2 y3
        have hm1 : decide (((1 + B.length + 4 * L.length : Nat) : Int) < 0) = false := decide_eq_false (by omega)
        have s9 := tM.size
        have B_9 : Hid (Below w0.heap.size w0 w9) := B_8.out.trans (tM.below (by omega) B_8.out.size)
        have Wk_9 : Hid (w9.heap[QW]? = some (.cells #[.slice bW V1.length cW, .int .i64 V2, .slice dW V3.length eW, .int .i64 V4] 25)) := (tM.block _ (kbox Wk_8.out) (by have := kbox Wk_8.out; omega)).trans Wk_8.out
        have Wo_9 : Hid (OwnV lW hW bW V1 dW V3 w9) := Wo_8.out.out tM (by omega)
        have Xo_9 : Hid (OwnV w3.heap.size w4.heap.size b4 (smarks B.length 1) d4 (rmarks L.length (1 + B.length)) w9) := oM
        have Xk_9 : Hid (w9.heap[w4.heap.size]? = some (.cells #[.slice b4 B.length c4, .int .i64 F, .slice d4 L.length e4, .int .i64 s] 25)) := (tM.block _ (kbox Xk_8.out) (by have := kbox Xk_8.out; omega)).trans Xk_8.out
        have Gk_9 : Hid (w9.heap[QG]? = some (.cells #[.slice bG V1.length cG, .int .i64 V2, .slice dG V3.length eG, .int .i64 V4] 25)) := (tM.block _ (kbox Gk_8.out) (by have := kbox Gk_8.out; omega)).trans Gk_8.out
        have Go_9 : Hid (OwnV lG hG bG V1 dG V3 w9) := Go_8.out.out tM (by omega)
        clear B_8 Wk_8 Wo_8 Xo_8 Xk_8 Gk_8 Go_8
        clear oM tM
        generalize 1 + B.length + 4 * L.length = m1 at *
        obtain ⟨⟨y0, y1, y2, y3⟩, -⟩ := box4 Gk_9.out
        obtain ⟨⟨z0, z1, z2, z3⟩, -⟩ := box4 Wk_9.out
        go_wp2_with fail
        refine (eqVolume_same bG dG bW dW cG eG cW eW V1 V2 V3 V4 _ HV.out Go_9.out.read.1 Go_9.out.read.2 Wo_9.out.read.1 Wo_9.out.read.2).mono ?_
        rintro e w10 ⟨rfl, gE⟩
        clear y0 y1 y2 y3 z0 z1 z2 z3
        have s10 := gE.size
        have B_10 : Hid (Below w0.heap.size w0 w10) := B_9.out.trans (gE.mono B_9.out.size)
        have Wk_10 : Hid (w10.heap[QW]? = some (.cells #[.slice bW V1.length cW, .int .i64 V2, .slice dW V3.length eW, .int .i64 V4] 25)) := (gE.block _ (kbox Wk_9.out)).trans Wk_9.out
        have Wo_10 : Hid (OwnV lW hW bW V1 dW V3 w10) := Wo_9.out.below gE
        have Xo_10 : Hid (OwnV w3.heap.size w4.heap.size b4 (smarks B.length 1) d4 (rmarks L.length (1 + B.length)) w10) := Xo_9.out.below gE
        have Xk_10 : Hid (w10.heap[w4.heap.size]? = some (.cells #[.slice b4 B.length c4, .int .i64 F, .slice d4 L.length e4, .int .i64 s] 25)) := (gE.block _ (kbox Xk_9.out)).trans Xk_9.out
        have Gk_10 : Hid (w10.heap[QG]? = some (.cells #[.slice bG V1.length cG, .int .i64 V2, .slice dG V3.length eG, .int .i64 V4] 25)) := (gE.block _ (kbox Gk_9.out)).trans Gk_9.out
        have Go_10 : Hid (OwnV lG hG bG V1 dG V3 w10) := Go_9.out.below gE
        clear B_9 Wk_9 Wo_9 Xo_9 Xk_9 Gk_9 Go_9
        clear gE
        obtain ⟨⟨y0, y1, y2, y3⟩, -⟩ := box4 Gk_10.out
        go_wp2_with fail
        refine (markVolume_any _ _ bG dG cG eG V1 V2 V3 V4 _ HV.out (by omega) Go_10.out).mono ?_
        rintro e w11 ⟨rfl, oM, tM⟩
        clear y0 y1 y2 y3
        have s11 := tM.size
        have B_11 : Hid (Below w0.heap.size w0 w11) := B_10.out.trans (tM.below (by omega) B_10.out.size)
        have Wk_11 : Hid (w11.heap[QW]? = some (.cells #[.slice bW V1.length cW, .int .i64 V2, .slice dW V3.length eW, .int .i64 V4] 25)) := (tM.block _ (kbox Wk_10.out) (by have := kbox Wk_10.out; omega)).trans Wk_10.out
        have Wo_11 : Hid (OwnV lW hW bW V1 dW V3 w11) := Wo_10.out.out tM (by omega)
        have Gk_11 : Hid (w11.heap[QG]? = some (.cells #[.slice bG V1.length cG, .int .i64 V2, .slice dG V3.length eG, .int .i64 V4] 25)) := (tM.block _ (kbox Gk_10.out) (by have := kbox Gk_10.out; omega)).trans Gk_10.out
        have Go_11 : Hid (OwnV lG hG bG (smarks V1.length 1) dG (rmarks V3.length (1 + V1.length)) w11) := oM
        clear B_10 Wk_10 Wo_10 Gk_10 Go_10
        clear oM tM
        have hm2 : decide (((1 + V1.length + 4 * V3.length : Nat) : Int) < 0) = false := decide_eq_false (by omega)
        obtain ⟨⟨y0, y1, y2, y3⟩, -⟩ := box4 Gk_11.out
        go_wp2_with fail
        refine (heldVolume_any _ _ bG dG cG eG V1.length V3.length V2 V4 _ HV.out.1 HV.out.2 Go_11.out).mono ?_
        rintro e w12 ⟨rfl, gH⟩
        clear y0 y1 y2 y3
        have s12 := gH.size
        have B_12 : Hid (Below w0.heap.size w0 w12) := B_11.out.trans (gH.mono B_11.out.size)
        have Wk_12 : Hid (w12.heap[QW]? = some (.cells #[.slice bW V1.length cW, .int .i64 V2, .slice dW V3.length eW, .int .i64 V4] 25)) := (gH.block _ (kbox Wk_11.out)).trans Wk_11.out
        have Wo_12 : Hid (OwnV lW hW bW V1 dW V3 w12) := Wo_11.out.below gH
        have Gk_12 : Hid (w12.heap[QG]? = some (.cells #[.slice bG V1.length cG, .int .i64 V2, .slice dG V3.length eG, .int .i64 V4] 25)) := (gH.block _ (kbox Gk_11.out)).trans Gk_11.out
        have Go_12 : Hid (OwnV lG hG bG (smarks V1.length 1) dG (rmarks V3.length (1 + V1.length)) w12) := Go_11.out.below gH
        clear B_11 Wk_11 Wo_11 Gk_11 Go_11
        clear gH
        go_upto_region 27 with fail
        go_cut [14, 15] (fun s1 s2 wc => ∃ (Q : Nat) (bq : Option Addr) (cq : Nat) (dq : Option Addr) (eq : Nat) (lq hq : Nat), s1 = .pointer (some ⟨Q, 0, none⟩) ∧ s2 = .bool ok ∧ wc.heap[Q]? = some (.cells #[.slice bq V1.length cq, .int .i64 V2, .slice dq V3.length eq, .int .i64 V4] 25) ∧ OwnV lq hq bq V1 dq V3 wc ∧ Below w12.heap.size w12 wc ∧ w12.heap.size ≤ Q ∧ w12.heap.size ≤ lq ∧ hq ≤ wc.heap.size ∧ (Q < lq ∨ hq ≤ Q))
        case first =>
          have HS : Hid (∀ v, Below w12.heap.size w12 v → (v.cell? ⟨w.heap.size, 0, none⟩ = some (.slice aB B.length kB) ∧ v.cell? ⟨w.heap.size, 1, none⟩ = some (.int .i64 F) ∧ v.cell? ⟨w.heap.size, 2, none⟩ = some (.slice aL L.length kL) ∧ v.cell? ⟨w.heap.size, 3, none⟩ = some (.int .i64 s)) ∧ v.cell? ⟨w.heap.size + 1, 0, none⟩ = some (.int .i64 k) ∧ v.cell? ⟨w.heap.size + 1, 1, none⟩ = some (.int .i64 p) ∧ v.cell? ⟨w.heap.size + 1, 2, none⟩ = some (.int .i64 n) ∧ v.cell? ⟨w.heap.size + 1, 3, none⟩ = some (.string D) ∧ v.cell? ⟨w.heap.size + 1, 4, none⟩ = some (.int .i64 m)) := fun v h => HX.out v (B_12.out.trans (h.mono B_12.out.size))
          have hB0 : ∀ v, Below w12.heap.size w12 v → Below w0.heap.size w0 v := fun v h => B_12.out.trans (h.mono B_12.out.size)
          have HBB := hid hB0
          clear hB0
          have A0 : Below w12.heap.size w12 w12.drew := (Below.refl _ _).drew
          have A0a : Below w12.heap.size w12 (w12.alloc (.cells #[.slice none 0 0, .int .i64 0, .slice none 0 0, .int .i64 0] 25)).drew := (boxB w12 _).drew
          obtain ⟨⟨x0, x1, x2, x3⟩, o0, o1, o2, o3, o4⟩ := HS.out _ A0
          obtain ⟨⟨xa0, xa1, xa2, xa3⟩, oa0, oa1, oa2, oa3, oa4⟩ := HS.out _ A0a
          go_region_held (fun v => (v.cell? ⟨w.heap.size, 0, none⟩ = some (.slice aB B.length kB) ∧ v.cell? ⟨w.heap.size, 1, none⟩ = some (.int .i64 F) ∧ v.cell? ⟨w.heap.size, 2, none⟩ = some (.slice aL L.length kL) ∧ v.cell? ⟨w.heap.size, 3, none⟩ = some (.int .i64 s)) ∧ v.cell? ⟨w.heap.size + 1, 0, none⟩ = some (.int .i64 k) ∧ v.cell? ⟨w.heap.size + 1, 1, none⟩ = some (.int .i64 p) ∧ v.cell? ⟨w.heap.size + 1, 2, none⟩ = some (.int .i64 n) ∧ v.cell? ⟨w.heap.size + 1, 3, none⟩ = some (.string D) ∧ v.cell? ⟨w.heap.size + 1, 4, none⟩ = some (.int .i64 m)) (first | exact HS.out _ (by with_reducible assumption)) (first | (go_at_call 16; refine (HT.out _ (HBB.out _ (by first | with_reducible exact A0 | with_reducible exact A0a))).mono ?_; rintro e wt ⟨bt, ct, dt, et, rfl, ot, gt, kt⟩; have st := gt.size; have At : Below w12.heap.size w12 wt := (by first | with_reducible exact A0.trans (gt.mono A0.size) | with_reducible exact A0a.trans (gt.mono A0a.size)); have Ata : Below w12.heap.size w12 (wt.alloc (.cells #[.slice none 0 0, .int .i64 0, .slice none 0 0, .int .i64 0] 25)) := At.trans ((boxB wt _).mono At.size); (try (have qt : wt.heap[w12.heap.size]? = some (.cells #[.slice none 0 0, .int .i64 0, .slice none 0 0, .int .i64 0] 25) := (gt.block _ (show w12.heap.size < (w12.alloc (.cells #[.slice none 0 0, .int .i64 0, .slice none 0 0, .int .i64 0] 25)).heap.size by simp)).trans (heap_last w12 _)))) | (go_at_call 20; refine (HOPT.out _).mono ?_; rintro e wo ⟨rfl, go⟩; have so := go.size; have Ao : Below w12.heap.size w12 wo := (by first | with_reducible exact At.trans (go.mono At.size) | with_reducible exact Ata.trans (go.mono Ata.size)); have Aoa : Below w12.heap.size w12 (wo.alloc (.cells #[.slice none 0 0, .int .i64 0, .slice none 0 0, .int .i64 0] 25)) := Ao.trans ((boxB wo _).mono Ao.size); (try (have qo0 : wo.heap[w12.heap.size]? = some (.cells #[.slice none 0 0, .int .i64 0, .slice none 0 0, .int .i64 0] 25) := (go.block _ (by first | (exact kbox qt) | (have h9 := kbox qt; simp; omega))).trans (by first | exact qt | exact (Below.heap_alloc _ _ _ (kbox qt)).trans qt))); (try (have qo1 : wo.heap[wt.heap.size]? = some (.cells #[.slice none 0 0, .int .i64 0, .slice none 0 0, .int .i64 0] 25) := (go.block _ (show wt.heap.size < (wt.alloc (.cells #[.slice none 0 0, .int .i64 0, .slice none 0 0, .int .i64 0] 25)).heap.size by simp)).trans (heap_last wt _)))) | (go_at_call 21; have oo : OwnV _ _ bt B dt L wo := (by first | exact ot.below go | exact (ot.below (boxB wt _)).below go); have ooa := oo.below (boxB wo (.cells #[.slice none 0 0, .int .i64 0, .slice none 0 0, .int .i64 0] 25)); refine (H11.out bt dt ct et _ (by first | exact oo.read.1 | exact ooa.read.1) (by first | exact oo.read.2 | exact ooa.read.2) kt).mono ?_; rintro e wd ⟨bq, cq, dq, eq, rfl, od, gd⟩; have sd := gd.size; have Ad : Below w12.heap.size w12 wd := (by first | with_reducible exact Ao.trans (gd.mono Ao.size) | with_reducible exact Aoa.trans (gd.mono Aoa.size)); have Ada : Below w12.heap.size w12 (wd.alloc (.cells #[.slice none 0 0, .int .i64 0, .slice none 0 0, .int .i64 0] 25)) := Ad.trans ((boxB wd _).mono Ad.size); have Adb : Below w12.heap.size w12 (wd.alloc (.cells #[.slice bq V1.length cq, .int .i64 V2, .slice dq V3.length eq, .int .i64 V4] 25)) := Ad.trans ((boxB wd _).mono Ad.size); have Af0 := fillB (Q := w12.heap.size) Ad (Nat.le_refl _) (.slice bq V1.length cq) (.int .i64 V2) (.slice dq V3.length eq) (.int .i64 V4); have Af1 := fillB (Q := wt.heap.size) Ad At.size (.slice bq V1.length cq) (.int .i64 V2) (.slice dq V3.length eq) (.int .i64 V4); have Af2 := fillB (Q := wo.heap.size) Ad Ao.size (.slice bq V1.length cq) (.int .i64 V2) (.slice dq V3.length eq) (.int .i64 V4); (try (have qd0 : wd.heap[w12.heap.size]? = some (.cells #[.slice none 0 0, .int .i64 0, .slice none 0 0, .int .i64 0] 25) := (gd.block _ (by first | (exact kbox qo0) | (have h9 := kbox qo0; simp; omega))).trans (by first | exact qo0 | exact (Below.heap_alloc _ _ _ (kbox qo0)).trans qo0); obtain ⟨⟨ra0, ra1, ra2, ra3⟩, rb0, rb1, rb2, rb3⟩ := box4 qd0)); (try (have qd1 : wd.heap[wt.heap.size]? = some (.cells #[.slice none 0 0, .int .i64 0, .slice none 0 0, .int .i64 0] 25) := (gd.block _ (by first | (exact kbox qo1) | (have h9 := kbox qo1; simp; omega))).trans (by first | exact qo1 | exact (Below.heap_alloc _ _ _ (kbox qo1)).trans qo1); obtain ⟨⟨rc0, rc1, rc2, rc3⟩, rd0, rd1, rd2, rd3⟩ := box4 qd1)); (try (have qd2 : wd.heap[wo.heap.size]? = some (.cells #[.slice none 0 0, .int .i64 0, .slice none 0 0, .int .i64 0] 25) := (gd.block _ (show wo.heap.size < (wo.alloc (.cells #[.slice none 0 0, .int .i64 0, .slice none 0 0, .int .i64 0] 25)).heap.size by simp)).trans (heap_last wo _); obtain ⟨⟨re0, re1, re2, re3⟩, rf0, rf1, rf2, rf3⟩ := box4 qd2))))
          all_goals
            have ga := boxB wd (.cells #[.slice bq V1.length cq, .int .i64 V2, .slice dq V3.length eq, .int .i64 V4] 25)
            have oda := od.below ga
            have hl4 := heap_last wd (.cells #[.slice bq V1.length cq, .int .i64 V2, .slice dq V3.length eq, .int .i64 V4] 25)
            go_wp2_with fail
            go_meet
            case rel =>
              first
                | (have hh := qd0; refine ⟨w12.heap.size, bq, cq, dq, eq, wo.heap.size, wd.heap.size, rfl, rfl, ?_, ?_, ?_, (Nat.le_refl _), ?_, ?_, ?_⟩; (with_reducible exact fill4 hh (.slice bq V1.length cq) (.int .i64 V2) (.slice dq V3.length eq) (.int .i64 V4)); (exact ownV_fill (Q := w12.heap.size) od (Or.inl (kbox qo0)) (.slice bq V1.length cq) (.int .i64 V2) (.slice dq V3.length eq) (.int .i64 V4)); (with_reducible exact Af0); (exact Ao.size); (simp [World.setCell]); (exact Or.inl (kbox qo0)))
                | (have hh := qd1; refine ⟨wt.heap.size, bq, cq, dq, eq, wo.heap.size, wd.heap.size, rfl, rfl, ?_, ?_, ?_, At.size, ?_, ?_, ?_⟩; (with_reducible exact fill4 hh (.slice bq V1.length cq) (.int .i64 V2) (.slice dq V3.length eq) (.int .i64 V4)); (exact ownV_fill (Q := wt.heap.size) od (Or.inl (kbox qo1)) (.slice bq V1.length cq) (.int .i64 V2) (.slice dq V3.length eq) (.int .i64 V4)); (with_reducible exact Af1); (exact Ao.size); (simp [World.setCell]); (exact Or.inl (kbox qo1)))
                | (have hh := qd2; refine ⟨wo.heap.size, bq, cq, dq, eq, (wo.alloc (.cells #[.slice none 0 0, .int .i64 0, .slice none 0 0, .int .i64 0] 25)).heap.size, wd.heap.size, rfl, rfl, ?_, ?_, ?_, Ao.size, ?_, ?_, ?_⟩; (with_reducible exact fill4 hh (.slice bq V1.length cq) (.int .i64 V2) (.slice dq V3.length eq) (.int .i64 V4)); (exact ownV_fill (Q := wo.heap.size) od (Or.inl ((by simp))) (.slice bq V1.length cq) (.int .i64 V2) (.slice dq V3.length eq) (.int .i64 V4)); (with_reducible exact Af2); (exact Nat.le_trans Ao.size (by simp)); (simp [World.setCell]); (exact Or.inl ((by simp))))
                | (refine ⟨wd.heap.size, bq, cq, dq, eq, wo.heap.size, wd.heap.size, rfl, rfl, ?_, ?_, ?_, Ad.size, Ao.size, ?_, Or.inr (Nat.le_refl _)⟩; (with_reducible exact hl4); (exact oda); (with_reducible exact Adb); (simp))
        case rest =>
          obtain ⟨QH, bH, cH, dH, eH, lH, hH, rfl, rfl, hQ, hO, gB, q1, q2, q3, q4⟩ := hcut
          generalize hwc : wc = w13 at *
          clear hwc
          have s13 := gB.size
          have B_13 : Hid (Below w0.heap.size w0 w13) := B_12.out.trans (gB.mono B_12.out.size)
          have Wk_13 : Hid (w13.heap[QW]? = some (.cells #[.slice bW V1.length cW, .int .i64 V2, .slice dW V3.length eW, .int .i64 V4] 25)) := (gB.block _ (kbox Wk_12.out)).trans Wk_12.out
          have Wo_13 : Hid (OwnV lW hW bW V1 dW V3 w13) := Wo_12.out.below gB
          have Gk_13 : Hid (w13.heap[QG]? = some (.cells #[.slice bG V1.length cG, .int .i64 V2, .slice dG V3.length eG, .int .i64 V4] 25)) := (gB.block _ (kbox Gk_12.out)).trans Gk_12.out
          have Go_13 : Hid (OwnV lG hG bG (smarks V1.length 1) dG (rmarks V3.length (1 + V1.length)) w13) := Go_12.out.below gB
          clear B_12 Wk_12 Wo_12 Gk_12 Go_12
          have Hk_13 : Hid (w13.heap[QH]? = some (.cells #[.slice bH V1.length cH, .int .i64 V2, .slice dH V3.length eH, .int .i64 V4] 25)) := hQ
          have Ho_13 : Hid (OwnV lH hH bH V1 dH V3 w13) := hO
          have q5_H := kbox hQ
          have q1_H := q1
          have q2_H := q2
          have q3_H := q3
          have q4_H := q4
          clear hQ hO gB q1 q2 q3 q4
          obtain ⟨⟨y0, y1, y2, y3⟩, -⟩ := box4 Hk_13.out
          obtain ⟨⟨z0, z1, z2, z3⟩, -⟩ := box4 Wk_13.out
          go_wp2_with fail
          refine (eqVolume_same bH dH bW dW cH eH cW eW V1 V2 V3 V4 _ HV.out Ho_13.out.read.1 Ho_13.out.read.2 Wo_13.out.read.1 Wo_13.out.read.2).mono ?_
          rintro e w14 ⟨rfl, gE⟩
          clear y0 y1 y2 y3 z0 z1 z2 z3
          have s14 := gE.size
          have B_14 : Hid (Below w0.heap.size w0 w14) := B_13.out.trans (gE.mono B_13.out.size)
          have Wk_14 : Hid (w14.heap[QW]? = some (.cells #[.slice bW V1.length cW, .int .i64 V2, .slice dW V3.length eW, .int .i64 V4] 25)) := (gE.block _ (kbox Wk_13.out)).trans Wk_13.out
          have Wo_14 : Hid (OwnV lW hW bW V1 dW V3 w14) := Wo_13.out.below gE
          have Gk_14 : Hid (w14.heap[QG]? = some (.cells #[.slice bG V1.length cG, .int .i64 V2, .slice dG V3.length eG, .int .i64 V4] 25)) := (gE.block _ (kbox Gk_13.out)).trans Gk_13.out
          have Go_14 : Hid (OwnV lG hG bG (smarks V1.length 1) dG (rmarks V3.length (1 + V1.length)) w14) := Go_13.out.below gE
          have Hk_14 : Hid (w14.heap[QH]? = some (.cells #[.slice bH V1.length cH, .int .i64 V2, .slice dH V3.length eH, .int .i64 V4] 25)) := (gE.block _ (kbox Hk_13.out)).trans Hk_13.out
          have Ho_14 : Hid (OwnV lH hH bH V1 dH V3 w14) := Ho_13.out.below gE
          clear B_13 Wk_13 Wo_13 Gk_13 Go_13 Hk_13 Ho_13
          clear gE
          obtain ⟨⟨y0, y1, y2, y3⟩, -⟩ := box4 Gk_14.out
          go_wp2_with fail
          refine (heldVolume_any _ _ bG dG cG eG V1.length V3.length V2 V4 _ HV.out.1 HV.out.2 Go_14.out).mono ?_
          rintro e w15 ⟨rfl, gH⟩
          clear y0 y1 y2 y3
          have s15 := gH.size
          have B_15 : Hid (Below w0.heap.size w0 w15) := B_14.out.trans (gH.mono B_14.out.size)
          have Wk_15 : Hid (w15.heap[QW]? = some (.cells #[.slice bW V1.length cW, .int .i64 V2, .slice dW V3.length eW, .int .i64 V4] 25)) := (gH.block _ (kbox Wk_14.out)).trans Wk_14.out
          have Wo_15 : Hid (OwnV lW hW bW V1 dW V3 w15) := Wo_14.out.below gH
          have Gk_15 : Hid (w15.heap[QG]? = some (.cells #[.slice bG V1.length cG, .int .i64 V2, .slice dG V3.length eG, .int .i64 V4] 25)) := (gH.block _ (kbox Gk_14.out)).trans Gk_14.out
          have Go_15 : Hid (OwnV lG hG bG (smarks V1.length 1) dG (rmarks V3.length (1 + V1.length)) w15) := Go_14.out.below gH
          have Hk_15 : Hid (w15.heap[QH]? = some (.cells #[.slice bH V1.length cH, .int .i64 V2, .slice dH V3.length eH, .int .i64 V4] 25)) := (gH.block _ (kbox Hk_14.out)).trans Hk_14.out
          have Ho_15 : Hid (OwnV lH hH bH V1 dH V3 w15) := Ho_14.out.below gH
          clear B_14 Wk_14 Wo_14 Gk_14 Go_14 Hk_14 Ho_14
          clear gH
          go_wp2_with fail
          go_ret
          exact ⟨rfl, HB0.out.trans (B_15.out.mono HB0.out.size)⟩
theorem walk_DoVolume (aB aL : Option Addr) (kB kL : Nat) (B : List ByteArray) (F : Int) (L : List Rc) (s : Int) (o : Op) (w : World) (_hF : fit F) (_hs : fit s) (hzB : ∀ s ∈ B, s.size ≤ 9223372036854775807) (hnB : B.length ≤ 9223372036854775807) (hz : ∀ r ∈ L, r.data.length ≤ 9223372036854775807) (hn : L.length ≤ 9223372036854775807) (hB : Ss w.heap.size aB B w) (hL : Rs w.heap.size aL L w) (ho : fitO o) :
    Calls Try.prog 5 #[.agg #[.slice aB B.length kB, .int .i64 F, .slice aL L.length kL, .int .i64 s], oval o] w fun e w' => e = .returned (.bool true) ∧ Below w.heap.size w w' := by
  obtain ⟨k, p, n, D, m⟩ := o
  have hv : FitV (volOf (goDo B F L s ⟨k, p, n, D, m⟩)).1 (volOf (goDo B F L s ⟨k, p, n, D, m⟩)).2.2.1 := by
    cases h : goDo B F L s ⟨k, p, n, D, m⟩ with
    | none => exact ⟨by decide, by decide⟩
    | some v => have := goDo_small h; exact ⟨by show v.1.length ≤ _; omega, by show v.2.2.1.length ≤ _; omega⟩
  exact law_DoVolume aB aL kB kL B F L s k p n m D w hzB hnB hz hn ho.2.2.2.2 hB hL _ (volOf (goDo B F L s ⟨k, p, n, D, m⟩)).2.1 _ (volOf (goDo B F L s ⟨k, p, n, D, m⟩)).2.2.2 (goDo B F L s ⟨k, p, n, D, m⟩).isSome hv
    (fun hf aB aL kB kL v h1 h2 _ => (sdo_any aB aL kB kL B F L s k p n m D v hf h1 h2).mono fun _ _ h => h.tells)
    (fun hf aB aL kB kL v h1 h2 h3 => (ido_any aB aL kB kL B F L s k p n m D v hf h3 h1 h2).mono fun _ _ h => h.tells)
end Go.Proofs.Ytbipbihjaeobkaa
namespace Go.Proofs.Ytbipbihjaeobkaa.fnExactDoVolume
open Go.ChangeShapes Go.WideShapes Go.ChangeAt Go.RowKit
open Go.ChangeMaps (open_string shut_string)
set_option maxRecDepth 100000
theorem own : ownKnob Try.prog.godebug = none := by kernel_rfl
theorem laidOut : laidOutB Try.prog = true := by kernel_rfl
theorem lifted (os : Os) (started : os.Started) (H : Type) (enc : TypeId × Value → H) :
    ReturnsInHanded {} Try.checked os 5 .any (Rows.fnExactDoVolumeSpec.pre6 enc Try.prog Try.f5 Rows.fnExactDoVolumeRow.domain false) (Rows.fnExactDoVolumeSpec.post enc Try.prog Try.f5 false true false false) := by
  refine returnsInHanded_of_change (C := Try.checked) own started (by kernel_rfl) Try.func5
    (ChangeSpec.witness6 (enc := enc) (C := Try.checked) false ⟨#[], #[.agg #[.slice none 0 0, .int .i64 0, .slice none 0 0, .int .i64 0], .agg #[.int .i64 0, .int .i64 0, .int .i64 0, .string ByteArray.empty, .int .i64 0]], []⟩ 8 (by kernel_rfl) (by kernel_rfl) (by kernel_rfl) (by kernel_rfl)) ?_
  intro W base args ds gs before hval0 hW hcnd _
  have hval : ∀ (j : Nat) t v, Try.f5.params[j]? = some t → args[j]? = some v → Value.okWide Try.prog W .any base t v := hval0
  have hW' := hW
  obtain ⟨p, q, hA0, hV, rfl, hfz, hnd⟩ := hW
  have hA : DataW.TrodAll enc Try.prog W 0 (fun _ => true) true Try.f5.params.toList args.toList ds p := hA0
  rw [Try.params5] at hA hval
  obtain ⟨v0, vs0, d0, ds0, p0, q0, hargs, rfl, rfl, h0, r0⟩ := trodAll_cons hA
  obtain ⟨v1, vs1, d1, ds1, p1, q1, rfl, rfl, rfl, h1, r1⟩ := trodAll_cons r0
  obtain ⟨rfl, rfl, rfl⟩ := trodAll_nil r1
  obtain rfl : args = #[v0, v1] := by cases args; simp_all
  obtain ⟨rfl, rfl⟩ := trodVars_none hV
  obtain ⟨aB0, aL0, kB0, kL0, B0, F0, L0, s0, rfl, hB0, hL0, hF0, hs0, hzB0, hnB0, hzL0, hnL0⟩ := volume_of Try.underlying32 (by kernel_rfl) rfl rfl rfl rfl (by kernel_rfl) (by kernel_rfl) (by kernel_rfl) (by kernel_rfl) Try.underlying22 Try.underlying3 Try.underlying30 Try.underlying3 Try.underlying9 (by kernel_rfl) Try.underlying90 (by kernel_rfl) rfl rfl rfl rfl Try.underlying3 Try.underlying3 Try.underlying3 Try.underlying9 (by kernel_rfl) (by kernel_rfl) (by kernel_rfl) (by kernel_rfl) (hval 0 32 v0 rfl rfl) h0
  obtain ⟨a1, rfl, hs1⟩ := op_of Try.underlying38 (by kernel_rfl) rfl rfl rfl rfl rfl Try.underlying3 Try.underlying3 Try.underlying3 Try.underlying9 Try.underlying3 (by kernel_rfl) (by kernel_rfl) (by kernel_rfl) (by kernel_rfl) (by kernel_rfl) (hval 1 38 v1 rfl rfl) h1
  clear hA0 hval0
  refine (walk_DoVolume aB0 aL0 kB0 kL0 B0 F0 L0 s0 a1 W hF0 hs0 hzB0 hnB0 hzL0 hnL0 hB0 hL0 hs1).mono fun e W' ⟨he, hg'⟩ => ?_
  subst he
  exact ⟨_, rfl, law_post laidOut (by kernel_rfl) (by kernel_rfl) rfl (trodAll_mk1 (shut_bool Try.underlying4 _)) hW' hg'⟩
end Go.Proofs.Ytbipbihjaeobkaa.fnExactDoVolume
namespace Go.Proofs.Ytbipbihjaeobkaa
open Go.ChangeShapes Go.WideShapes Go.ChangeAt Go.RowKit
theorem fnExactDoVolume_said : Rows.FnExactDoVolumeSaid :=
  OpenClaim.holds_of_wide 5 Try.f5 rfl rfl rfl rfl rfl rfl rfl ⟨rfl, rfl, rfl, rfl, rfl⟩ rfl rfl rfl rfl rfl (by kernel_rfl) Try.func5 (by kernel_rfl)
    (of_decide_eq_true (by kernel_rfl)) (by unfold Func.isWrapper; first | (rw [if_pos (by decide +kernel)]; kernel_rfl) | (rw [if_neg (by decide +kernel)]; exact ⟨rfl, rfl⟩))
    (fun os started H enc _ => fnExactDoVolume.lifted os started H enc)
end Go.Proofs.Ytbipbihjaeobkaa
