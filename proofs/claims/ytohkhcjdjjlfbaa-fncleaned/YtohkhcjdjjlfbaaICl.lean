/- Walk of the program's CleanSeg. -/
import Derived.Test.YtohkhcjdjjlfbaaHCl
import Derived.Test.YtohkhcjdjjlfbaaIAs
import Derived.Test.YtohkhcjdjjlfbaaILb
import Derived.Test.YtohkhcjdjjlfbaaIGh
namespace Go.Proofs.Ytohkhcjdjjlfbaa
set_option maxRecDepth 100000
open Go.ChangeShapes Go.WideShapes Go.ChangeAt Go.RowKit G00541
/-- what CleanSeg keeps: the boxes of its arguments and of its answer -/
structure CK (w : World) (o : Obj) (k : Int) (wr : World) : Prop where
  below : Below w.heap.size w wr
  box : wr.heap[w.heap.size]? = some o
  kb : wr.heap[w.heap.size + 1]? = some (.cells #[.int .i64 k] 3)
  res : wr.heap[w.heap.size + 1 + 1]? = some (.cells #[.slice none 0 0, .slice none 0 0] 26)
theorem CK.start (w : World) (o : Obj) (k : Int) : CK w o k (((w.alloc o).alloc (.cells #[.int .i64 k] 3)).alloc (.cells #[.slice none 0 0, .slice none 0 0] 26)) := by
  refine ⟨(((Below.refl _ _).alloc (Nat.le_refl _) _).alloc (by simp) _).alloc (by simp; omega) _, ?_, heap_mid3 _ _ _ _, heap_last3 _ _ _ _⟩
  rw [Below.heap_alloc _ _ _ (by simp; omega), Below.heap_alloc _ _ _ (by simp)]
  exact heap_last _ _
theorem CK.size {w : World} {o : Obj} {k : Int} {wr : World} (h : CK w o k wr) : w.heap.size + 3 ≤ wr.heap.size := by
  rcases Nat.lt_or_ge (w.heap.size + 1 + 1) wr.heap.size with h' | h'
  · omega
  · have := h.res
    rw [Array.getElem?_eq_none h'] at this; cases this
theorem CK.step {w : World} {o : Obj} {k : Int} {wr w' : World} (h : CK w o k wr) (g : Below (w.heap.size + 3) wr w') : CK w o k w' :=
  ⟨h.below.trans (g.mono (by omega)), (g.block _ (by omega)).trans h.box, (g.block _ (by omega)).trans h.kb, (g.block _ (by omega)).trans h.res⟩
theorem CK.on {w : World} {o : Obj} {k : Int} {wr w' : World} (h : CK w o k wr) (g : Below wr.heap.size wr w') : CK w o k w' := h.step (g.mono h.size)
theorem CK.set {w : World} {o : Obj} {k : Int} {wr : World} (h : CK w o k wr) (X j : Nat) (u : Value) (hX : w.heap.size + 3 ≤ X) : CK w o k (wr.setCell ⟨X, j, none⟩ u) := h.step (setB (Below.refl _ _) _ _ hX _)
theorem CK.fill {w : World} {o : Obj} {k : Int} {wr : World} (h : CK w o k wr) (x y : Value) : Below w.heap.size w ((wr.setCell ⟨w.heap.size + 1 + 1, 0, none⟩ x).setCell ⟨w.heap.size + 1 + 1, 1, none⟩ y) ∧ ((wr.setCell ⟨w.heap.size + 1 + 1, 0, none⟩ x).setCell ⟨w.heap.size + 1 + 1, 1, none⟩ y).cell? ⟨w.heap.size + 1 + 1, 0, none⟩ = some x ∧ ((wr.setCell ⟨w.heap.size + 1 + 1, 0, none⟩ x).setCell ⟨w.heap.size + 1 + 1, 1, none⟩ y).cell? ⟨w.heap.size + 1 + 1, 1, none⟩ = some y := by
  have hres := box_set (box_set h.res 0 x) 1 y
  exact ⟨setB (setB h.below _ _ (by omega) _) _ _ (by omega) _, box_cell hres 0, box_cell hres 1⟩
theorem CK.cells {w : World} {x y : Value} {k : Int} {wr : World} (h : CK w (.cells #[x, y] 26) k wr) : wr.cell? ⟨w.heap.size, 0, none⟩ = some x ∧ wr.cell? ⟨w.heap.size, 1, none⟩ = some y ∧ wr.cell? ⟨w.heap.size + 1, 0, none⟩ = some (.int .i64 k) ∧ wr.cell? ⟨w.heap.size + 1 + 1, 0, none⟩ = some (.slice none 0 0) ∧ wr.cell? ⟨w.heap.size + 1 + 1, 1, none⟩ = some (.slice none 0 0) ∧ wr.frozen? ⟨w.heap.size + 1 + 1, 0, none⟩ = false ∧ wr.frozen? ⟨w.heap.size + 1 + 1, 1, none⟩ = false :=
  ⟨box_cell h.box 0, box_cell h.box 1, box_cell h.kb 0, box_cell h.res 0, box_cell h.res 1, box_free h.res 0, box_free h.res 1⟩
/-- cleaning answers nothing -/
def CNo (w : World) (e : Ending) (w' : World) : Prop := e = .returned (.tuple #[.agg #[.slice none 0 0, .slice none 0 0], .int .i64 0, .bool false]) ∧ Below w.heap.size w w'
set_option maxHeartbeats 4000000 in
theorem iClean_no (aS aL : Option Addr) (kS kL : Nat) (S : List Sg) (L : List (List Bool)) (k : Int) (w : World) (hno : ¬ (goodH S L = true ∧ 0 ≤ k ∧ k < S.length ∧ lenAt S k.toNat ≠ 0)) (hG : Gs w.heap.size aS S w) (hV : Vs w.heap.size aL L w) :
    Calls Try.prog 6 #[.agg #[.slice aS S.length kS, .slice aL L.length kL], .int .i64 k] w fun e w' => CNo w e w' := by
  have HK := hid (CK.start w (.cells #[.slice aS S.length kS, .slice aL L.length kL] 26) k)
  have HC := hid (igoodH_any aS aL kS kL S L _ ((hG.below HK.out.below).mono HK.out.below.size) ((hV.below HK.out.below).mono HK.out.below.size))
  have HD := hid (fun v => hasSeg_any aS aL kS kL S.length L.length k v)
  have HG := hid hG
  have HNO := hid hno
  clear hG hV hno
  obtain ⟨y0, y1, y2, -⟩ := HK.out.cells
  generalize hW : ((w.alloc (.cells #[.slice aS S.length kS, .slice aL L.length kL] 26)).alloc (.cells #[.int .i64 k] 3)).alloc (.cells #[.slice none 0 0, .slice none 0 0] 26) = W at *
  go_enter Try.func6, Try.ntmps6
  go_wp2_with fail
  clear hW
  refine HC.out.mono ?_
  rintro e w2 ⟨rfl, b2⟩
  have HK2 := hid (HK.out.on b2)
  clear b2 y0 y1 y2 HK HC
  obtain ⟨y0, y1, y2, z0, z1, z0f, z1f⟩ := HK2.out.cells
  cases hg : goodH S L
  · obtain ⟨b10, x0, x1⟩ := HK2.out.fill (.slice none 0 0) (.slice none 0 0)
    have HB10 := hid b10
    clear b10 hg HNO
    go_wp2_with fail
    generalize (w2.setCell ⟨w.heap.size + 1 + 1, 0, none⟩ (.slice none 0 0)).setCell ⟨w.heap.size + 1 + 1, 1, none⟩ (.slice none 0 0) = X at *
    exact bodyPost_ret (v := .tuple #[.agg #[.slice none 0 0, .slice none 0 0], .int .i64 0, .bool false]) (by simp [results, Try.results6, go_sem, x0, x1]) rfl ⟨rfl, HB10.out⟩
  go_wp2_with fail
  refine (HD.out _).mono ?_
  rintro e w3 ⟨rfl, b3⟩
  have HK3 := hid (HK2.out.on b3)
  clear b3 y0 y1 y2 HK2 HD z0 z1 z0f z1f
  obtain ⟨y0, y1, y2, z0, z1, z0f, z1f⟩ := HK3.out.cells
  by_cases hk : 0 ≤ k ∧ k < S.length
  case neg =>
    have hd : decide (0 ≤ k ∧ k < S.length) = false := decide_eq_false hk
    rw [hd]
    obtain ⟨b10, x0, x1⟩ := HK3.out.fill (.slice none 0 0) (.slice none 0 0)
    have HB10 := hid b10
    clear b10 hg HNO hd hk
    go_wp2_with fail
    generalize (w3.setCell ⟨w.heap.size + 1 + 1, 0, none⟩ (.slice none 0 0)).setCell ⟨w.heap.size + 1 + 1, 1, none⟩ (.slice none 0 0) = X at *
    exact bodyPost_ret (v := .tuple #[.agg #[.slice none 0 0, .slice none 0 0], .int .i64 0, .bool false]) (by simp [results, Try.results6, go_sem, x0, x1]) rfl ⟨rfl, HB10.out⟩
  have hd : decide (0 ≤ k ∧ k < S.length) = true := decide_eq_true hk
  rw [hd]
  obtain ⟨n, rfl⟩ : ∃ n : Nat, k = n := ⟨k.toNat, by omega⟩
  have hn : n < S.length := by omega
  have h0 : lenAt S n = 0 := by
    rcases Nat.eq_zero_or_pos (lenAt S n) with h | h
    · exact h
    · exact absurd ⟨hg, hk.1, hk.2, by rw [Int.toNat_natCast]; omega⟩ HNO.out
  rw [lenAt_eq S n hn] at h0
  obtain ⟨b, off, rfl, hb, hcl⟩ := HG.out (by omega)
  obtain ⟨p, c, c0, _, _⟩ := hcl n hn
  rw [h0] at c0
  have c0' := (HK3.out.below.cell (p := ⟨b, off + n * 2, none⟩) hb).trans c0
  obtain ⟨b10, x0, x1⟩ := HK3.out.fill (.slice none 0 0) (.slice none 0 0)
  have HB10 := hid b10
  clear b10 hg HNO hd hk hcl HG c0 h0
  go_wp2_with fail
  generalize (w3.setCell ⟨w.heap.size + 1 + 1, 0, none⟩ (.slice none 0 0)).setCell ⟨w.heap.size + 1 + 1, 1, none⟩ (.slice none 0 0) = X at *
  exact bodyPost_ret (v := .tuple #[.agg #[.slice none 0 0, .slice none 0 0], .int .i64 0, .bool false]) (by simp [results, Try.results6, go_sem, x0, x1]) rfl ⟨rfl, HB10.out⟩
set_option maxHeartbeats 8000000 in
theorem iClean_go (aS aL : Option Addr) (kS kL : Nat) (S : List Sg) (L : List (List Bool)) (k : Nat) (w : World) (hl : L.length = S.length) (hg : goodH S L = true) (hk : k < S.length) (h0 : lenAt S k ≠ 0) (hG : Gs w.heap.size aS S w) (hV : Vs w.heap.size aL L w) :
    Calls Try.prog 6 #[.agg #[.slice aS S.length kS, .slice aL L.length kL], .int .i64 k] w fun e w' => COut (wrs k (livB (blAt S k) (lvAt L k)) (S, L)) k (livB (blAt S k) (lvAt L k)).length w e w' := by
  have hle := Lens.good hl hg
  obtain ⟨hn, hgs, -⟩ := (goodH_iff S L hl).1 hg
  have h6 := (hle.2.2 k hk)
  have hAGE : ∀ i, i < S.length → 0 ≤ ageAt S i ∧ ageAt S i ≤ 1000 := fun i hi => by
    have := (goodS_iff _ _).1 (hgs i hi)
    rw [ageAt_eq S i hi]; exact ⟨this.2.2.1, this.2.2.2.1⟩
  have HK := hid (CK.start w (.cells #[.slice aS S.length kS, .slice aL L.length kL] 26) k)
  have HC : Hid (∀ v, Below w.heap.size w v → Calls Try.prog 11 #[.agg #[.slice aS S.length kS, .slice aL L.length kL]] v fun e w' => e = .returned (.bool true) ∧ Below v.heap.size v w') := fun v hb => by
    have := igoodH_any aS aL kS kL S L v ((hG.below hb).mono hb.size) ((hV.below hb).mono hb.size)
    rw [hg] at this; exact this
  have HD : Hid (∀ v, Calls Try.prog 31 #[.agg #[.slice aS S.length kS, .slice aL L.length kL], .int .i64 k] v fun e w' => e = .returned (.bool true) ∧ Below v.heap.size v w') := fun v => by
    have := hasSeg_any aS aL kS kL S.length L.length k v
    rw [decide_eq_true (show 0 ≤ (k : Int) ∧ (k : Int) < (S.length : Int) by omega)] at this
    exact this
  have HLB : Hid (∀ v, Below w.heap.size w v → Calls Try.prog 32 #[.agg #[.slice aS S.length kS, .slice aL L.length kL], .int .i64 k] v fun e w' => ∃ b c, e = .returned (.slice b (livB (blAt S k) (lvAt L k)).length c) ∧ OwnI v.heap.size w'.heap.size b (livB (blAt S k) (lvAt L k)) w' ∧ Below v.heap.size v w') := fun v hb => by
    have e1 := blAt_eq S k hk
    have e2 := lvAt_eq L k (by omega)
    rw [e1, e2] at h6
    rw [e1, e2]
    exact liveBlocks_any aS aL kS kL S L k v hk hle.1 hl h6.2 h6.1 ((hG.below hb).mono hb.size) ((hV.below hb).mono hb.size)
  have hbs : (livB (blAt S k) (lvAt L k)).length ≤ 1000 := Nat.le_trans (livB_len _ _) (by omega)
  have HAN : Hid (∀ v (pb : Option Addr) (cb : Nat), Below w.heap.size w v → w.heap.size + 1 < v.heap.size → v.cell? ⟨w.heap.size + 1, 0, none⟩ = some (.int .i64 k) → Is v.heap.size pb (livB (blAt S k) (lvAt L k)) v → Calls Try.prog 34 #[.agg #[.slice aS S.length kS, .slice aL L.length kL], .func (.func 33) #[] #[.pointer (some ⟨w.heap.size + 1, 0, none⟩)], .slice pb (livB (blAt S k) (lvAt L k)).length cb] v fun e w' => WOut (wrs k (livB (blAt S k) (lvAt L k)) (S, L)) v e w') :=
    fun v pb cb hb hlt hc hI => writeAnew_n (w.heap.size + 1) k aS aL pb kS kL cb S L _ v hle (by omega) hbs ((hG.below hb).mono hb.size) ((hV.below hb).mono hb.size) hI hlt hc
  have HAG : Hid (∀ t, wrs k (livB (blAt S k) (lvAt L k)) (S, L) = some t → t.1.length = S.length ∧ ∀ i, i < S.length → 0 ≤ ageAt t.1 i ∧ ageAt t.1 i ≤ 1000) := fun t ht => by
    obtain ⟨e1, e2⟩ := wrs_age _ _ S L t ht
    exact ⟨e1, fun i hi => by rw [e2 i hi]; exact hAGE i hi⟩
  have hmf : ∀ (fn : Fn) (first cap : Array Value) (w : World), (Instr.makeFunc fn first cap).run Try.prog w = .ok (.func fn first cap) w := fun _ _ _ _ => rfl
  have hlen : S[k].bl.length ≠ 0 := by rw [lenAt_eq S k hk] at h0; exact h0
  have hq0 : ((S[k].bl.length : Int) == 0) = false := beq_eq_false_iff_ne.2 (by omega)
  have hq1 : decide ((S[k].bl.length : Int) = 0) = false := decide_eq_false (by omega)
  obtain ⟨b, off, rfl, hb, hcl⟩ := hG (by omega)
  obtain ⟨p0, c0, hc0, -, -⟩ := hcl k hk
  have HC0 := hid hc0
  have hSk := blAt_eq S k hk
  have h6' := h6.2
  rw [hSk] at h6'
  clear hG hV hgs hAGE hle hcl hc0 h0 hlen
  have HC2 := hid (HC.out _ HK.out.below)
  obtain ⟨y0, y1, y2, -⟩ := HK.out.cells
  clear HC
  generalize hbsq : livB (blAt S k) (lvAt L k) = bs at *
  generalize hwo : wrs k bs (S, L) = o at *
  generalize S[k].bl.length = nk at *
  clear hbsq hSk h6 hwo
  generalize hW : ((w.alloc (.cells #[.slice (some ⟨b, off, none⟩) S.length kS, .slice aL L.length kL] 26)).alloc (.cells #[.int .i64 k] 3)).alloc (.cells #[.slice none 0 0, .slice none 0 0] 26) = W at *
  have HL := hid hl
  clear hl hg
  generalize L.length = nl at *
  go_enter Try.func6, Try.ntmps6
  go_wp2_with fail
  clear hW
  refine HC2.out.mono ?_
  rintro e w2 ⟨rfl, b2⟩
  have HK2 := hid (HK.out.on b2)
  clear b2 y0 y1 y2 HK HC2
  obtain ⟨y0, y1, y2, -⟩ := HK2.out.cells
  go_wp2_with fail
  refine (HD.out _).mono ?_
  rintro e w3 ⟨rfl, b3⟩
  have HK3 := hid (HK2.out.on b3)
  clear b3 y0 y1 y2 HK2 HD
  obtain ⟨y0, y1, y2, -⟩ := HK3.out.cells
  have c0' := (HK3.out.below.cell (p := ⟨b, off + k * 2, none⟩) hb).trans HC0.out
  have HC3 := hid (HLB.out w3 HK3.out.below)
  clear HLB
  go_wp2_with fail
  refine HC3.out.mono ?_
  rintro e w4 ⟨pb, cb, rfl, o4, b4⟩
  have HK4 := hid (HK3.out.on b4)
  have hK4 := HK4.out
  have HC5 := hid (HAN.out w4 pb cb hK4.below (by have := hK4.size; omega) (box_cell hK4.kb 0) o4.is)
  clear b4 o4 HAN HC3 HK3 y0 y1 y2 c0' hK4
  obtain ⟨y0, y1, y2, z0, z1, z0f, z1f⟩ := HK4.out.cells
  cases o with
  | none =>
    go_wp2_with fail
    refine HC5.out.mono ?_
    rintro e w5 ⟨vS, vL, rfl, h5, b5⟩
    obtain ⟨as5, ks5, al5, kl5, rfl, rfl, -, -⟩ := h5.read
    have HK5 := hid ((HK4.out.on b5).on (boxB w5 (.cells #[.slice as5 0 ks5, .slice al5 0 kl5] 26)))
    obtain ⟨b10, x0, x1⟩ := HK5.out.fill (.slice none 0 0) (.slice none 0 0)
    have HB10 := hid b10
    clear b10 b5 h5 HK4 HC5 y0 y1 y2 z0 z1 z0f z1f
    obtain ⟨y0, y1, y2, z0, z1, z0f, z1f⟩ := HK5.out.cells
    simp only [List.length_nil]
    go_wp2_with fail
    generalize hX : ((w5.alloc (.cells #[.slice as5 0 ks5, .slice al5 0 kl5] 26)).setCell ⟨w.heap.size + 1 + 1, 0, none⟩ (.slice none 0 0)).setCell ⟨w.heap.size + 1 + 1, 1, none⟩ (.slice none 0 0) = X at *
    exact bodyPost_ret (v := .tuple #[.agg #[.slice none 0 0, .slice none 0 0], .int .i64 0, .bool false]) (by simp [results, Try.results6, go_sem, x0, x1]) rfl ⟨rfl, HB10.out⟩
  | some t =>
    obtain ⟨S', L'⟩ := t
    obtain ⟨hS', hage⟩ := HAG.out _ rfl
    have hS1 : S'.length = S.length := hS'
    have HAGE : Hid (∀ i, i < S'.length → 0 ≤ ageAt S' i ∧ ageAt S' i ≤ 1000) := fun i hi => hage i (by rw [← hS1]; exact hi)
    have hN8 : S'.length ≤ 8 := by omega
    have hkS' : k < S'.length := by omega
    have hN2 : 0 < S'.length := by omega
    clear hage hS' HAG hS1
    go_wp2_with fail
    refine HC5.out.mono ?_
    rintro e w5 ⟨vS, vL, rfl, h5, b5⟩
    have hll := h5.1
    obtain ⟨gs, ks, gl, kl, q, p, rfl, rfl, hgs, hgl, hF5, -, -⟩ := h5.open hN2
    have hs4 := HK4.out.size
    have bx := boxB w5 (.cells #[.slice (some ⟨gs, 0, none⟩) S'.length ks, .slice (some ⟨gl, 0, none⟩) L'.length kl] 26)
    have HK6 := hid ((HK4.out.on b5).on bx)
    have HF6 := hid (hF5.below bx)
    have HX6 : Hid ((w5.alloc (.cells #[.slice (some ⟨gs, 0, none⟩) S'.length ks, .slice (some ⟨gl, 0, none⟩) L'.length kl] 26)).heap[w5.heap.size]? = some (.cells #[.slice (some ⟨gs, 0, none⟩) S'.length ks, .slice (some ⟨gl, 0, none⟩) L'.length kl] 26)) := heap_last _ _
    have HLL : Hid (L'.length = S'.length) := hll
    have hgs3 : w.heap.size + 3 ≤ gs := by omega
    have hgl3 : w.heap.size + 3 ≤ gl := by omega
    have hgs5 : gs < w5.heap.size := hgs.2
    have hgl5 : gl < w5.heap.size := hgl.2
    clear b5 h5 hF5 bx HC5 y0 y1 y2 z0 z1 z0f z1f hgs hgl HK4 hll
    have x0 : (w5.alloc (.cells #[.slice (some ⟨gs, 0, none⟩) S'.length ks, .slice (some ⟨gl, 0, none⟩) L'.length kl] 26)).cell? ⟨w5.heap.size, 0, none⟩ = some (.slice (some ⟨gs, 0, none⟩) S'.length ks) := box_cell HX6.out 0
    go_wp2_with fail
    generalize w5.alloc (.cells #[.slice (some ⟨gs, 0, none⟩) S'.length ks, .slice (some ⟨gl, 0, none⟩) L'.length kl] 26) = W6 at *
    generalize w5.heap.size = X9 at *
    generalize hNN : S'.length = N at *
    have HNN := hid hNN
    clear hNN
    go_loopw [49] (fun i wr => ∃ n : Nat, n ≤ N ∧ i = .int .i64 n ∧ Fam w4.heap.size (hd2 (agesN S' n).length L'.length) (hf (.slice (some ⟨gs, 0, none⟩) N ks) (.slice (some ⟨gl, 0, none⟩) L'.length kl) q p (agesN S' n) L') wr ∧ wr.heap[X9]? = some (.cells #[.slice (some ⟨gs, 0, none⟩) N ks, .slice (some ⟨gl, 0, none⟩) L'.length kl] 26) ∧ CK w (.cells #[.slice (some ⟨b, off, none⟩) S.length kS, .slice aL nl kL] 26) k wr) (fun i _ => N - (intOf i).toNat)
    case atStart => exact ⟨0, Nat.zero_le _, rfl, by show Fam _ (hd2 S'.length L'.length) _ _; rw [HNN.out]; exact HF6.out, HX6.out, HK6.out⟩
    case round =>
      obtain ⟨n, hnN, rfl, hF, hX, hK⟩ := hrel
      have HF := hid hF
      have HX := hid hX
      have HKn := hid hK
      have u0 : wr.cell? ⟨X9, 0, none⟩ = some (.slice (some ⟨gs, 0, none⟩) N ks) := box_cell hX 0
      have u1 : wr.cell? ⟨X9, 1, none⟩ = some (.slice (some ⟨gl, 0, none⟩) L'.length kl) := box_cell hX 1
      clear hF hX hK
      by_cases hlt : n < N
      · have hnl : n < (agesN S' n).length := by rw [agesN_len, HNN.out]; exact hlt
        have hseg : wr.ownsRow w4.heap.size 40 2 (.slice (some ⟨gs, 0, none⟩) N ks) (agesN S' n).length (segXs q (agesN S' n)) := HF.out.own .s trivial
        have v0 : wr.cell? ⟨gs, n * 2 + 1, none⟩ = some (.int .i64 (ageAt S' n)) := by
          rw [rw_cell hseg rfl (n * 2 + 1) (by rw [segXs_len]; omega), segXs_age, agesN_age S' n n (Nat.le_refl _) (by rw [HNN.out]; exact hlt)]
        have v0f : wr.frozen? ⟨gs, n * 2 + 1, none⟩ = false := rw_free hseg rfl _
        obtain ⟨a0, a1⟩ := HAGE.out n hlt
        have HNF : Hid (Fam w4.heap.size (hd2 (agesN S' (n + 1)).length L'.length) (hf (.slice (some ⟨gs, 0, none⟩) N ks) (.slice (some ⟨gl, 0, none⟩) L'.length kl) q p (agesN S' (n + 1)) L') (wr.setCell ⟨gs, n * 2 + 1, none⟩ (.int .i64 (aged (ageAt S' n))))) := by
          have := fam_age HF.out n gs rfl (aged (ageAt (agesN S' n) n))
          rw [agesN_age S' n n (Nat.le_refl _) (by rw [HNN.out]; exact hlt)] at this
          have e : agesN S' (n + 1) = (agesN S' n).set n ⟨blAt (agesN S' n) n, aged (ageAt S' n)⟩ := by rw [agesN, agesN_age S' n n (Nat.le_refl _) (by rw [HNN.out]; exact hlt)]
          rw [e]
          exact this
        have HNX : Hid ((wr.setCell ⟨gs, n * 2 + 1, none⟩ (.int .i64 (aged (ageAt S' n)))).heap[X9]? = some (.cells #[.slice (some ⟨gs, 0, none⟩) N ks, .slice (some ⟨gl, 0, none⟩) L'.length kl] 26)) := (keepB _ _ _ _ _ (by omega)).trans HX.out
        have HNK := hid (HKn.out.set gs (n * 2 + 1) (.int .i64 (aged (ageAt S' n))) hgs3)
        clear hseg HF HX HKn
        generalize ageAt S' n = a at *
        by_cases ha : 1000 < a + 1
        · have ha' : aged a = 1000 := by unfold aged; rw [if_pos ha]
          rw [ha'] at HNF HNX HNK
          obtain rfl : a = 1000 := by omega
          go_wp2_with fail
          go_big_region
          generalize hWn : (wr.setCell ⟨gs, n * 2 + 1, none⟩ (.int .i64 1000)) = Wn at *
          clear hWn
          go_wp2_with fail
          go_roundw
          case rel => exact ⟨n + 1, by omega, by go_num, HNF.out.below (Below.refl _ _).drew, HNX.out, HNK.out.on (Below.refl _ _).drew⟩
          case measure => simp [intOf]; omega
        · have ha' : aged a = a + 1 := by unfold aged; rw [if_neg ha]
          rw [ha'] at HNF HNX HNK
          have d1 : decide (a + 1 ≤ 1000) = true := decide_eq_true (by omega)
          have d2 : decide (1000 < a + 1) = false := decide_eq_false ha
          have d3 : min (a + 1) 1000 = a + 1 := by omega
          go_wp2_with fail
          go_big_region
          generalize hWn : (wr.setCell ⟨gs, n * 2 + 1, none⟩ (.int .i64 (a + 1))) = Wn at *
          clear hWn
          go_wp2_with fail
          go_roundw
          case rel => exact ⟨n + 1, by omega, by go_num, HNF.out.below (Below.refl _ _).drew, HNX.out, HNK.out.on (Below.refl _ _).drew⟩
          case measure => simp [intOf]; omega
      · obtain rfl : n = N := by omega
        clear HAGE
        have hkl : k < (agesN S' n).length := by rw [agesN_len, HNN.out]; exact hkS'
        have hseg : wr.ownsRow w4.heap.size 40 2 (.slice (some ⟨gs, 0, none⟩) n ks) (agesN S' n).length (segXs q (agesN S' n)) := HF.out.own .s trivial
        have hkL : k < L'.length := by rw [HLL.out]; exact hkS'
        have hne : gl ≠ gs := fun e => HF.out.apart .s .l trivial trivial (by intro e; cases e) gs rfl (by rw [← e]; rfl)
        have s0 : wr.cell? ⟨gs, k * 2, none⟩ = some (q k) := by rw [rw_cell hseg rfl (k * 2) (by rw [segXs_len]; omega), segXs_q]
        have s1 : wr.cell? ⟨gs, k * 2 + 1, none⟩ = some (.int .i64 (ageAt (agesN S' n) k)) := by rw [rw_cell hseg rfl (k * 2 + 1) (by rw [segXs_len]; omega), segXs_age]
        have s0f : wr.frozen? ⟨gs, k * 2, none⟩ = false := rw_free hseg rfl _
        have s1f : wr.frozen? ⟨gs, k * 2 + 1, none⟩ = false := rw_free hseg rfl _
        have hFa := fam_clear HF.out k gs rfl
        have hrowl : ((wr.setCell ⟨gs, k * 2, none⟩ (.slice none 0 0)).setCell ⟨gs, k * 2 + 1, none⟩ (.int .i64 0)).ownsRow w4.heap.size 53 1 (.slice (some ⟨gl, 0, none⟩) L'.length kl) L'.length (livXs p L'.length) := hFa.own .l trivial
        have l0 : ((wr.setCell ⟨gs, k * 2, none⟩ (.slice none 0 0)).setCell ⟨gs, k * 2 + 1, none⟩ (.int .i64 0)).cell? ⟨gl, k, none⟩ = some (p k) := by rw [rw_cell hrowl rfl k (by rw [livXs_len]; exact hkL), livXs_at]
        have l0f : ((wr.setCell ⟨gs, k * 2, none⟩ (.slice none 0 0)).setCell ⟨gs, k * 2 + 1, none⟩ (.int .i64 0)).frozen? ⟨gl, k, none⟩ = false := rw_free hrowl rfl _
        have hXa : ((wr.setCell ⟨gs, k * 2, none⟩ (.slice none 0 0)).setCell ⟨gs, k * 2 + 1, none⟩ (.int .i64 0)).heap[X9]? = some (.cells #[.slice (some ⟨gs, 0, none⟩) n ks, .slice (some ⟨gl, 0, none⟩) L'.length kl] 26) := (keepB _ _ _ _ _ (by omega)).trans ((keepB _ _ _ _ _ (by omega)).trans HX.out)
        have t1 := box_cell hXa 1
        have hKa := (HKn.out.set gs (k * 2) (.slice none 0 0) hgs3).set gs (k * 2 + 1) (.int .i64 0) hgs3
        have ka := box_cell hKa.kb 0
        have hFb := fam_none hFa k gl rfl
        have hXb : (((wr.setCell ⟨gs, k * 2, none⟩ (.slice none 0 0)).setCell ⟨gs, k * 2 + 1, none⟩ (.int .i64 0)).setCell ⟨gl, k, none⟩ (.slice none 0 0)).heap[X9]? = some (.cells #[.slice (some ⟨gs, 0, none⟩) n ks, .slice (some ⟨gl, 0, none⟩) L'.length kl] 26) := (keepB _ _ _ _ _ (by omega)).trans hXa
        have r0 := box_cell hXb 0
        have r1 := box_cell hXb 1
        have hKb := hKa.set gl k (.slice none 0 0) hgl3
        obtain ⟨y0, y1, y2, z0, z1, z0f, z1f⟩ := hKb.cells
        have kw : wr.cell? ⟨w.heap.size + 1, 0, none⟩ = some (.int .i64 k) := box_cell HKn.out.kb 0
        obtain ⟨b10, x0, x1⟩ := hKb.fill (.slice (some ⟨gs, 0, none⟩) n ks) (.slice (some ⟨gl, 0, none⟩) L'.length kl)
        have hFc := (hFb.out (w.heap.size + 1 + 1) 0 (.slice (some ⟨gs, 0, none⟩) n ks) (by omega)).out (w.heap.size + 1 + 1) 1 (.slice (some ⟨gl, 0, none⟩) L'.length kl) (by omega)
        have HFC := hid (clean_hr HNN.out (HLL.out.trans HNN.out.symm) (show w.heap.size ≤ w4.heap.size by omega) hFc)
        have HB10 := hid b10
        clear hFc b10 hKb hFb hXb hKa hXa hrowl hFa hseg HF HX HKn y0 y1 y2
        simp at t1 ka r0 r1
        generalize ageAt (agesN S' n) k = ag at *
        go_wp2_with fail
        generalize ((((wr.setCell ⟨gs, k * 2, none⟩ (.slice none 0 0)).setCell ⟨gs, k * 2 + 1, none⟩ (.int .i64 0)).setCell ⟨gl, k, none⟩ (.slice none 0 0)).setCell ⟨w.heap.size + 1 + 1, 0, none⟩ (.slice (some ⟨gs, 0, none⟩) n ks)).setCell ⟨w.heap.size + 1 + 1, 1, none⟩ (.slice (some ⟨gl, 0, none⟩) L'.length kl) = X at *
        refine bodyPost_ret (v := .tuple #[.agg #[.slice (some ⟨gs, 0, none⟩) n ks, .slice (some ⟨gl, 0, none⟩) L'.length kl], .int .i64 bs.length, .bool true]) (by simp [results, Try.results6, go_sem, x0, x1]) rfl ?_
        exact ⟨_, _, rfl, HFC.out, HB10.out⟩
end Go.Proofs.Ytohkhcjdjjlfbaa
