/- Volumes copied: the model's l6Own, the program's copyRecords, copyVolume. -/
import Derived.Test.YtlbhfgcpflhccaaIIn
import Derived.Test.YtlbhfgcpflhccaaVMark
import Derived.Test.YtlbhfgcpflhccaaOForI
import Derived.Deep.RegionHeld
namespace Go.Proofs.Ytlbhfgcpflhccaa
set_option maxRecDepth 100000
open Go.ChangeShapes Go.WideShapes Go.ChangeAt Go.RowKit G00541
/-- a volume of one's own whose log may grow: its texts in blocks lo .. mid - 1, its records from mid on -/
structure OV (lo mid : Nat) (aB : Option Addr) (kB : Nat) (B : List ByteArray) (aL : Option Addr) (kL : Nat) (L : List Rc) (w : World) : Prop where
  lm : lo ≤ mid
  mh : mid ≤ w.heap.size
  base : w.ownsRow lo 9 1 (.slice aB B.length kB) B.length (svals B)
  low : ∀ g, (Value.slice aB B.length kB).ownBlock = some g → g < mid
  log : w.ownsRow mid 37 4 (.slice aL L.length kL) L.length (rvals L)
theorem OV.below {lo mid : Nat} {aB : Option Addr} {kB : Nat} {B : List ByteArray} {aL : Option Addr} {kL : Nat} {L : List Rc} {w w' : World} (h : OV lo mid aB kB B aL kL L w) (g : Below w.heap.size w w') : OV lo mid aB kB B aL kL L w' :=
  ⟨h.lm, Nat.le_trans h.mh g.size, rw_below h.base g, h.low, rw_below h.log g⟩
theorem OV.set {lo mid : Nat} {aB : Option Addr} {kB : Nat} {B : List ByteArray} {aL : Option Addr} {kL : Nat} {L : List Rc} {w : World} (h : OV lo mid aB kB B aL kL L w) (X j : Nat) (u : Value) (hX : X < lo) : OV lo mid aB kB B aL kL L (w.setCell ⟨X, j, none⟩ u) :=
  ⟨h.lm, by have := h.mh; simpa [World.setCell] using this, rw_keep h.base (fun k hk => keepB _ _ _ _ _ (by have := (h.base.lt k hk).1; omega)), h.low, rw_keep h.log (fun k hk => keepB _ _ _ _ _ (by have := (h.log.lt k hk).1; have := h.lm; omega))⟩
theorem OV.own {lo mid : Nat} {aB : Option Addr} {kB : Nat} {B : List ByteArray} {aL : Option Addr} {kL : Nat} {L : List Rc} {w : World} (h : OV lo mid aB kB B aL kL L w) : OwnV lo w.heap.size aB B aL L w := by
  refine ⟨mid, h.lm, h.mh, ?_, ?_⟩
  · obtain ⟨b, c, e, ho⟩ := own_strs h.base
    injection e with e1 e2 e3
    subst e1
    rcases ho with h0 | ⟨R, r1, r2, rfl, r4⟩
    · exact Or.inl h0
    · exact Or.inr ⟨R, r1, h.low R rfl, rfl, r4⟩
  · obtain ⟨b, c, e, ho⟩ := own_recs h.log
    injection e with e1 e2 e3
    subst e1
    exact ho
theorem OV.read {lo mid : Nat} {aB : Option Addr} {kB : Nat} {B : List ByteArray} {aL : Option Addr} {kL : Nat} {L : List Rc} {w : World} (h : OV lo mid aB kB B aL kL L w) : Ss w.heap.size aB B w ∧ Rs w.heap.size aL L w := h.own.read
/-- what a copy of a volume leaves -/
def CpOut (B : List ByteArray) (F : Int) (L : List Rc) (s : Int) (w : World) (e : Ending) (w' : World) : Prop :=
  ∃ mid aB kB aL kL, e = .returned (.agg #[.slice aB B.length kB, .int .i64 F, .slice aL L.length kL, .int .i64 s]) ∧ OV w.heap.size mid aB kB B aL kL L w' ∧ Below w.heap.size w w'
theorem rrow_one (w : World) (r : Rc) : Rs (w.alloc (.cells #[.int .i64 r.kind, .int .i64 r.place, .int .i64 r.long, .string (str r.data)] 37)).heap.size (some ⟨w.heap.size, 0, none⟩) [r] (w.alloc (.cells #[.int .i64 r.kind, .int .i64 r.place, .int .i64 r.long, .string (str r.data)] 37)) := by
  refine ⟨fun _ => ⟨w.heap.size, 0, rfl, by simp, fun i hi j hj => ?_⟩⟩
  have hi' : i = 0 := by simpa using hi
  subst hi'
  rw [box_cell (heap_last _ _)]
  rcases (show j = 0 ∨ j = 1 ∨ j = 2 ∨ j = 3 by omega) with rfl | rfl | rfl | rfl <;> rfl
set_option maxHeartbeats 4000000 in
theorem copyRecords_any (a : Option Addr) (cap : Nat) (l : List Rc) (w : World) (hn : l.length ≤ 9999) (hz : ∀ k (h : k < l.length), l[k].data.length ≤ 1048576) (hL : Rs w.heap.size a l w) :
    Calls Try.prog 45 #[.slice a l.length cap] w fun e w' => ∃ b c, e = .returned (.slice b l.length c) ∧ w'.ownsRow w.heap.size 37 4 (.slice b l.length c) l.length (rvals l) ∧ Below w.heap.size w w' := by
  have HL := hid hL
  have HZ := hid hz
  clear hL hz
  go_enter Try.func45, Try.ntmps45
  go_wp2_with fail
  go_loopw [3, 8] (fun o i wr => ∃ (k : Nat) (o1 : Value), k ≤ l.length ∧ i = .int .i64 k ∧ o = o1 ∧ wr.ownsRow w.heap.size 37 4 o1 k (rvals (l.take k)) ∧ Below w.heap.size w wr) (fun _ i _ => l.length - (intOf i).toNat)
  case atStart => exact ⟨0, _, Nat.zero_le _, rfl, rfl, World.ownsRow_nil _ _ _ _, Below.refl _ _⟩
  case round =>
    obtain ⟨k, _, hk, rfl, rfl, hown, hbel⟩ := hrel
    have HOWN := hid hown
    have HBEL := hid hbel
    have hszr := hbel.size
    clear hown hbel
    by_cases hlt : k < l.length
    · obtain ⟨b, off, rfl, hb, hcells⟩ := HL.out.cell (by omega)
      obtain ⟨c0, c1, c2, c3⟩ := hcells k hlt
      have hb' : ∀ o, wr.cell? ⟨b, o, none⟩ = w.cell? ⟨b, o, none⟩ := fun o => HBEL.out.cell (p := ⟨b, o, none⟩) hb
      rw [← hb'] at c0 c1 c2 c3
      clear hcells hb'
      have HTK := hid (take_snoc l k hlt)
      have HJ : Hid (∀ v, Calls Try.prog 36 #[.agg #[.int .i64 l[k].kind, .int .i64 l[k].place, .int .i64 l[k].long, .string (str l[k].data)]] v fun e w' => e = .returned (.agg #[.int .i64 l[k].kind, .int .i64 l[k].place, .int .i64 l[k].long, .string (str l[k].data)]) ∧ Below v.heap.size v w') := fun v => copyRec_any _ _ _ _ v (by rw [str_size]; exact HZ.out k hlt)
      have HR1 := hid (fun v => rrow_one v l[k])
      have HSN := hid (rvals_snoc (l.take k) l[k])
      rw [← HTK.out] at HSN
      generalize l[k] = r at *
      obtain ⟨rk, rp, rn, rdl⟩ := r
      have HR2 := hid (fun v => HR1.out v)
      simp only at c0 c1 c2 c3 HJ HR1
      generalize str rdl = rd at *
      have HBX := hid (HBEL.out.alloc hszr (.cells #[.int .i64 rk, .int .i64 rp, .int .i64 rn, .string rd] 37))
      go_wp2_with fail
      refine (HJ.out _).mono ?_
      rintro e w9 ⟨rfl, b9⟩
      have HB9 : Hid (Below w.heap.size w w9) := HBX.out.trans (b9.mono HBX.out.size)
      have HBA : Hid (Below w.heap.size w (w9.alloc (.cells #[.int .i64 rk, .int .i64 rp, .int .i64 rn, .string rd] 37))) := HB9.out.trans ((boxB _ _).mono HB9.out.size)
      have hown9 := (rw_below (HOWN.out.alloc (.cells #[.int .i64 rk, .int .i64 rp, .int .i64 rn, .string rd] 37)) b9).alloc (.cells #[.int .i64 rk, .int .i64 rp, .int .i64 rn, .string rd] 37)
      obtain ⟨v', w', r1, o1, g1, -⟩ := app_rec (w9.alloc (.cells #[.int .i64 rk, .int .i64 rp, .int .i64 rn, .string rd] 37)) w.heap.size u3 k (rvals (l.take k)) hown9 (some ⟨w9.heap.size, 0, none⟩) 1 _ (HR1.out w9) (by show k + 1 ≤ 10000; omega) HBA.out.size
      have HO : Hid (w'.ownsRow w.heap.size 37 4 v' (k + 1) (rvals (l.take (k + 1)))) := by
        show w'.ownsRow w.heap.size 37 4 v' (k + 1) (rvals (l.take (k + 1)))
        rw [HSN.out]
        exact o1
      have HB' : Hid (Below w.heap.size w w') := HBA.out.trans (below_of_grown g1 HBA.out.size (fun i hi => (HOWN.out.lt i hi).1))
      have r1' : ∀ ty, (Builtin.append_ #[26, 26] ty #[u3, .slice (some ⟨w9.heap.size, 0, none⟩) 1 1]).run Try.prog (w9.alloc (.cells #[.int .i64 rk, .int .i64 rp, .int .i64 rn, .string rd] 37)) = .ok v' w' := r1
      clear b9 hown9 o1 g1 HJ r1 HR1 HR2
      go_wp2_with (at_builtin; refine wpList_append_run rfl (.tmp 12) (.tmp 15) 26 rfl _ _ rfl rfl _ _ r1' ?_)
      go_roundw
      case rel => exact ⟨k + 1, _, by omega, by go_num, rfl, HO.out, HB'.out⟩
      case measure => simp [intOf]; omega
    · obtain rfl : k = l.length := by omega
      rw [List.take_length] at HOWN
      obtain ⟨b, c, e⟩ := rw_form HOWN.out
      have HO2 := hid HOWN.out
      rw [e] at HO2
      subst e
      go_wp2
      go_ret
      exact ⟨b, c, rfl, HO2.out, HBEL.out⟩
/-- two boxes of volumes -/
structure LV (w : World) (X Z : Array Value) (wr : World) : Prop where
  below : Below w.heap.size w wr
  x : wr.heap[w.heap.size]? = some (.cells X 28)
  z : wr.heap[w.heap.size + 1]? = some (.cells Z 28)
theorem LV.step {w : World} {X Z : Array Value} {wr w' : World} (h : LV w X Z wr) (g : Below (w.heap.size + 2) wr w') : LV w X Z w' :=
  ⟨h.below.trans (g.mono (by omega)), (g.block _ (by omega)).trans h.x, (g.block _ (by omega)).trans h.z⟩
theorem LV.size {w : World} {X Z : Array Value} {wr : World} (h : LV w X Z wr) : w.heap.size + 2 ≤ wr.heap.size := by
  rcases Nat.lt_or_ge (w.heap.size + 1) wr.heap.size with h' | h'
  · omega
  · have := h.z
    rw [Array.getElem?_eq_none h'] at this; cases this
theorem LV.on {w : World} {X Z : Array Value} {wr w' : World} (h : LV w X Z wr) (g : Below wr.heap.size wr w') : LV w X Z w' := h.step (g.mono h.size)
theorem LV.setX {w : World} {X Z : Array Value} {wr : World} (h : LV w X Z wr) (i : Nat) (u : Value) : LV w (X.setIfInBounds i u) Z (wr.setCell ⟨w.heap.size, i, none⟩ u) :=
  ⟨setB h.below _ _ (Nat.le_refl _) _, box_set h.x i u, (keepB _ _ _ _ _ (by omega)).trans h.z⟩
theorem LV.setZ {w : World} {X Z : Array Value} {wr : World} (h : LV w X Z wr) (i : Nat) (u : Value) : LV w X (Z.setIfInBounds i u) (wr.setCell ⟨w.heap.size + 1, i, none⟩ u) :=
  ⟨setB h.below _ _ (by omega) _, (keepB _ _ _ _ _ (by omega)).trans h.x, box_set h.z i u⟩
theorem LV.start (w : World) (X Z : Array Value) : LV w X Z ((w.alloc (.cells X 28)).alloc (.cells Z 28)) := by
  refine ⟨((Below.refl _ _).alloc (Nat.le_refl _) _).alloc (by simp) _, ?_, heap_last2 _ _ _⟩
  rw [Below.heap_alloc _ _ _ (by simp)]
  exact heap_last _ _
set_option maxHeartbeats 4000000 in
theorem l6Own_any (aB aL : Option Addr) (kB kL : Nat) (B : List ByteArray) (F : Int) (L : List Rc) (s : Int) (w : World) (hb : B.length ≤ 9999) (hl : L.length ≤ 9999) (hB : Ss w.heap.size aB B w) (hL : Rs w.heap.size aL L w) :
    Calls Try.prog 32 #[.agg #[.slice aB B.length kB, .int .i64 F, .slice aL L.length kL, .int .i64 s]] w fun e w' => CpOut B F L s w e w' := by
  have hK0 := LV.start w #[.slice aB B.length kB, .int .i64 F, .slice aL L.length kL, .int .i64 s] #[.slice none 0 0, .int .i64 0, .slice none 0 0, .int .i64 0]
  have hz0 : ((w.alloc (.cells #[.slice aB B.length kB, .int .i64 F, .slice aL L.length kL, .int .i64 s] 28)).alloc (.cells #[.slice none 0 0, .int .i64 0, .slice none 0 0, .int .i64 0] 28)).heap.size = w.heap.size + 2 := by simp
  have b1 := boxB ((w.alloc (.cells #[.slice aB B.length kB, .int .i64 F, .slice aL L.length kL, .int .i64 s] 28)).alloc (.cells #[.slice none 0 0, .int .i64 0, .slice none 0 0, .int .i64 0] 28)) (.cells #[] 9)
  have hz1 : (((w.alloc (.cells #[.slice aB B.length kB, .int .i64 F, .slice aL L.length kL, .int .i64 s] 28)).alloc (.cells #[.slice none 0 0, .int .i64 0, .slice none 0 0, .int .i64 0] 28)).alloc (.cells #[] 9)).heap.size = w.heap.size + 3 := by rw [heap_size, hz0]
  have hB1 := hK0.below.trans (b1.mono hK0.below.size)
  obtain ⟨v1, w2, r1, o1, g1, -⟩ := app_str (((w.alloc (.cells #[.slice aB B.length kB, .int .i64 F, .slice aL L.length kL, .int .i64 s] 28)).alloc (.cells #[.slice none 0 0, .int .i64 0, .slice none 0 0, .int .i64 0] 28)).alloc (.cells #[] 9)) (w.heap.size + 2) (.slice (some ⟨w.heap.size + 2, 0, none⟩) 0 0) 0 [] (by
    have := World.ownsRow_made ((w.alloc (.cells #[.slice aB B.length kB, .int .i64 F, .slice aL L.length kL, .int .i64 s] 28)).alloc (.cells #[.slice none 0 0, .int .i64 0, .slice none 0 0, .int .i64 0] 28)) (base := w.heap.size + 2) (e := 9) (size := 1) #[] 0 (by rw [hz0]; exact Nat.le_refl _) (by unfold maxLen; omega) rfl
    rw [hz0] at this
    exact this) aB kB B ((hB.below hB1).mono hB1.size) (by omega) (by rw [hz1]; omega)
  rw [Nat.zero_add, List.nil_append] at o1
  obtain ⟨a1, c1, rfl⟩ := rw_form o1
  have g1b := below_of_grown (lo := w.heap.size + 2) g1 (by rw [hz1]; omega) (fun k e => by have h' : some (w.heap.size + 2) = some k := e; injection h'; omega)
  have hK2 := (hK0.on b1).step g1b
  have s2 := g1.size
  rw [hz1] at s2
  have hK3 := hK2.setX 0 (.slice a1 B.length c1)
  have o1' : (w2.setCell ⟨w.heap.size, 0, none⟩ (.slice a1 B.length c1)).ownsRow (w.heap.size + 2) 9 1 (.slice a1 B.length c1) B.length (svals B) := rw_keep o1 (fun k hk => keepB _ _ _ _ _ (by have := (o1.lt k hk).1; omega))
  have hz2 : (w2.setCell ⟨w.heap.size, 0, none⟩ (.slice a1 B.length c1)).heap.size = w2.heap.size := by simp [World.setCell]
  have b3 := boxB (w2.setCell ⟨w.heap.size, 0, none⟩ (.slice a1 B.length c1)) (.cells #[] 37)
  have hz3 : ((w2.setCell ⟨w.heap.size, 0, none⟩ (.slice a1 B.length c1)).alloc (.cells #[] 37)).heap.size = w2.heap.size + 1 := by rw [heap_size, hz2]
  have hK3a := hK3.on b3
  obtain ⟨v2, w4, r2, o2, g2, -⟩ := app_rec ((w2.setCell ⟨w.heap.size, 0, none⟩ (.slice a1 B.length c1)).alloc (.cells #[] 37)) w2.heap.size (.slice (some ⟨w2.heap.size, 0, none⟩) 0 0) 0 [] (by
    have := World.ownsRow_made (w2.setCell ⟨w.heap.size, 0, none⟩ (.slice a1 B.length c1)) (base := w2.heap.size) (e := 37) (size := 4) #[] 0 (by rw [hz2]; exact Nat.le_refl _) (by unfold maxLen; omega) rfl
    rw [hz2] at this
    exact this) aL kL L ((hL.below hK3a.below).mono hK3a.below.size) (by omega) (by rw [hz3]; omega)
  rw [Nat.zero_add, List.nil_append] at o2
  obtain ⟨a2, c2, rfl⟩ := rw_form o2
  have g2b := below_of_grown (lo := w2.heap.size) g2 (by rw [hz3]; omega) (fun k e => by have h' : some w2.heap.size = some k := e; injection h'; omega)
  have hK4 := hK3a.step (g2b.mono (by omega))
  have hK5 := hK4.setX 2 (.slice a2 L.length c2)
  have hK6 := (((hK5.setZ 0 (.slice a1 B.length c1)).setZ 1 (.int .i64 F)).setZ 2 (.slice a2 L.length c2)).setZ 3 (.int .i64 s)
  have hs4 : w2.heap.size ≤ w4.heap.size := by have := g2.size; rw [hz3] at this; omega
  have hOV4 : OV (w.heap.size + 2) w2.heap.size a1 c1 B a2 c2 L w4 := ⟨by omega, hs4, rw_keep o1' (fun k hk => (g2b.block k (by have := (o1'.lt k hk).2; rw [hz2] at this; exact this)).trans (b3.block k (by exact (o1'.lt k hk).2))), fun g hg => by have := (o1.lt g hg).2; exact this, o2⟩
  have hOV6 := ((((hOV4.set w.heap.size 2 (.slice a2 L.length c2) (by omega)).set (w.heap.size + 1) 0 (.slice a1 B.length c1) (by omega)).set (w.heap.size + 1) 1 (.int .i64 F) (by omega)).set (w.heap.size + 1) 2 (.slice a2 L.length c2) (by omega)).set (w.heap.size + 1) 3 (.int .i64 s) (by omega)
  have HOV : Hid (OV w.heap.size w2.heap.size a1 c1 B a2 c2 L (((((w4.setCell ⟨w.heap.size, 2, none⟩ (.slice a2 L.length c2)).setCell ⟨w.heap.size + 1, 0, none⟩ (.slice a1 B.length c1)).setCell ⟨w.heap.size + 1, 1, none⟩ (.int .i64 F)).setCell ⟨w.heap.size + 1, 2, none⟩ (.slice a2 L.length c2)).setCell ⟨w.heap.size + 1, 3, none⟩ (.int .i64 s))) := ⟨by omega, hOV6.mh, rw_mono hOV6.base (by omega), hOV6.low, hOV6.log⟩
  have HB6 := hid hK6.below
  have e0 : (((((w4.setCell ⟨w.heap.size, 2, none⟩ (.slice a2 L.length c2)).setCell ⟨w.heap.size + 1, 0, none⟩ (.slice a1 B.length c1)).setCell ⟨w.heap.size + 1, 1, none⟩ (.int .i64 F)).setCell ⟨w.heap.size + 1, 2, none⟩ (.slice a2 L.length c2)).setCell ⟨w.heap.size + 1, 3, none⟩ (.int .i64 s)).cell? ⟨w.heap.size + 1, 0, none⟩ = some (.slice a1 B.length c1) := box_cell hK6.z 0
  have e1 : (((((w4.setCell ⟨w.heap.size, 2, none⟩ (.slice a2 L.length c2)).setCell ⟨w.heap.size + 1, 0, none⟩ (.slice a1 B.length c1)).setCell ⟨w.heap.size + 1, 1, none⟩ (.int .i64 F)).setCell ⟨w.heap.size + 1, 2, none⟩ (.slice a2 L.length c2)).setCell ⟨w.heap.size + 1, 3, none⟩ (.int .i64 s)).cell? ⟨w.heap.size + 1, 1, none⟩ = some (.int .i64 F) := box_cell hK6.z 1
  have e2 : (((((w4.setCell ⟨w.heap.size, 2, none⟩ (.slice a2 L.length c2)).setCell ⟨w.heap.size + 1, 0, none⟩ (.slice a1 B.length c1)).setCell ⟨w.heap.size + 1, 1, none⟩ (.int .i64 F)).setCell ⟨w.heap.size + 1, 2, none⟩ (.slice a2 L.length c2)).setCell ⟨w.heap.size + 1, 3, none⟩ (.int .i64 s)).cell? ⟨w.heap.size + 1, 2, none⟩ = some (.slice a2 L.length c2) := box_cell hK6.z 2
  have e3 : (((((w4.setCell ⟨w.heap.size, 2, none⟩ (.slice a2 L.length c2)).setCell ⟨w.heap.size + 1, 0, none⟩ (.slice a1 B.length c1)).setCell ⟨w.heap.size + 1, 1, none⟩ (.int .i64 F)).setCell ⟨w.heap.size + 1, 2, none⟩ (.slice a2 L.length c2)).setCell ⟨w.heap.size + 1, 3, none⟩ (.int .i64 s)).cell? ⟨w.heap.size + 1, 3, none⟩ = some (.int .i64 s) := box_cell hK6.z 3
  have x0 : w2.cell? ⟨w.heap.size, 0, none⟩ = some (.slice aB B.length kB) := box_cell hK2.x 0
  have x0f := box_free hK2.x 0
  have x2 : ((w2.setCell ⟨w.heap.size, 0, none⟩ (.slice a1 B.length c1)).alloc (.cells #[] 37)).cell? ⟨w.heap.size, 2, none⟩ = some (.slice aL L.length kL) := box_cell hK3a.x 2
  have y2 : w4.cell? ⟨w.heap.size, 2, none⟩ = some (.slice aL L.length kL) := box_cell hK4.x 2
  have y2f := box_free hK4.x 2
  have y0 : w4.cell? ⟨w.heap.size, 0, none⟩ = some (.slice a1 B.length c1) := box_cell hK4.x 0
  have y1 : w4.cell? ⟨w.heap.size, 1, none⟩ = some (.int .i64 F) := box_cell hK4.x 1
  have y3 : w4.cell? ⟨w.heap.size, 3, none⟩ = some (.int .i64 s) := box_cell hK4.x 3
  have z0 : w4.cell? ⟨w.heap.size + 1, 0, none⟩ = some (.slice none 0 0) := box_cell hK4.z 0
  have z1 : w4.cell? ⟨w.heap.size + 1, 1, none⟩ = some (.int .i64 0) := box_cell hK4.z 1
  have z2 : w4.cell? ⟨w.heap.size + 1, 2, none⟩ = some (.slice none 0 0) := box_cell hK4.z 2
  have z3 : w4.cell? ⟨w.heap.size + 1, 3, none⟩ = some (.int .i64 0) := box_cell hK4.z 3
  have f0 := box_free hK4.z 0
  have f1 := box_free hK4.z 1
  have f2 := box_free hK4.z 2
  have f3 := box_free hK4.z 3
  have hz2' := hid hz2
  clear hB hL hK0 b1 hB1 hz1 o1 g1 g1b hK2 s2 hK3 o1' b3 hz3 hK3a o2 g2 g2b hK4 hK5 hK6 hs4 hOV4 hOV6 hz2 hb hl hz0
  go_enter Try.func32, Try.ntmps32
  go_wp2_with (at_builtin; first | refine wpList_append_run rfl (.tmp 3) (.tmp 5) 25 rfl _ _ rfl rfl _ _ r1 ?_ | refine wpList_append_run rfl (.tmp 8) (.tmp 10) 26 rfl _ _ rfl rfl _ _ r2 ?_)
  generalize (((((w4.setCell ⟨w.heap.size, 2, none⟩ (.slice a2 L.length c2)).setCell ⟨w.heap.size + 1, 0, none⟩ (.slice a1 B.length c1)).setCell ⟨w.heap.size + 1, 1, none⟩ (.int .i64 F)).setCell ⟨w.heap.size + 1, 2, none⟩ (.slice a2 L.length c2)).setCell ⟨w.heap.size + 1, 3, none⟩ (.int .i64 s)) = XX at *
  refine bodyPost_ret (v := .agg #[.slice a1 B.length c1, .int .i64 F, .slice a2 L.length c2, .int .i64 s]) (by simp [results, Try.results32, go_sem, e0, e1, e2, e3]) rfl ?_
  exact ⟨w2.heap.size, a1, c1, a2, c2, rfl, HOV.out, HB6.out⟩
end Go.Proofs.Ytlbhfgcpflhccaa
