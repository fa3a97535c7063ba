/- Walks of the model's l6In, BlocksIn. -/
import Derived.Test.YtlbhfgcpflhccaaVApp
import Derived.Test.YtlbhfgcpflhccaaSGv
namespace Go.Proofs.Ytlbhfgcpflhccaa
set_option maxRecDepth 100000
open Go.ChangeShapes Go.WideShapes Go.ChangeAt Go.RowKit G00541
theorem doL_all (B : List ByteArray) (L : List Rc) : doL B (L.take L.length) = doL B L := by rw [List.take_length]
set_option maxHeartbeats 4000000 in
theorem l6In_any (aB aL : Option Addr) (kB kL : Nat) (B : List ByteArray) (F : Int) (L : List Rc) (s : Int) (w : World) (h16 : B.length = 16) (hn : L.length ≤ 40) (hg : goodL L = true) (hB : Ss w.heap.size aB B w) (hL : Rs w.heap.size aL L w) :
    Calls Try.prog 55 #[.agg #[.slice aB B.length kB, .int .i64 F, .slice aL L.length kL, .int .i64 s]] w fun e w' => ∃ R c, e = .returned (.slice (some ⟨R, 0, none⟩) 16 c) ∧ w.heap.size ≤ R ∧ SRow R (doL B L) w' ∧ Below w.heap.size w w' ∧ 16 ≤ c := by
  have HB := hid (boxB w (.cells #[.slice aB B.length kB, .int .i64 F, .slice aL L.length kL, .int .i64 s] 28))
  have HL : Hid (Rs w.heap.size aL L w) := hL
  have HB1 : Hid (Below w.heap.size w ((w.alloc (.cells #[.slice aB B.length kB, .int .i64 F, .slice aL L.length kL, .int .i64 s] 28)).alloc (.cells #[] 9))) := HB.out.alloc HB.out.size _
  have y2 : (w.alloc (.cells #[.slice aB B.length kB, .int .i64 F, .slice aL L.length kL, .int .i64 s] 28)).heap[w.heap.size]? = some (.cells #[.slice aB B.length kB, .int .i64 F, .slice aL L.length kL, .int .i64 s] 28) := heap_last _ _
  have hz1 : (w.alloc (.cells #[.slice aB B.length kB, .int .i64 F, .slice aL L.length kL, .int .i64 s] 28)).heap.size = w.heap.size + 1 := by simp
  obtain ⟨v', w2, r2, o2, g2, -⟩ := app_str ((w.alloc (.cells #[.slice aB B.length kB, .int .i64 F, .slice aL L.length kL, .int .i64 s] 28)).alloc (.cells #[] 9)) (w.heap.size + 1) (.slice (some ⟨w.heap.size + 1, 0, none⟩) 0 0) 0 [] (by
    have := World.ownsRow_made (w.alloc (.cells #[.slice aB B.length kB, .int .i64 F, .slice aL L.length kL, .int .i64 s] 28)) (base := w.heap.size + 1) (e := 9) (size := 1) #[] 0 (by rw [hz1]; exact Nat.le_refl _) (by unfold maxLen; omega) rfl
    rw [hz1] at this
    exact this) aB kB B ((hB.below HB1.out).mono HB1.out.size) (by omega) (by rw [heap_size, hz1]; omega)
  rw [Nat.zero_add, List.nil_append] at o2
  obtain ⟨R, c, rfl, hR, hrow, hcap⟩ := own_srow o2 (by omega)
  rw [h16] at hcap
  have HROW2 := hid hrow
  have HCAP := hid hcap
  clear hcap
  have HB2 : Hid (Below w.heap.size w w2) := HB1.out.trans (below_of_grown g2 (by rw [heap_size, hz1]; omega) (fun k e => by have h' : some (w.heap.size + 1) = some k := e; injection h'; omega))
  have hbx := g2.block w.heap.size (by rw [heap_size, hz1]; omega) (by intro e; have h' : some w.heap.size = some (w.heap.size + 1) := e; injection h'; omega)
  have hbx2 : w2.heap[w.heap.size]? = some (.cells #[.slice aB B.length kB, .int .i64 F, .slice aL L.length kL, .int .i64 s] 28) := hbx.trans ((Below.heap_alloc _ _ _ (by rw [hz1]; omega)).trans y2)
  have x2 : w2.cell? ⟨w.heap.size, 2, none⟩ = some (.slice aL L.length kL) := box_cell hbx2 2
  have HG := hid hg
  have hR' : w.heap.size ≤ R := by omega
  rw [h16] at r2
  have H16 := hid h16
  clear hg hB hL o2 g2 hrow hbx hbx2 HB HB1 y2 hR h16
  rw [H16.out]
  go_enter Try.func55, Try.ntmps55
  go_wp2_with (at_builtin; refine wpList_append_run rfl (.tmp 6) (.tmp 8) 25 rfl _ _ rfl rfl _ _ r2 ?_)
  go_loopw [13] (fun i wr => ∃ k : Nat, k ≤ L.length ∧ i = .int .i64 k ∧ SRow R (doL B (L.take k)) wr ∧ Below w.heap.size w wr) (fun i _ => L.length - (intOf i).toNat)
  case atStart => exact ⟨0, Nat.zero_le _, rfl, HROW2.out, HB2.out⟩
  case round =>
    obtain ⟨k, hk, rfl, hrow, hbel⟩ := hrel
    have HROW := hid hrow
    have HBEL := hid hbel
    have hszr := hbel.size
    clear hrow hbel x2
    by_cases hlt : k < L.length
    · obtain ⟨b, off, rfl, hb, hcells⟩ := HL.out.cell (by omega)
      obtain ⟨c0, c1, c2, c3⟩ := hcells k hlt
      have hb' : ∀ o, wr.cell? ⟨b, o, none⟩ = w.cell? ⟨b, o, none⟩ := fun o => HBEL.out.cell (p := ⟨b, o, none⟩) hb
      rw [← hb'] at c0 c1 c2 c3
      clear hcells hb'
      have hgk := good_at HG.out k hlt
      have HC : Hid (∀ v, SRow R (doL B (L.take k)) v → Calls Try.prog 60 #[.slice (some ⟨R, 0, none⟩) 16 c, .agg #[.int .i64 L[k].kind, .int .i64 L[k].place, .int .i64 L[k].long, .string (str L[k].data)]] v fun e w' => e = .returned (.tuple #[]) ∧ SRow R (doL B (L.take (k + 1))) w' ∧ But R v w') := fun v hv => by
        rw [doL_snoc B L k hlt]
        exact l3do_rec R c _ L[k] v (by rw [doL_len]; exact H16.out) hgk hv
      clear hgk
      generalize L[k].kind = rk at *
      generalize L[k].place = rp at *
      generalize L[k].long = rn at *
      generalize str L[k].data = rd at *
      go_wp2_with fail
      refine (HC.out _ (HROW.out.below ((Below.refl _ _).alloc (Nat.le_refl _) _))).mono ?_
      rintro e w3 ⟨rfl, hrow3, but3⟩
      have HROW3 := hid hrow3
      have HB3 : Hid (Below w.heap.size w w3) := (HBEL.out.alloc hszr _).trans (but3.below hR' (by simp; omega))
      clear hrow3 but3
      go_wp2
      go_roundw
      case rel => exact ⟨k + 1, by omega, by go_num, HROW3.out, HB3.out⟩
      case measure => simp [intOf]; omega
    · obtain rfl : k = L.length := by omega
      rw [List.take_length] at HROW
      go_wp2
      go_ret
      exact ⟨R, c, rfl, hR', HROW.out, HBEL.out, HCAP.out⟩
/-- a volume's blocks and true, in memory of its own, or nothing and false -/
def BlOut (B : List ByteArray) (F : Int) (L : List Rc) (s : Int) (w : World) (e : Ending) (w' : World) : Prop :=
  (goodV B F L s = true ∧ ∃ R c, e = .returned (.tuple #[.slice (some ⟨R, 0, none⟩) 16 c, .bool true]) ∧ w.heap.size ≤ R ∧ SRow R (doL B L) w' ∧ Below w.heap.size w w' ∧ 16 ≤ c) ∨
  (goodV B F L s = false ∧ e = .returned (.tuple #[.slice none 0 0, .bool false]) ∧ Below w.heap.size w w')
set_option maxHeartbeats 1000000 in
theorem sblocks_any (aB aL : Option Addr) (kB kL : Nat) (B : List ByteArray) (F : Int) (L : List Rc) (s : Int) (w : World) (hf : B.length ≤ 1048576 ∧ L.length ≤ 1048576) (hB : Ss w.heap.size aB B w) (hL : Rs w.heap.size aL L w) :
    Calls Try.prog 24 #[.agg #[.slice aB B.length kB, .int .i64 F, .slice aL L.length kL, .int .i64 s]] w fun e w' => BlOut B F L s w e w' := by
  have HB := hid (boxB w (.cells #[.slice aB B.length kB, .int .i64 F, .slice aL L.length kL, .int .i64 s] 28))
  have HC1 : Hid (∀ v, Below w.heap.size w v → Calls Try.prog 20 #[.agg #[.slice aB B.length kB, .int .i64 F, .slice aL L.length kL, .int .i64 s]] v fun e w' => e = .returned (.bool (goodV B F L s)) ∧ Below v.heap.size v w') := fun v g => sgoodV_any aB aL kB kL B F L s v hf ((hB.below g).mono g.size) ((hL.below g).mono g.size)
  have HC2 : Hid (GoodV B F L s → ∀ v, Below w.heap.size w v → Calls Try.prog 55 #[.agg #[.slice aB B.length kB, .int .i64 F, .slice aL L.length kL, .int .i64 s]] v fun e w' => ∃ R c, e = .returned (.slice (some ⟨R, 0, none⟩) 16 c) ∧ v.heap.size ≤ R ∧ SRow R (doL B L) w' ∧ Below v.heap.size v w' ∧ 16 ≤ c) := fun h v g => l6In_any aB aL kB kL B F L s v (goodBs_len h.bs) h.len h.recs ((hB.below g).mono g.size) ((hL.below g).mono g.size)
  have y0 : (w.alloc (.cells #[.slice aB B.length kB, .int .i64 F, .slice aL L.length kL, .int .i64 s] 28)).cell? ⟨w.heap.size, 0, none⟩ = some (.slice aB B.length kB) := by go_simp
  have y1 : (w.alloc (.cells #[.slice aB B.length kB, .int .i64 F, .slice aL L.length kL, .int .i64 s] 28)).cell? ⟨w.heap.size, 1, none⟩ = some (.int .i64 F) := by go_simp
  have y2 : (w.alloc (.cells #[.slice aB B.length kB, .int .i64 F, .slice aL L.length kL, .int .i64 s] 28)).cell? ⟨w.heap.size, 2, none⟩ = some (.slice aL L.length kL) := by go_simp
  have y3 : (w.alloc (.cells #[.slice aB B.length kB, .int .i64 F, .slice aL L.length kL, .int .i64 s] 28)).cell? ⟨w.heap.size, 3, none⟩ = some (.int .i64 s) := by go_simp
  have hlt : w.heap.size < (w.alloc (.cells #[.slice aB B.length kB, .int .i64 F, .slice aL L.length kL, .int .i64 s] 28)).heap.size := by simp
  clear hB hL hf
  cases hg : goodV B F L s
  · rw [hg] at HC1
    have HN := hid hg
    clear hg
    go_enter Try.func24, Try.ntmps24
    go_wp2_with fail
    refine (HC1.out _ HB.out).mono ?_
    rintro e w2 ⟨rfl, b2⟩
    have HB2 := hid (HB.out.trans (b2.mono HB.out.size))
    clear b2
    go_wp2_with fail
    go_ret2
    exact Or.inr ⟨HN.out, rfl, HB2.out⟩
  · rw [hg] at HC1
    have HN := hid hg
    have HC3 := hid (HC2.out (goodV_iff.1 hg))
    clear hg HC2
    go_enter Try.func24, Try.ntmps24
    go_wp2_with fail
    generalize w.alloc (.cells #[.slice aB B.length kB, .int .i64 F, .slice aL L.length kL, .int .i64 s] 28) = W at *
    refine (HC1.out _ HB.out).mono ?_
    rintro e w2 ⟨rfl, b2⟩
    have HB2 := hid (HB.out.trans (b2.mono HB.out.size))
    rw [← b2.cell (p := ⟨w.heap.size, 0, none⟩) hlt] at y0
    rw [← b2.cell (p := ⟨w.heap.size, 1, none⟩) hlt] at y1
    rw [← b2.cell (p := ⟨w.heap.size, 2, none⟩) hlt] at y2
    rw [← b2.cell (p := ⟨w.heap.size, 3, none⟩) hlt] at y3
    clear b2
    go_wp2_with fail
    refine (HC3.out _ HB2.out).mono ?_
    rintro e w3 ⟨R, c, rfl, hR, hrow, b3, hcap⟩
    have HCAP := hid hcap
    clear hcap
    have HB3 := hid (HB2.out.trans (b3.mono HB2.out.size))
    have HROW := hid hrow
    have HR : Hid (w.heap.size ≤ R) := Nat.le_trans HB2.out.size hR
    clear b3 hrow hR
    go_wp2_with fail
    go_ret2
    exact Or.inl ⟨HN.out, R, c, rfl, HR.out, HROW.out, HB3.out, HCAP.out⟩
end Go.Proofs.Ytlbhfgcpflhccaa
