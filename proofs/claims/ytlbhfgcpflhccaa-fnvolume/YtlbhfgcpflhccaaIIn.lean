/- Walks of the program's copyTexts, blocksBehind, BlocksIn. -/
import Derived.Test.YtlbhfgcpflhccaaSIn
import Derived.Test.YtlbhfgcpflhccaaIGv
import Derived.Test.YtlbhfgcpflhccaaFoldI
namespace Go.Proofs.Ytlbhfgcpflhccaa
set_option maxRecDepth 100000
open Go.ChangeShapes Go.WideShapes Go.ChangeAt Go.RowKit G00541
theorem app_nil (D : ByteArray) : D ++ (⟨#[]⟩ : ByteArray) = D := by
  rw [← ba_app]; simp
theorem srow_one (w : World) (D : ByteArray) : Ss (w.alloc (.cells #[.string D] 9)).heap.size (some ⟨w.heap.size, 0, none⟩) [D] (w.alloc (.cells #[.string D] 9)) := by
  refine ⟨fun _ => ⟨w.heap.size, 0, rfl, by simp, fun i hi j hj => ?_⟩⟩
  have hi' : i = 0 := by simpa using hi
  subst hi'
  obtain rfl : j = 0 := by omega
  rw [box_cell (heap_last _ _)]
  rfl
set_option maxHeartbeats 2000000 in
theorem copyTexts_any (a : Option Addr) (cap : Nat) (l : List ByteArray) (w : World) (hn : l.length ≤ 9999) (hz : ∀ k (h : k < l.length), l[k].size ≤ 1048576) (hL : Ss w.heap.size a l w) :
    Calls Try.prog 62 #[.slice a l.length cap] w fun e w' => ∃ v, e = .returned v ∧ w'.ownsRow w.heap.size 9 1 v l.length (svals l) ∧ Below w.heap.size w w' := by
  have HL := hid hL
  have HZ := hid hz
  clear hL hz
  go_enter Try.func62, Try.ntmps62
  go_wp2_with fail
  go_loopw [3, 8] (fun o i wr => ∃ (k : Nat) (o1 : Value), k ≤ l.length ∧ i = .int .i64 k ∧ o = o1 ∧ wr.ownsRow w.heap.size 9 1 o1 k (svals (l.take k)) ∧ Below w.heap.size w wr) (fun _ i _ => l.length - (intOf i).toNat)
  case atStart => exact ⟨0, _, Nat.zero_le _, rfl, rfl, World.ownsRow_nil _ _ _ _, Below.refl _ _⟩
  case round =>
    obtain ⟨k, _, hk, rfl, rfl, hown, hbel⟩ := hrel
    have HOWN := hid hown
    have HBEL := hid hbel
    have hszr := hbel.size
    clear hown hbel
    by_cases hlt : k < l.length
    · obtain ⟨b, off, rfl, hb, hcells⟩ := HL.out.cell (by omega)
      have c0 := (HBEL.out.cell (p := ⟨b, off + k, none⟩) hb).trans (hcells k hlt)
      have HTK := hid (take_snoc l k hlt)
      have HJ : Hid (∀ v, Calls Try.prog 61 #[.string l[k], .string ⟨#[]⟩] v fun e w' => e = .returned (.string l[k]) ∧ Below v.heap.size v w') := fun v => by
        have := join_any l[k] ⟨#[]⟩ v (HZ.out k hlt) (by decide)
        rw [app_nil] at this
        exact this
      clear hcells
      generalize l[k] = D at *
      go_wp2_with fail
      refine (HJ.out _).mono ?_
      rintro e w9 ⟨rfl, b9⟩
      have HB9 : Hid (Below w.heap.size w w9) := HBEL.out.trans (b9.mono hszr)
      have HBA : Hid (Below w.heap.size w (w9.alloc (.cells #[.string D] 9))) := HB9.out.trans ((boxB _ _).mono HB9.out.size)
      have hown9 := (rw_below HOWN.out b9).alloc (.cells #[.string D] 9)
      obtain ⟨v', w', r1, o1, g1, -⟩ := app_str (w9.alloc (.cells #[.string D] 9)) w.heap.size u3 k (svals (l.take k)) hown9 (some ⟨w9.heap.size, 0, none⟩) 1 [D] (srow_one w9 D) (by show k + 1 ≤ 10000; omega) HBA.out.size
      have HO : Hid (w'.ownsRow w.heap.size 9 1 v' (k + 1) (svals (l.take (k + 1)))) := by
        show w'.ownsRow w.heap.size 9 1 v' (k + 1) (svals (l.take (k + 1)))
        rw [HTK.out, svals_snoc]
        exact o1
      have HB' : Hid (Below w.heap.size w w') := HBA.out.trans (below_of_grown g1 HBA.out.size (fun i hi => (HOWN.out.lt i hi).1))
      clear b9 hown9 o1 g1 HJ
      go_wp2_with (at_builtin; refine wpList_append_run rfl (.tmp 12) (.tmp 15) 25 rfl _ _ rfl rfl _ _ r1 ?_)
      go_roundw
      case rel => exact ⟨k + 1, _, by omega, by go_num, rfl, HO.out, HB'.out⟩
      case measure => simp [intOf]; omega
    · obtain rfl : k = l.length := by omega
      rw [List.take_length] at HOWN
      go_wp2
      go_ret
      exact ⟨u3, rfl, HOWN.out, HBEL.out⟩
set_option maxHeartbeats 4000000 in
theorem blocksBehind_any (aB aL : Option Addr) (kB kL : Nat) (B : List ByteArray) (L : List Rc) (w : World) (hg : goodBs B = true) (hn : L.length ≤ 40) (hgl : goodL L = true) (hB : Ss w.heap.size aB B w) (hL : Rs w.heap.size aL L w) :
    Calls Try.prog 37 #[.slice aB B.length kB, .slice aL L.length kL] w fun e w' => ∃ R c, e = .returned (.slice (some ⟨R, 0, none⟩) 16 c) ∧ w.heap.size ≤ R ∧ SRow R (doL B L) w' ∧ Below w.heap.size w w' ∧ 16 ≤ c := by
  have HL := hid hL
  have h16 := goodBs_len hg
  have HC := hid (copyTexts_any aB kB B w (by omega) (fun k h => by have := goodBs_two hg k h; omega) hB)
  have HG := hid hgl
  have H16 := hid h16
  clear hL hB hg hgl h16
  go_enter Try.func37, Try.ntmps37
  go_wp2_with fail
  refine HC.out.mono ?_
  rintro e w2 ⟨v, rfl, o2, b2⟩
  obtain ⟨R, c, rfl, hR', hrow, hcap⟩ := own_srow o2 (by have := H16.out; omega)
  rw [H16.out] at hcap
  have HROW2 := hid hrow
  have HCAP := hid hcap
  clear hcap
  have HB2 := hid b2
  clear o2 b2 hrow HC
  rw [H16.out]
  go_wp2_with fail
  go_loopw [14] (fun i wr => ∃ k : Nat, k ≤ L.length ∧ i = .int .i64 k ∧ SRow R (doL B (L.take k)) wr ∧ Below w.heap.size w wr) (fun i _ => L.length - (intOf i).toNat)
  case atStart => exact ⟨0, Nat.zero_le _, rfl, HROW2.out, HB2.out⟩
  case round =>
    obtain ⟨k, hk, rfl, hrow, hbel⟩ := hrel
    have HROW := hid hrow
    have HBEL := hid hbel
    have hszr := hbel.size
    clear hrow hbel
    by_cases hlt : k < L.length
    · obtain ⟨b, off, rfl, hb, hcells⟩ := HL.out.cell (by omega)
      obtain ⟨c0, c1, c2, c3⟩ := hcells k hlt
      have hb' : ∀ o, wr.cell? ⟨b, o, none⟩ = w.cell? ⟨b, o, none⟩ := fun o => HBEL.out.cell (p := ⟨b, o, none⟩) hb
      rw [← hb'] at c0 c1 c2 c3
      clear hcells hb'
      have hgk := good_at HG.out k hlt
      have HCH : Hid (∀ v, Calls Try.prog 39 #[.agg #[.int .i64 L[k].kind, .int .i64 L[k].place, .int .i64 L[k].long, .string (str L[k].data)]] v fun e w' => e = .returned (.tuple #[chgV L[k].kind L[k].place L[k].long (str L[k].data), .bool (goodR L[k])]) ∧ Below v.heap.size v w') := fun v => by
        have := change_any L[k].kind L[k].place L[k].long (str L[k].data) v
        rw [str_list] at this
        exact this
      have HC : Hid (∀ v, SRow R (doL B (L.take k)) v → Calls Try.prog 40 #[.slice (some ⟨R, 0, none⟩) 16 c, chgV L[k].kind L[k].place L[k].long (str L[k].data)] v fun e w' => e = .returned (.tuple #[]) ∧ SRow R (doL B (L.take (k + 1))) w' ∧ But R v w') := fun v hv => by
        rw [doL_snoc B L k hlt]
        exact do_rec R c _ L[k] v (by rw [doL_len]; exact H16.out) hgk hv
      clear hgk
      generalize chgV L[k].kind L[k].place L[k].long (str L[k].data) = cv at *
      generalize goodR L[k] = gr at *
      generalize L[k].kind = rk at *
      generalize L[k].place = rp at *
      generalize L[k].long = rn at *
      generalize str L[k].data = rd at *
      go_wp2_with fail
      refine (HCH.out _).mono ?_
      rintro e w3 ⟨rfl, b3⟩
      have HBA := hid (HBEL.out.alloc hszr (.cells #[.int .i64 rk, .int .i64 rp, .int .i64 rn, .string rd] 37))
      have HROW3 := hid ((HROW.out.below (boxB wr (.cells #[.int .i64 rk, .int .i64 rp, .int .i64 rn, .string rd] 37))).below b3)
      have HB3 : Hid (Below w.heap.size w w3) := HBA.out.trans (b3.mono HBA.out.size)
      clear b3 HBA
      go_wp2_with fail
      refine (HC.out _ HROW3.out).mono ?_
      rintro e w4 ⟨rfl, hrow4, but4⟩
      have HROW4 := hid hrow4
      have HB4 : Hid (Below w.heap.size w w4) := HB3.out.trans (but4.below hR' HB3.out.size)
      clear hrow4 but4
      go_wp2
      go_roundw
      case rel => exact ⟨k + 1, by omega, by go_num, HROW4.out, HB4.out⟩
      case measure => simp [intOf]; omega
    · obtain rfl : k = L.length := by omega
      rw [List.take_length] at HROW
      go_wp2
      go_ret
      exact ⟨R, c, rfl, hR', HROW.out, HBEL.out, HCAP.out⟩
set_option maxHeartbeats 1000000 in
theorem iblocksV_any (aB aL : Option Addr) (kB kL : Nat) (B : List ByteArray) (F : Int) (L : List Rc) (s : Int) (w : World) (hf : B.length ≤ 1048576 ∧ L.length ≤ 1048576) (hB : Ss w.heap.size aB B w) (hL : Rs w.heap.size aL L w) :
    Calls Try.prog 11 #[.agg #[.slice aB B.length kB, .int .i64 F, .slice aL L.length kL, .int .i64 s]] w fun e w' => BlOut B F L s w e w' := by
  have HB := hid (boxB w (.cells #[.slice aB B.length kB, .int .i64 F, .slice aL L.length kL, .int .i64 s] 28))
  have HC1 : Hid (∀ v, Below w.heap.size w v → Calls Try.prog 13 #[.agg #[.slice aB B.length kB, .int .i64 F, .slice aL L.length kL, .int .i64 s]] v fun e w' => e = .returned (.bool (goodV B F L s)) ∧ Below v.heap.size v w') := fun v g => igoodV_any aB aL kB kL B F L s v hf ((hB.below g).mono g.size) ((hL.below g).mono g.size)
  have HC2 : Hid (GoodV B F L s → ∀ v, Below w.heap.size w v → Calls Try.prog 37 #[.slice aB B.length kB, .slice aL L.length kL] v fun e w' => ∃ R c, e = .returned (.slice (some ⟨R, 0, none⟩) 16 c) ∧ v.heap.size ≤ R ∧ SRow R (doL B L) w' ∧ Below v.heap.size v w' ∧ 16 ≤ c) := fun h v g => blocksBehind_any aB aL kB kL B L v h.bs h.len h.recs ((hB.below g).mono g.size) ((hL.below g).mono g.size)
  have y0 : (w.alloc (.cells #[.slice aB B.length kB, .int .i64 F, .slice aL L.length kL, .int .i64 s] 28)).cell? ⟨w.heap.size, 0, none⟩ = some (.slice aB B.length kB) := by go_simp
  have y1 : (w.alloc (.cells #[.slice aB B.length kB, .int .i64 F, .slice aL L.length kL, .int .i64 s] 28)).cell? ⟨w.heap.size, 1, none⟩ = some (.int .i64 F) := by go_simp
  have y2 : (w.alloc (.cells #[.slice aB B.length kB, .int .i64 F, .slice aL L.length kL, .int .i64 s] 28)).cell? ⟨w.heap.size, 2, none⟩ = some (.slice aL L.length kL) := by go_simp
  have y3 : (w.alloc (.cells #[.slice aB B.length kB, .int .i64 F, .slice aL L.length kL, .int .i64 s] 28)).cell? ⟨w.heap.size, 3, none⟩ = some (.int .i64 s) := by go_simp
  have hlt : w.heap.size < (w.alloc (.cells #[.slice aB B.length kB, .int .i64 F, .slice aL L.length kL, .int .i64 s] 28)).heap.size := by simp
  clear hB hL hf
  cases hg : goodV B F L s
  · rw [hg] at HC1
    have HN := hid hg
    clear hg
    go_enter Try.func11, Try.ntmps11
    go_wp2_with fail
    refine (HC1.out _ HB.out).mono ?_
    rintro e w2 ⟨rfl, b2⟩
    have HB2 := hid (HB.out.trans (b2.mono HB.out.size))
    clear b2
    go_wp2_with fail
    go_ret2
    exact Or.inr ⟨HN.out, rfl, HB2.out⟩
  · rw [hg] at HC1
    have HN := hid hg
    have HC3 := hid (HC2.out (goodV_iff.1 hg))
    clear hg HC2
    go_enter Try.func11, Try.ntmps11
    go_wp2_with fail
    generalize w.alloc (.cells #[.slice aB B.length kB, .int .i64 F, .slice aL L.length kL, .int .i64 s] 28) = W at *
    refine (HC1.out _ HB.out).mono ?_
    rintro e w2 ⟨rfl, b2⟩
    have HB2 := hid (HB.out.trans (b2.mono HB.out.size))
    rw [← b2.cell (p := ⟨w.heap.size, 0, none⟩) hlt] at y0
    rw [← b2.cell (p := ⟨w.heap.size, 1, none⟩) hlt] at y1
    rw [← b2.cell (p := ⟨w.heap.size, 2, none⟩) hlt] at y2
    rw [← b2.cell (p := ⟨w.heap.size, 3, none⟩) hlt] at y3
    clear b2
    go_wp2_with fail
    refine (HC3.out _ HB2.out).mono ?_
    rintro e w3 ⟨R, c, rfl, hR, hrow, b3, hcap⟩
    have HCAP := hid hcap
    clear hcap
    have HB3 := hid (HB2.out.trans (b3.mono HB2.out.size))
    have HROW := hid hrow
    have HR : Hid (w.heap.size ≤ R) := Nat.le_trans HB2.out.size hR
    clear b3 hrow hR
    go_wp2_with fail
    go_ret2
    exact Or.inl ⟨HN.out, R, c, rfl, HR.out, HROW.out, HB3.out, HCAP.out⟩
end Go.Proofs.Ytlbhfgcpflhccaa
