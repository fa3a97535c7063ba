/- Walk of the program's placesIn. -/
import Derived.Test.YtgipkpldlkmdkaaXSt
import Derived.Test.YtgipkpldlkmdkaaXEq
import Derived.Test.YtgipkpldlkmdkaaWBl
import Derived.Deep.RegionHeld
namespace Go.Proofs.Ytgipkpldlkmdkaa
set_option maxRecDepth 100000
open Go.ChangeShapes Go.WideShapes Go.ChangeAt Go.RowKit G00541
/-- each field that is reckoned with fits an int -/
def FitM (l : List Sx) : Prop := ∀ x ∈ l, fit x.at_ ∧ fit x.long
theorem plN_snoc (m : List Sx) (x : Sx) (b : Nat) (h0 : 0 ≤ x.long) : plN (m ++ [x]) b = putF (plN m) x x.long.toNat b := by
  unfold plN putF
  rw [pl_snoc]
  have e : ((x.long.toNat : Nat) : Int) = x.long := by omega
  rw [e]
theorem good_eq (l : List Sx) (h6 : l.length ≤ 16) (ha : ∀ x ∈ l, goodX x = true) : decide (mapF (plN l) 16 = l) = goodM l := by
  cases hg : goodM l
  · refine decide_eq_false fun h => ?_
    have := (good_iff l).2 ⟨h6, ha, h⟩
    rw [hg] at this; cases this
  · exact decide_eq_true ((good_iff l).1 hg).2.2
set_option maxHeartbeats 2000000 in
theorem placesIn_long (a : Option Addr) (cap : Nat) (l : List Sx) (w : World) (hn : l.length ≤ 1048576) (h6 : 16 < l.length) :
    Calls Try.prog 38 #[.slice a l.length cap] w fun e w' => (∃ F, e = .returned (.tuple #[.agg (arr F), .bool false])) ∧ Below w.heap.size w w' := by
  have HR : Hid (Ar w.heap.size (fun _ => 0) (w.alloc (.cells (arr fun _ => 0) 61))) := Ar.new w _ 61
  have hd : decide ((16 : Int) < (l.length : Int)) = true := decide_eq_true (by omega)
  go_enter Try.func38, Try.ntmps38
  go_wp2_with fail
  refine (none_any _).mono ?_
  rintro e w1 ⟨rfl, b1⟩
  have hs1 : w.heap.size + 1 ≤ w1.heap.size := by have := b1.size; simpa using this
  have HR1 : Hid (Ar w.heap.size (fun _ => 0) w1) := HR.out.below b1
  have HB1 : Hid (Below w.heap.size w w1) := ((Below.refl _ _).alloc (Nat.le_refl _) _).trans (b1.mono (by simp))
  have HA : Hid (Ar w1.heap.size (fun _ => 0) (w1.alloc (.cells (arr fun _ => 0) 61))) := Ar.new w1 _ 61
  clear b1 HR
  go_wp2_with (first | (refine wpList_store_ar HA.out rfl _ _ rfl rfl rfl ?_; intro w2 ha2 hb2; have HR2 : Hid (Ar w.heap.size (fun _ => 0) w2) := (HR1.out.alloc _).but hb2.out (by omega)) | refine wpList_load_ar ha2.out rfl _ rfl rfl ?_ | (refine wpList_store_ar HR2.out rfl _ _ rfl rfl rfl ?_; intro w3 ha3 hb3))
  have hld := loadv_ar ha3.out
  have HB2 : Hid (Below w.heap.size w w2) := (HB1.out.alloc HB1.out.size _).trans (hb2.out.below (by omega) (by simp; omega))
  have HB3 : Hid (Below w.heap.size w w3) := HB2.out.trans (hb3.out.below (Nat.le_refl _) HB2.out.size)
  refine bodyPost_ret (v := .tuple #[.agg (arr fun _ => -1), .bool false]) ?_ rfl ⟨⟨_, rfl⟩, HB3.out⟩
  rw [results_cell_tmp rfl]
  simp [asAddr, Result.andThen, hld]
theorem range_ar {B : Nat} {f : Nat → Int} {w : World} (h : Ar B f w) (C : List Value) (hC : C = (arr f).toList) : w.rangeAt B 0 C := by
  subst hC
  intro j v hv
  have hj : j < 16 := by
    rcases Nat.lt_or_ge j 16 with h' | h'
    · exact h'
    · rw [List.getElem?_eq_none (by rw [Array.length_toList, arr_size]; exact h')] at hv; cases hv
  rw [Nat.zero_add, h.cell j hj, ← arr_at f j hj, ← hv, Array.getElem?_toList]
theorem there_ar {B : Nat} {f : Nat → Int} {w : World} (h : Ar B f w) : w.there B 0 16 := by
  intro j hj
  rw [Nat.zero_add, h.cell j hj]
  exact ⟨rfl, h.free j⟩
theorem below_cells {B R : Nat} {w w' : World} (h : Below B w w') (hR : B ≤ R) : ∀ (vs : List Value) (o : Nat), Below B w (w'.setCells R o vs) := by
  intro vs
  induction vs generalizing w' with
  | nil => intro o; exact h
  | cons v r ih => intro o; exact ih (h.setCell hR _) (o + 1)
set_option maxHeartbeats 4000000 in
theorem placesIn_short (a : Option Addr) (cap : Nat) (l : List Sx) (w : World) (h6 : l.length ≤ 16) (hfit : FitM l) (hZ : Xs w.heap.size a l w) :
    Calls Try.prog 38 #[.slice a l.length cap] w fun e w' => (∃ F, e = .returned (.tuple #[.agg (arr F), .bool (goodM l)]) ∧ (goodM l = true → F = plN l)) ∧ Below w.heap.size w w' := by
  have HR : Hid (Ar w.heap.size (fun _ => 0) (w.alloc (.cells (arr fun _ => 0) 61))) := Ar.new w _ 61
  have hd : decide ((16 : Int) < (l.length : Int)) = false := decide_eq_false (by omega)
  have HZ : Hid (Xs w.heap.size a l w) := hZ
  have HFIT : Hid (FitM l) := hfit
  clear hZ hfit
  go_enter Try.func38, Try.ntmps38
  go_wp2_with fail
  refine (none_any _).mono ?_
  rintro e w1 ⟨rfl, b1⟩
  have hs1 : w.heap.size + 1 ≤ w1.heap.size := by have := b1.size; simpa using this
  have HR1 : Hid (Ar w.heap.size (fun _ => 0) w1) := HR.out.below b1
  have HB1 : Hid (Below w.heap.size w w1) := ((Below.refl _ _).alloc (Nat.le_refl _) _).trans (b1.mono (by simp))
  have HA : Hid (Ar w1.heap.size (fun _ => 0) (w1.alloc (.cells (arr fun _ => 0) 61))) := Ar.new w1 _ 61
  clear b1 HR
  go_wp2_with (first | (refine wpList_store_ar HA.out rfl _ _ rfl rfl rfl ?_; intro w2 ha2 hb2) | fail)
  have HR2 : Hid (Ar w.heap.size (fun _ => 0) w2) := (HR1.out.alloc _).but hb2.out (by omega)
  have HB2 : Hid (Below w.heap.size w w2) := (HB1.out.alloc HB1.out.size _).trans (hb2.out.below (by omega) (by simp; omega))
  generalize w1.heap.size = B at *
  clear HR1 HB1 HA hb2
  go_loopw [14] (fun i wr => ∃ k : Nat, k ≤ l.length ∧ i = .int .i64 k ∧ Ar B (plN (l.take k)) wr ∧ Ar w.heap.size (fun _ => 0) wr ∧ (∀ j (hj : j < l.length), j < k → goodX l[j] = true) ∧ Below w.heap.size w wr) (fun i _ => l.length - (intOf i).toNat)
  case atStart => exact ⟨0, Nat.zero_le _, rfl, ha2.out, HR2.out, (fun _ _ h => absurd h (Nat.not_lt_zero _)), HB2.out⟩
  case round =>
    clear ha2 HR2 HB2
    obtain ⟨k, hk, rfl, ha, hr, hall, hbel⟩ := hrel
    have HA : Hid (Ar B (plN (l.take k)) wr) := ha
    have HR : Hid (Ar w.heap.size (fun _ => 0) wr) := hr
    have HALL : Hid (∀ j (hj : j < l.length), j < k → goodX l[j] = true) := hall
    have HBEL : Hid (Below w.heap.size w wr) := hbel
    have hszr := hbel.size
    by_cases hlt : k < l.length
    · obtain ⟨b, off, rfl, hb, hcells⟩ := HZ.out.cell (by omega)
      obtain ⟨c0, c1, c2⟩ := hcells k hlt
      have hb' : ∀ o, wr.cell? ⟨b, o, none⟩ = w.cell? ⟨b, o, none⟩ := fun o => hbel.cell (p := ⟨b, o, none⟩) hb
      rw [← hb'] at c0 c1 c2
      clear hcells hb' ha hr hall hbel
      obtain ⟨hf0, hf1⟩ := HFIT.out l[k] (List.getElem_mem hlt)
      have HG : Hid (∀ v, Calls Try.prog 42 #[.agg #[.int .i64 l[k].at_, .int .i64 l[k].long, .int .i64 l[k].place]] v fun e w' => e = .returned (.bool (goodX l[k])) ∧ Below v.heap.size v w') := fun v => goodStretch_any _ _ _ v hf0 hf1
      have hsnoc : l.take (k + 1) = l.take k ++ [l[k]] := List.take_succ_eq_append_getElem hlt
      have hgbad : goodX l[k] = false → goodM l = false := fun h => by
        cases hg : goodM l
        · rfl
        · rw [((good_iff l).1 hg).2.1 _ (List.getElem_mem hlt)] at h; cases h
      have hgood : goodX l[k] = true → ∀ j (hj : j < l.length), j < k + 1 → goodX l[j] = true := fun h j hj hjk => by
        by_cases e : j = k
        · subst e; exact h
        · exact HALL.out j hj (by omega)
      clear hf0 hf1 HALL
      generalize l[k] = x at *
      obtain ⟨p, n, c⟩ := x
      simp only at c0 c1 c2 HG
      cases hgx : goodX ⟨p, n, c⟩
      · rw [hgx] at HG
        have HV : Hid (goodM l = false) := hgbad hgx
        clear hgbad hgood hsnoc hgx
        go_wp2_with fail
        refine (HG.out _).mono ?_
        rintro e w5 ⟨rfl, b5⟩
        have HA5 : Hid (Ar B (plN (l.take k)) w5) := (HA.out.alloc _).below b5
        have HR5 : Hid (Ar w.heap.size (fun _ => 0) w5) := (HR.out.alloc _).below b5
        have HB5 : Hid (Below w.heap.size w w5) := (HBEL.out.alloc hszr _).trans (b5.mono (by simp; omega))
        clear b5 HA HR HBEL
        go_wp2_with (first | refine wpList_load_ar HA5.out rfl _ rfl rfl ?_ | (refine wpList_store_ar HR5.out rfl _ _ rfl rfl rfl ?_; intro w6 ha6 hb6))
        have hld := loadv_ar ha6.out
        have HB6 : Hid (Below w.heap.size w w6) := HB5.out.trans (hb6.out.below (Nat.le_refl _) HB5.out.size)
        refine bodyPost_ret (v := .tuple #[.agg (arr (plN (l.take k))), .bool false]) ?_ rfl ⟨⟨_, by rw [HV.out], fun h => by rw [HV.out] at h; cases h⟩, HB6.out⟩
        rw [results_cell_tmp rfl]
        simp [asAddr, Result.andThen, hld]
      · rw [hgx] at HG
        have HL : Hid (∀ j (hj : j < l.length), j < k + 1 → goodX l[j] = true) := hgood hgx
        have gx := (goodX_iff _).1 hgx
        simp only at gx
        obtain ⟨p, rfl⟩ : ∃ p' : Nat, p = p' := ⟨p.toNat, by omega⟩
        obtain ⟨n, rfl⟩ : ∃ n' : Nat, n = n' := ⟨n.toNat, by omega⟩
        have HW : Hid (∀ v, Calls Try.prog 43 #[.agg (arr (plN (l.take k))), .agg #[.int .i64 p, .int .i64 n, .int .i64 c]] v fun e w' => e = .returned (.agg (arr (plN (l.take (k + 1))))) ∧ Below v.heap.size v w') := fun v => by
          have := with_any (plN (l.take k)) p n c v (by omega) (by omega) (by omega) (by omega)
          have e : arr (putF (plN (l.take k)) ⟨p, n, c⟩ n) = arr (plN (l.take (k + 1))) := arr_ext _ _ fun b _ => by
            rw [hsnoc, plN_snoc _ _ _ (by simp only; omega)]; simp
          rw [e] at this
          exact this
        clear hgbad hgood hsnoc hgx gx
        go_wp2_with fail
        refine (HG.out _).mono ?_
        rintro e w5 ⟨rfl, b5⟩
        have hx : wr.heap.size < w5.heap.size := by have := b5.size; simp at this; omega
        have x0 : w5.cell? ⟨wr.heap.size, 0, none⟩ = some (.int .i64 p) := by rw [b5.cell (p := ⟨wr.heap.size, 0, none⟩) (by simp)]; go_simp
        have x1 : w5.cell? ⟨wr.heap.size, 1, none⟩ = some (.int .i64 n) := by rw [b5.cell (p := ⟨wr.heap.size, 1, none⟩) (by simp)]; go_simp
        have x2 : w5.cell? ⟨wr.heap.size, 2, none⟩ = some (.int .i64 c) := by rw [b5.cell (p := ⟨wr.heap.size, 2, none⟩) (by simp)]; go_simp
        have HA5 : Hid (Ar B (plN (l.take k)) w5) := (HA.out.alloc _).below b5
        have HR5 : Hid (Ar w.heap.size (fun _ => 0) w5) := (HR.out.alloc _).below b5
        have HB5 : Hid (Below w.heap.size w w5) := (HBEL.out.alloc hszr _).trans (b5.mono (by simp; omega))
        clear b5 HA HR HBEL c0 c1 c2
        go_wp2_with (first | refine wpList_load_ar HA5.out rfl _ rfl rfl ?_ | fail)
        refine (HW.out _).mono ?_
        rintro e w6 ⟨rfl, b6⟩
        have HA6 : Hid (Ar B (plN (l.take k)) w6) := HA5.out.below b6
        have HR6 : Hid (Ar w.heap.size (fun _ => 0) w6) := HR5.out.below b6
        have HB6 : Hid (Below w.heap.size w w6) := HB5.out.trans (b6.mono HB5.out.size)
        clear b6 HA5 HR5 HB5 x0 x1 x2
        go_wp2_with (first | (refine wpList_store_ar HA6.out rfl _ _ rfl rfl rfl ?_; intro w7 ha7 hb7) | fail)
        have HR7 : Hid (Ar w.heap.size (fun _ => 0) w7) := HR6.out.but hb7.out (by omega)
        have HB7 : Hid (Below w.heap.size w w7) := HB6.out.trans (hb7.out.below (by omega) HB6.out.size)
        clear hb7 HA6 HR6 HB6
        go_roundw
        case rel => exact ⟨k + 1, by omega, by go_num, ha7.out, HR7.out, HL.out, HB7.out⟩
        case measure => simp [intOf]; omega
    · obtain rfl : k = l.length := by omega
      rw [List.take_length] at ha HA
      have hallg : ∀ x ∈ l, goodX x = true := fun x hx => by
        obtain ⟨j, hj, rfl⟩ := List.getElem_of_mem hx
        exact HALL.out j hj hj
      have HV : Hid (decide (mapF (plN l) 16 = l) = goodM l) := good_eq l h6 hallg
      have HS : Hid (∀ v, Calls Try.prog 35 #[.agg (arr (plN l))] v fun e w' => ∃ u, e = .returned u ∧ w'.ownsRow v.heap.size 36 3 u (mapF (plN l) 16).length (xflat (mapF (plN l) 16)) ∧ Below v.heap.size v w') := fun v => stretchesOf_any (plN l) (fun b _ => pl_range l hallg b) v
      have hml : (mapF (plN l) 16).length ≤ 16 := mapF_len _ (fun b _ => pl_range l hallg b)
      have hlen : (arr (plN l)).toList.length = 16 := by rw [Array.length_toList, arr_size]
      have hone : ∀ v ∈ (arr (plN l)).toList, v.oneCell' = true := fun v hv => (Array.all_eq_true_iff_forall_mem.1 (arr_one (plN l))) v (by simpa using hv)
      have hra := range_ar ha _ rfl
      have hth := there_ar hr
      have e : arr (plN l) = (arr (plN l)).toList.toArray := (Array.toArray_toList).symm
      rw [e] at HS
      have HE : Hid (arr (plN l) = (arr (plN l)).toList.toArray) := e
      clear ha hr hall hbel hallg e
      generalize (arr (plN l)).toList = C at *
      generalize hM : mapF (plN l) 16 = M at *
      have hu : Try.prog.underlying 61 = some (.array 16 3) := Try.underlying61
      have hsz : (Try.prog.info? 61).map (·.size) = some C.length := by rw [hlen]; exact sizeBP
      have hra' : wr.drew.rangeAt B 0 C := hra
      have hth' : wr.drew.there w.heap.size 0 16 := hth
      clear hra hth
      go_wp2_with fail
      refine wp_region_held_drew (S := fun v => v.rangeAt B 0 C ∧ v.there w.heap.size 0 16) (by kernel_rfl) ⟨hra', hth'⟩ (fun hHeld => ?_)
      refine wpAnyH_take (i := 0) (v := .agg C.toArray) rfl (by kernel_rfl) (by kernel_rfl) (by kernel_rfl) (fun _ _ _ h => h) (yieldsIf_load_mid (by rfl) _ _ rfl _ _ rfl C _ (fun _ h => h.1) hu rfl hsz) hHeld ?_
      simp only [Act.put]
      refine wpAnyH_take (i := 1) (v := .agg C.toArray) rfl (by kernel_rfl) (by kernel_rfl) (by kernel_rfl) (fun _ _ _ h => h) (yieldsIf_load_mid (by rfl) _ _ rfl _ _ rfl C _ (fun _ h => h.1) hu rfl hsz) hHeld ?_
      simp only [Act.put]
      refine wpAnyH_take (i := 3) (v := .slice a l.length cap) rfl (by kernel_rfl) (by kernel_rfl) (by kernel_rfl) (fun _ _ _ h => h) (Or.inl ⟨by rfl, fun _ _ => rfl⟩) hHeld ?_
      simp only [Act.put]
      refine wpAnyH_ready (rs := [2]) (by kernel_rfl) (by simp) ?_
      refine AllReadyH.cons rfl (fun K hK => ?_) AllReadyH.nil
      go_simp
      go_wp2_with (go_at_call 35; refine (HS.out _).mono ?_; rintro e w8 ⟨u, rfl, hown8, b8⟩)
      have HC : Hid (C = (arr (plN l)).toList) := by show C = _; rw [HE.out]
      have ha8 : Ar B (plN l) w8 := HA.out.drew.below b8
      have hr8 : Ar w.heap.size (fun _ => 0) w8 := HR.out.drew.below b8
      have HB8 : Hid (Below w.heap.size w w8) := HBEL.out.drew.trans (b8.mono hszr)
      have HX8 : Hid (Xs w8.heap.size a l w8) := HZ.out.go HB8.out
      obtain ⟨b, c, rfl, ho8⟩ := own_xs (w := wr.drew) hown8 rfl
      have HO8 : Hid (Xs w8.heap.size b M w8) := ho8.xs
      refine hK.out _ _ ⟨range_ar ha8 _ HC.out, there_ar hr8⟩ (fun hHeld8 => ?_)
      have HA8 : Hid (Ar B (plN l) w8) := ha8
      have HR8 : Hid (Ar w.heap.size (fun _ => 0) w8) := hr8
      clear hK K ha8 hr8 hown8 ho8 b8 hHeld hra' hth'
      refine wpAnyH_ready (rs := [4]) (by kernel_rfl) (by simp) ?_
      refine AllReadyH.cons rfl (fun K hK => ?_) AllReadyH.nil
      go_simp
      go_wp2_with (go_at_call 53; refine (slicesEqual_any b a c cap M l _ (by omega) HO8.out HX8.out).mono ?_; rintro e w9 ⟨rfl, b9⟩)
      have ha9 : Ar B (plN l) w9 := HA8.out.below b9
      have hr9 : Ar w.heap.size (fun _ => 0) w9 := HR8.out.below b9
      have HB9 : Hid (Below w.heap.size w w9) := HB8.out.trans (b9.mono HB8.out.size)
      have ht9 := there_ar hr9
      refine hK.out _ _ ⟨range_ar ha9 _ HC.out, ht9⟩ (fun hHeld9 => ?_)
      have HR9 : Hid (Ar w.heap.size (fun _ => 0) w9) := hr9
      clear hK K ha9 hr9 b9 hHeld8 HA8 HR8 HX8 HO8
      refine wpAnyH_ready (rs := [5]) (by kernel_rfl) (by simp) ?_
      refine AllReadyH.cons rfl (fun K hK => ?_) AllReadyH.nil
      rw [if_pos (by rfl)]
      refine wp_store_mid _ _ _ rfl _ _ C.toArray rfl rfl (by simpa [hlen] using ht9) (by simpa using hsz) (all_oneCell_toArray hone) ?_
      simp only [Act.put]
      have hsame := World.rangeAt_setCells_same w9 w.heap.size 0 C (by rw [hlen]; exact ht9)
      refine hK.out _ _ ⟨World.rangeAt_setCells_apart hHeld9.1 _ _ _ (Or.inl (by omega)), World.there_setCells ht9 _ _ _⟩ (fun hHeld10 => ?_)
      have HB10 : Hid (Below w.heap.size w (w9.setCells w.heap.size 0 C)) := below_cells HB9.out (Nat.le_refl _) C 0
      have hld := run_loadVar_mid (P := Try.prog) (w9.setCells w.heap.size 0 C) w.heap.size 0 61 C _ hsame hu rfl hsz
      clear hK K hHeld9 hsame ht9
      refine wpAnyH_ready (rs := [6]) (by kernel_rfl) (by simp) ?_
      refine AllReadyH.cons rfl (fun K hK => ?_) AllReadyH.nil
      go_simp
      refine hK.out _ _ hHeld10 (fun hHeld11 => ?_)
      clear hK K hHeld10
      refine wpAnyH_done (by kernel_rfl) ?_ _
      clear hHeld11
      have HLD : Hid ((loadVar 61 ⟨w.heap.size, 0, none⟩).run Try.prog (w9.setCells w.heap.size 0 C) = .ok (.agg C.toArray) (w9.setCells w.heap.size 0 C)) := hld
      generalize w9.setCells w.heap.size 0 C = w10 at *
      clear hld
      go_wp2
      refine bodyPost_ret (v := .tuple #[.agg C.toArray, .bool (decide (M = l))]) ?_ rfl ⟨⟨plN l, by rw [HV.out, HE.out], fun _ => rfl⟩, HB10.out⟩
      have hld := HLD.out
      rw [results_cell_tmp rfl]
      simp [asAddr, Result.andThen, hld]
end Go.Proofs.Ytgipkpldlkmdkaa
