/- RootsOf: the program and the model. -/
import Derived.Test.YtipeillhafcliaaJKey
import Derived.Test.YtipeillhafcliaaJVal
namespace Go.Proofs.Ytipeillhafcliaa
set_option maxRecDepth 100000
open Go Go.ChangeShapes Go.WideShapes Go.ChangeAt Go.RowKit Go.Maps Go.Shelf Go.Sort
theorem perm_keys {b n : Nat} {D : DataW Unit} {l : List Int} {w : World} (hown : w.ownsMap Try.prog 3 unitElem b n D) (hh : ∀ x : Int, has D (.int .i64 x) = decide (x ∈ l)) (hnd : l.Nodup) : l.Perm (intKeys D) := by
  obtain ⟨es, hD, hpw, _⟩ := hown.entries (int_keyed Try.underlying3)
  obtain ⟨es', hD', hko⟩ := hown.keysOf
  obtain rfl : es = es' := by rw [hD] at hD'; simpa using hD'
  subst hD
  exact perm_intKeys hpw (fun p hp => by obtain ⟨v, hv⟩ := hko p hp; obtain ⟨x, _, hx, _⟩ := Maps.keyOf_i64 Try.underlying3 hv; exact ⟨x, hx⟩) hnd (fun x => by rw [hh x]; simp)
theorem merge_rising {l : List Int} (h : l.Pairwise (fun a b => a < b)) : l.mergeSort (fun x y => decide (x ≤ y)) = l := by
  have tr : ∀ a b c : Int, decide (a ≤ b) = true → decide (b ≤ c) = true → decide (a ≤ c) = true := fun a b c h1 h2 => by simp only [decide_eq_true_eq] at *; omega
  have to : ∀ a b : Int, (decide (a ≤ b) || decide (b ≤ a)) = true := fun a b => by simp only [Bool.or_eq_true, decide_eq_true_eq]; omega
  refine List.Perm.eq_of_pairwise (le := fun a b => decide (a ≤ b) = true) (fun a b _ _ h1 h2 => ?_) (List.pairwise_mergeSort tr to l) (h.imp fun {a b} hab => by simp only [decide_eq_true_eq]; omega) (List.mergeSort_perm l _)
  simp only [decide_eq_true_eq] at h1 h2
  omega
theorem rising_nodup {l : List Int} (h : l.Pairwise (fun a b => a < b)) : l.Nodup := h.imp fun {a b} hab e => by omega
set_option maxHeartbeats 1000000 in
theorem risingZ_any (b : Nat) (l : List Int) (w : World) (hl : l.length ≤ 1000) (hr : l.Pairwise (fun a b => a < b)) (hs : SetZ b l w) :
    Calls Try.prog 47 #[.map (some b)] w fun e w' => ∃ v, e = .returned v ∧ AL w.heap.size v l w' ∧ Below w.heap.size w w' := by
  have hB := boxB w (.cells #[.map (some b)] 49)
  have hs2 := hs.below hB
  obtain ⟨D, hown, hhas, hsz⟩ := hs2
  have hp := perm_keys hown hhas (rising_nodup hr)
  have HC := hid (sortedZ_any w.heap.size b _ D (w.alloc (.cells #[.map (some b)] 49)) (by simp) (box_cell (heap_last _ _) 0) hown (by omega))
  have HV : Hid (∀ ss : List Int, ss.Perm (intKeys D) → ss.mergeSort (fun x y => decide (x ≤ y)) = l ∧ ss.length = l.length) := fun ss h => by
    have h2 := h.trans hp.symm
    exact ⟨(mergeSort_of_perm_i h2).trans (merge_rising hr), h2.length_eq⟩
  have HB := hid hB
  clear hown hhas hsz hp hB hs
  go_enter Try.func47, Try.ntmps47
  go_wp2_with fail
  refine (keysZ_any b w).mono ?_
  rintro e w1 ⟨rfl, hw1⟩
  rw [hw1]
  clear hw1
  go_wp2_with fail
  refine HC.out.mono ?_
  rintro e w2 ⟨v, ss, rfl, hss, hrow, hb2⟩
  obtain ⟨e1, e2⟩ := HV.out ss hss
  have HO : Hid (AL w.heap.size v l w2) := by
    show AL _ _ _ _
    unfold AL ivals
    rw [e1, e2] at hrow
    exact rw_mono hrow (by simp)
  have HB2 : Hid (Below w.heap.size w w2) := HB.out.trans (hb2.mono (by simp))
  clear hrow hb2 e1 e2 hss
  go_wp2
  go_ret
  exact ⟨v, rfl, HO.out, HB2.out⟩
/-- the roots of a product of differences, rising -/
def rootsN (e : List Int) (n : Nat) : List Int := (nums n).filter fun x => decide (valE e x = 0)
def rootOk (e : List Int) : Bool := goodN e && decide ((rootsN e 60).length = e.length)
def rootV (e : List Int) : List Int := bif rootOk e then rootsN e 60 else []
theorem rootV_yes {e : List Int} (h : rootOk e = true) : rootV e = rootsN e 60 := by unfold rootV; rw [h]; rfl
theorem rootV_no {e : List Int} (h : rootOk e = false) : rootV e = [] := by unfold rootV; rw [h]; rfl
theorem rootOk_no {e : List Int} (h : goodN e = false) : rootOk e = false := by unfold rootOk; rw [h]; rfl
theorem rootOk_as {e : List Int} (h : goodN e = true) : rootOk e = decide ((rootsN e 60).length = e.length) := by unfold rootOk; rw [h]; rfl
theorem rootV_len (e : List Int) : (rootV e).length ≤ 4 := by
  cases h : rootOk e
  · rw [rootV_no h]; exact Nat.zero_le _
  · rw [rootV_yes h]
    unfold rootOk at h
    simp only [Bool.and_eq_true, decide_eq_true_eq] at h
    have := goodN_len h.1
    omega
theorem nums_rising (n : Nat) : (nums n).Pairwise (fun a b => a < b) := by
  unfold nums
  rw [List.pairwise_map]
  exact List.Pairwise.imp (fun {a b} h => by omega) (List.pairwise_lt_range (n := n))
theorem rootsN_rising (e : List Int) (n : Nat) : (rootsN e n).Pairwise (fun a b => a < b) := (nums_rising n).filter _
theorem rootsN_succ (e : List Int) (n : Nat) : rootsN e (n + 1) = rootsN e n ++ (if valE e ((n : Int) + 1) = 0 then [(n : Int) + 1] else []) := by
  unfold rootsN
  rw [nums_succ, List.filter_append]
  congr 1
  by_cases h : valE e ((n : Int) + 1) = 0
  · rw [if_pos h]; simp [h]
  · rw [if_neg h]; simp [h]
theorem rootsN_len (e : List Int) (n : Nat) : (rootsN e n).length ≤ n := Nat.le_trans (List.length_filter_le _ _) (by rw [nums_len]; exact Nat.le_refl _)
/-- what is left when numbers up to k have been looked at -/
def leftL (e : List Int) (k : Nat) : List Int := (nums 60).filter fun x => decide ((k : Int) < x) || decide (valE e x = 0)
theorem leftL_zero (e : List Int) : leftL e 0 = nums 60 := by
  unfold leftL
  rw [List.filter_eq_self]
  intro x hx
  have := nums_mem.1 hx
  rw [decide_eq_true (by omega)]; rfl
theorem leftL_end (e : List Int) : leftL e 60 = rootsN e 60 := by
  unfold leftL rootsN
  refine List.filter_congr fun x hx => ?_
  have := nums_mem.1 hx
  rw [decide_eq_false (by omega)]; rfl
theorem leftL_nodup (e : List Int) (k : Nat) : (leftL e k).Nodup := (nums_nodup 60).filter _
theorem leftL_mem (e : List Int) (k : Nat) (h : k < 60) : (k : Int) + 1 ∈ leftL e k := by
  unfold leftL
  rw [List.mem_filter]
  exact ⟨nums_mem.2 (by omega), by rw [decide_eq_true (by omega)]; rfl⟩
theorem leftL_keep (e : List Int) (k : Nat) (hv : valE e ((k : Int) + 1) = 0) : leftL e (k + 1) = leftL e k := by
  unfold leftL
  refine List.filter_congr fun x _ => ?_
  by_cases hx : x = (k : Int) + 1
  · subst hx; simp [hv]
  · congr 1
    exact decide_eq_decide.2 (by omega)
theorem leftL_drop (e : List Int) (k : Nat) (hv : valE e ((k : Int) + 1) ≠ 0) : leftL e (k + 1) = (leftL e k).erase ((k : Int) + 1) := by
  rw [List.Nodup.erase_eq_filter (leftL_nodup e k)]
  unfold leftL
  rw [List.filter_filter]
  refine List.filter_congr fun x _ => ?_
  by_cases hx : x = (k : Int) + 1
  · subst hx; simp [hv]
  · have h1 : (x != (k : Int) + 1) = true := bne_iff_ne.2 hx
    rw [h1, Bool.true_and]
    congr 1
    exact decide_eq_decide.2 (by omega)
theorem leftL_len (e : List Int) (k : Nat) : (leftL e k).length ≤ 60 := Nat.le_trans (List.length_filter_le _ _) (by rw [nums_len]; exact Nat.le_refl _)
set_option maxHeartbeats 4000000 in
theorem iRoot_good (a : Option Addr) (cap : Nat) (l : List Int) (w : World) (hZ : Is w.heap.size a l w) (hg : goodN l = true) :
    Calls Try.prog 20 #[.slice a l.length cap] w (JOut (rootV l) (rootOk l) w) := by
  have hn4 := goodN_len hg
  have HG := hid (goodTerms_any a cap l w (by omega) hZ)
  rw [hg] at HG
  have HGG := hid hg
  have HZ : Hid (∀ v, Below w.heap.size w v → Is v.heap.size a l v) := fun v g => (hZ.below g).mono g.size
  have HRO := hid (rootOk_as hg)
  clear hZ hg
  go_enter Try.func20, Try.ntmps20
  go_wp2_with fail
  refine HG.out.mono ?_
  rintro en w2 ⟨rfl, hw2⟩
  rw [hw2]
  clear hw2 HG
  go_wp2_with fail
  refine (allNumbers_any w).mono ?_
  rintro en w1 ⟨b, rfl, hb, hs, hB⟩
  have HS0 : Hid (SetZ b (leftL l 0) w1) := by show SetZ _ _ _; rw [leftL_zero]; exact hs
  have HB0 := hid hB
  clear hs hB
  go_wp2
  go_loopw [5] (fun i wr => ∃ k : Nat, k ≤ 60 ∧ i = .int .i64 ((k : Int) + 1) ∧ SetZ b (leftL l k) wr ∧ Below w.heap.size w wr) (fun i _ => 61 - (intOf i).toNat)
  case atStart => exact ⟨0, Nat.zero_le _, rfl, HS0.out, HB0.out⟩
  case round =>
    obtain ⟨k, hk, rfl, hset, hbel⟩ := hrel
    have HSET := hid hset
    have HBEL := hid hbel
    by_cases hlt : k < 60
    · have hd : decide ((k : Int) + 1 ≤ 60) = true := decide_eq_true (by omega)
      have HVA := hid (valueAt_any a cap l ((k : Int) + 1) wr HGG.out (by omega) (by omega) (HZ.out _ hbel))
      by_cases hv : valE l ((k : Int) + 1) = 0
      · have HK := hid (leftL_keep l k hv)
        rw [hv] at HVA
        clear hv hset hbel
        go_wp2_with fail
        refine HVA.out.mono ?_
        rintro en w3 ⟨rfl, hw3⟩
        rw [hw3]
        clear hw3 HVA
        go_wp2
        go_roundw
        case rel => exact ⟨k + 1, by omega, by go_num, by rw [HK.out]; exact HSET.out, HBEL.out⟩
        case measure => simp [intOf]; omega
      · have HK := hid (leftL_drop l k hv)
        have HDR := hid (drop_any b (leftL l k) ((k : Int) + 1) wr (by unfold fit; omega) (leftL_nodup l k) (leftL_mem l k hlt) hset)
        have hv2 : (valE l ((k : Int) + 1) != 0) = true := bne_iff_ne.2 hv
        clear hv hset hbel
        generalize valE l ((k : Int) + 1) = vv at *
        go_wp2_with fail
        refine HVA.out.mono ?_
        rintro en w3 ⟨rfl, hw3⟩
        rw [hw3]
        clear hw3 HVA
        go_wp2_with fail
        refine HDR.out.mono ?_
        rintro en w3 ⟨rfl, s3, g3⟩
        have HS3 : Hid (SetZ b (leftL l (k + 1)) w3) := by show SetZ _ _ _; rw [HK.out]; exact s3
        have HB3 : Hid (Below w.heap.size w w3) := HBEL.out.trans (below_turned g3 HBEL.out.size hb)
        clear s3 g3 HDR
        go_wp2
        go_roundw
        case rel => exact ⟨k + 1, by omega, by go_num, HS3.out, HB3.out⟩
        case measure => simp [intOf]; omega
    · obtain rfl : k = 60 := by omega
      rw [leftL_end] at HSET hset
      have HRZ := hid (risingZ_any b (rootsN l 60) wr (Nat.le_trans (rootsN_len l 60) (by decide)) (rootsN_rising l 60) hset)
      obtain ⟨D, hown, _, hsz⟩ := hset
      have hlen : ∀ ty, (Builtin.len_ #[49] ty #[.map (some b)]).run Try.prog wr = .ok (.int .i64 ((rootsN l 60).length : Int)) wr := fun ty => by rw [← hsz]; exact hown.len Try.underlying49 ty
      have hszr := hbel.size
      clear hown hsz hbel
      by_cases he : (rootsN l 60).length = l.length
      · have hd : (((rootsN l 60).length : Int) != (l.length : Int)) = false := by rw [he]; simp
        rw [decide_eq_true he] at HRO
        clear he
        go_wp2_with fail
        refine HRZ.out.mono ?_
        rintro en w3 ⟨v, rfl, o3, b3⟩
        have HO3 : Hid (AL w.heap.size v (rootsN l 60) w3) := o3.mono hszr
        have HB3 : Hid (Below w.heap.size w w3) := HBEL.out.trans (b3.mono hszr)
        clear o3 b3 HRZ
        go_wp2
        go_ret2
        rw [rootV_yes HRO.out, HRO.out]
        exact JOut.yes HO3.out HB3.out
      · have hd : (((rootsN l 60).length : Int) != (l.length : Int)) = true := bne_iff_ne.2 (by omega)
        rw [decide_eq_false he] at HRO
        clear he
        go_wp2
        go_ret2
        rw [rootV_no HRO.out, HRO.out]
        exact JOut.no HBEL.out
set_option maxHeartbeats 1000000 in
theorem iRoot_any (a : Option Addr) (cap : Nat) (l : List Int) (w : World) (hn : l.length ≤ 1048576) (hZ : Is w.heap.size a l w) :
    Calls Try.prog 20 #[.slice a l.length cap] w (JOut (rootV l) (rootOk l) w) := by
  cases hg : goodN l
  · rw [rootV_no (rootOk_no hg), rootOk_no hg]
    have HG := hid (goodTerms_any a cap l w hn hZ)
    rw [hg] at HG
    go_enter Try.func20, Try.ntmps20
    go_wp2_with fail
    refine HG.out.mono ?_
    rintro en w2 ⟨rfl, hw2⟩
    rw [hw2]
    clear hw2
    go_wp2
    go_ret2
    exact JOut.no (Below.refl _ _)
  · exact iRoot_good a cap l w hZ hg
set_option maxHeartbeats 4000000 in
theorem sRoot_good (a : Option Addr) (cap : Nat) (l : List Int) (w : World) (hZ : Is w.heap.size a l w) (hg : goodN l = true) :
    Calls Try.prog 26 #[.slice a l.length cap] w (JOut (rootV l) (rootOk l) w) := by
  have hn4 := goodN_len hg
  have HG := hid (l12Numbers_any a cap l w (by omega) hZ)
  rw [hg] at HG
  have HGG := hid hg
  have HZ : Hid (∀ v, Below w.heap.size w v → Is v.heap.size a l v) := fun v g => (hZ.below g).mono g.size
  have HRO := hid (rootOk_as hg)
  clear hZ hg
  go_enter Try.func26, Try.ntmps26
  go_wp2_with fail
  refine HG.out.mono ?_
  rintro en w2 ⟨rfl, hw2⟩
  rw [hw2]
  clear hw2 HG
  go_wp2
  go_loopw [4, 5] (fun o i wr => ∃ (k : Nat) (o1 : Value), k ≤ 60 ∧ i = .int .i64 ((k : Int) + 1) ∧ o = o1 ∧ AL w.heap.size o1 (rootsN l k) wr ∧ Below w.heap.size w wr) (fun _ i _ => 61 - (intOf i).toNat)
  case atStart => exact ⟨0, _, Nat.zero_le _, rfl, rfl, AL.nil _ _, Below.refl _ _⟩
  case round =>
    obtain ⟨k, _, hk, rfl, rfl, hown, hbel⟩ := hrel
    have HOWN := hid hown
    have HBEL := hid hbel
    have hszr := hbel.size
    by_cases hlt : k < 60
    · have hd : decide ((k : Int) + 1 ≤ 60) = true := decide_eq_true (by omega)
      have HVA := hid (l12Value_any a cap l ((k : Int) + 1) wr HGG.out (by omega) (by omega) (HZ.out _ hbel))
      have HSU := hid (rootsN_succ l k)
      by_cases hv : valE l ((k : Int) + 1) = 0
      · rw [if_pos hv] at HSU
        rw [hv] at HVA
        obtain ⟨v', w', r1, o1, g1, -⟩ := hown.push hszr ((k : Int) + 1) (by have := rootsN_len l k; omega)
        rw [← HSU.out] at o1
        have HO := hid o1
        have HB' : Hid (Below w.heap.size w w') := hbel.trans g1
        clear o1 g1 hown hbel hv
        go_wp2_with fail
        refine HVA.out.mono ?_
        rintro en w3 ⟨rfl, hw3⟩
        rw [hw3]
        clear hw3 HVA
        go_wp2_with (at_builtin; refine wpList_append_run rfl (.tmp 17) (.tmp 19) 23 rfl _ _ rfl rfl _ _ r1 ?_)
        go_roundw
        case rel => exact ⟨k + 1, _, by omega, by go_num, rfl, HO.out, HB'.out⟩
        case measure => simp [intOf]; omega
      · rw [if_neg hv, List.append_nil] at HSU
        have hv2 : (valE l ((k : Int) + 1) == 0) = false := by simpa using hv
        clear hv hown hbel
        generalize valE l ((k : Int) + 1) = vv at *
        go_wp2_with fail
        refine HVA.out.mono ?_
        rintro en w3 ⟨rfl, hw3⟩
        rw [hw3]
        clear hw3 HVA
        go_wp2
        go_roundw
        case rel => exact ⟨k + 1, _, by omega, by go_num, rfl, by rw [HSU.out]; exact HOWN.out, HBEL.out⟩
        case measure => simp [intOf]; omega
    · obtain rfl : k = 60 := by omega
      obtain ⟨pb, cb, e5, _, _⟩ := hown.own
      subst e5
      clear hown hbel
      by_cases he : (rootsN l 60).length = l.length
      · have hd : (((rootsN l 60).length : Int) != (l.length : Int)) = false := by rw [he]; simp
        rw [decide_eq_true he] at HRO
        clear he
        go_wp2
        go_ret2
        rw [rootV_yes HRO.out, HRO.out]
        exact JOut.yes HOWN.out HBEL.out
      · have hd : (((rootsN l 60).length : Int) != (l.length : Int)) = true := bne_iff_ne.2 (by omega)
        rw [decide_eq_false he] at HRO
        clear he
        go_wp2
        go_ret2
        rw [rootV_no HRO.out, HRO.out]
        exact JOut.no HBEL.out
set_option maxHeartbeats 1000000 in
theorem sRoot_any (a : Option Addr) (cap : Nat) (l : List Int) (w : World) (hn : l.length ≤ 1048576) (hZ : Is w.heap.size a l w) :
    Calls Try.prog 26 #[.slice a l.length cap] w (JOut (rootV l) (rootOk l) w) := by
  cases hg : goodN l
  · rw [rootV_no (rootOk_no hg), rootOk_no hg]
    have HG := hid (l12Numbers_any a cap l w hn hZ)
    rw [hg] at HG
    go_enter Try.func26, Try.ntmps26
    go_wp2_with fail
    refine HG.out.mono ?_
    rintro en w2 ⟨rfl, hw2⟩
    rw [hw2]
    clear hw2
    go_wp2
    go_ret2
    exact JOut.no (Below.refl _ _)
  · exact sRoot_good a cap l w hZ hg
end Go.Proofs.Ytipeillhafcliaa
