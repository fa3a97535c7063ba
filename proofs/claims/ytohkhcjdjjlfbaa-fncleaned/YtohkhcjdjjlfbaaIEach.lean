/- Walk of the program's eachLiveOnce. -/
import Derived.Test.YtohkhcjdjjlfbaaIGs
namespace Go.Proofs.Ytohkhcjdjjlfbaa
set_option maxRecDepth 100000
open Go.ChangeShapes Go.WideShapes Go.ChangeAt Go.RowKit G00541
def writN (P : List (Int × Bool)) (b : Nat) : Nat := P.countP fun p => p.1 == (b : Int)
def writL (P : List (Int × Bool)) : List Int := tab fun b => (writN P b : Int)
theorem writL_len (P : List (Int × Bool)) : (writL P).length = 16 := tab_len _
theorem writL_at (P : List (Int × Bool)) (b : Nat) (h : b < (writL P).length) : (writL P)[b] = (writN P b : Int) := tab_at _ b h
theorem writL_nil : writL [] = List.replicate 16 0 := by decide
theorem writN_le (P : List (Int × Bool)) (b : Nat) : writN P b ≤ P.length := List.countP_le_length
theorem writL_snoc (P : List (Int × Bool)) (b : Nat) (t : Bool) (hb : b < (writL P).length) : writL (P ++ [((b : Int), t)]) = (writL P).set b ((writL P)[b] + 1) := by
  apply List.ext_getElem
  · rw [List.length_set, writL_len, writL_len]
  · intro i h1 h2
    rw [writL_at, List.getElem_set]
    unfold writN
    rw [List.countP_append]
    split
    · rename_i e; subst e
      rw [writL_at]
      simp [writN]
    · rename_i e
      rw [writL_at]
      have : (((b : Int) == (i : Int))) = false := beq_eq_false_iff_ne.2 (by omega)
      simp [writN, this]
theorem live_le_writ (P : List (Int × Bool)) (b : Nat) : liveN P b ≤ writN P b := by
  unfold liveN writN
  refine List.countP_mono_left fun p _ h => ?_
  simp only [Bool.and_eq_true] at h
  exact h.1
theorem everB_writ (P : List (Int × Bool)) (b : Nat) : everB P b = decide (0 < writN P b) := by
  unfold everB writN
  rw [Bool.eq_iff_iff, decide_eq_true_iff, List.any_eq_true, List.countP_pos_iff]
theorem okB_one (P : List (Int × Bool)) (b : Nat) : okB P b = decide (0 < writN P b → liveN P b = 1) := by
  have h1 := live_le_writ P b
  unfold okB
  rw [everB_writ, Bool.eq_iff_iff, decide_eq_true_iff, decide_eq_true_iff, decide_eq_true_iff]
  omega
theorem IRow.madeT (w : World) (n : Nat) (t : TypeId) : IRow w.heap.size (List.replicate n 0) (w.alloc (.cells (madeCells (Value.int .i64 0).cells n) t)) := by
  have := GRow.made w t n #[.int .i64 0]
  unfold IRow
  rw [List.map_replicate]
  have e : (#[Value.int .i64 0] : Array Value).size = 1 := rfl
  rw [e, Nat.mul_one] at this
  exact this
/-- what eachLiveOnce keeps -/
structure GE (w : World) (o : Obj) (P : List (Int × Bool)) (wr : World) : Prop where
  below : Below w.heap.size w wr
  box : wr.heap[w.heap.size]? = some o
  writ : IRow (w.heap.size + 1) (writL P) wr
  live : IRow (w.heap.size + 1 + 1) (liveL P) wr
theorem GE.size {w : World} {o : Obj} {P : List (Int × Bool)} {wr : World} (h : GE w o P wr) : w.heap.size + 3 ≤ wr.heap.size := by have := h.live.lt; omega
theorem GE.on {w : World} {o : Obj} {P : List (Int × Bool)} {wr w' : World} (h : GE w o P wr) (g : Below wr.heap.size wr w') : GE w o P w' := by
  have := h.size
  exact ⟨h.below.trans (g.mono (by omega)), (g.block _ (by omega)).trans h.box, h.writ.below g, h.live.below g⟩
/-- the next block, not live -/
theorem GE.no {w : World} {o : Obj} {P : List (Int × Bool)} {wr : World} (h : GE w o P wr) (b : Nat) (hb : b < (writL P).length) : GE w o (P ++ [((b : Int), false)]) (wr.setCell ⟨w.heap.size + 1, b, none⟩ (.int .i64 ((writL P)[b] + 1))) := by
  refine ⟨setB h.below _ _ (by omega) _, (keepB _ _ _ _ _ (by omega)).trans h.box, ?_, ?_⟩
  · rw [writL_snoc P b false hb]; exact h.writ.set b hb _
  · rw [liveL_no]; exact h.live.same (by simp [World.setCell]) (keepB _ _ _ _ _ (by omega))
/-- the next block, live -/
theorem GE.yes {w : World} {o : Obj} {P : List (Int × Bool)} {wr : World} (h : GE w o P wr) (b : Nat) (hb : b < (writL P).length) (hc : b < (liveL P).length) : GE w o (P ++ [((b : Int), true)]) ((wr.setCell ⟨w.heap.size + 1, b, none⟩ (.int .i64 ((writL P)[b]'hb + 1))).setCell ⟨w.heap.size + 1 + 1, b, none⟩ (.int .i64 ((liveL P)[b]'hc + 1))) := by
  refine ⟨setB (setB h.below _ _ (by omega) _) _ _ (by omega) _, (keepB _ _ _ _ _ (by omega)).trans ((keepB _ _ _ _ _ (by omega)).trans h.box), ?_, ?_⟩
  · rw [writL_snoc P b true hb]
    exact (h.writ.set b hb _).same (by simp [World.setCell]) (keepB _ _ _ _ _ (by omega))
  · rw [liveL_yes P b hc]
    refine IRow.set (h.live.same (by simp [World.setCell]) (keepB _ _ _ _ _ (by omega))) b hc _
set_option maxHeartbeats 4000000 in
theorem eachLiveOnce_any (aS aL : Option Addr) (kS kL : Nat) (S : List Sg) (L : List (List Bool)) (w : World) (hn : 2 ≤ S.length ∧ S.length ≤ 8) (hl : L.length = S.length) (hg : ∀ k (h : k < S.length), goodS S[k] (L[k]'(by omega)) = true) (hG : Gs w.heap.size aS S w) (hV : Vs w.heap.size aL L w) :
    Calls Try.prog 42 #[.agg #[.slice aS S.length kS, .slice aL L.length kL]] w fun e w' => e = .returned (.bool (goodH S L)) ∧ Below w.heap.size w w' := by
  have HG := hid hG
  have HV := hid hV
  have HGD := hid hg
  clear hG hV
  rw [hl]
  have HL := hid hl
  have HR : Hid (∀ M1 M2 t1 t2, M1 = madeCells (Value.int .i64 0).cells 16 → M2 = madeCells (Value.int .i64 0).cells 16 → GE w (.cells #[.slice aS S.length kS, .slice aL S.length kL] 26) [] (((w.alloc (.cells #[.slice aS S.length kS, .slice aL S.length kL] 26)).alloc (.cells M1 t1)).alloc (.cells M2 t2))) := by
    rintro _ _ t1 t2 rfl rfl
    refine ⟨(((Below.refl _ _).alloc (Nat.le_refl _) _).alloc (by simp) _).alloc (by simp; omega) _, ?_, ?_, ?_⟩
    · rw [Below.heap_alloc _ _ _ (by simp; omega), Below.heap_alloc _ _ _ (by simp)]
      exact heap_last _ _
    · rw [writL_nil]
      have := IRow.madeT (w.alloc (.cells #[.slice aS S.length kS, .slice aL S.length kL] 26)) 16 t1
      rw [heap_size] at this
      exact this.below ((Below.refl _ _).alloc (Nat.le_refl _) _)
    · rw [liveL_nil]
      have := IRow.madeT ((w.alloc (.cells #[.slice aS S.length kS, .slice aL S.length kL] 26)).alloc (.cells (madeCells (Value.int .i64 0).cells 16) t1)) 16 t2
      rw [heap_size, heap_size] at this
      exact this
  go_enter Try.func42, Try.ntmps42
  go_wp2_with fail
  go_loopw [13] (fun i wr => ∃ k : Nat, k ≤ S.length ∧ i = .int .i64 k ∧ (allP (S.take k) (L.take k)).length ≤ 6 * k ∧ GE w (.cells #[.slice aS S.length kS, .slice aL S.length kL] 26) (allP (S.take k) (L.take k)) wr) (fun i _ => S.length - (intOf i).toNat)
  case atStart => exact ⟨0, Nat.zero_le _, rfl, by simp [allP], HR.out _ _ _ _ (by kernel_rfl) (by kernel_rfl)⟩
  case round =>
    clear HR
    obtain ⟨k, hk, rfl, hmany, hgh⟩ := hrel
    have HGH := hid hgh
    by_cases hlt : k < S.length
    · obtain ⟨b, off, rfl, hb, hcl⟩ := HG.out (by omega)
      obtain ⟨p, c, c0, c1, hI⟩ := hcl k hlt
      have hbel := hgh.below
      rw [← hbel.cell (p := ⟨b, off + k * 2, none⟩) hb] at c0
      rw [← hbel.cell (p := ⟨b, off + k * 2 + 1, none⟩) hb] at c1
      obtain ⟨b', off', rfl, hb', hcv⟩ := HV.out (by omega)
      obtain ⟨p', c', c2, hJ⟩ := hcv k (by omega)
      have HV0 := hid c2
      clear hcl hcv
      have hx0 := box_cell hgh.box 0
      have hx1 := box_cell hgh.box 1
      have hsz := hgh.size
      have HI := hid hI
      have HJ := hid hJ
      have HST : Hid (allP (S.take (k + 1)) (L.take (k + 1)) = allP (S.take k) (L.take k) ++ prs S[k] (L[k]'(by omega))) := allP_take S L k hlt (by omega)
      have HGS := hid (HGD.out k hlt)
      clear hgh hI hJ hbel c2
      generalize L[k]'(by omega) = v at *
      generalize S[k] = s at *
      obtain ⟨l, age⟩ := s
      simp only at c0 c1
      obtain ⟨q1, HAT, q2, q3, q4⟩ := (goodS_iff _ _).1 HGS.out
      simp only at q1 q2 q3 q4
      have HATn : Hid (∀ n (h : n < l.length), 0 ≤ l[n] ∧ l[n] ≤ 15) := fun n h => HAT _ (List.getElem_mem h)
      have HPL := hid (prs_len ⟨l, age⟩ v q4)
      have HPT := hid (fun i (h : i < l.length) => prs_take ⟨l, age⟩ v i h (by omega))
      clear HAT q2 q3
      rw [q4] at HV0
      go_wp2_with fail
      have HGW : Hid (GE w (.cells #[.slice (some ⟨b, off, none⟩) S.length kS, .slice (some ⟨b', off', none⟩) S.length kL] 26) (allP (S.take k) (L.take k)) (wr.alloc (.cells #[.slice p l.length c, .int .i64 age] 40))) := HGH.out.on ((Below.refl _ _).alloc (Nat.le_refl _) _)
      generalize hW : wr.alloc (.cells #[.slice p l.length c, .int .i64 age] 40) = W at *
      clear c0 c1 hx0 hx1 HGH hW
      generalize allP (S.take k) (L.take k) = P0 at *
      go_loopw [21] (fun i wr => ∃ n : Nat, n ≤ l.length ∧ i = .int .i64 n ∧ GE w (.cells #[.slice (some ⟨b, off, none⟩) S.length kS, .slice (some ⟨b', off', none⟩) S.length kL] 26) (P0 ++ (prs ⟨l, age⟩ v).take n) wr) (fun i _ => l.length - (intOf i).toNat)
      case atStart => exact ⟨0, Nat.zero_le _, rfl, by rw [List.take_zero, List.append_nil]; exact HGW.out⟩
      case round =>
        obtain ⟨n, hnl, rfl, hgi⟩ := hrel
        clear HGW
        have HGI := hid hgi
        by_cases hi : n < l.length
        · obtain ⟨bp, op, rfl, hbp, hcp⟩ := HI.out.cell (by omega)
          obtain ⟨bq, oq, rfl, hbq, hcq⟩ := HJ.out.cell (by omega)
          have x0 := (hgi.below.cell (p := ⟨bp, op + n, none⟩) hbp).trans (hcp n hi)
          have X1 := hid (hcq n (by omega))
          obtain ⟨g0, g1⟩ := HATn.out n hi
          have HPTn := hid (HPT.out n hi)
          have HTL : Hid (((prs ⟨l, age⟩ v).take n).length ≤ 6) := by
            show ((prs ⟨l, age⟩ v).take n).length ≤ 6
            rw [List.length_take]; omega
          clear hcp hcq
          generalize l[n] = x at *
          generalize v[n]'(by omega) = t at *
          generalize (prs ⟨l, age⟩ v).take n = T at *
          obtain ⟨m, rfl⟩ : ∃ m : Nat, x = m := ⟨x.toNat, by omega⟩
          have hm : m < 16 := by omega
          have e0 := hgi.writ.cell m (by rw [writL_len]; exact hm)
          have f0 := hgi.writ.free m (by rw [writL_len]; exact hm)
          have hlv := hgi.live.cell m (by rw [liveL_len]; exact hm)
          have hlf := hgi.live.free m (by rw [liveL_len]; exact hm)
          have hno := hgi.no m (by rw [writL_len]; exact hm)
          have hyes := hgi.yes m (by rw [writL_len]; exact hm) (by rw [liveL_len]; exact hm)
          rw [writL_at] at hno hyes e0
          rw [liveL_at] at hyes hlv
          have HNO := hid hno
          have HYES := hid hyes
          clear hno hyes
          have hq1 : liveN (P0 ++ T) m ≤ 54 := by
            refine Nat.le_trans (liveN_le _ _) ?_
            have := HTL.out
            rw [List.length_append]; omega
          have hq2 : writN (P0 ++ T) m ≤ 54 := by
            refine Nat.le_trans (writN_le _ _) ?_
            have := HTL.out
            rw [List.length_append]; omega
          have HW3 : Hid (Below w.heap.size w (wr.setCell ⟨w.heap.size + 1, m, none⟩ (.int .i64 ((writN (P0 ++ T) m : Int) + 1)))) := setB hgi.below _ _ (by omega) _
          have k0 : (wr.setCell ⟨w.heap.size + 1, m, none⟩ (.int .i64 ((writN (P0 ++ T) m : Int) + 1))).cell? ⟨w.heap.size + 1 + 1, m, none⟩ = some (.int .i64 (liveN (P0 ++ T) m : Int)) := by
            rw [World.cell?_setCell_other _ _ _ _ (fun e3 => by have h3 : w.heap.size + 1 = w.heap.size + 1 + 1 := congrArg Addr.block e3; omega)]
            exact hlv
          have k1 : (wr.setCell ⟨w.heap.size + 1, m, none⟩ (.int .i64 ((writN (P0 ++ T) m : Int) + 1))).frozen? ⟨w.heap.size + 1 + 1, m, none⟩ = false := by rw [World.frozen?_setCell]; exact hlf
          have k2 : (wr.setCell ⟨w.heap.size + 1, m, none⟩ (.int .i64 ((writN (P0 ++ T) m : Int) + 1))).cell? ⟨w.heap.size, 1, none⟩ = some (.slice (some ⟨b', off', none⟩) S.length kL) := by
            rw [World.cell?_setCell_other _ _ _ _ (fun e3 => by have h3 : w.heap.size + 1 = w.heap.size := congrArg Addr.block e3; omega)]
            exact box_cell hgi.box 1
          have k3 : (wr.setCell ⟨w.heap.size + 1, m, none⟩ (.int .i64 ((writN (P0 ++ T) m : Int) + 1))).cell? ⟨b', off' + k, none⟩ = some (.slice (some ⟨bq, oq, none⟩) l.length c') := (HW3.out.cell (p := ⟨b', off' + k, none⟩) hb').trans HV0.out
          have k4 : (wr.setCell ⟨w.heap.size + 1, m, none⟩ (.int .i64 ((writN (P0 ++ T) m : Int) + 1))).cell? ⟨bq, oq + n, none⟩ = some (.bool t) := (HW3.out.cell (p := ⟨bq, oq + n, none⟩) hbq).trans X1.out
          generalize liveN (P0 ++ T) m = q at *
          generalize writN (P0 ++ T) m = q' at *
          have hadd : ((q' : Int) + 1) = ((q' + 1 : Nat) : Int) := by omega
          generalize hW3 : wr.setCell ⟨w.heap.size + 1, m, none⟩ (.int .i64 ((q' : Int) + 1)) = W3 at *
          clear hgi hlv hlf HW3 hadd
          cases t
          · go_wp2_with fail
            go_roundw
            case rel => exact ⟨n + 1, by omega, by go_num, by rw [HPTn.out, ← List.append_assoc]; exact HNO.out⟩
            case measure => simp [intOf]; omega
          · go_wp2_with fail
            go_roundw
            case rel => exact ⟨n + 1, by omega, by go_num, by rw [HPTn.out, ← List.append_assoc]; exact HYES.out⟩
            case measure => simp [intOf]; omega
        · obtain rfl : n = l.length := by omega
          have HTK : Hid ((prs ⟨l, age⟩ v).take l.length = prs ⟨l, age⟩ v) := by
            show (prs ⟨l, age⟩ v).take l.length = prs ⟨l, age⟩ v
            exact List.take_of_length_le (Nat.le_of_eq HPL.out)
          clear hgi
          go_wp2_with fail
          go_roundw
          case rel => exact ⟨k + 1, by omega, by go_num, by rw [HST.out, List.length_append, HPL.out]; omega, by rw [HST.out]; rw [HTK.out] at HGI; exact HGI.out⟩
          case measure => simp [intOf]; omega
    · obtain rfl : k = S.length := by omega
      have hgh' := hgh
      rw [List.take_of_length_le (Nat.le_refl _), List.take_of_length_le (Nat.le_of_eq hl)] at hgh'
      have HG2 := hid hgh'
      have HPM : Hid ((allP S L).length ≤ 48) := by
        rw [List.take_of_length_le (Nat.le_refl _), List.take_of_length_le (Nat.le_of_eq hl)] at hmany
        show (allP S L).length ≤ 48
        omega
      clear hgh hgh' HGH hmany HG HV
      go_wp2_with fail
      go_loopw [46] (fun i wr => ∃ n : Nat, n ≤ 16 ∧ i = .int .i64 n ∧ (∀ j, j < n → okB (allP S L) j = true) ∧ GE w (.cells #[.slice aS S.length kS, .slice aL S.length kL] 26) (allP S L) wr) (fun i _ => 16 - (intOf i).toNat)
      case atStart => exact ⟨0, Nat.zero_le _, rfl, (fun _ h => absurd h (Nat.not_lt_zero _)), HG2.out⟩
      case round =>
        clear HG2
        obtain ⟨n, hn16, rfl, hok, hgi⟩ := hrel
        have HOK := hid hok
        have HGI := hid hgi
        clear hok
        by_cases hi : n < 16
        · have e0 := hgi.writ.cell n (by rw [writL_len]; exact hi)
          have l0 := hgi.live.cell n (by rw [liveL_len]; exact hi)
          rw [writL_at] at e0
          rw [liveL_at] at l0
          have HBAD : Hid (okB (allP S L) n = false → goodH S L = false) := goodH_block S L hl n hi
          have HNX : Hid (okB (allP S L) n = true → ∀ j, j < n + 1 → okB (allP S L) j = true) := fun h j hj => by
            by_cases e : j = n
            · subst e; exact h
            · exact HOK.out j (by omega)
          have HOKD := hid (okB_one (allP S L) n)
          have hq1 : liveN (allP S L) n ≤ 48 := Nat.le_trans (liveN_le _ _) HPM.out
          have hq2 : writN (allP S L) n ≤ 48 := Nat.le_trans (writN_le _ _) HPM.out
          clear hgi HOK
          generalize liveN (allP S L) n = q at *
          generalize writN (allP S L) n = q' at *
          by_cases q1 : 0 < q'
          · have hd1 : decide ((0 : Int) < (q' : Int)) = true := decide_eq_true (by omega)
            have hd1n : decide (0 < q') = true := decide_eq_true (by omega)
            by_cases q0 : q = 1
            · subst q0
              have HN1 := hid (HNX.out (by rw [HOKD.out]; exact decide_eq_true (fun _ => rfl)))
              clear HNX HBAD HOKD
              go_wp2_with fail
              go_roundw
              case rel => exact ⟨n + 1, by omega, by go_num, HN1.out, HGI.out⟩
              case measure => simp [intOf]; omega
            · have hd0 : ((q : Int) == 1) = false := beq_eq_false_iff_ne.2 (by omega)
              have hd2 : ((q : Int) != 1) = true := bne_iff_ne.2 (by omega)
              have HF := hid (HBAD.out (by rw [HOKD.out]; exact decide_eq_false (fun h => q0 (h q1))))
              clear HNX HBAD HOKD
              go_wp2_with fail
              go_ret
              exact ⟨ret_b2 HF.out.symm, HGI.out.below⟩
          · have hd1 : decide ((0 : Int) < (q' : Int)) = false := decide_eq_false (by omega)
            have hd1n : decide (0 < q') = false := decide_eq_false (by omega)
            have HN1 := hid (HNX.out (by rw [HOKD.out]; exact decide_eq_true (fun h => absurd h q1)))
            clear HNX HBAD HOKD
            go_wp2_with fail
            go_roundw
            case rel => exact ⟨n + 1, by omega, by go_num, HN1.out, HGI.out⟩
            case measure => simp [intOf]; omega
        · have HT : Hid (goodH S L = true) := (goodH_iff S L hl).2 ⟨hn, HGD.out, fun b hb => HOK.out b (by omega)⟩
          clear hgi
          go_wp2_with fail
          go_ret
          exact ⟨ret_b2 HT.out.symm, HGI.out.below⟩
end Go.Proofs.Ytohkhcjdjjlfbaa
