/- Texts copied and turned around; packets that say more; Decode, of both sides. -/
import Derived.Test.YtnjeeeccfhpolaaPQr
import Derived.Test.YtnjeeeccfhpolaaPSr
import Derived.Test.YtnjeeeccfhpolaaPSp
import Derived.Test.YtnjeeeccfhpolaaPRn
import Derived.Test.YtnjeeeccfhpolaaPJn
import Derived.Test.YtnjeeeccfhpolaaAShS
namespace Go.Proofs.Ytnjeeeccfhpolaa
set_option maxRecDepth 100000
open Go Go.ChangeShapes Go.WideShapes Go.ChangeAt Go.RowKit
theorem app_nil (D : ByteArray) : D ++ (⟨#[]⟩ : ByteArray) = D := by
  rw [← ba_app]; simp
set_option maxHeartbeats 2000000 in
theorem copyTexts_gl (a : Option Addr) (cap : Nat) (l : List ByteArray) (w : World) (hn : l.length ≤ 9999) (hz : ∀ x ∈ l, x.size ≤ 1048576) (hL : Ss w.heap.size a l w) :
    Calls Try.prog 60 #[.slice a l.length cap] w fun e w' => ∃ v, e = .returned v ∧ GL KS w.heap.size v l w' ∧ Below w.heap.size w w' := by
  have HL := hid hL
  have HZ := hid hz
  clear hL hz
  go_enter Try.func60, Try.ntmps60
  go_wp2_with fail
  go_loopw [3, 8] (fun o i wr => ∃ (k : Nat) (o1 : Value), k ≤ l.length ∧ i = .int .i64 k ∧ o = o1 ∧ GL KS w.heap.size o1 (l.take k) wr ∧ Below w.heap.size w wr) (fun _ i _ => l.length - (ivl i).toNat)
  case atStart => exact ⟨0, _, Nat.zero_le _, rfl, rfl, GL.nil _ _ _, Below.refl _ _⟩
  case round =>
    obtain ⟨k, _, hk, rfl, rfl, hown, hbel⟩ := hrel
    have HOWN := hid hown
    have HBEL := hid hbel
    have hszr := hbel.size
    clear hown hbel
    by_cases hlt : k < l.length
    · obtain ⟨b, off, rfl, hb, hcells⟩ := HL.out.cell (by omega)
      have c0 := (HBEL.out.cell (p := ⟨b, off + k, none⟩) hb).trans (hcells k hlt)
      have HTK := hid (take_snoc l k hlt)
      have HJ : Hid (∀ v, Calls Try.prog 76 #[.string l[k], .string ⟨#[]⟩] v fun e w' => e = .returned (.string l[k]) ∧ Below v.heap.size v w') := fun v => by
        have := join_any l[k] ⟨#[]⟩ v (HZ.out _ (List.getElem_mem hlt)) (by decide)
        rw [app_nil] at this
        exact this
      clear hcells
      generalize l[k] = D at *
      go_wp2_with fail
      refine (HJ.out _).mono ?_
      rintro e w9 ⟨rfl, b9⟩
      have HB9 : Hid (Below w.heap.size w w9) := HBEL.out.trans (b9.mono hszr)
      obtain ⟨v', w', r1, o1, g1, -⟩ := (HOWN.out.below b9).pushS HB9.out.size D (by rw [List.length_take]; omega)
      have HO : Hid (GL KS w.heap.size v' (l.take (k + 1)) w') := by
        show GL _ _ _ _ _
        rw [HTK.out]
        exact o1
      have HB' : Hid (Below w.heap.size w w') := HB9.out.trans g1
      clear b9 o1 g1 HJ
      go_wp2_with (at_builtin; refine wpList_append_run rfl (.tmp 12) (.tmp 15) 22 rfl _ _ rfl rfl _ _ r1 ?_)
      go_roundw
      case rel => exact ⟨k + 1, _, by omega, by go_num, rfl, HO.out, HB'.out⟩
      case measure => simp [ivl]; omega
    · obtain rfl : k = l.length := by omega
      rw [List.take_length] at HOWN
      go_wp2
      go_ret
      exact ⟨u3, rfl, HOWN.out, HBEL.out⟩
/-- an append in a region that draws, whose run is known -/
theorem gvalsS (l : List ByteArray) : gvals KS l = (l.map (fun D : ByteArray => D.data.toList)).map encStr := by
  unfold gvals
  induction l with
  | nil => rfl
  | cons x l ih => rw [List.map_cons, List.flatten_cons, ih]; rfl
/-- a list of one's own turned around in place -/
theorem revS_gl (lo : Nat) (v : Value) (l : List ByteArray) (w : World) (h : GL KS lo v l w) (hn : l.length ≤ 1048576) :
    Calls Try.prog 61 #[v] w fun e w' => e = .returned (.tuple #[]) ∧ GL KS lo v l.reverse w' ∧ w.grownBy w' v.ownBlock := by
  have h9 : w.ownsRow lo 9 1 v l.length (gvals KS l) := h
  by_cases h0 : 0 < l.length
  · obtain ⟨hl, ⟨_, e⟩ | ⟨R, c, cur, rfl, h1, hg, h2, h3, h4, h5⟩⟩ := h9
    · omega
    have hH : Go.Sort.Holds encStr w R 0 (l.map (fun D : ByteArray => D.data.toList)).toArray := Go.holds_of_block hg (by rw [List.length_map, ← gvalsS]; rw [Nat.mul_one] at h5; exact h5)
    have hc := revS_row R 0 c (l.map (fun D : ByteArray => D.data.toList)) w hH (by rw [List.length_map]; omega)
    rw [List.length_map] at hc
    refine hc.mono ?_
    rintro e w' ⟨he, q, hw⟩
    rw [← Go.Sort.grow_empty (Go.Sort.putRow _ _ _ _ _)] at hw
    subst hw
    refine ⟨he, ?_, Go.grownBy_sorted _⟩
    have hr : ((l.map (fun D : ByteArray => D.data.toList)).reverse).length = (l.map (fun D : ByteArray => D.data.toList)).length := List.length_reverse
    have := Go.ownsRow_sorted (n := q) (os := #[]) (ss := l.map (fun D : ByteArray => D.data.toList)) (ts := (l.map (fun D : ByteArray => D.data.toList)).reverse) hr h1 hg (by rw [List.length_map]; exact h2) h3 h4
    unfold GL
    rw [List.length_reverse, gvalsS, List.map_reverse]
    rw [List.length_map] at this
    exact this
  · obtain rfl : l = [] := List.eq_nil_of_length_eq_zero (by omega)
    obtain ⟨a, c, e⟩ := rw_form h9
    subst e
    refine (revS_none a c w).mono ?_
    rintro e w' ⟨he, hw⟩
    rw [hw]
    exact ⟨he, h, ⟨rfl, rfl, rfl, Nat.le_refl _, fun _ _ _ => rfl⟩⟩
/-- a packet's text is not all noughts -/
def moreP (x : Pk) : Bool := !(x.tx.toList == (zeroT x.tx.size).toList)
set_option maxHeartbeats 1000000 in
theorem saysMore_any (x : Pk) (w : World) (hx : x.tx.size ≤ 1048576) :
    Calls Try.prog 59 #[.agg #[.int .i64 x.ms, .string x.tx]] w fun e w' => e = .returned (.bool (moreP x)) ∧ Below w.heap.size w w' := by
  unfold moreP
  have HN := hid (fun v => noughts_any x.tx.size v hx)
  generalize x.ms = xm at *
  generalize x.tx = xt at *
  generalize zeroT xt.size = zt at *
  have gA := boxB w (.cells #[.int .i64 xm, .string xt] 28)
  have kA := heap_last w (.cells #[.int .i64 xm, .string xt] 28)
  generalize hW : w.alloc (.cells #[.int .i64 xm, .string xt] 28) = w1 at *
  have BD : Below w1.heap.size w1 w1.drew := (Below.refl _ _).drew
  have HS : Hid (∀ v, Below w1.heap.size w1 v → v.cell? ⟨w.heap.size, 1, none⟩ = some (.string xt)) := fun v g => box_cell ((g.block _ (kbox kA)).trans kA) 1
  have HG := hid gA
  clear gA kA
  go_enter Try.func59, Try.ntmps59
  go_wp2_with fail
  have d0 := HS.out _ BD
  go_region_held (fun v => v.cell? ⟨w.heap.size, 1, none⟩ = some (.string xt)) (first | exact HS.out _ (by with_reducible assumption)) (first | (go_at_call 41; refine (HN.out _).mono ?_; rintro e w9 ⟨rfl, b9⟩; have B9 : Below w1.heap.size w1 w9 := BD.trans (b9.mono BD.size)))
  all_goals
    go_wp2_with fail
    go_ret
    exact ⟨rfl, HG.out.trans (B9.mono HG.out.size)⟩
theorem ix_any {α : Type} (p : α → Bool) (L : List α) : decide (0 ≤ ixG p L) = L.any p := by
  by_cases h : L.findIdx p < L.length
  · unfold ixG
    rw [if_pos h, decide_eq_true (by omega)]
    exact (List.any_eq_true.2 ⟨_, List.getElem_mem h, List.findIdx_getElem (p := p)⟩).symm
  · unfold ixG
    rw [if_neg h, decide_eq_false (by omega)]
    have e := List.findIdx_eq_length.1 (Nat.le_antisymm List.findIdx_le_length (Nat.le_of_not_lt h))
    exact (List.any_eq_false.2 (fun x hx => by simpa using e x hx)).symm
set_option maxHeartbeats 1000000 in
theorem containsP_any (a : Option Addr) (cap : Nat) (L : List Pk) (w : World) (hn : L.length ≤ 1048576) (hs : ∀ x ∈ L, x.tx.size ≤ 1048576) (hZ : Ps w.heap.size a L w) :
    Calls Try.prog 58 #[.slice a L.length cap, .func (.func 59) #[] #[]] w fun e w' => e = .returned (.bool (L.any moreP)) ∧ Below w.heap.size w w' := by
  have HI := hid (indexP_more a cap L moreP w hn (fun v x hx _ => saysMore_any x v (hs x hx)) hZ)
  have HA := ix_any moreP L
  generalize ixG moreP L = q at *
  generalize L.any moreP = r at *
  clear hZ hs
  go_enter Try.func58, Try.ntmps58
  go_wp2_with fail
  refine HI.out.mono ?_
  rintro e w2 ⟨rfl, g2⟩
  have HG := hid g2
  clear g2 HI
  go_wp2_with fail
  go_ret
  exact ⟨rfl, HG.out⟩
theorem redG_many {α : Type} (has : Nat → α → Bool) (un : α → α → α) (n : Nat) (s : List α × List α) : (redG has un n s).1.length ≤ s.1.length + n := by
  induction n generalizing s with
  | zero => exact Nat.le_refl _
  | succ n ih =>
    have h : (stepG has un n s).1.length ≤ s.1.length + 1 := by
      unfold stepG
      split
      · omega
      · simp
    have i := ih (stepG has un n s)
    show (redG has un n (stepG has un n s)).1.length ≤ _
    omega
/-- good packets: how many, how long -/
theorem goodPk_yes {n : Int} {p : List Pk} (h : goodPk n p = true) : ∃ (k z : Nat), n = (k : Int) ∧ 1 ≤ k ∧ k ≤ 10 ∧ p.length ≤ 20 ∧ z ≤ 20 ∧ ∀ x ∈ p, okP z x := by
  unfold goodPk at h
  rw [Bool.and_eq_true] at h
  obtain ⟨k, hk, hk10, hl, hok⟩ := maskOk_yes h.1
  have hm : manyB n = true := by
    cases hm : manyB n
    · rw [maskOk_no n _ hm] at h; cases h.1
    · rfl
  obtain ⟨k', hk', h1, h2⟩ := many_nat hm
  rw [List.length_map] at hl
  by_cases h0 : 0 < p.length
  · have hlike := likeL_at _ h.2
    have hd : (p.map Pk.tx).headD ⟨#[]⟩ = p[0].tx := by
      rw [headD_zero _ (by rw [List.length_map]; exact h0), List.getElem_map]
    refine ⟨k, p[0].tx.size, hk, by omega, hk10, hl, ?_, fun x hx => ?_⟩
    · have := (hlike 0 (by rw [List.length_map]; exact h0)).2
      rw [List.getElem_map] at this
      exact this
    · obtain ⟨i, hi, rfl⟩ := List.getElem_of_mem hx
      have := (hlike i (by rw [List.length_map]; exact hi)).1
      rw [List.getElem_map, hd] at this
      exact ⟨hok _ (List.mem_map.2 ⟨_, hx, rfl⟩), this⟩
  · obtain rfl : p = [] := List.eq_nil_of_length_eq_zero (by omega)
    exact ⟨k, 0, hk, by omega, hk10, by simp, by omega, fun x hx => by cases hx⟩
/-- what Decode answers -/
def decOk (n : Int) (p : List Pk) : Bool := goodPk n p && (decide (n ≤ ((redP n.toNat p).1.length : Int)) && !(redP n.toNat p).2.any moreP)
def decV (n : Int) (p : List Pk) : List ByteArray := cond (decOk n p) ((redP n.toNat p).1.map Pk.tx).reverse []
/-- an answer of texts and a truth value -/
def SOut (V : List ByteArray) (ok : Bool) (w : World) (e : Ending) (w' : World) : Prop := ∃ b c, e = .returned (.tuple #[.slice b V.length c, .bool ok]) ∧ OwnS w.heap.size w'.heap.size b V w' ∧ Below w.heap.size w w'
theorem SOut.no {w w' : World} (g : Below w.heap.size w w') : SOut [] false w (.returned (.tuple #[.slice none 0 0, .bool false])) w' := ⟨none, 0, rfl, Or.inl rfl, g⟩
theorem OwnS_hi {lo : Nat} {b : Option Addr} {l : List ByteArray} {w : World} (h : OwnS lo w.heap.size b l w) : OwnS lo w.heap.size b l w := h
theorem SOut.yes {w w' : World} {v : Value} {l : List ByteArray} (h : GL KS w.heap.size v l w') (g : Below w.heap.size w w') : SOut l true w (.returned (.tuple #[v, .bool true])) w' := by
  obtain ⟨b, c, rfl, ho, _⟩ := h.strs
  exact ⟨b, c, rfl, ho, g⟩
theorem redP_facts {k z : Nat} {p : List Pk} (hp : p.length ≤ 20) (hok : ∀ x ∈ p, okP z x) : (redP k p).1.length ≤ 20 ∧ (redP k p).2.length ≤ 20 ∧ (redP k p).1.length ≤ k ∧ (∀ x ∈ (redP k p).1, okP z x) ∧ ∀ x ∈ (redP k p).2, okP z x := by
  have h1 := redG_len hasP unP k ([], p)
  have h2 := redG_many hasP unP k ([], p)
  have h3 := redG_all hasP unP (okP z) (fun x y hx hy => hx.un hy) k ([], p) (fun x hx => by cases hx) hok
  unfold redP
  simp at h1 h2
  exact ⟨by omega, by omega, by omega, h3.1, h3.2⟩
set_option maxHeartbeats 2000000 in
theorem iDecode_any (n : Int) (a : Option Addr) (cap : Nat) (p : List Pk) (w : World) (hn : p.length ≤ 1048576) (hs : ∀ r ∈ p, r.tx.size ≤ 9223372036854775807) (hZ : Ps w.heap.size a p w) :
    Calls Try.prog 31 #[.int .i64 n, .slice a p.length cap] w fun e w' => SOut (decV n p) (decOk n p) w e w' := by
  have HM := hid (igoodPk_any n a cap p w hn hs hZ)
  cases hm : goodPk n p
  · have hk : decOk n p = false := by unfold decOk; rw [hm]; rfl
    have hv : decV n p = [] := by unfold decV; rw [hk]; rfl
    rw [hv, hk]
    rw [hm] at HM
    clear hZ hs hk hv hm
    go_enter Try.func31, Try.ntmps31
    go_wp2_with fail
    refine HM.out.mono ?_
    rintro e w2 ⟨rfl, g2⟩
    have HG := hid g2
    clear g2 HM
    go_wp2_with fail
    go_ret2
    exact SOut.no HG.out
  · obtain ⟨k, z, rfl, h1, h10, hp, hz, hok⟩ := goodPk_yes hm
    obtain ⟨f1, f2, f3, f4, f5⟩ := redP_facts (k := k) hp hok
    have HR : Hid (∀ v, Below w.heap.size w v → Calls Try.prog 56 #[.int .i64 k, .slice a p.length cap, .func (.func 46) #[] #[], .func (.func 57) #[] #[]] v fun e w' => ∃ tv lv, e = .returned (.tuple #[tv, lv]) ∧ GL KP v.heap.size tv (redP k p).1 w' ∧ GL KP v.heap.size lv (redP k p).2 w' ∧ Apart tv lv ∧ Below v.heap.size v w') := fun v g => redP_any z k a cap p v h10 (by omega) (by omega) hok ((hZ.below g).mono g.size)
    have HV : Hid (decOk (k : Int) p = (decide ((k : Int) ≤ ((redP k p).1.length : Int)) && !(redP k p).2.any moreP)) := by show decOk _ _ = _; unfold decOk; rw [hm, Int.toNat_natCast]; rfl
    have HW : Hid (decV (k : Int) p = cond (decOk (k : Int) p) ((redP k p).1.map Pk.tx).reverse []) := by show decV _ _ = _; unfold decV; rw [Int.toNat_natCast]
    rw [hm] at HM
    generalize (redP k p).1 = T at *
    generalize (redP k p).2 = L at *
    have HTX : Hid (∀ x ∈ T.map Pk.tx, x.size ≤ 1048576) := fun x hx => by
      obtain ⟨y, hy, rfl⟩ := List.mem_map.1 hx
      have := (f4 y hy).2
      omega
    have HLX : Hid (∀ x ∈ L, x.tx.size ≤ 1048576) := fun x hx => by
      have := (f5 x hx).2
      omega
    clear hm hok hs hZ f4 f5
    by_cases hlt : T.length < k
    · have hd : decide ((T.length : Int) < (k : Int)) = true := decide_eq_true (by omega)
      have hdn : decide (T.length < k) = true := decide_eq_true hlt
      have hk : decOk (k : Int) p = false := by rw [HV.out, decide_eq_false (by omega)]; rfl
      rw [HW.out, hk]
      clear hk HV HW
      go_enter Try.func31, Try.ntmps31
      go_wp2_with fail
      refine HM.out.mono ?_
      rintro e w2 ⟨rfl, g2⟩
      have HG2 := hid g2
      clear g2 HM
      go_wp2_with fail
      refine (HR.out _ HG2.out).mono ?_
      rintro e w3 ⟨tv, lv, rfl, o1, o2, -, g3⟩
      have HG3 : Hid (Below w.heap.size w w3) := HG2.out.trans (g3.mono HG2.out.size)
      obtain ⟨ta, tc, rfl, oT, -⟩ := o1.pks
      obtain ⟨la, lc, rfl, oL, -⟩ := o2.pks
      clear o1 o2 g3 HR oT oL HG2
      go_wp2_with fail
      go_ret2
      exact SOut.no HG3.out
    · have hd : decide ((T.length : Int) < (k : Int)) = false := decide_eq_false (by omega)
      have hdn : decide (T.length < k) = false := decide_eq_false hlt
      have hk : decOk (k : Int) p = !L.any moreP := by rw [HV.out, decide_eq_true (by omega)]; rfl
      rw [HW.out, hk]
      have HCN : Hid (∀ la lc w3, Ps w3.heap.size la L w3 → Calls Try.prog 58 #[.slice la L.length lc, .func (.func 59) #[] #[]] w3 fun e w' => e = .returned (.bool (L.any moreP)) ∧ Below w3.heap.size w3 w') := fun la lc w3 h => containsP_any la lc L w3 (by omega) HLX.out h
      generalize L.any moreP = q at *
      clear hk HV HW
      go_enter Try.func31, Try.ntmps31
      go_wp2_with fail
      refine HM.out.mono ?_
      rintro e w2 ⟨rfl, g2⟩
      have HG2 := hid g2
      clear g2 HM
      go_wp2_with fail
      refine (HR.out _ HG2.out).mono ?_
      rintro e w3 ⟨tv, lv, rfl, o1, o2, -, g3⟩
      have HG3 : Hid (Below w.heap.size w w3) := HG2.out.trans (g3.mono HG2.out.size)
      obtain ⟨ta, tc, rfl, oT, -⟩ := o1.pks
      obtain ⟨la, lc, rfl, oL, -⟩ := o2.pks
      have HCT := hid (HCN.out la lc w3 oL.ps)
      have HOT := hid oT
      clear o1 o2 g3 HR oT oL HG2 HCN
      go_wp2_with fail
      refine HCT.out.mono ?_
      rintro e w4 ⟨rfl, g4⟩
      have HG4 : Hid (Below w.heap.size w w4) := HG3.out.trans (g4.mono HG3.out.size)
      have HTL := hid (textOf_list ta tc T w4 (by omega) (HOT.out.below g4).ps)
      clear g4 HCT HG3 HOT
      cases q
      · go_wp2_with fail
        refine HTL.out.mono ?_
        rintro e w5 ⟨v5, rfl, o5, g5⟩
        obtain ⟨sa, sc, rfl, oS, -⟩ := o5.strs
        have HG5 : Hid (Below w.heap.size w w5) := HG4.out.trans (g5.mono HG4.out.size)
        have HCP := hid (copyTexts_gl sa sc (T.map Pk.tx) w5 (by rw [List.length_map]; omega) HTX.out oS.ss)
        rw [List.length_map] at HCP
        clear o5 g5 oS HTL HG4
        go_wp2_with fail
        refine HCP.out.mono ?_
        rintro e w6 ⟨v6, rfl, o6, g6⟩
        have HG6 : Hid (Below w.heap.size w w6) := HG5.out.trans (g6.mono HG5.out.size)
        have hs5 := HG5.out.size
        have HRV := hid (revS_gl w5.heap.size v6 (T.map Pk.tx) w6 o6 (by rw [List.length_map]; omega))
        have HO6 := hid o6
        clear o6 g6 HCP
        go_wp2_with fail
        refine HRV.out.mono ?_
        rintro e w7 ⟨rfl, o7, g7⟩
        have HG7 : Hid (Below w.heap.size w w7) := HG6.out.trans (below_of_grown g7 HG6.out.size (fun i hi => by have := (HO6.out.lt i hi).1; omega))
        have HO7 : Hid (GL KS w.heap.size v6 (T.map Pk.tx).reverse w7) := o7.mono hs5
        clear o7 g7 HRV HO6
        go_wp2_with fail
        go_ret2
        exact SOut.yes HO7.out HG7.out
      · go_wp2_with fail
        go_ret2
        exact SOut.no HG4.out
end Go.Proofs.Ytnjeeeccfhpolaa
