/- Sets of numbers as maps: made, dropped from, asked. -/
import Derived.Test.YtipeillhafcliaaJElem
import Derived.Maps.OwnSet
namespace Go.Proofs.Ytipeillhafcliaa
set_option maxRecDepth 100000
open Go Go.ChangeShapes Go.WideShapes Go.ChangeAt Go.RowKit Go.Maps
theorem ownsMap_tight {H : Type} {P : Program} {k : TypeId} {R : Value → Option (DataW H × List MemPlace)} {b n : Nat} {D : DataW H} {w : World} (h : w.ownsMap P k R b n D) : w.ownsMap P k R b (Maps.size D) D := by
  obtain ⟨es, clock, hb, Ft, hs, rfl⟩ := h
  refine ⟨es, clock, hb, Ft, ?_, rfl⟩
  rw [size_eq, length_read]
  exact Nat.le_refl _
/-- block b holds the set of l's numbers -/
def SetZ (b : Nat) (l : List Int) (w : World) : Prop := ∃ D : DataW Unit, w.ownsMap Try.prog 3 unitElem b (Maps.size D) D ∧ (∀ x : Int, has D (.int .i64 x) = decide (x ∈ l)) ∧ Maps.size D = l.length
theorem SetZ.lt {b : Nat} {l : List Int} {w : World} (h : SetZ b l w) : b < w.heap.size := by obtain ⟨D, h1, _⟩ := h; exact h1.lt
theorem ownsMap_same {H : Type} {P : Program} {k : TypeId} {R : Value → Option (DataW H × List MemPlace)} {b n : Nat} {D : DataW H} {w w' : World} (h : w.ownsMap P k R b n D) (hb : w'.heap[b]? = w.heap[b]?) : w'.ownsMap P k R b n D := by
  obtain ⟨es, clock, hb', Ft, hs, hD⟩ := h
  exact ⟨es, clock, hb.trans hb', Ft, hs, hD⟩
theorem SetZ.below {b : Nat} {l : List Int} {w w' : World} (h : SetZ b l w) (g : Below w.heap.size w w') : SetZ b l w' := by
  have hl := h.lt
  obtain ⟨D, h1, h2⟩ := h
  exact ⟨D, ownsMap_same h1 (g.block b hl), h2⟩
theorem mem_take_succ (l : List Int) (k : Nat) (h : k < l.length) (x : Int) : x ∈ l.take (k + 1) ↔ x ∈ l.take k ∨ x = l[k] := by rw [take_snoc l k h, List.mem_append, List.mem_singleton]
theorem SetZ.made (w : World) : SetZ w.heap.size [] (w.alloc (.map #[] 0)) := ⟨.map [], World.ownsMap_made w _ _ _, fun x => by simp [has], rfl⟩
theorem below_turned {b lo : Nat} {w w' : World} (g : w.grownBy w' (some b)) (hlo : lo ≤ w.heap.size) (h : lo ≤ b) : Below lo w w' :=
  ⟨g.os, g.tape, g.output, g.size, fun k hk => g.block k (by omega) (by intro e; injection e with e; omega)⟩
theorem keyZ (x : Int) (h : fit x) : keyOf Try.prog 3 (.int .i64 x) = some (.int .i64 x) :=
  keyOf_int_mk Try.underlying3 (by simp [Lit.wf, IntKind.min, IntKind.max, IntKind.bits, IntKind.signed]; unfold fit at h; omega)
set_option maxHeartbeats 2000000 in
theorem newSet_any (a : Option Addr) (cap : Nat) (l : List Int) (w : World) (hn : l.length ≤ 100) (hnd : l.Nodup) (hf : ∀ x ∈ l, fit x) (hZ : Is w.heap.size a l w) :
    Calls Try.prog 35 #[.slice a l.length cap] w fun e w' => e = .returned (.map (some w.heap.size)) ∧ SetZ w.heap.size l w' ∧ Below w.heap.size w w' := by
  have HZ := hid hZ
  have HF := hid hf
  have HD := hid hnd
  have HM := hid (SetZ.made w)
  have hmm := @run_makeMap Try.prog
  clear hZ hf hnd
  go_enter Try.func35, Try.ntmps35
  go_wp2
  go_loopw [9] (fun i wr => ∃ k : Nat, k ≤ l.length ∧ i = .int .i64 k ∧ SetZ w.heap.size (l.take k) wr ∧ Below w.heap.size w wr) (fun i _ => l.length - (intOf i).toNat)
  case atStart => exact ⟨0, Nat.zero_le _, rfl, HM.out, (Below.refl _ _).alloc (Nat.le_refl _) _⟩
  case round =>
    obtain ⟨k, hk, rfl, hset, hbel⟩ := hrel
    have HSET := hid hset
    have HBEL := hid hbel
    by_cases hlt : k < l.length
    · obtain ⟨b, off, rfl, hb, hc⟩ := HZ.out.cell (by omega)
      have x0 := (hbel.cell (p := ⟨b, off + k, none⟩) hb).trans (hc k hlt)
      obtain ⟨D, hown, hhas, hsz⟩ := hset
      have hkey := keyZ l[k] (HF.out _ (List.getElem_mem hlt))
      have hnew : l[k] ∉ l.take k := by
        intro hm
        obtain ⟨j, hj, e⟩ := List.getElem_of_mem hm
        rw [List.length_take] at hj
        rw [List.getElem_take] at e
        exact (List.pairwise_iff_getElem.1 HD.out j k (by omega) hlt (by omega)) e
      have htidy := hown.tidy (int_keyed Try.underlying3)
      obtain ⟨w1, hrun, hown1, hgrow1⟩ := hown.update (int_keyed Try.underlying3) Try.underlying49 (by unfold maxLen; rw [hsz, List.length_take]; omega) hkey (unitElem_mk (H := Unit))
      have HS1 : Hid (SetZ w.heap.size (l.take (k + 1)) w1) := by
        refine ⟨_, ownsMap_tight hown1, fun x => ?_, ?_⟩
        · by_cases e : x = l[k]
          · subst e
            rw [has_put_same hown.isMap (by simp [WideAt.IsKeyLit]), decide_eq_true ((mem_take_succ l k hlt _).2 (Or.inr rfl))]
          · rw [has_put_other (by simpa using e), hhas x]
            refine decide_eq_decide.2 ?_
            rw [mem_take_succ l k hlt]
            exact ⟨Or.inl, fun h => h.resolve_right e⟩
        · rw [size_put htidy, hhas, decide_eq_false hnew, if_neg (by decide), hsz, List.length_take, List.length_take]
          omega
      have HB1 : Hid (Below w.heap.size w w1) := hbel.trans (below_turned hgrow1 hbel.size (Nat.le_refl _))
      clear hc hhas hsz hown hnew htidy hown1 hgrow1 hbel
      generalize l[k] = x at *
      go_wp2
      go_roundw
      case rel => exact ⟨k + 1, by omega, by go_num, HS1.out, HB1.out⟩
      case measure => simp [intOf]; omega
    · obtain rfl : k = l.length := by omega
      rw [List.take_length] at HSET
      clear hset hbel
      go_wp2
      go_ret
      exact ⟨rfl, HSET.out, HBEL.out⟩
/-- the numbers 1 to 60 -/
def nums (n : Nat) : List Int := (List.range n).map fun k : Nat => (k : Int) + 1
theorem nums_len (n : Nat) : (nums n).length = n := by simp [nums]
theorem nums_succ (n : Nat) : nums (n + 1) = nums n ++ [(n : Int) + 1] := by simp [nums, List.range_succ]
theorem nums_mem {n : Nat} {x : Int} : x ∈ nums n ↔ 1 ≤ x ∧ x ≤ n := by
  unfold nums
  rw [List.mem_map]
  constructor
  · rintro ⟨k, hk, rfl⟩
    have := List.mem_range.1 hk
    omega
  · rintro ⟨h1, h2⟩
    exact ⟨(x - 1).toNat, List.mem_range.2 (by omega), by omega⟩
theorem nums_nodup (n : Nat) : (nums n).Nodup := by
  unfold nums
  rw [List.Nodup, List.pairwise_map]
  refine List.Pairwise.imp ?_ (List.nodup_range (n := n))
  intro a b h e
  omega
set_option maxHeartbeats 2000000 in
theorem allNumbers_any (w : World) : Calls Try.prog 44 #[] w fun e w' => ∃ b, e = .returned (.map (some b)) ∧ w.heap.size ≤ b ∧ SetZ b (nums 60) w' ∧ Below w.heap.size w w' := by
  go_enter Try.func44, Try.ntmps44
  go_wp2
  go_loopw [1, 2] (fun o i wr => ∃ (k : Nat) (o1 : Value), k ≤ 60 ∧ i = .int .i64 ((k : Int) + 1) ∧ o = o1 ∧ AL w.heap.size o1 (nums k) wr ∧ Below w.heap.size w wr) (fun _ i _ => 61 - (intOf i).toNat)
  case atStart => exact ⟨0, _, Nat.zero_le _, rfl, rfl, AL.nil _ _, Below.refl _ _⟩
  case round =>
    obtain ⟨k, _, hk, rfl, rfl, hown, hbel⟩ := hrel
    have HBEL := hid hbel
    have hszr := hbel.size
    by_cases hlt : k < 60
    · have hd : decide ((k : Int) + 1 ≤ 60) = true := decide_eq_true (by omega)
      obtain ⟨v', w', r1, o1, g1, -⟩ := hown.push hszr ((k : Int) + 1) (by rw [nums_len]; omega)
      rw [← nums_succ] at o1
      have HO := hid o1
      have HB' : Hid (Below w.heap.size w w') := hbel.trans g1
      clear o1 g1 hown hbel
      go_wp2_with (at_builtin; refine wpList_append_run rfl (.tmp 7) (.tmp 9) 23 rfl _ _ rfl rfl _ _ r1 ?_)
      go_roundw
      case rel => exact ⟨k + 1, _, by omega, by go_num, rfl, HO.out, HB'.out⟩
      case measure => simp [intOf]; omega
    · obtain rfl : k = 60 := by omega
      obtain ⟨b, c, rfl, ho, hc⟩ := hown.own
      have HN := hid (newSet_any b c (nums 60) wr (by rw [nums_len]; omega) (nums_nodup 60) (fun x hx => by have := nums_mem.1 hx; unfold fit; omega) ho.is)
      clear hown hbel ho
      go_wp2_with fail
      refine HN.out.mono ?_
      rintro e w2 ⟨rfl, hs, hb⟩
      have HS := hid hs
      have HB2 : Hid (Below w.heap.size w w2) := HBEL.out.trans (hb.mono hszr)
      clear hs hb HN
      go_wp2
      go_ret
      exact ⟨_, rfl, hszr, HS.out, HB2.out⟩
set_option maxHeartbeats 2000000 in
theorem drop_any (b : Nat) (l : List Int) (x : Int) (w : World) (hx : fit x) (hnd : l.Nodup) (hm : x ∈ l) (h : SetZ b l w) :
    Calls Try.prog 46 #[.map (some b), .int .i64 x] w fun e w' => e = .returned (.tuple #[]) ∧ SetZ b (l.erase x) w' ∧ w.grownBy w' (some b) := by
  obtain ⟨D, hown, hhas, hsz⟩ := h
  have htidy := hown.tidy (int_keyed Try.underlying3)
  obtain ⟨w1, hrun, hown1, hturn⟩ := hown.drop (int_keyed Try.underlying3) Try.underlying49 (keyZ x hx) 3
  have hrun' : ∀ ty, (Builtin.delete_ #[49, 3] ty #[.map (some b), .int .i64 x]).run Try.prog w = .ok (.tuple #[]) w1 := fun ty => hrun
  have HS : Hid (SetZ b (l.erase x) w1) := by
    refine ⟨_, ownsMap_tight hown1, fun y => ?_, ?_⟩
    · by_cases e : y = x
      · subst e
        rw [has_del_same, decide_eq_false]
        exact fun h => (List.Nodup.mem_erase_iff hnd).1 h |>.1 rfl
      · rw [has_del_other (by simpa using e), hhas y]
        exact decide_eq_decide.2 ⟨fun h => (List.Nodup.mem_erase_iff hnd).2 ⟨e, h⟩, fun h => ((List.Nodup.mem_erase_iff hnd).1 h).2⟩
    · have := size_del (k := .int .i64 x) htidy
      rw [hhas x, decide_eq_true hm, if_pos rfl] at this
      rw [List.length_erase_of_mem hm]
      omega
  have HG : Hid (w.grownBy w1 (some b)) := hturn.grown
  clear hown hhas hsz htidy hown1 hturn hrun
  go_enter Try.func46, Try.ntmps46
  go_wp2
  go_end0
  exact ⟨rfl, HS.out, HG.out⟩
set_option maxHeartbeats 2000000 in
theorem hasSome_any (b : Nat) (L : List Int) (a : Option Addr) (cap : Nat) (l : List Int) (w : World) (hn : l.length ≤ 1048576) (hf : ∀ x ∈ l, fit x) (hs : SetZ b L w) (hZ : Is w.heap.size a l w) :
    Calls Try.prog 36 #[.map (some b), .slice a l.length cap] w fun e w' => e = .returned (.bool (l.any fun x => decide (x ∈ L))) ∧ Below w.heap.size w w' := by
  have HZ := hid hZ
  have HF := hid hf
  have HS := hid hs
  clear hZ hf hs
  obtain ⟨an, han⟩ : ∃ an, (l.any fun x => decide (x ∈ L)) = an := ⟨_, rfl⟩
  rw [han]
  have HAN := hid han
  clear han
  go_enter Try.func36, Try.ntmps36
  go_wp2
  go_loopw [11] (fun i wr => ∃ k : Nat, k ≤ l.length ∧ i = .int .i64 k ∧ (∀ j (h : j < l.length), j < k → l[j] ∉ L) ∧ Below w.heap.size w wr) (fun i _ => l.length - (intOf i).toNat)
  case atStart => exact ⟨0, Nat.zero_le _, rfl, (fun _ _ h => absurd h (Nat.not_lt_zero _)), Below.refl _ _⟩
  case round =>
    obtain ⟨k, hk, rfl, hall, hbel⟩ := hrel
    have HALL := hid hall
    have HBEL := hid hbel
    clear hall
    by_cases hlt : k < l.length
    · obtain ⟨b1, off, rfl, hb, hc⟩ := HZ.out.cell (by omega)
      have x0 := (hbel.cell (p := ⟨b1, off + k, none⟩) hb).trans (hc k hlt)
      obtain ⟨D, hown, hhas, hsz⟩ := HS.out.below hbel
      obtain ⟨v, ps, hrun, hv⟩ := hown.look_ok (int_keyed Try.underlying3) Try.underlying49 (Try.zeroValue59 wr) unitElem_mk (keyZ l[k] (HF.out _ (List.getElem_mem hlt)))
      obtain ⟨rfl, _⟩ := unitElem_inv hv
      rw [hhas] at hrun
      have HN : Hid (l[k] ∉ L → ∀ j (h : j < l.length), j < k + 1 → l[j] ∉ L) := fun hne j h hj => by
        by_cases e : j = k
        · subst e; exact hne
        · exact HALL.out j h (by omega)
      have HY : Hid (l[k] ∈ L → an = true) := fun hy => by
        rw [← HAN.out, List.any_eq_true]
        exact ⟨l[k], List.getElem_mem hlt, decide_eq_true hy⟩
      clear hc hown hhas hsz hv hbel
      generalize l[k] = x at *
      by_cases hx : x ∈ L
      · rw [decide_eq_true hx] at hrun
        have ha := HY.out hx
        subst ha
        clear hx
        go_wp2
        all_goals
          go_ret
          exact ⟨rfl, by first | exact HBEL.out | exact HBEL.out.alloc HBEL.out.size _⟩
      · rw [decide_eq_false hx] at hrun
        have HN2 := hid (HN.out hx)
        clear hx
        go_wp2
        go_roundw
        case rel => exact ⟨k + 1, by omega, by go_num, HN2.out, by first | exact HBEL.out | exact HBEL.out.alloc HBEL.out.size _⟩
        case measure => simp [intOf]; omega
    · obtain rfl : k = l.length := by omega
      have ha : an = false := by
        rw [← HAN.out, List.any_eq_false]
        intro x hx
        obtain ⟨j, hj, rfl⟩ := List.getElem_of_mem hx
        simpa using HALL.out j hj hj
      subst ha
      clear hbel
      go_wp2
      go_ret
      exact ⟨rfl, HBEL.out⟩
end Go.Proofs.Ytipeillhafcliaa
