/- Walks of the laws' helpers over records: how great they are; made over; held against each other. -/
import Derived.Test.YtbipbihjaeobkaaHRec
import Derived.Test.YtbipbihjaeobkaaERec
import Derived.Laws.MakeOwn
import Derived.Deep.RegionWith
namespace Go.Proofs.Ytbipbihjaeobkaa
set_option maxRecDepth 100000
open Go.ChangeShapes Go.WideShapes Go.ChangeAt Go.RowKit G00541
set_option maxHeartbeats 1000000 in
theorem szRecordS_any (a : Option Addr) (cap : Nat) (l : List Rc) (w : World) (hz : ∀ r ∈ l, r.data.length ≤ 9223372036854775807) (hn : l.length ≤ 9223372036854775807) (hZ : Rs w.heap.size a l w) :
    Calls Try.prog 44 #[.slice a l.length cap, .int .i64 1048576] w fun e w' => (∃ r : Int, e = .returned (.int .i64 r) ∧ (0 ≤ r → l.length ≤ 1048576 ∧ ∀ r ∈ l, r.data.length ≤ 1048576)) ∧ Below w.heap.size w w' := by
  have HZ : Hid (Rs w.heap.size a l w) := hZ
  have HS : Hid (∀ r ∈ l, r.data.length ≤ 9223372036854775807) := hz
  clear hZ hz
  by_cases g : l.length ≤ 1048576
  · have hd : decide ((1048576 : Int) - (l.length : Int) < 0) = false := by simp; omega
    go_enter Try.func44, Try.ntmps44
    go_wp2
    go_loopw [1, 5] (fun t i wr => ∃ (k : Nat) (r : Int), k ≤ l.length ∧ i = .int .i64 k ∧ t = .int .i64 r ∧ 0 ≤ r ∧ r ≤ 1048576 ∧ (∀ j (hj : j < l.length), j < k → l[j].data.length ≤ 1048576) ∧ Below w.heap.size w wr) (fun _ i _ => l.length - (intOf i).toNat)
    case atStart => exact ⟨0, _, Nat.zero_le _, rfl, rfl, by omega, by omega, fun _ _ h => absurd h (Nat.not_lt_zero _), Below.refl _ _⟩
    case round =>
      obtain ⟨k, r, hk, rfl, rfl, r0, r1, hall, hbel⟩ := hrel
      have HALL : Hid (∀ j (hj : j < l.length), j < k → l[j].data.length ≤ 1048576) := hall
      have HBEL : Hid (Below w.heap.size w wr) := hbel
      clear hall hbel
      by_cases hlt : k < l.length
      · obtain ⟨b, off, rfl, hb, hcells⟩ := HZ.out.cell (by omega)
        obtain ⟨c0, c1, c2, c3⟩ := hcells k hlt
        have hb' : ∀ o, wr.cell? ⟨b, o, none⟩ = w.cell? ⟨b, o, none⟩ := fun o => HBEL.out.cell (p := ⟨b, o, none⟩) hb
        rw [← hb'] at c0 c1 c2 c3
        clear hcells hb'
        have hsz := HS.out l[k] (List.getElem_mem hlt)
        have HL : Hid (l[k].data.length ≤ 1048576 → ∀ j (hj : j < l.length), j < k + 1 → l[j].data.length ≤ 1048576) := fun h j hj hjk => by
          by_cases e : j = k
          · subst e; exact h
          · exact HALL.out j hj (by omega)
        generalize l[k] = z at *
        obtain ⟨zk, zp, zn, zd⟩ := z
        have hs9 : (str zd).size = zd.length := str_size zd
        have hsz' : zd.length ≤ 9223372036854775807 := hsz
        have HC' : Hid (∀ v, Calls Try.prog 67 #[.agg #[.int .i64 zk, .int .i64 zp, .int .i64 zn, .string (str zd)], .int .i64 r] v fun e w' => (∃ r : Int, e = .returned (.int .i64 r) ∧ r ≤ 1048576 ∧ (0 ≤ r → (str zd).size ≤ 1048576)) ∧ Below v.heap.size v w') := fun v => szRecord_any zk zp zn (str zd) r v r0 r1 (by omega)
        have HL' : Hid ((str zd).size ≤ 1048576 → ∀ j (hj : j < l.length), j < k + 1 → l[j].data.length ≤ 1048576) := fun h => HL.out (by show zd.length ≤ _; omega)
        clear HL hsz hsz' hs9
        simp only at c0 c1 c2 c3
        generalize str zd = D at *
        go_wp2_with fail
        refine (HC'.out _).mono ?_
        rintro e w1 ⟨⟨q, rfl, q1, hq⟩, b1⟩
        have HB1 : Hid (Below w.heap.size w w1) := HBEL.out.trans (b1.mono HBEL.out.size)
        clear b1
        by_cases hq0 : 0 ≤ q
        · have hdq : decide (q < 0) = false := by simp; omega
          have HL2 : Hid (∀ j (hj : j < l.length), j < k + 1 → l[j].data.length ≤ 1048576) := HL'.out (hq hq0)
          clear hq HL'
          go_wp2
          go_roundw
          case rel => exact ⟨k + 1, q, by omega, by go_num, rfl, hq0, q1, HL2.out, HB1.out⟩
          case measure => simp [intOf]; omega
        · have hdq : decide (q < 0) = true := by simp; omega
          clear hq HL'
          go_wp2
          go_ret
          exact ⟨⟨-1, rfl, fun h => by omega⟩, HB1.out⟩
      · go_wp2
        go_ret
        exact ⟨⟨r, rfl, fun _ => ⟨g, fun z hz => by obtain ⟨j, hj, rfl⟩ := List.getElem_of_mem hz; exact HALL.out j hj (by omega)⟩⟩, HBEL.out⟩
  · have hd : decide ((1048576 : Int) - (l.length : Int) < 0) = true := by simp; omega
    go_enter Try.func44, Try.ntmps44
    go_wp2
    go_ret
    exact ⟨⟨-1, rfl, fun h => by omega⟩, Below.refl _ _⟩
theorem infoRec : (Try.prog.info? 72).map (fun i => (i.zero, i.size, i.bytes)) = some (some (.agg #[.int .i64 0, .int .i64 0, .int .i64 0, .string ⟨#[]⟩]), 4, 40) := by kernel_rfl
theorem make_recs (n : Nat) (hn : n ≤ 1048576) (W : World) : (Instr.makeSlice 23 (.int .i64 (n : Int)) (.int .i64 (n : Int))).run Try.prog W =
    .ok (.slice (some ⟨W.heap.size, 0, none⟩) n n) (W.alloc (.cells (madeCells (Value.agg #[.int .i64 0, .int .i64 0, .int .i64 0, .string ⟨#[]⟩]).cells (n * 4)) 72)) := by
  obtain ⟨i0, hi, hz0, hz1, hz2⟩ := info_parts infoRec
  have h := run_make (P := Try.prog) W 23 72 i0 _ Try.underlying23 hi hz0 .i64 .i64 (n : Int) (n : Int) (by omega) (by omega) (by rw [hz2]; omega) (by omega)
  rw [hz1] at h
  simpa using h
set_option maxHeartbeats 1000000 in
theorem toRecordS_any (a : Option Addr) (cap : Nat) (l : List Rc) (w : World) (hn : l.length ≤ 1048576) (hZ : Rs w.heap.size a l w) :
    Calls Try.prog 49 #[.slice a l.length cap] w fun e w' => e = .returned (.slice (some ⟨w.heap.size, 0, none⟩) l.length l.length) ∧ RRow w.heap.size l w' ∧ Below w.heap.size w w' := by
  have HZ : Hid (Rs w.heap.size a l w) := hZ
  clear hZ
  have hmk := make_recs l.length hn
  have hr0 := RRow.made w l.length
  generalize madeCells (Value.agg #[.int .i64 0, .int .i64 0, .int .i64 0, .string ⟨#[]⟩]).cells (l.length * 4) = M at *
  have HR : Hid (RRow w.heap.size (List.replicate l.length zeroR) (w.alloc (.cells M 72))) := hr0
  clear hr0
  go_enter Try.func49, Try.ntmps49
  go_wp2
  go_loopw [4] (fun i wr => ∃ (k : Nat) (ys : List Rc), k ≤ l.length ∧ i = .int .i64 k ∧ ys.length = l.length ∧ ys.take k = l.take k ∧ RRow w.heap.size ys wr ∧ Below w.heap.size w wr) (fun i _ => l.length - (intOf i).toNat)
  case atStart => exact ⟨0, List.replicate l.length zeroR, Nat.zero_le _, rfl, by simp, rfl, HR.out, (Below.refl _ _).alloc (Nat.le_refl _) _⟩
  case round =>
    obtain ⟨k, ys, hk, rfl, hy, htk, hrow, hbel⟩ := hrel
    have HROW : Hid (RRow w.heap.size ys wr) := hrow
    have HBEL : Hid (Below w.heap.size w wr) := hbel
    have HTK : Hid (ys.take k = l.take k) := htk
    by_cases hlt : k < l.length
    · obtain ⟨b, off, rfl, hb, hcells⟩ := HZ.out.cell (by omega)
      obtain ⟨c0, c1, c2, c3⟩ := hcells k hlt
      have hb' : ∀ o, wr.cell? ⟨b, o, none⟩ = w.cell? ⟨b, o, none⟩ := fun o => hbel.cell (p := ⟨b, o, none⟩) hb
      rw [← hb'] at c0 c1 c2 c3
      clear hcells hb'
      have HC : Hid (∀ v, Calls Try.prog 69 #[.agg #[.int .i64 l[k].kind, .int .i64 l[k].place, .int .i64 l[k].long, .string (str l[k].data)]] v fun e w' => e = .returned (.agg #[.int .i64 l[k].kind, .int .i64 l[k].place, .int .i64 l[k].long, .string (str l[k].data)]) ∧ Below v.heap.size v w') := fun v => toRecord_any _ _ _ _ v
      obtain ⟨y0, y1, y2, y3⟩ := hrow.cell k (by omega)
      have f0 := hrow.free (k * 4) (by omega)
      have f1 := hrow.free (k * 4 + 1) (by omega)
      have f2 := hrow.free (k * 4 + 2) (by omega)
      have f3 := hrow.free (k * 4 + 3) (by omega)
      have hszr := hbel.size
      have hltr := hrow.lt
      clear hrow hbel htk
      go_wp2_with fail
      refine (HC.out _).mono ?_
      rintro e w1 ⟨rfl, b1⟩
      have hc1 : ∀ o, w1.cell? ⟨w.heap.size, o, none⟩ = wr.cell? ⟨w.heap.size, o, none⟩ := fun o => b1.cell (p := ⟨w.heap.size, o, none⟩) hltr
      have hf1 : ∀ o, w1.frozen? ⟨w.heap.size, o, none⟩ = wr.frozen? ⟨w.heap.size, o, none⟩ := fun o => b1.frozen (p := ⟨w.heap.size, o, none⟩) hltr
      rw [← hc1] at y0 y1 y2 y3
      rw [← hf1] at f0 f1 f2 f3
      clear hc1 hf1
      have HB1 : Hid (Below wr.heap.size wr w1) := b1
      clear b1
      go_wp2
      go_roundw
      case rel =>
        refine ⟨k + 1, ys.set k l[k], by omega, by go_num, by simpa using hy, ?_, (HROW.out.below HB1.out).set k (by omega) l[k], ?_⟩
        · have hky : k < ys.length := by omega
          rw [take_snoc _ k (by simpa using hky), take_snoc l k hlt, List.take_set_of_le (Nat.le_refl _), HTK.out, List.getElem_set_self]
        · exact ((((HBEL.out.trans (HB1.out.mono hszr)).setCell (Nat.le_refl _) _).setCell (Nat.le_refl _) _).setCell (Nat.le_refl _) _).setCell (Nat.le_refl _) _
      case measure => simp [intOf]; omega
    · obtain rfl : k = l.length := by omega
      rw [List.take_length, List.take_of_length_le (by omega)] at htk
      subst htk
      clear hrow hbel
      go_wp2
      go_ret
      exact ⟨rfl, HROW.out, HBEL.out⟩
set_option maxHeartbeats 2000000 in
theorem eqRecordS_same (a1 a2 : Option Addr) (c1 c2 : Nat) (l : List Rc) (w : World) (hn : l.length ≤ 1048576) (h1 : Rs w.heap.size a1 l w) (h2 : Rs w.heap.size a2 l w) :
    Calls Try.prog 40 #[.slice a1 l.length c1, .slice a2 l.length c2] w fun e w' => e = .returned (.bool true) ∧ Below w.heap.size w w' := by
  have H1 : Hid (Rs w.heap.size a1 l w) := h1
  have H2 : Hid (Rs w.heap.size a2 l w) := h2
  clear h1 h2
  go_enter Try.func40, Try.ntmps40
  go_wp2
  go_loopw [5] (fun i wr => ∃ k : Nat, k ≤ l.length ∧ i = .int .i64 k ∧ Below w.heap.size w wr) (fun i _ => l.length - (intOf i).toNat)
  case atStart => exact ⟨0, Nat.zero_le _, rfl, Below.refl _ _⟩
  case round =>
    obtain ⟨k, hk, rfl, hbel⟩ := hrel
    have HBEL : Hid (Below w.heap.size w wr) := hbel
    by_cases hlt : k < l.length
    · obtain ⟨b1, o1, rfl, hb1, hc1⟩ := H1.out.cell (by omega)
      obtain ⟨b2, o2, rfl, hb2, hc2⟩ := H2.out.cell (by omega)
      obtain ⟨x0, x1, x2, x3⟩ := hc1 k hlt
      obtain ⟨y0, y1, y2, y3⟩ := hc2 k hlt
      have hb1' : ∀ o, wr.cell? ⟨b1, o, none⟩ = w.cell? ⟨b1, o, none⟩ := fun o => hbel.cell (p := ⟨b1, o, none⟩) hb1
      have hb2' : ∀ o, wr.cell? ⟨b2, o, none⟩ = w.cell? ⟨b2, o, none⟩ := fun o => hbel.cell (p := ⟨b2, o, none⟩) hb2
      rw [← hb1'] at x0 x1 x2 x3
      rw [← hb2'] at y0 y1 y2 y3
      clear hc1 hc2 hb1' hb2' hbel
      generalize l[k].kind = rk at *
      generalize l[k].place = rp at *
      generalize l[k].long = rn at *
      generalize str l[k].data = rd at *
      go_wp2_with fail
      go_region_with (go_at_call 66; refine (eqRecord_same rk rp rn rd _).mono ?_; rintro e w9 ⟨rfl, b9⟩)
      all_goals
        have HB9 : Hid (Below w.heap.size w w9) := HBEL.out.trans ((show Below wr.heap.size wr w9 from ⟨b9.os, b9.tape, b9.output, b9.size, b9.block⟩).mono HBEL.out.size)
        clear b9
        go_wp2
        go_roundw
        · exact ⟨k + 1, by omega, by go_num, HB9.out⟩
        · simp [intOf]; omega
    · clear hbel
      go_wp2
      go_ret
      exact ⟨rfl, HBEL.out⟩
end Go.Proofs.Ytbipbihjaeobkaa
