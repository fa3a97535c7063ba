/- Walks of the laws' own measures of volumes. -/
import Derived.Test.YtbipbihjaeobkaaVBase
import Derived.Test.YtbipbihjaeobkaaStrR
import Derived.Test.YtbipbihjaeobkaaHRec
namespace Go.Proofs.Ytbipbihjaeobkaa
set_option maxRecDepth 100000
open Go.ChangeShapes Go.WideShapes Go.ChangeAt Go.RowKit G00541
set_option maxHeartbeats 1000000 in
theorem szStringS_any (a : Option Addr) (cap : Nat) (l : List ByteArray) (left : Int) (w : World) (h0 : 0 ≤ left) (h1 : left ≤ 1048576) (hz : ∀ s ∈ l, s.size ≤ 9223372036854775807) (hn : l.length ≤ 9223372036854775807) (hZ : Ss w.heap.size a l w) :
    Calls Try.prog 43 #[.slice a l.length cap, .int .i64 left] w fun e w' => (∃ r : Int, e = .returned (.int .i64 r) ∧ r ≤ 1048576 ∧ (0 ≤ r → l.length ≤ 1048576)) ∧ Below w.heap.size w w' := by
  have HZ : Hid (Ss w.heap.size a l w) := hZ
  have HS : Hid (∀ s ∈ l, s.size ≤ 9223372036854775807) := hz
  clear hZ hz
  by_cases g : (l.length : Int) ≤ left
  · have hd : decide (left - (l.length : Int) < 0) = false := by simp; omega
    have HL : Hid (l.length ≤ 1048576) := by show l.length ≤ 1048576; omega
    go_enter Try.func43, Try.ntmps43
    go_wp2
    go_loopw [1, 5] (fun t i wr => ∃ (k : Nat) (r : Int), k ≤ l.length ∧ i = .int .i64 k ∧ t = .int .i64 r ∧ 0 ≤ r ∧ r ≤ 1048576 ∧ wr = w) (fun _ i _ => l.length - (intOf i).toNat)
    case atStart => exact ⟨0, _, Nat.zero_le _, rfl, rfl, by omega, by omega, rfl⟩
    case round =>
      obtain ⟨k, r, hk, rfl, rfl, r0, r1, hwr⟩ := hrel
      obtain rfl := hwr.symm
      by_cases hlt : k < l.length
      · obtain ⟨b, off, rfl, hb, hcells⟩ := HZ.out.cell (by omega)
        have c0 := hcells k hlt
        have hsz := HS.out l[k] (List.getElem_mem hlt)
        clear hcells
        generalize l[k] = D at *
        by_cases hq : (D.size : Int) ≤ r
        · have hdq : decide (r - (D.size : Int) < 0) = false := by simp; omega
          go_wp2
          go_roundw
          case rel => exact ⟨k + 1, r - (D.size : Int), by omega, by go_num, by go_num, by omega, by omega, by trivial⟩
          case measure => simp [intOf]; omega
        · have hdq : decide (r - (D.size : Int) < 0) = true := by simp; omega
          go_wp2
          go_ret
          exact ⟨⟨-1, rfl, by omega, fun h => by omega⟩, Below.refl _ _⟩
      · go_wp2
        go_ret
        exact ⟨⟨r, rfl, r1, fun _ => HL.out⟩, Below.refl _ _⟩
  · have hd : decide (left - (l.length : Int) < 0) = true := by simp; omega
    go_enter Try.func43, Try.ntmps43
    go_wp2
    go_ret
    exact ⟨⟨-1, rfl, by omega, fun h => by omega⟩, Below.refl _ _⟩
set_option maxHeartbeats 1000000 in
theorem szRecordS_left (a : Option Addr) (cap : Nat) (l : List Rc) (left : Int) (w : World) (h0 : 0 ≤ left) (h1 : left ≤ 1048576) (hz : ∀ r ∈ l, r.data.length ≤ 9223372036854775807) (hn : l.length ≤ 9223372036854775807) (hZ : Rs w.heap.size a l w) :
    Calls Try.prog 44 #[.slice a l.length cap, .int .i64 left] w fun e w' => (∃ r : Int, e = .returned (.int .i64 r) ∧ r ≤ 1048576 ∧ (0 ≤ r → l.length ≤ 1048576)) ∧ Below w.heap.size w w' := by
  have HZ : Hid (Rs w.heap.size a l w) := hZ
  have HS : Hid (∀ r ∈ l, r.data.length ≤ 9223372036854775807) := hz
  clear hZ hz
  by_cases g : (l.length : Int) ≤ left
  · have hd : decide (left - (l.length : Int) < 0) = false := by simp; omega
    have hl : l.length ≤ 1048576 := by omega
    go_enter Try.func44, Try.ntmps44
    go_wp2
    go_loopw [1, 5] (fun t i wr => ∃ (k : Nat) (r : Int), k ≤ l.length ∧ i = .int .i64 k ∧ t = .int .i64 r ∧ 0 ≤ r ∧ r ≤ 1048576 ∧ Below w.heap.size w wr) (fun _ i _ => l.length - (intOf i).toNat)
    case atStart => exact ⟨0, _, Nat.zero_le _, rfl, rfl, by omega, by omega, Below.refl _ _⟩
    case round =>
      obtain ⟨k, r, hk, rfl, rfl, r0, r1, hbel⟩ := hrel
      have HBEL : Hid (Below w.heap.size w wr) := hbel
      clear hbel
      by_cases hlt : k < l.length
      · obtain ⟨b, off, rfl, hb, hcells⟩ := HZ.out.cell (by omega)
        obtain ⟨c0, c1, c2, c3⟩ := hcells k hlt
        have hb' : ∀ o, wr.cell? ⟨b, o, none⟩ = w.cell? ⟨b, o, none⟩ := fun o => HBEL.out.cell (p := ⟨b, o, none⟩) hb
        rw [← hb'] at c0 c1 c2 c3
        clear hcells hb'
        have hsz := HS.out l[k] (List.getElem_mem hlt)
        generalize l[k] = z at *
        obtain ⟨zk, zp, zn, zd⟩ := z
        have hs9 : (str zd).size = zd.length := str_size zd
        have hsz' : zd.length ≤ 9223372036854775807 := hsz
        have HC' : Hid (∀ v, Calls Try.prog 67 #[.agg #[.int .i64 zk, .int .i64 zp, .int .i64 zn, .string (str zd)], .int .i64 r] v fun e w' => (∃ r : Int, e = .returned (.int .i64 r) ∧ r ≤ 1048576 ∧ (0 ≤ r → (str zd).size ≤ 1048576)) ∧ Below v.heap.size v w') := fun v => szRecord_any zk zp zn (str zd) r v r0 r1 (by omega)
        clear hsz hsz' hs9
        simp only at c0 c1 c2 c3
        generalize str zd = D at *
        go_wp2_with fail
        refine (HC'.out _).mono ?_
        rintro e w1 ⟨⟨q, rfl, q1, hq⟩, b1⟩
        have HB1 : Hid (Below w.heap.size w w1) := HBEL.out.trans (b1.mono HBEL.out.size)
        clear b1
        by_cases hq0 : 0 ≤ q
        · have hdq : decide (q < 0) = false := by simp; omega
          clear hq
          go_wp2
          go_roundw
          case rel => exact ⟨k + 1, q, by omega, by go_num, rfl, hq0, q1, HB1.out⟩
          case measure => simp [intOf]; omega
        · have hdq : decide (q < 0) = true := by simp; omega
          clear hq
          go_wp2
          go_ret
          exact ⟨⟨-1, rfl, by omega, fun h => by omega⟩, HB1.out⟩
      · go_wp2
        go_ret
        exact ⟨⟨r, rfl, r1, fun _ => hl⟩, HBEL.out⟩
  · have hd : decide (left - (l.length : Int) < 0) = true := by simp; omega
    go_enter Try.func44, Try.ntmps44
    go_wp2
    go_ret
    exact ⟨⟨-1, rfl, by omega, fun h => by omega⟩, Below.refl _ _⟩
/-- a volume whose lists a law takes -/
def FitV (B : List ByteArray) (L : List Rc) : Prop := B.length ≤ 1048576 ∧ L.length ≤ 1048576
set_option maxHeartbeats 1000000 in
theorem szVolume_any (aB aL : Option Addr) (kB kL : Nat) (B : List ByteArray) (F : Int) (L : List Rc) (s : Int) (w : World) (hzB : ∀ s ∈ B, s.size ≤ 9223372036854775807) (hnB : B.length ≤ 9223372036854775807) (hz : ∀ r ∈ L, r.data.length ≤ 9223372036854775807) (hn : L.length ≤ 9223372036854775807) (hB : Ss w.heap.size aB B w) (hL : Rs w.heap.size aL L w) :
    Calls Try.prog 14 #[.agg #[.slice aB B.length kB, .int .i64 F, .slice aL L.length kL, .int .i64 s], .int .i64 1048576] w fun e w' => (∃ r : Int, e = .returned (.int .i64 r) ∧ r ≤ 1048576 ∧ (0 ≤ r → FitV B L)) ∧ Below w.heap.size w w' := by
  have HB := hid (boxB w (.cells #[.slice aB B.length kB, .int .i64 F, .slice aL L.length kL, .int .i64 s] 32))
  have y0 : (w.alloc (.cells #[.slice aB B.length kB, .int .i64 F, .slice aL L.length kL, .int .i64 s] 32)).cell? ⟨w.heap.size, 0, none⟩ = some (.slice aB B.length kB) := by go_simp
  have y2 : (w.alloc (.cells #[.slice aB B.length kB, .int .i64 F, .slice aL L.length kL, .int .i64 s] 32)).cell? ⟨w.heap.size, 2, none⟩ = some (.slice aL L.length kL) := by go_simp
  have HC1 : Hid (∀ v, Below w.heap.size w v → Calls Try.prog 43 #[.slice aB B.length kB, .int .i64 1048576] v fun e w' => (∃ r : Int, e = .returned (.int .i64 r) ∧ r ≤ 1048576 ∧ (0 ≤ r → B.length ≤ 1048576)) ∧ Below v.heap.size v w') := fun v g => szStringS_any aB kB B _ v (by decide) (by decide) hzB hnB ((hB.below g).mono g.size)
  have HC2 : Hid (∀ v r, 0 ≤ r → r ≤ 1048576 → Below w.heap.size w v → Calls Try.prog 44 #[.slice aL L.length kL, .int .i64 r] v fun e w' => (∃ r : Int, e = .returned (.int .i64 r) ∧ r ≤ 1048576 ∧ (0 ≤ r → L.length ≤ 1048576)) ∧ Below v.heap.size v w') := fun v r r0 r1 g => szRecordS_left aL kL L r v r0 r1 hz hn ((hL.below g).mono g.size)
  clear hB hL hz hzB
  go_enter Try.func14, Try.ntmps14
  go_wp2_with fail
  obtain ⟨W, hWs⟩ : ∃ W, W = w.alloc (.cells #[.slice aB B.length kB, .int .i64 F, .slice aL L.length kL, .int .i64 s] 32) := ⟨_, rfl⟩
  rw [← hWs] at HB y0 y2 ⊢
  refine (HC1.out _ HB.out).mono ?_
  rintro e w2 ⟨⟨r, rfl, r1, hr⟩, b2⟩
  have HR := hid hr
  have hlt : w.heap.size < W.heap.size := by rw [hWs]; simp
  rw [← b2.cell (p := ⟨w.heap.size, 2, none⟩) hlt] at y2
  have HB2 : Hid (Below w.heap.size w w2) := HB.out.trans (b2.mono HB.out.size)
  clear b2 hr HC1 hlt y0 hWs
  by_cases g : 0 ≤ r
  case neg =>
    have hd : decide (r < 0) = true := decide_eq_true (by omega)
    go_wp2_with fail
    go_ret
    exact ⟨⟨-1, rfl, by omega, fun h => by omega⟩, HB2.out⟩
  have hd : decide (r < 0) = false := decide_eq_false (by omega)
  have HC3 := hid (HC2.out w2 r g r1 HB2.out)
  clear HC2
  go_wp2_with fail
  refine HC3.out.mono ?_
  rintro e w3 ⟨⟨q, rfl, q1, hq⟩, b3⟩
  have HQ := hid hq
  have HB3 := hid (HB2.out.trans (b3.mono HB2.out.size))
  clear hq b3 HC3
  by_cases g2 : 0 ≤ q
  · have hd2 : decide (q < 0) = false := decide_eq_false (by omega)
    go_wp2_with fail
    go_ret
    exact ⟨⟨q, rfl, q1, fun h => ⟨HR.out g, HQ.out h⟩⟩, HB3.out⟩
  · have hd2 : decide (q < 0) = true := decide_eq_true (by omega)
    go_wp2_with fail
    go_ret
    exact ⟨⟨-1, rfl, by omega, fun h => by omega⟩, HB3.out⟩
end Go.Proofs.Ytbipbihjaeobkaa
